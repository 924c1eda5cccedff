/- Plain mathematics: long division (wide.divide). -/
import Derived.Test.YtngbblofacganaaDoorArith
namespace Go.Proofs.YtngbblofacganaaDoor
namespace Dg

/-- Long division under way: N is divided by Y (n + 1 digits); the digits of the quotient from j on are qs; Z is what is left. -/
structure DvInv (b N Y n j : Nat) (Z qs : List Nat) : Prop where
  okZ : Ok b Z
  okq : Ok b qs
  top : dg b (Z.drop j) < Y
  sum : dg b Z + b ^ j * (Y * dg b qs) = N

theorem part_value {b Y n i : Nat} {Z : List Nat} (hY : Y < b ^ (n + 1)) (ht : dg b (Z.drop (i + 1)) < Y) (hl : i + (n + 2) ≤ Z.length) :
    dg b (Z.drop i) = dg b ((Z.drop i).take (n + 2)) ∧ dg b (Z.drop (i + (n + 2))) = 0 := by
  have h0 : dg b (Z.drop (i + (n + 2))) = 0 := by
    have e := dg_split b (Z.drop (i + 1)) (n + 1) (by rw [List.length_drop]; omega)
    rw [List.drop_drop] at e
    rw [show i + (n + 2) = i + 1 + (n + 1) by omega]
    generalize dg b (Z.drop (i + 1 + (n + 1))) = h at *
    rcases Nat.eq_zero_or_pos h with h1 | h1
    · exact h1
    · have := Nat.mul_le_mul_left (b ^ (n + 1)) h1
      omega
  refine ⟨?_, h0⟩
  have e := dg_split b (Z.drop i) (n + 2) (by rw [List.length_drop]; omega)
  rw [List.drop_drop, h0, Nat.mul_zero, Nat.add_zero] at e
  exact e

theorem DvInv.win {b N Y n i : Nat} {Z qs : List Nat} (hb : 2 ≤ b) (h : DvInv b N Y n (i + 1) Z qs) (hY : Y < b ^ (n + 1)) (hl : i + (n + 2) ≤ Z.length) :
    dg b ((Z.drop i).take (n + 2)) < Y * b := by
  have e := (part_value hY h.top hl).1
  rw [← e, dg_drop b Z i (by omega)]
  have h1 := h.okZ.getD (show 0 < b by omega) i
  have h2 := Nat.mul_le_mul_left b h.top
  rw [Nat.mul_succ, Nat.mul_comm b Y] at h2
  omega

theorem DvInv.step {b N Y n i q : Nat} {Z qs rs : List Nat} (h : DvInv b N Y n (i + 1) Z qs) (hY : Y < b ^ (n + 1)) (hY0 : 0 < Y) (hl : i + (n + 2) ≤ Z.length)
    (hr : Ok b rs) (hrl : rs.length = n + 2) (hq : q = dg b ((Z.drop i).take (n + 2)) / Y) (hrem : dg b rs = dg b ((Z.drop i).take (n + 2)) % Y) (hqb : q < b) :
    DvInv b N Y n i (Z.take i ++ (rs ++ Z.drop (i + (n + 2)))) (q :: qs) := by
  obtain ⟨e1, e0⟩ := part_value hY h.top hl
  have hti : (Z.take i).length = i := by rw [List.length_take]; omega
  refine ⟨(h.okZ.take i).append (hr.append (h.okZ.drop _)), Ok.cons hqb h.okq, ?_, ?_⟩
  · rw [List.drop_left' hti, dg_append, e0, Nat.mul_zero, Nat.add_zero, hrem]
    exact Nat.mod_lt _ hY0
  · have hs := h.sum
    rw [dg_split b Z i (by omega), e1] at hs
    rw [dg_append, hti, dg_append, e0, Nat.mul_zero, Nat.add_zero, dg_cons, ← hs, hrem, hq, Nat.pow_succ]
    have hd := Nat.div_add_mod (dg b ((Z.drop i).take (n + 2))) Y
    generalize dg b ((Z.drop i).take (n + 2)) = W at *
    have e2 : b ^ i * W = b ^ i * (Y * (W / Y)) + b ^ i * (W % Y) := by rw [← Nat.mul_add, hd]
    have e3 : b ^ i * (Y * (W / Y + b * dg b qs)) = b ^ i * (Y * (W / Y)) + b ^ i * b * (Y * dg b qs) := by
      rw [Nat.mul_add, Nat.mul_add, Nat.mul_assoc (b ^ i) b, Nat.mul_left_comm Y b]
    rw [e2, e3]
    omega

theorem DvInv.out {b N Y n : Nat} {Z qs : List Nat} (h : DvInv b N Y n 0 Z qs) : dg b qs = N / Y ∧ dg b Z = N % Y := by
  have hs := h.sum
  have ht := h.top
  rw [List.drop_zero] at ht
  rw [Nat.pow_zero, Nat.one_mul] at hs
  constructor
  · rw [← hs, Nat.add_mul_div_left _ _ (by omega), Nat.div_eq_of_lt ht, Nat.zero_add]
  · rw [← hs, Nat.add_mul_mod_self_left, Nat.mod_eq_of_lt ht]

/-- The beginning: N = 2^c X has m + 1 digits, Y = 2^c Y0. -/
theorem DvInv.first {b X Y0 f n m : Nat} {Z : List Nat} (hb : 2 ≤ b) (hf : 0 < f) (hZ : Ok b Z) (hl : Z.length = m + 1) (hv : dg b Z = f * X) (hX : X < b ^ m) (hY : b ^ n ≤ Y0) (hnm : n ≤ m) :
    DvInv b (f * X) (f * Y0) n (m - n) Z [] := by
  refine ⟨hZ, Ok.nil b, ?_, by rw [dg_nil, Nat.mul_zero, Nat.mul_zero, Nat.add_zero]; exact hv⟩
  have e := dg_split b Z (m - n) (by omega)
  have hp : 0 < b ^ (m - n) := Nat.pow_pos (by omega)
  have h1 : b ^ (m - n) * dg b (Z.drop (m - n)) < b ^ (m - n) * (f * Y0) := by
    have h2 : f * X < f * b ^ m := Nat.mul_lt_mul_of_pos_left hX hf
    have h3 : f * b ^ m ≤ b ^ (m - n) * (f * Y0) := by
      have h4 := Nat.mul_le_mul_left (f * b ^ (m - n)) hY
      have h5 : b ^ m = b ^ (m - n) * b ^ n := by rw [← Nat.pow_add, show m - n + n = m by omega]
      rw [h5, ← Nat.mul_assoc, Nat.mul_left_comm, ← Nat.mul_assoc f]
      exact h4
    omega
  exact Nat.lt_of_mul_lt_mul_left h1

theorem shl_fits {b top n Y : Nat} {f : Nat} (hf : f ∣ b) (hf0 : 0 < f) (ht : top * f < b) (hY : Y < (top + 1) * b ^ n) : f * Y < b ^ (n + 1) := by
  obtain ⟨k, hk⟩ := hf
  have h1 : top < k := by
    rw [hk, Nat.mul_comm f k] at ht
    exact Nat.lt_of_mul_lt_mul_right ht
  have h2 : (top + 1) * f ≤ b := by
    rw [hk, Nat.mul_comm]
    exact Nat.mul_le_mul_left f h1
  have h3 : f * Y < f * ((top + 1) * b ^ n) := Nat.mul_lt_mul_of_pos_left hY hf0
  have h4 : f * ((top + 1) * b ^ n) = (top + 1) * f * b ^ n := by rw [← Nat.mul_assoc, Nat.mul_comm f]
  have h5 := Nat.mul_le_mul_right (b ^ n) h2
  rw [Nat.pow_succ, Nat.mul_comm (b ^ n)]
  omega

theorem dg_lt_top {b n : Nat} {ys : List Nat} (hy : Ok b ys) (hl : ys.length = n + 1) : dg b ys < (ys.getD n 0 + 1) * b ^ n ∧ ys.getD n 0 * b ^ n ≤ dg b ys := by
  have e := dg_take_succ b ys n (by omega)
  rw [List.take_of_length_le (by omega)] at e
  have h := dg_lt (hy.take n)
  rw [List.length_take, Nat.min_eq_left (by omega)] at h
  rw [e, Nat.add_mul, Nat.one_mul, Nat.mul_comm (b ^ n)]
  omega

end Dg
end Go.Proofs.YtngbblofacganaaDoor
