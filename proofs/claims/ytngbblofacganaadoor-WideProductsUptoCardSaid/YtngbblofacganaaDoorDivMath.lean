/- Plain mathematics: the division of two words by one (math/bits.Div64). -/
import Derived.Test.YtngbblofacganaaDoorArith
namespace Go.Proofs.YtngbblofacganaaDoor
namespace Dg

/-- One digit (to the base 2^32) of the quotient is estimated. -/
structure Est (U u Y1 Y0 q rh : Nat) : Prop where
  sum : q * Y1 + rh = U
  ge : (U * 4294967296 + u) / (Y1 * 4294967296 + Y0) ≤ q
  rb : rh < 4294967296
  qb : q ≤ 4294967297

theorem est_start {U u Y1 Y0 : Nat} (h1 : 2147483648 ≤ Y1) (h2 : Y1 < 4294967296) (h0 : Y0 < 4294967296) (hu : u < 4294967296) (hU : U < Y1 * 4294967296 + Y0) : Est U u Y1 Y0 (U / Y1) (U % Y1) := by
  have hm := Nat.mod_lt U (show 0 < Y1 by omega)
  have hd := Nat.div_add_mod U Y1
  refine ⟨by rw [Nat.mul_comm]; exact hd, ?_, by omega, ?_⟩
  · rw [Nat.div_le_iff_le_mul_add_pred (by omega)]
    have h3 : U + 1 ≤ Y1 * (U / Y1 + 1) := by rw [Nat.mul_add]; omega
    have h4 := Nat.mul_le_mul_left 4294967296 h3
    have h5 : (Y1 * 4294967296 + Y0) * (U / Y1) = 4294967296 * (Y1 * (U / Y1)) + Y0 * (U / Y1) := by rw [Nat.add_mul, Nat.mul_right_comm, Nat.mul_comm _ 4294967296]
    rw [h5]
    rw [Nat.mul_add, Nat.mul_add Y1] at h4
    generalize Y1 * (U / Y1) = P at *
    generalize Y0 * (U / Y1) = R at *
    omega
  · have h6 : U / Y1 < 4294967298 := by
      rw [Nat.div_lt_iff_lt_mul (by omega)]
      omega
    omega

theorem est_go {U u Y1 Y0 p rh : Nat} (h1 : 2147483648 ≤ Y1) (h0 : Y0 < 4294967296) (hu : u < 4294967296) (hU : U < Y1 * 4294967296 + Y0) (h : Est U u Y1 Y0 (p + 1) rh)
    (hc : 4294967296 ≤ p + 1 ∨ 4294967296 * rh + u < (p + 1) * Y0) : (U * 4294967296 + u) / (Y1 * 4294967296 + Y0) ≤ p ∧ p * Y1 + (rh + Y1) = U := by
  have hs := h.sum
  rw [Nat.add_mul] at hs
  refine ⟨?_, by omega⟩
  have hlt : (U * 4294967296 + u) / (Y1 * 4294967296 + Y0) < p + 1 := by
    rw [Nat.div_lt_iff_lt_mul (by omega)]
    rcases hc with hc | hc
    · have := Nat.mul_le_mul_right (Y1 * 4294967296 + Y0) hc
      omega
    · have e : (p + 1) * (Y1 * 4294967296 + Y0) = 4294967296 * ((p + 1) * Y1) + (p + 1) * Y0 := by rw [Nat.mul_add, ← Nat.mul_assoc, Nat.mul_comm _ 4294967296]
      rw [e]
      have hs' := h.sum
      generalize (p + 1) * Y1 = A at *
      generalize (p + 1) * Y0 = B at *
      omega
  omega

theorem est_pos {U u Y1 Y0 q rh : Nat} (h : Est U u Y1 Y0 q rh) (hc : 4294967296 ≤ q ∨ 4294967296 * rh + u < q * Y0) : ∃ p, q = p + 1 := by
  cases q with
  | zero => rcases hc with hc | hc
            · omega
            · rw [Nat.zero_mul] at hc; omega
  | succ p => exact ⟨p, rfl⟩

theorem est_brk {U u Y1 Y0 p rh : Nat} (h1 : 2147483648 ≤ Y1) (h0 : Y0 < 4294967296) (h : Est U u Y1 Y0 (p + 1) rh) (hg : (U * 4294967296 + u) / (Y1 * 4294967296 + Y0) ≤ p) (hs : p * Y1 + (rh + Y1) = U)
    (hb : 4294967296 ≤ rh + Y1) : p = (U * 4294967296 + u) / (Y1 * 4294967296 + Y0) := by
  refine Nat.le_antisymm ?_ hg
  rw [Nat.le_div_iff_mul_le (by omega)]
  have e : p * (Y1 * 4294967296 + Y0) = 4294967296 * (p * Y1) + p * Y0 := by rw [Nat.mul_add, ← Nat.mul_assoc, Nat.mul_comm _ 4294967296]
  have h2 : p * Y0 ≤ 4294967296 * 4294967296 := Nat.mul_le_mul (by have := h.qb; omega) (by omega)
  rw [e]
  clear h hg e
  generalize p * Y1 = A at *
  generalize p * Y0 = B at *
  omega

theorem est_end {U u Y1 Y0 q rh : Nat} (h1 : 2147483648 ≤ Y1) (h : Est U u Y1 Y0 q rh) (hc : q * Y0 ≤ 4294967296 * rh + u) : q = (U * 4294967296 + u) / (Y1 * 4294967296 + Y0) := by
  refine Nat.le_antisymm ?_ h.ge
  rw [Nat.le_div_iff_mul_le (by omega)]
  have e : q * (Y1 * 4294967296 + Y0) = 4294967296 * (q * Y1) + q * Y0 := by rw [Nat.mul_add, ← Nat.mul_assoc, Nat.mul_comm _ 4294967296]
  have hs := h.sum
  rw [e]
  clear h e
  generalize q * Y1 = A at *
  generalize q * Y0 = B at *
  omega

theorem est_next {U u Y1 Y0 p rh : Nat} (h : Est U u Y1 Y0 (p + 1) rh) (hg : (U * 4294967296 + u) / (Y1 * 4294967296 + Y0) ≤ p) (hs : p * Y1 + (rh + Y1) = U) (hb : rh + Y1 < 4294967296) : Est U u Y1 Y0 p (rh + Y1) :=
  ⟨hs, hg, hb, by have := h.qb; omega⟩

/-- Two digits of a quotient. -/
theorem two_digits {N v Y K : Nat} (hY : 0 < Y) :
    N / Y * K + (N % Y * K + v) / Y = (N * K + v) / Y ∧ (N % Y * K + v) % Y = (N * K + v) % Y := by
  have hd := Nat.div_add_mod N Y
  have e : N * K + v = (N % Y * K + v) + Y * (N / Y * K) := by
    have : N * K = (Y * (N / Y) + N % Y) * K := by rw [hd]
    rw [this, Nat.add_mul, Nat.mul_assoc]
    omega
  constructor
  · rw [e, Nat.add_mul_div_left _ _ hY, Nat.add_comm]
  · rw [e, Nat.add_mul_mod_self_left]

/-- The quotient and the rest stay, when all is shifted. -/
theorem shifted {n y f : Nat} (hf : 0 < f) : n * f / (y * f) = n / y ∧ n * f % (y * f) = n % y * f :=
  ⟨Nat.mul_div_mul_right _ _ hf, Nat.mul_mod_mul_right _ _ _⟩

end Dg
end Go.Proofs.YtngbblofacganaaDoor
