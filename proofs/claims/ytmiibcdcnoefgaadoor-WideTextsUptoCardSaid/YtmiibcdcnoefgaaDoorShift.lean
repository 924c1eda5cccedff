/- wide.shiftLeft, wide.shiftRight. -/
import Derived.Test.YtmiibcdcnoefgaaDoorMem
namespace Go.Proofs.YtmiibcdcnoefgaaDoor
open Go.RowKit Dg

theorem BB_pow (c : Nat) (hc : c < 64) : BB = 2 ^ (64 - c) * 2 ^ c := by
  rw [← Nat.pow_add, show 64 - c + c = 64 by omega]; rfl

theorem or_add {a n c : Nat} (hn : n < 2 ^ c) : (2 ^ c * a) ||| n = 2 ^ c * a + n := (Nat.two_pow_add_eq_or_of_lt hn a).symm

theorem cast_pow (x c : Nat) : (x : Int) * 2 ^ c = ((x * 2 ^ c : Nat) : Int) := by simp
theorem cast_div (x c : Nat) : (x : Int) / 2 ^ c = ((x / 2 ^ c : Nat) : Int) := by simp

/-- One word is shifted to the left. -/
theorem shl_word (x n c : Nat) (hx : x < BB) (hc : c < 64) (hn : n < 2 ^ c) : ∃ s t : Nat, s + BB * t = x * 2 ^ c + n ∧ s < BB ∧ t < 2 ^ c ∧
    bits .or .u64 (IntKind.u64.wrap ((x : Int) * 2 ^ c)) (n : Int) = (s : Int) ∧ (x : Int) / 2 ^ (64 - c) = (t : Int) := by
  have hB := BB_pow c hc
  have hp : 0 < 2 ^ c := Nat.two_pow_pos c
  have hq : 0 < 2 ^ (64 - c) := Nat.two_pow_pos _
  have e1 : x * 2 ^ c % BB = 2 ^ c * (x % 2 ^ (64 - c)) := by rw [hB, Nat.mul_mod_mul_right, Nat.mul_comm]
  have hr : x % 2 ^ (64 - c) + 1 ≤ 2 ^ (64 - c) := Nat.mod_lt _ hq
  have h1 : 2 ^ c * (x % 2 ^ (64 - c)) + n < BB := by
    rw [hB, Nat.mul_comm (2 ^ (64 - c))]
    have := Nat.mul_le_mul_left (2 ^ c) hr
    rw [Nat.mul_add] at this
    omega
  refine ⟨2 ^ c * (x % 2 ^ (64 - c)) + n, x / 2 ^ (64 - c), ?_, h1, ?_, ?_, cast_div x _⟩
  · have e2 : BB * (x / 2 ^ (64 - c)) = 2 ^ c * (2 ^ (64 - c) * (x / 2 ^ (64 - c))) := by rw [← Nat.mul_assoc, Nat.mul_comm (2 ^ c), ← hB]
    have e3 := Nat.div_add_mod x (2 ^ (64 - c))
    have e4 : x * 2 ^ c = 2 ^ c * (2 ^ (64 - c) * (x / 2 ^ (64 - c))) + 2 ^ c * (x % 2 ^ (64 - c)) := by rw [← Nat.mul_add, e3, Nat.mul_comm]
    omega
  · rw [Nat.div_lt_iff_lt_mul hq, Nat.mul_comm, ← hB]; exact hx
  · rw [cast_pow, wrapM, ← BB_eq, e1, bits_or_u64_nat _ _ (by rw [← BB_eq]; omega) (by rw [← BB_eq]; omega), or_add hn]

/-- One word is shifted to the right, the rest r of the word above comes in. -/
theorem shr_word (x r c : Nat) (hx : x < BB) (hc : c < 64) (hr : r < 2 ^ c) : ∃ s t : Nat, 2 ^ c * s + t = BB * r + x ∧ s < BB ∧ t < 2 ^ c ∧
    bits .or .u64 ((x : Int) / 2 ^ c) ((r * 2 ^ (64 - c) : Nat) : Int) = (s : Int) ∧ IntKind.u64.wrap ((x : Int) * 2 ^ (64 - c)) = ((t * 2 ^ (64 - c) : Nat) : Int) := by
  have hB := BB_pow c hc
  have hp : 0 < 2 ^ c := Nat.two_pow_pos c
  have hq : 0 < 2 ^ (64 - c) := Nat.two_pow_pos _
  have h2 : x / 2 ^ c < 2 ^ (64 - c) := by rw [Nat.div_lt_iff_lt_mul hp, ← hB]; exact hx
  have h1 : r * 2 ^ (64 - c) + x / 2 ^ c < BB := by
    have := Nat.mul_le_mul_right (2 ^ (64 - c)) (show r + 1 ≤ 2 ^ c from hr)
    rw [Nat.add_mul, Nat.mul_comm (2 ^ c), ← hB] at this
    omega
  have e3 := Nat.div_add_mod x (2 ^ c)
  refine ⟨r * 2 ^ (64 - c) + x / 2 ^ c, x % 2 ^ c, ?_, h1, Nat.mod_lt _ hp, ?_, ?_⟩
  · have e2 : 2 ^ c * (r * 2 ^ (64 - c)) = BB * r := by rw [hB, Nat.mul_comm r, ← Nat.mul_assoc, Nat.mul_comm (2 ^ c)]
    rw [Nat.mul_add, e2]
    omega
  · have h3 : x / 2 ^ c < BB := Nat.lt_of_le_of_lt (Nat.div_le_self _ _) hx
    rw [cast_div, bits_or_u64_nat _ _ (by rw [← BB_eq]; exact h3) (by rw [← BB_eq]; exact Nat.lt_of_le_of_lt (Nat.le_add_right _ _) h1), Nat.or_comm, Nat.mul_comm r, or_add h2]
  · rw [cast_pow, wrapM, ← BB_eq]
    congr 1
    rw [hB, Nat.mul_comm (2 ^ (64 - c)) (2 ^ c), Nat.mul_mod_mul_right]

def ShlPost (w : World) (g o : Nat) (pre : List Value) (xs : List Nat) (f : Nat) (post : List Value) (e : Ending) (w' : World) : Prop :=
  ∃ (c : Nat) (zs : List Nat), e = .returned (.int .u64 (c : Int)) ∧ ShOut BB xs f c zs ∧ Win w' 76 .u64 g o pre zs post ∧ Tch [g] w w'

set_option maxHeartbeats 1000000 in
set_option maxRecDepth 100000 in
theorem shiftLeft (gx ox capx : Nat) (pre post : List Value) (xs : List Nat) (c : Nat) (hc : c < 64) (w : World) (hx : Ok BB xs) (hb : xs.length ≤ 1000000000)
    (hX : Win w 76 .u64 gx ox pre xs post) :
    Calls Tryd.prog 92 #[.slice (some ⟨gx, ox, none⟩) xs.length capx, .int .u64 c] w (ShlPost w gx ox pre xs (2 ^ c) post) := by
  go_enter Tryd.func92, Tryd.ntmps92
  go_wp2
  go_loopw [5, 9] (fun c' i wr => ∃ (k cN : Nat) (ws : List Nat), k ≤ xs.length ∧ i = .int .i64 k ∧ c' = .int .u64 cN ∧ ShInv BB xs (2 ^ c) k cN ws ∧ Win wr 76 .u64 gx ox pre (ws ++ xs.drop k) post ∧ Tch [gx] w wr)
    (fun _ i _ => xs.length - (intOf i).toNat)
  case atStart => exact ⟨0, 0, [], Nat.zero_le _, rfl, rfl, ShInv.zero _ (Nat.two_pow_pos c), hX, Tch.refl _ _⟩
  case round =>
    obtain ⟨k, cN, ws, hk, rfl, rfl, hI, hW, hT⟩ := hrel
    by_cases hlt : k < xs.length
    · obtain ⟨x, ex, cx⟩ := hW.readApp hI.len hlt
      have fx := hW.frozen (ox + k)
      obtain ⟨s, t, hst, hs, ht, e1, e2⟩ := shl_word x cN c (ex.out ▸ hx.getD (by decide) k) hc hI.cb
      have HS := Lib.hid (hI.step hlt (s := s) (t := t) (by rw [ex.out]; exact hst) hs ht)
      have HW := Lib.hid (hW.step hI.len hlt s)
      have HT := Lib.hid (hT.setCell (p := ⟨gx, ox + k, none⟩) (by simp) (.int .u64 (s : Int)))
      clear hst hs ht hx hX
      go_wp2
      go_region
      go_wp2
      go_roundw
      case rel => exact ⟨k + 1, t, ws ++ [s], by omega, by go_num, by first | rfl | rw [e2], HS.out, by first | exact HW.out.drew | (rw [e1]; exact HW.out.drew), by first | exact HT.out.drew | (rw [e1]; exact HT.out.drew)⟩
      case measure => simp [intOf]; omega
    · obtain rfl : k = xs.length := by omega
      have HO := Lib.hid hI.out
      have HW : Hid (Win wr 76 .u64 gx ox pre ws post) := Lib.hid (by rw [List.drop_of_length_le (Nat.le_refl _), List.append_nil] at hW; exact hW)
      go_wp2
      go_ret
      exact ⟨cN, _, rfl, HO.out, HW.out, hT⟩

def ShrPost (w : World) (g o : Nat) (pre : List Value) (xs : List Nat) (f : Nat) (post : List Value) (e : Ending) (w' : World) : Prop :=
  ∃ (r : Nat) (zs : List Nat), e = .returned (.tuple #[]) ∧ DnOut BB xs f r zs ∧ Win w' 76 .u64 g o pre zs post ∧ Tch [g] w w'

set_option maxHeartbeats 1000000 in
set_option maxRecDepth 100000 in
theorem shiftRight (gx ox capx : Nat) (pre post : List Value) (xs : List Nat) (c : Nat) (hc : c < 64) (w : World) (hx : Ok BB xs) (hb : xs.length ≤ 1000000000)
    (hX : Win w 76 .u64 gx ox pre xs post) :
    Calls Tryd.prog 94 #[.slice (some ⟨gx, ox, none⟩) xs.length capx, .int .u64 c] w (ShrPost w gx ox pre xs (2 ^ c) post) := by
  go_enter Tryd.func94, Tryd.ntmps94
  go_wp2
  go_loopw [4, 5] (fun c' i wr => ∃ (m r : Nat) (ws : List Nat), m ≤ xs.length ∧ i = .int .i64 ((m : Int) - 1) ∧ c' = .int .u64 ((r * 2 ^ (64 - c) : Nat) : Int) ∧ DnInv BB xs (2 ^ c) m r ws ∧ Win wr 76 .u64 gx ox pre (xs.take m ++ ws) post ∧ Tch [gx] w wr)
    (fun _ i _ => (intOf i + 1).toNat)
  case atStart => exact ⟨xs.length, 0, [], Nat.le_refl _, rfl, by simp, DnInv.zero _ (Nat.two_pow_pos c), by simpa using hX, Tch.refl _ _⟩
  case round =>
    obtain ⟨m, r, ws, hm, hi, rfl, hI, hW, hT⟩ := hrel
    obtain _ | m := m
    · obtain rfl : _ = Value.int .i64 (-1) := hi
      have HO := Lib.hid hI.out
      have HW : Hid (Win wr 76 .u64 gx ox pre ws post) := Lib.hid (by simpa using hW)
      go_wp2
      go_end0
      exact ⟨r, _, rfl, HO.out, HW.out, hT⟩
    · have hi' : _ = Value.int .i64 (m : Int) := hi.trans (by congr 1; omega)
      clear hi
      subst hi'
      have hlt : m < xs.length := by omega
      obtain ⟨x, ex, cx⟩ := hW.readDn hlt
      have fx := hW.frozen (ox + m)
      obtain ⟨s, t, hst, hs, ht, e1, e2⟩ := shr_word x r c (ex.out ▸ hx.getD (by decide) m) hc hI.rb
      have HS := Lib.hid (hI.step (s := s) (t := t) (by rw [ex.out]; exact hst) hs ht)
      have HW := Lib.hid (hW.stepDn hlt s)
      have HT := Lib.hid (hT.setCell (p := ⟨gx, ox + m, none⟩) (by simp) (.int .u64 (s : Int)))
      have H1 := Lib.hid e1
      have H2 := Lib.hid e2
      generalize hR : r * 2 ^ (64 - c) = R at *
      generalize hU : t * 2 ^ (64 - c) = U at *
      have HU := Lib.hid hU
      clear hst hs ht hx hX hR hU
      go_wp2
      go_region
      go_wp2
      go_roundw
      case rel => exact ⟨m, t, s :: ws, by omega, by first | rfl | go_num, by first | (rw [HU.out]; done) | rw [HU.out, H2.out], HS.out, by first | exact HW.out.drew | (rw [H1.out]; exact HW.out.drew), by first | exact HT.out.drew | (rw [H1.out]; exact HT.out.drew)⟩
      case measure => first | (simp [intOf]; done) | (simp [intOf]; omega)

end Go.Proofs.YtmiibcdcnoefgaaDoor
