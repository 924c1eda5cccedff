/- Short vectors: residues to 2^64, numbers of two words, bounds. -/
import Derived.Laws.Bits64b
import Derived.WalkKit
namespace Go.Proofs.YtpedbahppkimbaaDoor
open Go Go.RowKit

/-- The residue of an int to 2^64. -/
def um (x : Int) : Nat := (x % 18446744073709551616).toNat
theorem um_eq (x : Int) : ((um x : Nat) : Int) = x % 18446744073709551616 := by unfold um; omega
theorem um_lt (x : Int) : um x < 18446744073709551616 := by unfold um; omega
theorem bv_um (x : Int) : (BitVec.ofInt 64 x).toNat = um x := by
  rw [BitVec.toNat_ofInt]; unfold um; simp
theorem or_i64 (x y : Int) : um (bits .or .i64 x y) = um x ||| um y := by
  have h : um x ||| um y < 2 ^ 64 := Nat.or_lt_two_pow (um_lt x) (um_lt y)
  have e : bits .or .i64 x y = IntKind.i64.wrap (((um x ||| um y : Nat)) : Int) := by
    show IntKind.i64.wrap ((BitVec.ofInt 64 x ||| BitVec.ofInt 64 y).toNat : Int) = _
    rw [BitVec.toNat_or, bv_um, bv_um]
  rw [e, IntKind.wrap_i64]
  unfold um at *
  omega
/-- Three residues below 2^29 if their union is. -/
theorem or3_lt {x y z : Int} (h : um (bits .or .i64 (bits .or .i64 x y) z) < 536870912) : um x < 536870912 ∧ um y < 536870912 ∧ um z < 536870912 := by
  rw [or_i64, or_i64] at h
  have h1 : um x ≤ um x ||| um y := Nat.left_le_or
  have h2 : um y ≤ um x ||| um y := Nat.right_le_or
  have h3 : um x ||| um y ≤ um x ||| um y ||| um z := Nat.left_le_or
  have h4 : um z ≤ um x ||| um y ||| um z := Nat.right_le_or
  omega
/-- Halves whose difference lies in the middle: the difference is short. -/
theorem short_diff {a b : Int} (ha : -9223372036854775808 ≤ a ∧ a ≤ 9223372036854775807) (hb : -9223372036854775808 ≤ b ∧ b ≤ 9223372036854775807)
    (h : um (IntKind.i64.wrap (IntKind.i64.wrap (b / 2 - a / 2) + 268435456)) < 536870912) : -1073741824 < b - a ∧ b - a < 1073741824 ∧ IntKind.i64.wrap (b - a) = b - a := by
  simp only [IntKind.wrap_i64] at *
  unfold um at h
  omega

/-- The two words of a number modulo 2^128. -/
structure W2 (z : Int) (h l : Nat) : Prop where
  hb : h < 18446744073709551616
  lb : l < 18446744073709551616
  val : ∃ k : Int, z = k * 340282366920938463463374607431768211456 + (h : Int) * 18446744073709551616 + (l : Int)

theorem W2.sign {z : Int} {h l : Nat} (w : W2 z h l) (h1 : -170141183460469231731687303715884105728 ≤ z) (h2 : z < 170141183460469231731687303715884105728) :
    (9223372036854775808 ≤ h → z < 0) ∧ (h = 0 ∧ l = 0 → z = 0) ∧ (h < 9223372036854775808 → ¬ (h = 0 ∧ l = 0) → 0 < z) := by
  obtain ⟨k, hk⟩ := w.val
  have hb := w.hb
  have lb := w.lb
  refine ⟨fun h => ?_, fun h => ?_, fun h => ?_⟩ <;> omega

theorem W2.add {x y : Int} {h l h' l' s t c u : Nat} (w : W2 x h l) (w' : W2 y h' l') (e1 : s + 18446744073709551616 * c = l' + l) (hs : s < 18446744073709551616) (e2 : t + 18446744073709551616 * u = h' + h + c) (ht : t < 18446744073709551616) : W2 (x + y) t s := by
  obtain ⟨k, hk⟩ := w.val
  obtain ⟨k', hk'⟩ := w'.val
  exact ⟨ht, hs, k + k' + u, by omega⟩

theorem mul_words {x y : Int} {h l : Nat} (hl : l < 18446744073709551616) (e : h * 18446744073709551616 + l = um x * um y)
    (hx : -9223372036854775808 ≤ x ∧ x ≤ 9223372036854775807) (hy : -9223372036854775808 ≤ y ∧ y ≤ 9223372036854775807) :
    W2 (x * y) (um ((h : Int) - (if x < 0 then (um y : Int) else 0) - (if y < 0 then (um x : Int) else 0))) l := by
  refine ⟨um_lt _, hl, ?_⟩
  have e' := congrArg (fun n : Nat => (n : Int)) e
  simp only [Int.natCast_add, Int.natCast_mul] at e'
  rw [show ((18446744073709551616 : Nat) : Int) = 18446744073709551616 from rfl] at e'
  obtain ⟨H, hH⟩ : ∃ H : Int, H = (h : Int) - (if x < 0 then (um y : Int) else 0) - (if y < 0 then (um x : Int) else 0) := ⟨_, rfl⟩
  rw [← hH, um_eq]
  have ex := um_eq x
  have ey := um_eq y
  by_cases h1 : x < 0
  · have ex' : ((um x : Nat) : Int) = x + 18446744073709551616 := by omega
    by_cases h2 : y < 0
    · have ey' : ((um y : Nat) : Int) = y + 18446744073709551616 := by omega
      rw [if_pos h1, if_pos h2, ex', ey'] at hH
      rw [ex', ey', Int.add_mul, Int.mul_add, Int.mul_add] at e'
      generalize x * y = p at *
      exact ⟨H / 18446744073709551616 + 1, by omega⟩
    · have ey' : ((um y : Nat) : Int) = y := by omega
      rw [if_pos h1, if_neg h2, ey'] at hH
      rw [ex', ey', Int.add_mul] at e'
      generalize x * y = p at *
      exact ⟨H / 18446744073709551616, by omega⟩
  · have ex' : ((um x : Nat) : Int) = x := by omega
    by_cases h2 : y < 0
    · have ey' : ((um y : Nat) : Int) = y + 18446744073709551616 := by omega
      rw [if_neg h1, if_pos h2, ex'] at hH
      rw [ex', ey', Int.mul_add] at e'
      generalize x * y = p at *
      exact ⟨H / 18446744073709551616, by omega⟩
    · have ey' : ((um y : Nat) : Int) = y := by omega
      rw [if_neg h1, if_neg h2] at hH
      rw [ex', ey'] at e'
      generalize x * y = p at *
      exact ⟨H / 18446744073709551616, by omega⟩
theorem mul_bd {x y : Int} {K L : Nat} (hx : x.natAbs ≤ K) (hy : y.natAbs ≤ L) : (x * y).natAbs ≤ K * L := by
  rw [Int.natAbs_mul]; exact Nat.mul_le_mul hx hy
theorem mul_bd30 {x y : Int} (hx : -1073741824 < x ∧ x < 1073741824) (hy : -1073741824 < y ∧ y < 1073741824) : -1152921504606846976 < x * y ∧ x * y < 1152921504606846976 := by
  have h := mul_bd (K := 1073741823) (L := 1073741823) (show x.natAbs ≤ _ by omega) (show y.natAbs ≤ _ by omega)
  omega
/-- The components of a vector product of short vectors. -/
theorem crs_bd {a b c d : Int} (ha : -1073741824 < a ∧ a < 1073741824) (hb : -1073741824 < b ∧ b < 1073741824) (hc : -1073741824 < c ∧ c < 1073741824) (hd : -1073741824 < d ∧ d < 1073741824) :
    -2305843009213693952 < a * b - c * d ∧ a * b - c * d < 2305843009213693952 := by
  have h1 := mul_bd30 ha hb
  have h2 := mul_bd30 hc hd
  omega
theorem mul_bd61 {x y : Int} (hx : -2305843009213693952 < x ∧ x < 2305843009213693952) (hy : -2305843009213693952 < y ∧ y < 2305843009213693952) : -5316911983139663491615228241121378304 < x * y ∧ x * y < 5316911983139663491615228241121378304 := by
  have h := mul_bd (K := 2305843009213693951) (L := 2305843009213693951) (show x.natAbs ≤ _ by omega) (show y.natAbs ≤ _ by omega)
  omega

end Go.Proofs.YtpedbahppkimbaaDoor
