/- Numbers as values: both fields of a number by its value, and how many bytes it has. -/
import Derived.Test.YtngbblofacganaaDoorTerms
import Derived.Test.YtngbblofacganaaDoorNeg
import Derived.Test.YtngbblofacganaaDoorQuo
import Derived.Test.YtngbblofacganaaDoorParse
namespace Go.Proofs.YtngbblofacganaaDoor
open Go.RowKit Dg

theorem bv_mo (n : Nat) : bv (sb (mo n)) = n := by
  rw [sb_mo]; unfold bv; rw [List.reverse_reverse, dg_digs (by decide)]
theorem mo_zero : mo 0 = ⟨#[]⟩ := by unfold mo; rw [digs_zero]; rfl
theorem size_mo {n K : Nat} (h : n < 256 ^ K) : (mo n).size ≤ K := by
  rw [← sb_length, sb_mo, List.length_reverse]; exact digs_length_le (by decide) h
theorem bv_sb_lt (s : ByteArray) : bv (sb s) < 256 ^ s.size := by
  have h := bv_lt (sb_ok s)
  rwa [sb_length] at h
theorem mo_lit (s : ByteArray) (h : Trim (sb s).reverse) : mo (bv (sb s)) = s := by
  apply sb_inj
  rw [sb_mo]
  unfold bv
  rw [digs_dg (by decide) (sb_ok s).reverse h, List.reverse_reverse]

theorem wz_mo (z : Int) : wz z = .agg #[.bool (decide (z < 0)), .string (mo z.natAbs)] := by
  unfold wz wv
  split
  · rename_i h
    have hz : z = 0 := by omega
    subst hz
    rw [show (0 : Int).natAbs = 0 from rfl, mo_zero]; rfl
  · rfl

theorem zval_mo (z : Int) : zval (decide (z < 0)) (bv (sb (mo z.natAbs))) = z := by
  rw [bv_mo]
  unfold zval
  by_cases h : z < 0
  · rw [if_pos (by simpa using h)]; omega
  · rw [if_neg (by simpa using h)]; omega

theorem natAbs_zval (b : Bool) (n : Nat) : (zval b n).natAbs = n := by unfold zval; cases b <;> simp

theorem natAbs_zval_lt (b : Bool) (s : ByteArray) : (zval b (bv (sb s))).natAbs < 256 ^ s.size := by
  rw [natAbs_zval]; exact bv_sb_lt s

/-- A value is a number z of at most K bytes. -/
structure Rep (K : Nat) (b : Bool) (s : ByteArray) (z : Int) : Prop where
  val : zval b (bv (sb s)) = z
  size : s.size ≤ K

theorem Rep.mono {K L : Nat} {b : Bool} {s : ByteArray} {z : Int} (h : Rep K b s z) (hl : K ≤ L) : Rep L b s z := ⟨h.val, Nat.le_trans h.size hl⟩

/-- What a function answers is a number of its own size. -/
theorem Rep.mo {K : Nat} {z : Int} (h : z.natAbs < 256 ^ K) : Rep K (decide (z < 0)) (mo z.natAbs) z := ⟨zval_mo z, size_mo h⟩

theorem Rep.lt {K : Nat} {b : Bool} {s : ByteArray} {z : Int} (h : Rep K b s z) : z.natAbs < 256 ^ K := by
  rw [← h.val]
  exact Nat.lt_of_lt_of_le (natAbs_zval_lt b s) (Nat.pow_le_pow_right (by omega) h.size)

theorem mul_sign (b c : Bool) (x y : Nat) : zval (!(b == c)) (x * y) = zval b x * zval c y := by
  unfold zval; cases b <;> cases c <;> simp [Int.natCast_mul, Int.neg_mul, Int.mul_neg]

theorem div_sign (b c : Bool) (x y : Nat) : zval (!(b == c)) (x / y) = (zval b x).tdiv (zval c y) := by
  unfold zval; cases b <;> cases c <;> simp [Int.neg_tdiv, Int.tdiv_neg]

theorem mod_sign (b c : Bool) (x y : Nat) : zval b (x % y) = (zval b x).tmod (zval c y) := by
  have h : ((x % y : Nat) : Int) = (x : Int).tmod (y : Int) := by rw [Int.tmod_eq_emod_of_nonneg (by omega)]; rfl
  unfold zval; cases b <;> cases c <;> simp [Int.neg_tmod, Int.tmod_neg, ← h]

section
variable {na nb : Bool} {sa sc : ByteArray} {x y : Int}

theorem ZMul (hx : Rep 400000 na sa x) (hy : Rep 400000 nb sc y) (w : World) :
    Calls Tryd.prog 26 #[.agg #[.bool na, .string sa], .agg #[.bool nb, .string sc]] w fun e w' => e = .returned (wz (x * y)) ∧ Tch [] w w' := by
  have h := Mul na nb sa sc w hx.size hy.size
  rwa [wv_wz, mul_sign, hx.val, hy.val] at h

theorem ZAdd (hx : Rep 400000 na sa x) (hy : Rep 400000 nb sc y) (w : World) :
    Calls Tryd.prog 16 #[.agg #[.bool na, .string sa], .agg #[.bool nb, .string sc]] w fun e w' => e = .returned (wz (x + y)) ∧ Tch [] w w' := by
  have h := Add na nb sa sc w hx.size hy.size
  rwa [hx.val, hy.val] at h

theorem ZSub (hx : Rep 400000 na sa x) (hy : Rep 400000 nb sc y) (w : World) :
    Calls Tryd.prog 18 #[.agg #[.bool na, .string sa], .agg #[.bool nb, .string sc]] w fun e w' => e = .returned (wz (x - y)) ∧ Tch [] w w' := by
  have h := Sub na nb sa sc w hx.size hy.size
  rwa [hx.val, hy.val] at h

theorem ZNeg (hx : Rep 1000000 na sa x) (w : World) :
    Calls Tryd.prog 20 #[.agg #[.bool na, .string sa]] w fun e w' => e = .returned (wz (-x)) ∧ Tch [] w w' := by
  have h := Neg na sa hx.size w
  rwa [wv_wz, zval_not, hx.val] at h

theorem ZFrom (n : Int) (h1 : -9223372036854775808 ≤ n) (h2 : n ≤ 9223372036854775807) (w : World) :
    Calls Tryd.prog 30 #[.int .i64 n] w fun e w' => e = .returned (wz n) ∧ Tch [] w w' := From n h1 h2 w

/-- The sign of an integer. -/
theorem sgn_zval (b : Bool) (n : Nat) : sgn b n = (zval b n).sign := by
  unfold sgn zval
  by_cases h : n = 0
  · subst h; cases b <;> rfl
  · have hp : (0 : Int) < (n : Int) := by omega
    rw [if_neg h]
    cases b
    · simp [Int.sign_eq_one_of_pos hp]
    · simp [Int.sign_eq_one_of_pos hp]

theorem ZSign (hx : zval na (bv (sb sa)) = x) (w : World) :
    Calls Tryd.prog 22 #[.agg #[.bool na, .string sa]] w fun e w' => e = .returned (.int .i64 x.sign) ∧ Tch [] w w' := by
  have h := Sign na sa w
  rwa [sgn_zval, hx] at h

/-- What Quo answers, by integers. -/
def zquoV (x y : Int) : Value :=
  if y = 0 then .tuple #[.agg #[.bool false, .string ⟨#[]⟩], .agg #[.bool false, .string ⟨#[]⟩], .bool false] else .tuple #[wz (x.tdiv y), wz (x.tmod y), .bool true]

theorem ZQuo (hx : Rep 400000 na sa x) (hy : Rep 400000 nb sc y) (w : World) :
    Calls Tryd.prog 29 #[.agg #[.bool na, .string sa], .agg #[.bool nb, .string sc]] w fun e w' => e = .returned (zquoV x y) ∧ Tch [] w w' := by
  have h := Quo na nb sa sc w hx.size hy.size
  have e : quoV na nb (bv (sb sa)) (bv (sb sc)) = zquoV x y := by
    unfold quoV zquoV
    have hz : bv (sb sc) = 0 ↔ y = 0 := by rw [← hy.val]; have := natAbs_zval nb (bv (sb sc)); omega
    by_cases h0 : y = 0
    · rw [if_pos (hz.2 h0), if_pos h0]
    · rw [if_neg (fun h => h0 (hz.1 h)), if_neg h0, wv_wz, wv_wz, div_sign, mod_sign na nb, hx.val, hy.val]
  rwa [e] at h

theorem ZGcd (hx : Rep 400000 na sa x) (hy : Rep 400000 nb sc y) (w : World) :
    Calls Tryd.prog 32 #[.agg #[.bool na, .string sa], .agg #[.bool nb, .string sc]] w fun e w' => e = .returned (wz (Int.gcd x y : Int)) ∧ Tch [] w w' := by
  have h := Gcd na nb sa sc w hx.size hy.size
  have e : Nat.gcd (bv (sb sa)) (bv (sb sc)) = Int.gcd x y := by
    unfold Int.gcd; rw [← hx.val, ← hy.val, natAbs_zval, natAbs_zval]
  rw [e, wv_wz] at h
  exact h
end

end Go.Proofs.YtngbblofacganaaDoor
