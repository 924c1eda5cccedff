/- Numbers as values: both fields of a number by its value, and how many bytes it has. -/
import Derived.Test.YtpedbahppkimbaaDoorAddSub
import Derived.Test.YtpedbahppkimbaaDoorSign
namespace Go.Proofs.YtpedbahppkimbaaDoor
open Go.RowKit Dg

theorem bv_mo (n : Nat) : bv (sb (mo n)) = n := by
  rw [sb_mo]; unfold bv; rw [List.reverse_reverse, dg_digs (by decide)]
theorem mo_zero : mo 0 = ⟨#[]⟩ := by unfold mo; rw [digs_zero]; rfl
theorem size_mo {n K : Nat} (h : n < 256 ^ K) : (mo n).size ≤ K := by
  rw [← sb_length, sb_mo, List.length_reverse]; exact digs_length_le (by decide) h
theorem bv_sb_lt (s : ByteArray) : bv (sb s) < 256 ^ s.size := by
  have h := bv_lt (sb_ok s)
  rwa [sb_length] at h
theorem mo_lit (s : ByteArray) (h : Trim (sb s).reverse) : mo (bv (sb s)) = s := by
  apply sb_inj
  rw [sb_mo]
  unfold bv
  rw [digs_dg (by decide) (sb_ok s).reverse h, List.reverse_reverse]

theorem wz_mo (z : Int) : wz z = .agg #[.bool (decide (z < 0)), .string (mo z.natAbs)] := by
  unfold wz wv
  split
  · rename_i h
    have hz : z = 0 := by omega
    subst hz
    rw [show (0 : Int).natAbs = 0 from rfl, mo_zero]; rfl
  · rfl

theorem zval_mo (z : Int) : zval (decide (z < 0)) (bv (sb (mo z.natAbs))) = z := by
  rw [bv_mo]
  unfold zval
  by_cases h : z < 0
  · rw [if_pos (by simpa using h)]; omega
  · rw [if_neg (by simpa using h)]; omega

theorem natAbs_zval (b : Bool) (n : Nat) : (zval b n).natAbs = n := by unfold zval; cases b <;> simp

theorem natAbs_zval_lt (b : Bool) (s : ByteArray) : (zval b (bv (sb s))).natAbs < 256 ^ s.size := by
  rw [natAbs_zval]; exact bv_sb_lt s

/-- A value is a number z of at most K bytes. -/
structure Rep (K : Nat) (b : Bool) (s : ByteArray) (z : Int) : Prop where
  val : zval b (bv (sb s)) = z
  size : s.size ≤ K

theorem Rep.mono {K L : Nat} {b : Bool} {s : ByteArray} {z : Int} (h : Rep K b s z) (hl : K ≤ L) : Rep L b s z := ⟨h.val, Nat.le_trans h.size hl⟩

/-- What a function answers is a number of its own size. -/
theorem Rep.mo {K : Nat} {z : Int} (h : z.natAbs < 256 ^ K) : Rep K (decide (z < 0)) (mo z.natAbs) z := ⟨zval_mo z, size_mo h⟩

theorem Rep.lt {K : Nat} {b : Bool} {s : ByteArray} {z : Int} (h : Rep K b s z) : z.natAbs < 256 ^ K := by
  rw [← h.val]
  exact Nat.lt_of_lt_of_le (natAbs_zval_lt b s) (Nat.pow_le_pow_right (by omega) h.size)

theorem mul_sign (b c : Bool) (x y : Nat) : zval (!(b == c)) (x * y) = zval b x * zval c y := by
  unfold zval; cases b <;> cases c <;> simp [Int.natCast_mul, Int.neg_mul, Int.mul_neg]

theorem div_sign (b c : Bool) (x y : Nat) : zval (!(b == c)) (x / y) = (zval b x).tdiv (zval c y) := by
  unfold zval; cases b <;> cases c <;> simp [Int.neg_tdiv, Int.tdiv_neg]

theorem mod_sign (b c : Bool) (x y : Nat) : zval b (x % y) = (zval b x).tmod (zval c y) := by
  have h : ((x % y : Nat) : Int) = (x : Int).tmod (y : Int) := by rw [Int.tmod_eq_emod_of_nonneg (by omega)]; rfl
  unfold zval; cases b <;> cases c <;> simp [Int.neg_tmod, Int.tmod_neg, ← h]

section
variable {na nb : Bool} {sa sc : ByteArray} {x y : Int}

theorem ZMul (hx : Rep 400000 na sa x) (hy : Rep 400000 nb sc y) (w : World) :
    Calls Tryd.prog 38 #[.agg #[.bool na, .string sa], .agg #[.bool nb, .string sc]] w fun e w' => e = .returned (wz (x * y)) ∧ Tch [] w w' := by
  have h := Mul na nb sa sc w hx.size hy.size
  rwa [wv_wz, mul_sign, hx.val, hy.val] at h

theorem ZAdd (hx : Rep 400000 na sa x) (hy : Rep 400000 nb sc y) (w : World) :
    Calls Tryd.prog 37 #[.agg #[.bool na, .string sa], .agg #[.bool nb, .string sc]] w fun e w' => e = .returned (wz (x + y)) ∧ Tch [] w w' := by
  have h := Add na nb sa sc w hx.size hy.size
  rwa [hx.val, hy.val] at h


theorem ZFrom (n : Int) (h1 : -9223372036854775808 ≤ n) (h2 : n ≤ 9223372036854775807) (w : World) :
    Calls Tryd.prog 26 #[.int .i64 n] w fun e w' => e = .returned (wz n) ∧ Tch [] w w' := From n h1 h2 w

/-- The sign of an integer. -/
theorem sgn_zval (b : Bool) (n : Nat) : sgn b n = (zval b n).sign := by
  unfold sgn zval
  by_cases h : n = 0
  · subst h; cases b <;> rfl
  · have hp : (0 : Int) < (n : Int) := by omega
    rw [if_neg h]
    cases b
    · simp [Int.sign_eq_one_of_pos hp]
    · simp [Int.sign_eq_one_of_pos hp]

theorem ZSign (hx : zval na (bv (sb sa)) = x) (w : World) :
    Calls Tryd.prog 19 #[.agg #[.bool na, .string sa]] w fun e w' => e = .returned (.int .i64 x.sign) ∧ Tch [] w w' := by
  have h := Sign na sa w
  rwa [sgn_zval, hx] at h

end

theorem wz_parts {z : Int} {b : Bool} {s : ByteArray} (h : wz z = .agg #[.bool b, .string s]) : decide (z < 0) = b ∧ mo z.natAbs = s := by
  rw [wz_mo] at h
  simpa using h

theorem Rep.of_wz {K : Nat} {z : Int} {b : Bool} {s : ByteArray} (h : wz z = .agg #[.bool b, .string s]) (hz : z.natAbs < 256 ^ K) : Rep K b s z := by
  obtain ⟨rfl, rfl⟩ := wz_parts h
  exact Rep.mo hz

theorem sgn_pos (b : Bool) (n : Nat) : 0 < sgn b n ↔ 0 < zval b n := by
  rw [sgn_zval]
  exact Int.sign_pos_iff

theorem mul_lt {K L : Nat} {x y : Int} (hx : x.natAbs < 256 ^ K) (hy : y.natAbs < 256 ^ L) : (x * y).natAbs < 256 ^ (K + L) := by
  rw [Int.natAbs_mul, Nat.pow_add]
  exact Nat.mul_lt_mul'' hx hy

theorem add_lt {K : Nat} {x y : Int} (hx : x.natAbs < 256 ^ K) (hy : y.natAbs < 256 ^ K) : (x + y).natAbs < 256 ^ (K + 1) := by
  have h1 : (x + y).natAbs ≤ x.natAbs + y.natAbs := Int.natAbs_add_le x y
  rw [Nat.pow_succ]; omega

end Go.Proofs.YtpedbahppkimbaaDoor
