/- Comparisons of vectors. -/
import Derived.Test.YtpedbahppkimbaaDoorVecE
namespace Go.Proofs.YtpedbahppkimbaaDoor
open Go Go.RowKit Dg

theorem eqVec (a b c d e f : Int) (w : World) : (Op.equalIn 10000 44 (.agg #[.int .i64 a, .int .i64 b, .int .i64 c]) (.agg #[.int .i64 d, .int .i64 e, .int .i64 f])).run Tryd.prog w = .ok (a == d && b == e && c == f) w := by
  have u3 := Tryd.underlying3
  have a3 := Tryd.isAgg3
  have z3 := Tryd.sizeOf3
  rw [show (10000 : Nat) = 9999 + 1 from rfl, Op.equalIn]
  simp only [Sem.run_bind, run_underlying Tryd.underlying44, Result.andThen_ok]
  simp only [Std.Legacy.Range.forIn_eq_forIn_range', Std.Legacy.Range.size, Nat.sub_zero, Nat.add_sub_cancel, Nat.div_one, List.range'_succ, List.range'_zero, List.forIn_cons, List.forIn_nil]
  go_simp
  by_cases h1 : a = d <;> by_cases h2 : b = e <;> by_cases h3 : c = f <;> simp [h1, h2, h3]

theorem eqWide3 (a b c d e f : Bool) (s t u x y z : ByteArray) (w : World) : (Op.equalIn 10000 50 (.agg #[.bool a, .string s, .bool b, .string t, .bool c, .string u]) (.agg #[.bool d, .string x, .bool e, .string y, .bool f, .string z])).run Tryd.prog w =
    .ok ((a == d && s.toList == x.toList) && (b == e && t.toList == y.toList) && (c == f && u.toList == z.toList)) w := by
  have a3 := Tryd.isAgg36
  have z3 := Tryd.sizeOf36
  rw [show (10000 : Nat) = 9999 + 1 from rfl, Op.equalIn]
  simp only [Sem.run_bind, run_underlying Tryd.underlying50, Result.andThen_ok]
  simp only [Std.Legacy.Range.forIn_eq_forIn_range', Std.Legacy.Range.size, Nat.sub_zero, Nat.add_sub_cancel, Nat.div_one, List.range'_succ, List.range'_zero, List.forIn_cons, List.forIn_nil]
  go_simp
  repeat' split
  all_goals simp_all

/-- A number of no digits is 0. -/
theorem moz_nil (z : Int) : ((moz z).toList == (⟨#[]⟩ : ByteArray).toList) = (z == 0) := by
  by_cases h : z = 0
  · subst h; rw [moz_zero]; simp
  · have h2 : (moz z).toList ≠ [] := by
      rw [ByteArray.toList_eq]
      intro e
      have h3 : bv (sb (moz z)) = 0 := by unfold sb; rw [e]; rfl
      unfold moz at h3
      rw [bv_mo] at h3
      omega
    have h4 : (⟨#[]⟩ : ByteArray).toList = [] := by rw [ByteArray.toList_eq]
    rw [h4, show (z == 0) = false from beq_eq_false_iff_ne.2 h]
    exact beq_eq_false_iff_ne.2 h2
theorem toList_ne {s t : ByteArray} (h : s ≠ t) : s.toList ≠ t.toList := by
  intro e
  rw [ByteArray.toList_eq, ByteArray.toList_eq] at e
  exact h (by cases s; cases t; simp_all)
theorem wide_of {z : Int} : zval (sgz z) (bv (sb (moz z))) = z := zval_mo z
/-- Two numbers are equal if both fields are. -/
theorem wide_beq (x y : Int) : (sgz x == sgz y && (moz x).toList == (moz y).toList) = (x == y) := by
  by_cases h : x = y
  · subst h; simp
  · by_cases h1 : sgz x = sgz y
    · have h2 : moz x ≠ moz y := by
        intro e
        apply h
        rw [← wide_of (z := x), ← wide_of (z := y), h1, e]
      rw [show (x == y) = false from beq_eq_false_iff_ne.2 h, show ((moz x).toList == (moz y).toList) = false from beq_eq_false_iff_ne.2 (toList_ne h2), Bool.and_false]
    · rw [show (x == y) = false from beq_eq_false_iff_ne.2 h, show (sgz x == sgz y) = false from beq_eq_false_iff_ne.2 h1, Bool.false_and]
theorem sgz_nil (z : Int) : (sgz z == false && (moz z).toList == (⟨#[]⟩ : ByteArray).toList) = (z == 0) := by
  rw [moz_nil]
  by_cases h : z = 0
  · subst h; rfl
  · rw [show (z == 0) = false from beq_eq_false_iff_ne.2 h, Bool.and_false]

theorem eqWideZero (x y z : Int) (w : World) : (Op.equalIn 10000 50 (.agg #[.bool (sgz x), .string (moz x), .bool (sgz y), .string (moz y), .bool (sgz z), .string (moz z)]) (.agg #[.bool false, .string ⟨#[]⟩, .bool false, .string ⟨#[]⟩, .bool false, .string ⟨#[]⟩])).run Tryd.prog w =
    .ok (x == 0 && y == 0 && z == 0) w := by
  rw [eqWide3, sgz_nil, sgz_nil, sgz_nil, Bool.and_assoc]

end Go.Proofs.YtpedbahppkimbaaDoor
