/- Quadrics and numbers compared by ==. -/
import Derived.Test.YtmpfgkpimjiecaaDoorQd
namespace Go.Proofs.YtmpfgkpimjiecaaDoor
open Go Go.RowKit Dg

theorem eqWf (n : Nat) (hn : n = 9998 ∨ n = 9999) (a b : Bool) (s t : ByteArray) (w : World) : (Op.equalIn (n + 1) 26 (.agg #[.bool a, .string s]) (.agg #[.bool b, .string t])).run Tryd.prog w = .ok (a == b && s.toList == t.toList) w := by
  have u3 := Tryd.underlying4
  have a3 := Tryd.isAgg4
  have z3 := Tryd.sizeOf4
  have u4 := Tryd.underlying9
  have a4 := Tryd.isAgg9
  have z4 := Tryd.sizeOf9
  have hS : Tryd.prog.underlying 26 = some (.struct (Tryd.prog.fieldsOf 26)) := by kernel_rfl
  have hp : Tryd.prog.stoodInHeld 26 = false := by kernel_rfl
  rw [run_equalIn_agg w n 26 _ _ hS hp]
  simp only [Program.fieldsOf, Tryd.underlying26]
  rcases hn with rfl | rfl
  · go_simp
    by_cases h1 : a = b <;> by_cases h2 : s.toList = t.toList <;> simp [h1, h2]
  · go_simp
    by_cases h1 : a = b <;> by_cases h2 : s.toList = t.toList <;> simp [h1, h2]

theorem bytes_ne {s t : ByteArray} (h : s ≠ t) : s.toList ≠ t.toList := by
  intro e
  rw [ByteArray.toList_eq, ByteArray.toList_eq] at e
  exact h (by cases s; cases t; simp_all)
/-- Two numbers are equal if both fields are. -/
theorem num_beq (x y : Int) : (sgz x == sgz y && (moz x).toList == (moz y).toList) = decide (x = y) := by
  by_cases h : x = y
  · subst h; simp
  · rw [decide_eq_false h]
    by_cases h1 : sgz x = sgz y
    · have h2 : moz x ≠ moz y := by
        intro e
        apply h
        rw [← show zval (sgz x) (bv (sb (moz x))) = x from zval_mo x, ← show zval (sgz y) (bv (sb (moz y))) = y from zval_mo y, h1, e]
      rw [show ((moz x).toList == (moz y).toList) = false from beq_eq_false_iff_ne.2 (bytes_ne h2), Bool.and_false]
    · rw [show (sgz x == sgz y) = false from beq_eq_false_iff_ne.2 h1, Bool.false_and]
theorem eqN (n : Nat) (hn : n = 9998 ∨ n = 9999) (x y : Int) (w : World) : (Op.equalIn (n + 1) 26 (.agg #[.bool (sgz x), .string (moz x)]) (.agg #[.bool (sgz y), .string (moz y)])).run Tryd.prog w = .ok (decide (x = y)) w := by
  rw [eqWf n hn, num_beq]
theorem eqlN (x y : Int) (w : World) : (binOp .eql 26 (.agg #[.bool (sgz x), .string (moz x)]) (.agg #[.bool (sgz y), .string (moz y)])).run Tryd.prog w = .ok (.bool (decide (x = y))) w := by
  rw [run_eql_struct, show (10000 : Nat) = 9999 + 1 from rfl, eqN 9999 (.inr rfl)]; rfl
theorem eqlN0 (x : Int) (w : World) : (binOp .eql 26 (.agg #[.bool (sgz x), .string (moz x)]) (.agg #[.bool false, .string ⟨#[]⟩])).run Tryd.prog w = .ok (.bool (decide (x = 0))) w := by
  have h := eqlN x 0 w
  rwa [sgz_nul, moz_nul] at h

theorem forIn_all {P : Program} {w : World} {n : Nat} (e : Nat → Bool) (f : Nat → Option Bool × PUnit → Sem (ForInStep (Option Bool × PUnit)))
    (hf : ∀ i r, i < n → (f i r).run P w = .ok (if e i then .yield (none, ()) else .done (some false, ())) w) :
    ∀ (l : List Nat), (∀ i ∈ l, i < n) → (forIn l ((none, ()) : Option Bool × PUnit) f).run P w = .ok (if l.all e then (none, ()) else (some false, ())) w
  | [], _ => by simp only [List.forIn_nil]; rfl
  | i :: l, hl => by
    simp only [List.forIn_cons, Sem.run_bind, hf i (none, ()) (hl i List.mem_cons_self), Result.andThen_ok]
    cases h : e i
    · simp [List.all_cons, h]
    · have ih := forIn_all e f hf l (fun j hj => hl j (List.mem_cons_of_mem _ hj))
      simp only [if_true, List.all_cons, h, Bool.true_and]
      exact ih
theorem partQ (p : Nat → Int) (i : Nat) (hi : i < 10) (w : World) : (part 26 (QV p) (i * 2)).run Tryd.prog w = .ok (.agg #[.bool (sgz (p i)), .string (moz (p i))]) w := by
  rcases (show i = 0 ∨ i = 1 ∨ i = 2 ∨ i = 3 ∨ i = 4 ∨ i = 5 ∨ i = 6 ∨ i = 7 ∨ i = 8 ∨ i = 9 by omega) with rfl | rfl | rfl | rfl | rfl | rfl | rfl | rfl | rfl | rfl <;> kernel_rfl
set_option maxHeartbeats 1000000 in
theorem eqQ (p q : Nat → Int) (w : World) : (Op.equalIn 10000 28 (.agg (QV p)) (.agg (QV q))).run Tryd.prog w = .ok ((List.range 10).all fun i => decide (p i = q i)) w := by
  have z3 := Tryd.sizeOf26
  rw [show (10000 : Nat) = 9999 + 1 from rfl, Op.equalIn]
  simp only [Sem.run_bind, run_underlying Tryd.underlying28, Result.andThen_ok, z3]
  rw [Std.Legacy.Range.forIn_eq_forIn_range']
  rw [forIn_all (n := 10) (fun i => decide (p i = q i)) _ (fun i r hi => by
    simp only [Sem.run_bind, partQ p i hi, partQ q i hi, Result.andThen_ok, show (9999 : Nat) = 9998 + 1 from rfl, eqN 9998 (.inl rfl)]
    cases decide (p i = q i) <;> rfl) _ (by intro i hi; simp [Std.Legacy.Range.size] at hi; omega)]
  simp only [Result.andThen_ok]
  have hl : List.range' [:10].start [:10].size [:10].step = List.range 10 := by decide
  rw [hl]
  cases (List.range 10).all fun i => decide (p i = q i) <;> rfl
/-- Two quadrics are the same. -/
def sameQ (p q : Nat → Int) : Bool := (List.range 10).all fun i => decide (p i = q i)
theorem sameQ_iff (p q : Nat → Int) : sameQ p q = true ↔ ∀ k, k < 10 → p k = q k := by
  unfold sameQ
  simp [List.all_eq_true]
theorem sameQ_refl (p : Nat → Int) : sameQ p p = true := (sameQ_iff p p).2 (fun _ _ => rfl)
theorem eqlQ (p q : Nat → Int) (w : World) : (binOp .eql 28 (.agg (QV p)) (.agg (QV q))).run Tryd.prog w = .ok (.bool (sameQ p q)) w := by
  rw [run_eql_struct, eqQ]; rfl
theorem eqlQZ (p : Nat → Int) (w : World) : (binOp .eql 28 (.agg (QV p)) (.agg #[.bool false, .string ⟨#[]⟩, .bool false, .string ⟨#[]⟩, .bool false, .string ⟨#[]⟩, .bool false, .string ⟨#[]⟩, .bool false, .string ⟨#[]⟩, .bool false, .string ⟨#[]⟩, .bool false, .string ⟨#[]⟩, .bool false, .string ⟨#[]⟩, .bool false, .string ⟨#[]⟩, .bool false, .string ⟨#[]⟩])).run Tryd.prog w = .ok (.bool (sameQ p fun _ => 0)) w := by
  have h := eqlQ p (fun _ => 0) w
  rw [← QZ_eq] at h
  exact h

end Go.Proofs.YtmpfgkpimjiecaaDoor
