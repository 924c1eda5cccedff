/- Whole quadrics: their cells; loads and stores of whole boxes. -/
import Derived.Test.YtmpfgkpimjiecaaDoorQo
import Derived.Laws.Rows
import Derived.Laws.Tables
namespace Go.Proofs.YtmpfgkpimjiecaaDoor
open Go Go.RowKit Dg

/-- The box at b holds a whole value; it is loaded. -/
theorem wpList_load_row {P : Program} {ops : Array Oper} {rest : List Oper} {op : Oper} {a : Act} {w : World} {Q : Exit → Act → World → Prop} (hgd : op.guard = none) (ty : TypeId) (x : Operand) (ho : op.op = .load ty x)
    (b : Nat) (hx : a.eval x = .pointer (some ⟨b, 0, none⟩)) (cs : Array Value) (t : TypeId) (d : TypeDesc) (n : Nat) (hb : w.heap[b]? = some (.cells cs t (0, 0))) (hs : cs.size = n)
    (hu : P.underlying ty = some d) (hd : (match d with | .struct _ | .array _ _ => true | _ => false) = true) (hi : (P.info? ty).map (·.size) = some n)
    (h : wpList P ops Q rest (a.put op.dst (.agg cs)) w) : wpList P ops Q (op :: rest) a w :=
  wpList_plain hgd fun _ hK => by
    unfold Oper.wp execOp
    simp only [ho, hx, Instr.loadAt, Instr.sureAddr, Sem.run_bind, Sem.run_pure, Result.andThen_ok, run_loadVar_row w b t ty cs (0, 0) d hb hu hd (by rw [hs]; exact hi)]
    exact hK _ _ h
theorem wpList_store_row {P : Program} {ops : Array Oper} {rest : List Oper} {op : Oper} {a : Act} {w : World} {Q : Exit → Act → World → Prop} (hgd : op.guard = none) (ty : TypeId) (x y : Operand) (ho : op.op = .store ty x y)
    (b : Nat) (hx : a.eval x = .pointer (some ⟨b, 0, none⟩)) (cs old : Array Value) (hy : a.eval y = .agg cs) (t : TypeId) (n : Nat) (hb : w.heap[b]? = some (.cells old t (0, 0))) (ho' : old.size = n) (hs : cs.size = n)
    (hi : (P.info? ty).map (·.size) = some n) (h1 : cs.all (·.oneCell') = true)
    (h : wpList P ops Q rest (a.put op.dst undef) (w.setRow b cs)) : wpList P ops Q (op :: rest) a w :=
  wpList_plain hgd fun _ hK => by
    unfold Oper.wp execOp
    simp only [ho, hx, hy, Instr.storeAt, Instr.sureAddr, Sem.run_bind, Sem.run_pure, Result.andThen_ok, run_storeVar_row w b t ty old cs hb (by rw [hs]; exact hi) (by rw [ho', hs]) h1]
    exact hK _ _ h

/-- What a function with one result in a box of its own returns. -/
theorem results_row {P : Program} {fn : Func} {tmps : Array Value} {w : World} {s b : Nat} {T t : TypeId} {cs : Array Value} {n : Nat} {d : TypeDesc} (hf : fn.results = #[.cell s T]) (ht : tmps.getD s undef = .pointer (some ⟨b, 0, none⟩)) (hb : w.heap[b]? = some (.cells cs t (0, 0))) (hs : cs.size = n)
    (hu : P.underlying T = some d) (hd : (match d with | .struct _ | .array _ _ => true | _ => false) = true) (hi : (P.info? T).map (·.size) = some n) : (results fn tmps).run P w = .ok (.agg cs) w := by
  have hL := run_loadVar_row (P := P) w b t T cs (0, 0) d hb hu hd (by rw [hs]; exact hi)
  have ht' : tmps[s]?.getD undef = .pointer (some ⟨b, 0, none⟩) := by simpa using ht
  unfold results
  rw [hf]
  simp [asAddr, ht', hL]

/-- A whole box among others is written. -/
theorem Fr.setR {w0 w : World} {l1 l2 : List (Nat × Obj)} {b : Nat} {T : TypeId} {vs : Array Value} (h : Fr w0 w (l1 ++ (b, .cells vs T (0, 0)) :: l2)) (hd : ∀ q ∈ l1 ++ l2, q.1 ≠ b) (cs : Array Value) :
    Fr w0 (w.setRow b cs) (l1 ++ (b, .cells cs T (0, 0)) :: l2) := by
  have hn : w0.heap.size ≤ b := h.new (b, .cells vs T (0, 0)) (by simp)
  have hb := h.row (b, .cells vs T (0, 0)) (by simp)
  refine ⟨fun q hq => ?_, fun q hq => ?_, ⟨h.t.os, h.t.tape, h.t.output, by rw [size_setRow]; exact h.t.size, fun k hk hs => (setRow_other w b k cs (by omega)).trans (h.t.block k hk hs)⟩⟩
  · by_cases e : q = (b, .cells cs T (0, 0))
    · rw [e]; exact setRow_heap w b vs cs T (0, 0) hb
    · have hq' : q ∈ l1 ++ l2 := by
        simp only [List.mem_append, List.mem_cons] at hq ⊢
        rcases hq with h | h | h
        · exact .inl h
        · exact absurd h e
        · exact .inr h
      have hm : q ∈ l1 ++ (b, .cells vs T (0, 0)) :: l2 := by
        simp only [List.mem_append, List.mem_cons] at hq' ⊢
        rcases hq' with h | h
        · exact .inl h
        · exact .inr (.inr h)
      exact (setRow_other w b q.1 cs (hd q hq')).trans (h.row q hm)
  · simp only [List.mem_append, List.mem_cons] at hq
    rcases hq with k | k | k
    · exact (h).new q (by simp [k])
    · rw [k]; exact hn
    · exact (h).new q (by simp [k])
theorem Fr.at {w0 w : World} {l : List (Nat × Obj)} (h : Fr w0 w l) (i : Nat) {b : Nat} {o : Obj} (hi : l[i]? = some (b, o)) : w.heap[b]? = some o := h.row (b, o) (List.mem_of_getElem? hi)

/-- The cells of a quadric of which the first k coefficients are there. -/
def qst (q : Nat → Int) (k : Nat) : Array Value :=
  match k with
  | 0 => #[.bool false, .string ⟨#[]⟩, .bool false, .string ⟨#[]⟩, .bool false, .string ⟨#[]⟩, .bool false, .string ⟨#[]⟩, .bool false, .string ⟨#[]⟩, .bool false, .string ⟨#[]⟩, .bool false, .string ⟨#[]⟩, .bool false, .string ⟨#[]⟩, .bool false, .string ⟨#[]⟩, .bool false, .string ⟨#[]⟩]
  | 1 => #[.bool (sgz (q 0)), .string (moz (q 0)), .bool false, .string ⟨#[]⟩, .bool false, .string ⟨#[]⟩, .bool false, .string ⟨#[]⟩, .bool false, .string ⟨#[]⟩, .bool false, .string ⟨#[]⟩, .bool false, .string ⟨#[]⟩, .bool false, .string ⟨#[]⟩, .bool false, .string ⟨#[]⟩, .bool false, .string ⟨#[]⟩]
  | 2 => #[.bool (sgz (q 0)), .string (moz (q 0)), .bool (sgz (q 1)), .string (moz (q 1)), .bool false, .string ⟨#[]⟩, .bool false, .string ⟨#[]⟩, .bool false, .string ⟨#[]⟩, .bool false, .string ⟨#[]⟩, .bool false, .string ⟨#[]⟩, .bool false, .string ⟨#[]⟩, .bool false, .string ⟨#[]⟩, .bool false, .string ⟨#[]⟩]
  | 3 => #[.bool (sgz (q 0)), .string (moz (q 0)), .bool (sgz (q 1)), .string (moz (q 1)), .bool (sgz (q 2)), .string (moz (q 2)), .bool false, .string ⟨#[]⟩, .bool false, .string ⟨#[]⟩, .bool false, .string ⟨#[]⟩, .bool false, .string ⟨#[]⟩, .bool false, .string ⟨#[]⟩, .bool false, .string ⟨#[]⟩, .bool false, .string ⟨#[]⟩]
  | 4 => #[.bool (sgz (q 0)), .string (moz (q 0)), .bool (sgz (q 1)), .string (moz (q 1)), .bool (sgz (q 2)), .string (moz (q 2)), .bool (sgz (q 3)), .string (moz (q 3)), .bool false, .string ⟨#[]⟩, .bool false, .string ⟨#[]⟩, .bool false, .string ⟨#[]⟩, .bool false, .string ⟨#[]⟩, .bool false, .string ⟨#[]⟩, .bool false, .string ⟨#[]⟩]
  | 5 => #[.bool (sgz (q 0)), .string (moz (q 0)), .bool (sgz (q 1)), .string (moz (q 1)), .bool (sgz (q 2)), .string (moz (q 2)), .bool (sgz (q 3)), .string (moz (q 3)), .bool (sgz (q 4)), .string (moz (q 4)), .bool false, .string ⟨#[]⟩, .bool false, .string ⟨#[]⟩, .bool false, .string ⟨#[]⟩, .bool false, .string ⟨#[]⟩, .bool false, .string ⟨#[]⟩]
  | 6 => #[.bool (sgz (q 0)), .string (moz (q 0)), .bool (sgz (q 1)), .string (moz (q 1)), .bool (sgz (q 2)), .string (moz (q 2)), .bool (sgz (q 3)), .string (moz (q 3)), .bool (sgz (q 4)), .string (moz (q 4)), .bool (sgz (q 5)), .string (moz (q 5)), .bool false, .string ⟨#[]⟩, .bool false, .string ⟨#[]⟩, .bool false, .string ⟨#[]⟩, .bool false, .string ⟨#[]⟩]
  | 7 => #[.bool (sgz (q 0)), .string (moz (q 0)), .bool (sgz (q 1)), .string (moz (q 1)), .bool (sgz (q 2)), .string (moz (q 2)), .bool (sgz (q 3)), .string (moz (q 3)), .bool (sgz (q 4)), .string (moz (q 4)), .bool (sgz (q 5)), .string (moz (q 5)), .bool (sgz (q 6)), .string (moz (q 6)), .bool false, .string ⟨#[]⟩, .bool false, .string ⟨#[]⟩, .bool false, .string ⟨#[]⟩]
  | 8 => #[.bool (sgz (q 0)), .string (moz (q 0)), .bool (sgz (q 1)), .string (moz (q 1)), .bool (sgz (q 2)), .string (moz (q 2)), .bool (sgz (q 3)), .string (moz (q 3)), .bool (sgz (q 4)), .string (moz (q 4)), .bool (sgz (q 5)), .string (moz (q 5)), .bool (sgz (q 6)), .string (moz (q 6)), .bool (sgz (q 7)), .string (moz (q 7)), .bool false, .string ⟨#[]⟩, .bool false, .string ⟨#[]⟩]
  | 9 => #[.bool (sgz (q 0)), .string (moz (q 0)), .bool (sgz (q 1)), .string (moz (q 1)), .bool (sgz (q 2)), .string (moz (q 2)), .bool (sgz (q 3)), .string (moz (q 3)), .bool (sgz (q 4)), .string (moz (q 4)), .bool (sgz (q 5)), .string (moz (q 5)), .bool (sgz (q 6)), .string (moz (q 6)), .bool (sgz (q 7)), .string (moz (q 7)), .bool (sgz (q 8)), .string (moz (q 8)), .bool false, .string ⟨#[]⟩]
  | _ => #[.bool (sgz (q 0)), .string (moz (q 0)), .bool (sgz (q 1)), .string (moz (q 1)), .bool (sgz (q 2)), .string (moz (q 2)), .bool (sgz (q 3)), .string (moz (q 3)), .bool (sgz (q 4)), .string (moz (q 4)), .bool (sgz (q 5)), .string (moz (q 5)), .bool (sgz (q 6)), .string (moz (q 6)), .bool (sgz (q 7)), .string (moz (q 7)), .bool (sgz (q 8)), .string (moz (q 8)), .bool (sgz (q 9)), .string (moz (q 9))]
theorem qst_old (q : Nat → Int) (k : Nat) (hk : k < 10) : (qst q k)[k * 2]? = some (.bool false) ∧ (qst q k)[k * 2 + 1]? = some (.string ⟨#[]⟩) := by
  rcases (show k = 0 ∨ k = 1 ∨ k = 2 ∨ k = 3 ∨ k = 4 ∨ k = 5 ∨ k = 6 ∨ k = 7 ∨ k = 8 ∨ k = 9 by omega) with rfl | rfl | rfl | rfl | rfl | rfl | rfl | rfl | rfl | rfl <;> exact ⟨rfl, rfl⟩
theorem qst_step (q : Nat → Int) (k : Nat) (hk : k < 10) : ((qst q k).setIfInBounds (k * 2) (.bool (sgz (q k)))).setIfInBounds (k * 2 + 1) (.string (moz (q k))) = qst q (k + 1) := by
  rcases (show k = 0 ∨ k = 1 ∨ k = 2 ∨ k = 3 ∨ k = 4 ∨ k = 5 ∨ k = 6 ∨ k = 7 ∨ k = 8 ∨ k = 9 by omega) with rfl | rfl | rfl | rfl | rfl | rfl | rfl | rfl | rfl | rfl <;> rfl
/-- The cells of a quadric. -/
def QV (q : Nat → Int) : Array Value := qst q 10
theorem QV_size (q : Nat → Int) : (QV q).size = 20 := rfl
theorem QV_one (q : Nat → Int) : (QV q).all (·.oneCell') = true := by unfold QV qst; simp [Value.oneCell']
theorem QV_cell (q : Nat → Int) (k : Nat) (hk : k < 10) : (QV q)[k * 2]? = some (.bool (sgz (q k))) ∧ (QV q)[k * 2 + 1]? = some (.string (moz (q k))) := by
  rcases (show k = 0 ∨ k = 1 ∨ k = 2 ∨ k = 3 ∨ k = 4 ∨ k = 5 ∨ k = 6 ∨ k = 7 ∨ k = 8 ∨ k = 9 by omega) with rfl | rfl | rfl | rfl | rfl | rfl | rfl | rfl | rfl | rfl <;> exact ⟨rfl, rfl⟩
theorem QV_eq {p q : Nat → Int} (h : ∀ k, k < 10 → p k = q k) : QV p = QV q := by
  unfold QV qst
  simp only [h 0 (by omega), h 1 (by omega), h 2 (by omega), h 3 (by omega), h 4 (by omega), h 5 (by omega), h 6 (by omega), h 7 (by omega), h 8 (by omega), h 9 (by omega)]
/-- The cells of the quadric of zeros. -/
def QZ : Array Value := #[.bool false, .string ⟨#[]⟩, .bool false, .string ⟨#[]⟩, .bool false, .string ⟨#[]⟩, .bool false, .string ⟨#[]⟩, .bool false, .string ⟨#[]⟩, .bool false, .string ⟨#[]⟩, .bool false, .string ⟨#[]⟩, .bool false, .string ⟨#[]⟩, .bool false, .string ⟨#[]⟩, .bool false, .string ⟨#[]⟩]
theorem QZ_size : QZ.size = 20 := rfl
theorem qst_zero (q : Nat → Int) : qst q 0 = QZ := rfl
theorem QZ_eq : QZ = QV (fun _ => 0) := by
  show QZ = qst (fun _ => 0) 10
  unfold QZ qst
  simp only [sgz_nul, moz_nul]

theorem infoQ : (Tryd.prog.info? 28).map (·.size) = some 20 := by kernel_rfl

end Go.Proofs.YtmpfgkpimjiecaaDoor
