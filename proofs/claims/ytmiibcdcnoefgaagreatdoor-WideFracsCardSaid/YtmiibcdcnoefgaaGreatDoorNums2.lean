/- An argument that holds two numbers. -/
import Derived.Test.YtmiibcdcnoefgaaGreatDoorNums
namespace Go.Proofs.YtmiibcdcnoefgaaGreatDoor
open Go.ChangeShapes Go.WideShapes Go.ChangeAt Go.RowKit Dg

theorem array6 {α : Type} {cs : Array α} (h : cs.size = 6) : ∃ c0 c1 c2 c3 c4 c5, cs = #[c0, c1, c2, c3, c4, c5] := by
  obtain ⟨l⟩ := cs
  match l, h with
  | [c0, c1, c2, c3, c4, c5], _ => exact ⟨c0, c1, c2, c3, c4, c5, rfl⟩

set_option maxRecDepth 100000 in
/-- Two numbers. -/
theorem open_num2 {H : Type} {enc : TypeId × Value → H} {W : World} {b0 : Nat} {v : Value} {d : DataW H} {p : List MemPlace}
    (hv : Value.okWide Tryz.prog W .any b0 25 v) (h : DataW.Trod enc Tryz.prog W 0 (fun _ => true) true 25 v d p) :
    ∃ c0 c1 c2 c3 c4 c5 : Value, v = .agg #[c0, c1, c2, c3, c4, c5] ∧ NumOk W (Rows.uptoBulk d) c0 c1 c2 ∧ NumOk W (Rows.uptoBulk d) c3 c4 c5 := by
  obtain ⟨cs, rfl, hs⟩ := okWide_array Tryz.underlying25 hv
  obtain ⟨c0, c1, c2, c3, c4, c5, rfl⟩ := array6 (hs.trans (show Tryz.prog.cellsOf 25 = 6 by kernel_rfl))
  obtain ⟨fuel, hf⟩ := h
  obtain ⟨xs, m, rfl, hx, _, hl, hi⟩ := DataW.trod_array Tryz.underlying25 hf
  have k3 : Tryz.prog.cellsOf 24 = 3 := by kernel_rfl
  rw [k3] at hi
  simp only [Prod.mk.injEq] at hx
  obtain ⟨rfl, _⟩ := hx
  match xs, hl with
  | [x0, x1], _ =>
    have i0 := hi 0 (by decide)
    have i1 := hi 1 (by decide)
    refine ⟨c0, c1, c2, c3, c4, c5, rfl, (num_row (x := x0) (by simpa [Value.cells] using i0)).mono ?_, (num_row (x := x1) (by simpa [Value.cells] using i1)).mono ?_⟩
    all_goals (simp only [List.map_cons, List.map_nil, Rows.uptoBulk, Rows.uptoBulkAll]; omega)

end Go.Proofs.YtmiibcdcnoefgaaGreatDoor
