/- A box that is laid among calls of a region that draws its order. -/
import Derived.Deep.DeepCutAuto
import Derived.Test.YtmpfgkpimjiecaaDoorMem
import Derived.Test.YtmpfgkpimjiecaaDoorVecA
namespace Go.Proofs.YtmpfgkpimjiecaaDoor
open Go.RowKit Dg
/-- A box that was laid at some time holds o; the boxes of l are as they were. -/
def MidB (w0 : World) (l : List (Nat × Obj)) (o : Obj) (s : Value) (w : World) : Prop := ∃ g : Nat, s = .pointer (some ⟨g, 0, none⟩) ∧ Fr w0 w l ∧ w.heap[g]? = some o ∧ w0.heap.size ≤ g

theorem Fr.take {w0 w : World} {l : List (Nat × Obj)} {g : Nat} {o : Obj} (h : Fr w0 w l) (hr : w.heap[g]? = some o) (hn : w0.heap.size ≤ g) : Fr w0 w (l ++ [(g, o)]) := by
  refine ⟨fun p hp => ?_, fun p hp => ?_, h.t⟩
  · rcases List.mem_append.1 hp with hp | hp
    · exact h.row p hp
    · rw [List.mem_singleton] at hp; subst hp; exact hr
  · rcases List.mem_append.1 hp with hp | hp
    · exact h.new p hp
    · rw [List.mem_singleton] at hp; subst hp; exact hn

theorem Fr.front {w0 w : World} {l m : List (Nat × Obj)} (h : Fr w0 w (l ++ m)) : Fr w0 w l := ⟨fun p hp => h.row p (List.mem_append_left _ hp), fun p hp => h.new p (List.mem_append_left _ hp), h.t⟩

theorem Fr.last {w0 w : World} {l : List (Nat × Obj)} {g : Nat} {vs : Array Value} {T : TypeId} {v : Value} (h : Fr w0 w (l ++ [(g, .cells vs T (0, 0))])) (j : Nat) (hj : vs[j]? = some v) : w.cell? ⟨g, j, none⟩ = some v :=
  h.cell (b := g) (vs := vs) (T := T) l.length j (by simp) hj

theorem FrB.mid4 {w0 w : World} {l : List (Nat × Obj)} {b : Nat} {x y z u : Value} {T : TypeId} (h : FrB w0 w l b (.cells #[x, y, z, u] T (0, 0))) (x' y' z' u' : Value) :
    MidB w0 l (.cells #[x', y', z', u'] T (0, 0)) (.pointer (some ⟨b, 0, none⟩)) ((((w.setCell ⟨b, 0, none⟩ x').setCell ⟨b, 1, none⟩ y').setCell ⟨b, 2, none⟩ z').setCell ⟨b, 3, none⟩ u') :=
  ⟨b, rfl, h.set4 x' y' z' u', row_set4 h.box, h.new⟩

theorem Fr.mid {w0 w : World} {l : List (Nat × Obj)} (h : Fr w0 w l) (o : Obj) : MidB w0 l o (.pointer (some ⟨w.heap.size, 0, none⟩)) (w.alloc o) :=
  ⟨w.heap.size, rfl, h.beside o, Below.heap_alloc_new' w o, h.t.size⟩

/-- Two cells of a block, all of them, written one behind the other. -/
theorem row_set2 {w : World} {b : Nat} {x y x' y' : Value} {T : TypeId} (h : w.heap[b]? = some (.cells #[x, y] T (0, 0))) : ((w.setCell ⟨b, 0, none⟩ x').setCell ⟨b, 1, none⟩ y').heap[b]? = some (.cells #[x', y'] T (0, 0)) := by
  have h1 := heap_setCell_same w b 0 _ T x' h
  exact heap_setCell_same _ b 1 _ T y' h1

theorem FrB.mid2 {w0 w : World} {l : List (Nat × Obj)} {b : Nat} {x y : Value} {T : TypeId} (h : FrB w0 w l b (.cells #[x, y] T (0, 0))) (x' y' : Value) :
    MidB w0 l (.cells #[x', y'] T (0, 0)) (.pointer (some ⟨b, 0, none⟩)) ((w.setCell ⟨b, 0, none⟩ x').setCell ⟨b, 1, none⟩ y') :=
  ⟨b, rfl, h.set2 x' y', row_set2 h.box, h.new⟩

end Go.Proofs.YtmpfgkpimjiecaaDoor
namespace Go.Proofs.YtmpfgkpimjiecaaDoor
open Go Go.RowKit Dg
theorem cells_row2 {w : World} {b : Nat} {x y : Value} {T : TypeId} (h : w.heap[b]? = some (.cells #[x, y] T (0, 0))) : w.cell? ⟨b, 0, none⟩ = some x ∧ w.cell? ⟨b, 1, none⟩ = some y :=
  ⟨by rw [cell_of_row w b 0 _ T (0, 0) h]; rfl, by rw [cell_of_row w b 1 _ T (0, 0) h]; rfl⟩

theorem FrB.put1 {w0 w : World} {l : List (Nat × Obj)} {b : Nat} {vs : Array Value} {T : TypeId} (h : FrB w0 w l b (.cells vs T (0, 0))) (j : Nat) (u : Value) : FrB w0 (w.setCell ⟨b, j, none⟩ u) l b (.cells (vs.setIfInBounds j u) T (0, 0)) :=
  ⟨h.f.away h.ne h.new u, heap_setCell_same w b j _ T u h.box, h.ne, h.new⟩

theorem FrB.put2 {w0 w : World} {l : List (Nat × Obj)} {b : Nat} {x y : Value} {T : TypeId} (h : FrB w0 w l b (.cells #[x, y] T (0, 0))) (x' y' : Value) : FrB w0 ((w.setCell ⟨b, 0, none⟩ x').setCell ⟨b, 1, none⟩ y') l b (.cells #[x', y'] T (0, 0)) :=
  (h.put1 0 x').put1 1 y'

theorem Fr.ltwo {w0 w : World} {l : List (Nat × Obj)} {g : Nat} {x y : Value} {T : TypeId} (h : Fr w0 w (l ++ [(g, .cells #[x, y] T (0, 0))])) : w.cell? ⟨g, 0, none⟩ = some x ∧ w.cell? ⟨g, 1, none⟩ = some y := ⟨h.last 0 rfl, h.last 1 rfl⟩

theorem Fr.lthree {w0 w : World} {l : List (Nat × Obj)} {g : Nat} {x y z : Value} {T : TypeId} (h : Fr w0 w (l ++ [(g, .cells #[x, y, z] T (0, 0))])) : w.cell? ⟨g, 0, none⟩ = some x ∧ w.cell? ⟨g, 1, none⟩ = some y ∧ w.cell? ⟨g, 2, none⟩ = some z := ⟨h.last 0 rfl, h.last 1 rfl, h.last 2 rfl⟩

theorem Fr.lsix {w0 w : World} {l : List (Nat × Obj)} {g : Nat} {x y z p q r : Value} {T : TypeId} (h : Fr w0 w (l ++ [(g, .cells #[x, y, z, p, q, r] T (0, 0))])) : w.cell? ⟨g, 0, none⟩ = some x ∧ w.cell? ⟨g, 1, none⟩ = some y ∧ w.cell? ⟨g, 2, none⟩ = some z ∧ w.cell? ⟨g, 3, none⟩ = some p ∧ w.cell? ⟨g, 4, none⟩ = some q ∧ w.cell? ⟨g, 5, none⟩ = some r := ⟨h.last 0 rfl, h.last 1 rfl, h.last 2 rfl, h.last 3 rfl, h.last 4 rfl, h.last 5 rfl⟩

theorem Fr.lnine {w0 w : World} {l : List (Nat × Obj)} {g : Nat} {x y z p q r s t u : Value} {T : TypeId} (h : Fr w0 w (l ++ [(g, .cells #[x, y, z, p, q, r, s, t, u] T (0, 0))])) : (w.cell? ⟨g, 0, none⟩ = some x ∧ w.cell? ⟨g, 1, none⟩ = some y ∧ w.cell? ⟨g, 2, none⟩ = some z) ∧ (w.cell? ⟨g, 3, none⟩ = some p ∧ w.cell? ⟨g, 4, none⟩ = some q ∧ w.cell? ⟨g, 5, none⟩ = some r) ∧ w.cell? ⟨g, 6, none⟩ = some s ∧ w.cell? ⟨g, 7, none⟩ = some t ∧ w.cell? ⟨g, 8, none⟩ = some u := ⟨⟨h.last 0 rfl, h.last 1 rfl, h.last 2 rfl⟩, ⟨h.last 3 rfl, h.last 4 rfl, h.last 5 rfl⟩, h.last 6 rfl, h.last 7 rfl, h.last 8 rfl⟩

section
variable {w0 w : World} {l : List (Nat × Obj)} {b : Nat} {T : TypeId}
theorem FrB.nine {x0 x1 x2 x3 x4 x5 x6 x7 x8 : Value} (h : FrB w0 w l b (.cells #[x0, x1, x2, x3, x4, x5, x6, x7, x8] T (0, 0))) : (w.cell? ⟨b, 0, none⟩ = some (x0) ∧ w.cell? ⟨b, 1, none⟩ = some (x1) ∧ w.cell? ⟨b, 2, none⟩ = some (x2) ∧ w.cell? ⟨b, 3, none⟩ = some (x3) ∧ w.cell? ⟨b, 4, none⟩ = some (x4) ∧ w.cell? ⟨b, 5, none⟩ = some (x5) ∧ w.cell? ⟨b, 6, none⟩ = some (x6) ∧ w.cell? ⟨b, 7, none⟩ = some (x7) ∧ w.cell? ⟨b, 8, none⟩ = some (x8)) ∧ (w.frozen? ⟨b, 0, none⟩ = false ∧ w.frozen? ⟨b, 1, none⟩ = false ∧ w.frozen? ⟨b, 2, none⟩ = false ∧ w.frozen? ⟨b, 3, none⟩ = false ∧ w.frozen? ⟨b, 4, none⟩ = false ∧ w.frozen? ⟨b, 5, none⟩ = false ∧ w.frozen? ⟨b, 6, none⟩ = false ∧ w.frozen? ⟨b, 7, none⟩ = false ∧ w.frozen? ⟨b, 8, none⟩ = false) :=
  ⟨⟨h.cell 0 rfl, h.cell 1 rfl, h.cell 2 rfl, h.cell 3 rfl, h.cell 4 rfl, h.cell 5 rfl, h.cell 6 rfl, h.cell 7 rfl, h.cell 8 rfl⟩, ⟨frozen_of_row w b 0 _ T h.box, frozen_of_row w b 1 _ T h.box, frozen_of_row w b 2 _ T h.box, frozen_of_row w b 3 _ T h.box, frozen_of_row w b 4 _ T h.box, frozen_of_row w b 5 _ T h.box, frozen_of_row w b 6 _ T h.box, frozen_of_row w b 7 _ T h.box, frozen_of_row w b 8 _ T h.box⟩⟩

theorem cells_row9 {x0 x1 x2 x3 x4 x5 x6 x7 x8 : Value} (h : w.heap[b]? = some (.cells #[x0, x1, x2, x3, x4, x5, x6, x7, x8] T (0, 0))) : w.cell? ⟨b, 0, none⟩ = some (x0) ∧ w.cell? ⟨b, 1, none⟩ = some (x1) ∧ w.cell? ⟨b, 2, none⟩ = some (x2) ∧ w.cell? ⟨b, 3, none⟩ = some (x3) ∧ w.cell? ⟨b, 4, none⟩ = some (x4) ∧ w.cell? ⟨b, 5, none⟩ = some (x5) ∧ w.cell? ⟨b, 6, none⟩ = some (x6) ∧ w.cell? ⟨b, 7, none⟩ = some (x7) ∧ w.cell? ⟨b, 8, none⟩ = some (x8) :=
  ⟨by rw [cell_of_row w b 0 _ T (0, 0) h]; rfl, by rw [cell_of_row w b 1 _ T (0, 0) h]; rfl, by rw [cell_of_row w b 2 _ T (0, 0) h]; rfl, by rw [cell_of_row w b 3 _ T (0, 0) h]; rfl, by rw [cell_of_row w b 4 _ T (0, 0) h]; rfl, by rw [cell_of_row w b 5 _ T (0, 0) h]; rfl, by rw [cell_of_row w b 6 _ T (0, 0) h]; rfl, by rw [cell_of_row w b 7 _ T (0, 0) h]; rfl, by rw [cell_of_row w b 8 _ T (0, 0) h]; rfl⟩

theorem FrB.put9 {x0 x1 x2 x3 x4 x5 x6 x7 x8 : Value} (h : FrB w0 w l b (.cells #[x0, x1, x2, x3, x4, x5, x6, x7, x8] T (0, 0))) (y0 y1 y2 y3 y4 y5 y6 y7 y8 : Value) : FrB w0 ((((((((((w.setCell ⟨b, 0, none⟩ y0).setCell ⟨b, 1, none⟩ y1).setCell ⟨b, 2, none⟩ y2).setCell ⟨b, 3, none⟩ y3).setCell ⟨b, 4, none⟩ y4).setCell ⟨b, 5, none⟩ y5).setCell ⟨b, 6, none⟩ y6).setCell ⟨b, 7, none⟩ y7).setCell ⟨b, 8, none⟩ y8)) l b (.cells #[y0, y1, y2, y3, y4, y5, y6, y7, y8] T (0, 0)) :=
  by
    have h0 := h.put1 0 y0
    rw [show (#[x0, x1, x2, x3, x4, x5, x6, x7, x8] : Array Value).setIfInBounds 0 y0 = #[y0, x1, x2, x3, x4, x5, x6, x7, x8] from rfl] at h0
    have h1 := h0.put1 1 y1
    rw [show (#[y0, x1, x2, x3, x4, x5, x6, x7, x8] : Array Value).setIfInBounds 1 y1 = #[y0, y1, x2, x3, x4, x5, x6, x7, x8] from rfl] at h1
    have h2 := h1.put1 2 y2
    rw [show (#[y0, y1, x2, x3, x4, x5, x6, x7, x8] : Array Value).setIfInBounds 2 y2 = #[y0, y1, y2, x3, x4, x5, x6, x7, x8] from rfl] at h2
    have h3 := h2.put1 3 y3
    rw [show (#[y0, y1, y2, x3, x4, x5, x6, x7, x8] : Array Value).setIfInBounds 3 y3 = #[y0, y1, y2, y3, x4, x5, x6, x7, x8] from rfl] at h3
    have h4 := h3.put1 4 y4
    rw [show (#[y0, y1, y2, y3, x4, x5, x6, x7, x8] : Array Value).setIfInBounds 4 y4 = #[y0, y1, y2, y3, y4, x5, x6, x7, x8] from rfl] at h4
    have h5 := h4.put1 5 y5
    rw [show (#[y0, y1, y2, y3, y4, x5, x6, x7, x8] : Array Value).setIfInBounds 5 y5 = #[y0, y1, y2, y3, y4, y5, x6, x7, x8] from rfl] at h5
    have h6 := h5.put1 6 y6
    rw [show (#[y0, y1, y2, y3, y4, y5, x6, x7, x8] : Array Value).setIfInBounds 6 y6 = #[y0, y1, y2, y3, y4, y5, y6, x7, x8] from rfl] at h6
    have h7 := h6.put1 7 y7
    rw [show (#[y0, y1, y2, y3, y4, y5, y6, x7, x8] : Array Value).setIfInBounds 7 y7 = #[y0, y1, y2, y3, y4, y5, y6, y7, x8] from rfl] at h7
    have h8 := h7.put1 8 y8
    rw [show (#[y0, y1, y2, y3, y4, y5, y6, y7, x8] : Array Value).setIfInBounds 8 y8 = #[y0, y1, y2, y3, y4, y5, y6, y7, y8] from rfl] at h8
    exact h8

theorem FrB.set9 {x0 x1 x2 x3 x4 x5 x6 x7 x8 : Value} (h : FrB w0 w l b (.cells #[x0, x1, x2, x3, x4, x5, x6, x7, x8] T (0, 0))) (y0 y1 y2 y3 y4 y5 y6 y7 y8 : Value) : Fr w0 ((((((((((w.setCell ⟨b, 0, none⟩ y0).setCell ⟨b, 1, none⟩ y1).setCell ⟨b, 2, none⟩ y2).setCell ⟨b, 3, none⟩ y3).setCell ⟨b, 4, none⟩ y4).setCell ⟨b, 5, none⟩ y5).setCell ⟨b, 6, none⟩ y6).setCell ⟨b, 7, none⟩ y7).setCell ⟨b, 8, none⟩ y8)) l := (h.put9 y0 y1 y2 y3 y4 y5 y6 y7 y8).f

theorem FrB.mid9 {x0 x1 x2 x3 x4 x5 x6 x7 x8 : Value} (h : FrB w0 w l b (.cells #[x0, x1, x2, x3, x4, x5, x6, x7, x8] T (0, 0))) (y0 y1 y2 y3 y4 y5 y6 y7 y8 : Value) : MidB w0 l (.cells #[y0, y1, y2, y3, y4, y5, y6, y7, y8] T (0, 0)) (.pointer (some ⟨b, 0, none⟩)) ((((((((((w.setCell ⟨b, 0, none⟩ y0).setCell ⟨b, 1, none⟩ y1).setCell ⟨b, 2, none⟩ y2).setCell ⟨b, 3, none⟩ y3).setCell ⟨b, 4, none⟩ y4).setCell ⟨b, 5, none⟩ y5).setCell ⟨b, 6, none⟩ y6).setCell ⟨b, 7, none⟩ y7).setCell ⟨b, 8, none⟩ y8)) :=
  ⟨b, rfl, (h.put9 y0 y1 y2 y3 y4 y5 y6 y7 y8).f, (h.put9 y0 y1 y2 y3 y4 y5 y6 y7 y8).box, h.new⟩

end
end Go.Proofs.YtmpfgkpimjiecaaDoor
namespace Go.Proofs.YtmpfgkpimjiecaaDoor
open Go Go.RowKit Dg
section
variable {w0 w : World} {l : List (Nat × Obj)} {b : Nat} {T : TypeId}
theorem FrB.three {x0 x1 x2 : Value} (h : FrB w0 w l b (.cells #[x0, x1, x2] T (0, 0))) : (w.cell? ⟨b, 0, none⟩ = some x0 ∧ w.cell? ⟨b, 1, none⟩ = some x1 ∧ w.cell? ⟨b, 2, none⟩ = some x2) ∧ (w.frozen? ⟨b, 0, none⟩ = false ∧ w.frozen? ⟨b, 1, none⟩ = false ∧ w.frozen? ⟨b, 2, none⟩ = false) :=
  ⟨⟨h.cell 0 rfl, h.cell 1 rfl, h.cell 2 rfl⟩, ⟨frozen_of_row w b 0 _ T h.box, frozen_of_row w b 1 _ T h.box, frozen_of_row w b 2 _ T h.box⟩⟩

theorem cells_row3 {x0 x1 x2 : Value} (h : w.heap[b]? = some (.cells #[x0, x1, x2] T (0, 0))) : w.cell? ⟨b, 0, none⟩ = some x0 ∧ w.cell? ⟨b, 1, none⟩ = some x1 ∧ w.cell? ⟨b, 2, none⟩ = some x2 :=
  ⟨by rw [cell_of_row w b 0 _ T (0, 0) h]; rfl, by rw [cell_of_row w b 1 _ T (0, 0) h]; rfl, by rw [cell_of_row w b 2 _ T (0, 0) h]; rfl⟩

theorem FrB.put3 {x0 x1 x2 : Value} (h : FrB w0 w l b (.cells #[x0, x1, x2] T (0, 0))) (y0 y1 y2 : Value) : FrB w0 (((w.setCell ⟨b, 0, none⟩ y0).setCell ⟨b, 1, none⟩ y1).setCell ⟨b, 2, none⟩ y2) l b (.cells #[y0, y1, y2] T (0, 0)) := by
  have h0 := h.put1 0 y0
  rw [show (#[x0, x1, x2] : Array Value).setIfInBounds 0 y0 = #[y0, x1, x2] from rfl] at h0
  have h1 := h0.put1 1 y1
  rw [show (#[y0, x1, x2] : Array Value).setIfInBounds 1 y1 = #[y0, y1, x2] from rfl] at h1
  have h2 := h1.put1 2 y2
  rw [show (#[y0, y1, x2] : Array Value).setIfInBounds 2 y2 = #[y0, y1, y2] from rfl] at h2
  exact h2

theorem FrB.set3 {o : Obj} (h : FrB w0 w l b o) (y0 y1 y2 : Value) : Fr w0 (((w.setCell ⟨b, 0, none⟩ y0).setCell ⟨b, 1, none⟩ y1).setCell ⟨b, 2, none⟩ y2) l :=
  ((h.f.away (p := ⟨b, 0, none⟩) h.ne h.new y0).away (p := ⟨b, 1, none⟩) h.ne h.new y1).away (p := ⟨b, 2, none⟩) h.ne h.new y2

theorem FrB.mid3 {x0 x1 x2 : Value} (h : FrB w0 w l b (.cells #[x0, x1, x2] T (0, 0))) (y0 y1 y2 : Value) : MidB w0 l (.cells #[y0, y1, y2] T (0, 0)) (.pointer (some ⟨b, 0, none⟩)) (((w.setCell ⟨b, 0, none⟩ y0).setCell ⟨b, 1, none⟩ y1).setCell ⟨b, 2, none⟩ y2) :=
  ⟨b, rfl, (h.put3 y0 y1 y2).f, (h.put3 y0 y1 y2).box, h.new⟩

theorem Fr.box3 (h : Fr w0 w l) (o : Obj) (y0 y1 y2 : Value) : Fr w0 ((((w.alloc o).setCell ⟨w.heap.size, 0, none⟩ y0).setCell ⟨w.heap.size, 1, none⟩ y1).setCell ⟨w.heap.size, 2, none⟩ y2) l :=
  (((h.beside o).away (p := ⟨w.heap.size, 0, none⟩) h.ne_size h.t.size y0).away (p := ⟨w.heap.size, 1, none⟩) h.ne_size h.t.size y1).away (p := ⟨w.heap.size, 2, none⟩) h.ne_size h.t.size y2

theorem FrB.six {x0 x1 x2 x3 x4 x5 : Value} (h : FrB w0 w l b (.cells #[x0, x1, x2, x3, x4, x5] T (0, 0))) : (w.cell? ⟨b, 0, none⟩ = some x0 ∧ w.cell? ⟨b, 1, none⟩ = some x1 ∧ w.cell? ⟨b, 2, none⟩ = some x2 ∧ w.cell? ⟨b, 3, none⟩ = some x3 ∧ w.cell? ⟨b, 4, none⟩ = some x4 ∧ w.cell? ⟨b, 5, none⟩ = some x5) ∧ (w.frozen? ⟨b, 0, none⟩ = false ∧ w.frozen? ⟨b, 1, none⟩ = false ∧ w.frozen? ⟨b, 2, none⟩ = false ∧ w.frozen? ⟨b, 3, none⟩ = false ∧ w.frozen? ⟨b, 4, none⟩ = false ∧ w.frozen? ⟨b, 5, none⟩ = false) :=
  ⟨⟨h.cell 0 rfl, h.cell 1 rfl, h.cell 2 rfl, h.cell 3 rfl, h.cell 4 rfl, h.cell 5 rfl⟩, ⟨frozen_of_row w b 0 _ T h.box, frozen_of_row w b 1 _ T h.box, frozen_of_row w b 2 _ T h.box, frozen_of_row w b 3 _ T h.box, frozen_of_row w b 4 _ T h.box, frozen_of_row w b 5 _ T h.box⟩⟩

theorem cells_row6 {x0 x1 x2 x3 x4 x5 : Value} (h : w.heap[b]? = some (.cells #[x0, x1, x2, x3, x4, x5] T (0, 0))) : w.cell? ⟨b, 0, none⟩ = some x0 ∧ w.cell? ⟨b, 1, none⟩ = some x1 ∧ w.cell? ⟨b, 2, none⟩ = some x2 ∧ w.cell? ⟨b, 3, none⟩ = some x3 ∧ w.cell? ⟨b, 4, none⟩ = some x4 ∧ w.cell? ⟨b, 5, none⟩ = some x5 :=
  ⟨by rw [cell_of_row w b 0 _ T (0, 0) h]; rfl, by rw [cell_of_row w b 1 _ T (0, 0) h]; rfl, by rw [cell_of_row w b 2 _ T (0, 0) h]; rfl, by rw [cell_of_row w b 3 _ T (0, 0) h]; rfl, by rw [cell_of_row w b 4 _ T (0, 0) h]; rfl, by rw [cell_of_row w b 5 _ T (0, 0) h]; rfl⟩

theorem FrB.put6 {x0 x1 x2 x3 x4 x5 : Value} (h : FrB w0 w l b (.cells #[x0, x1, x2, x3, x4, x5] T (0, 0))) (y0 y1 y2 y3 y4 y5 : Value) : FrB w0 ((((((w.setCell ⟨b, 0, none⟩ y0).setCell ⟨b, 1, none⟩ y1).setCell ⟨b, 2, none⟩ y2).setCell ⟨b, 3, none⟩ y3).setCell ⟨b, 4, none⟩ y4).setCell ⟨b, 5, none⟩ y5) l b (.cells #[y0, y1, y2, y3, y4, y5] T (0, 0)) := by
  have h0 := h.put1 0 y0
  rw [show (#[x0, x1, x2, x3, x4, x5] : Array Value).setIfInBounds 0 y0 = #[y0, x1, x2, x3, x4, x5] from rfl] at h0
  have h1 := h0.put1 1 y1
  rw [show (#[y0, x1, x2, x3, x4, x5] : Array Value).setIfInBounds 1 y1 = #[y0, y1, x2, x3, x4, x5] from rfl] at h1
  have h2 := h1.put1 2 y2
  rw [show (#[y0, y1, x2, x3, x4, x5] : Array Value).setIfInBounds 2 y2 = #[y0, y1, y2, x3, x4, x5] from rfl] at h2
  have h3 := h2.put1 3 y3
  rw [show (#[y0, y1, y2, x3, x4, x5] : Array Value).setIfInBounds 3 y3 = #[y0, y1, y2, y3, x4, x5] from rfl] at h3
  have h4 := h3.put1 4 y4
  rw [show (#[y0, y1, y2, y3, x4, x5] : Array Value).setIfInBounds 4 y4 = #[y0, y1, y2, y3, y4, x5] from rfl] at h4
  have h5 := h4.put1 5 y5
  rw [show (#[y0, y1, y2, y3, y4, x5] : Array Value).setIfInBounds 5 y5 = #[y0, y1, y2, y3, y4, y5] from rfl] at h5
  exact h5

theorem FrB.set6 {o : Obj} (h : FrB w0 w l b o) (y0 y1 y2 y3 y4 y5 : Value) : Fr w0 ((((((w.setCell ⟨b, 0, none⟩ y0).setCell ⟨b, 1, none⟩ y1).setCell ⟨b, 2, none⟩ y2).setCell ⟨b, 3, none⟩ y3).setCell ⟨b, 4, none⟩ y4).setCell ⟨b, 5, none⟩ y5) l :=
  (((((h.f.away (p := ⟨b, 0, none⟩) h.ne h.new y0).away (p := ⟨b, 1, none⟩) h.ne h.new y1).away (p := ⟨b, 2, none⟩) h.ne h.new y2).away (p := ⟨b, 3, none⟩) h.ne h.new y3).away (p := ⟨b, 4, none⟩) h.ne h.new y4).away (p := ⟨b, 5, none⟩) h.ne h.new y5

theorem FrB.mid6 {x0 x1 x2 x3 x4 x5 : Value} (h : FrB w0 w l b (.cells #[x0, x1, x2, x3, x4, x5] T (0, 0))) (y0 y1 y2 y3 y4 y5 : Value) : MidB w0 l (.cells #[y0, y1, y2, y3, y4, y5] T (0, 0)) (.pointer (some ⟨b, 0, none⟩)) ((((((w.setCell ⟨b, 0, none⟩ y0).setCell ⟨b, 1, none⟩ y1).setCell ⟨b, 2, none⟩ y2).setCell ⟨b, 3, none⟩ y3).setCell ⟨b, 4, none⟩ y4).setCell ⟨b, 5, none⟩ y5) :=
  ⟨b, rfl, (h.put6 y0 y1 y2 y3 y4 y5).f, (h.put6 y0 y1 y2 y3 y4 y5).box, h.new⟩

theorem Fr.box6 (h : Fr w0 w l) (o : Obj) (y0 y1 y2 y3 y4 y5 : Value) : Fr w0 (((((((w.alloc o).setCell ⟨w.heap.size, 0, none⟩ y0).setCell ⟨w.heap.size, 1, none⟩ y1).setCell ⟨w.heap.size, 2, none⟩ y2).setCell ⟨w.heap.size, 3, none⟩ y3).setCell ⟨w.heap.size, 4, none⟩ y4).setCell ⟨w.heap.size, 5, none⟩ y5) l :=
  ((((((h.beside o).away (p := ⟨w.heap.size, 0, none⟩) h.ne_size h.t.size y0).away (p := ⟨w.heap.size, 1, none⟩) h.ne_size h.t.size y1).away (p := ⟨w.heap.size, 2, none⟩) h.ne_size h.t.size y2).away (p := ⟨w.heap.size, 3, none⟩) h.ne_size h.t.size y3).away (p := ⟨w.heap.size, 4, none⟩) h.ne_size h.t.size y4).away (p := ⟨w.heap.size, 5, none⟩) h.ne_size h.t.size y5

/-- A box that was laid at some time, beside those of l. -/
def MidC (w0 : World) (l : List (Nat × Obj)) (o : Obj) (s : Value) (w : World) : Prop := ∃ g : Nat, s = .pointer (some ⟨g, 0, none⟩) ∧ FrB w0 w l g o

theorem Fr.midC (h : Fr w0 w l) (o : Obj) : MidC w0 l o (.pointer (some ⟨w.heap.size, 0, none⟩)) (w.alloc o) :=
  ⟨w.heap.size, rfl, h.beside o, Below.heap_alloc_new' w o, h.ne_size, h.t.size⟩

theorem FrB.midC2 {x0 x1 : Value} (h : FrB w0 w l b (.cells #[x0, x1] T (0, 0))) (y0 y1 : Value) : MidC w0 l (.cells #[y0, y1] T (0, 0)) (.pointer (some ⟨b, 0, none⟩)) ((w.setCell ⟨b, 0, none⟩ y0).setCell ⟨b, 1, none⟩ y1) := ⟨b, rfl, h.put2 y0 y1⟩

theorem FrB.midC3 {x0 x1 x2 : Value} (h : FrB w0 w l b (.cells #[x0, x1, x2] T (0, 0))) (y0 y1 y2 : Value) : MidC w0 l (.cells #[y0, y1, y2] T (0, 0)) (.pointer (some ⟨b, 0, none⟩)) (((w.setCell ⟨b, 0, none⟩ y0).setCell ⟨b, 1, none⟩ y1).setCell ⟨b, 2, none⟩ y2) := ⟨b, rfl, h.put3 y0 y1 y2⟩

theorem FrB.midC6 {x0 x1 x2 x3 x4 x5 : Value} (h : FrB w0 w l b (.cells #[x0, x1, x2, x3, x4, x5] T (0, 0))) (y0 y1 y2 y3 y4 y5 : Value) : MidC w0 l (.cells #[y0, y1, y2, y3, y4, y5] T (0, 0)) (.pointer (some ⟨b, 0, none⟩)) ((((((w.setCell ⟨b, 0, none⟩ y0).setCell ⟨b, 1, none⟩ y1).setCell ⟨b, 2, none⟩ y2).setCell ⟨b, 3, none⟩ y3).setCell ⟨b, 4, none⟩ y4).setCell ⟨b, 5, none⟩ y5) := ⟨b, rfl, h.put6 y0 y1 y2 y3 y4 y5⟩

theorem FrB.all {o : Obj} (h : FrB w0 w l b o) : Fr w0 w (l ++ [(b, o)]) := h.f.take h.box h.new

end
end Go.Proofs.YtmpfgkpimjiecaaDoor
