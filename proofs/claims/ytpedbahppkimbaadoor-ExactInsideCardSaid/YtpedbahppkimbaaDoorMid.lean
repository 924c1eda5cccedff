/- A box that is laid among calls of a region that draws its order. -/
import Derived.Test.YtpedbahppkimbaaDoorMem
import Derived.Deep.DeepCutAuto
namespace Go.Proofs.YtpedbahppkimbaaDoor
open Go.RowKit Dg

/-- A box that was laid at some time holds o; the boxes of l are as they were. -/
def MidB (w0 : World) (l : List (Nat × Obj)) (o : Obj) (s : Value) (w : World) : Prop := ∃ g : Nat, s = .pointer (some ⟨g, 0, none⟩) ∧ Fr w0 w l ∧ w.heap[g]? = some o ∧ w0.heap.size ≤ g

theorem Fr.take {w0 w : World} {l : List (Nat × Obj)} {g : Nat} {o : Obj} (h : Fr w0 w l) (hr : w.heap[g]? = some o) (hn : w0.heap.size ≤ g) : Fr w0 w (l ++ [(g, o)]) := by
  refine ⟨fun p hp => ?_, fun p hp => ?_, h.t⟩
  · rcases List.mem_append.1 hp with hp | hp
    · exact h.row p hp
    · rw [List.mem_singleton] at hp; subst hp; exact hr
  · rcases List.mem_append.1 hp with hp | hp
    · exact h.new p hp
    · rw [List.mem_singleton] at hp; subst hp; exact hn

theorem Fr.front {w0 w : World} {l m : List (Nat × Obj)} (h : Fr w0 w (l ++ m)) : Fr w0 w l := ⟨fun p hp => h.row p (List.mem_append_left _ hp), fun p hp => h.new p (List.mem_append_left _ hp), h.t⟩

theorem Fr.last {w0 w : World} {l : List (Nat × Obj)} {g : Nat} {vs : Array Value} {T : TypeId} {v : Value} (h : Fr w0 w (l ++ [(g, .cells vs T (0, 0))])) (j : Nat) (hj : vs[j]? = some v) : w.cell? ⟨g, j, none⟩ = some v :=
  h.cell (b := g) (vs := vs) (T := T) l.length j (by simp) hj

theorem FrB.mid4 {w0 w : World} {l : List (Nat × Obj)} {b : Nat} {x y z u : Value} {T : TypeId} (h : FrB w0 w l b (.cells #[x, y, z, u] T (0, 0))) (x' y' z' u' : Value) :
    MidB w0 l (.cells #[x', y', z', u'] T (0, 0)) (.pointer (some ⟨b, 0, none⟩)) ((((w.setCell ⟨b, 0, none⟩ x').setCell ⟨b, 1, none⟩ y').setCell ⟨b, 2, none⟩ z').setCell ⟨b, 3, none⟩ u') :=
  ⟨b, rfl, h.set4 x' y' z' u', row_set4 h.box, h.new⟩
theorem Fr.mid {w0 w : World} {l : List (Nat × Obj)} (h : Fr w0 w l) (o : Obj) : MidB w0 l o (.pointer (some ⟨w.heap.size, 0, none⟩)) (w.alloc o) :=
  ⟨w.heap.size, rfl, h.beside o, Below.heap_alloc_new' w o, h.t.size⟩

/-- Two cells of a block, all of them, written one behind the other. -/
theorem row_set2 {w : World} {b : Nat} {x y x' y' : Value} {T : TypeId} (h : w.heap[b]? = some (.cells #[x, y] T (0, 0))) : ((w.setCell ⟨b, 0, none⟩ x').setCell ⟨b, 1, none⟩ y').heap[b]? = some (.cells #[x', y'] T (0, 0)) := by
  have h1 := heap_setCell_same w b 0 _ T x' h
  exact heap_setCell_same _ b 1 _ T y' h1
theorem FrB.mid2 {w0 w : World} {l : List (Nat × Obj)} {b : Nat} {x y : Value} {T : TypeId} (h : FrB w0 w l b (.cells #[x, y] T (0, 0))) (x' y' : Value) :
    MidB w0 l (.cells #[x', y'] T (0, 0)) (.pointer (some ⟨b, 0, none⟩)) ((w.setCell ⟨b, 0, none⟩ x').setCell ⟨b, 1, none⟩ y') :=
  ⟨b, rfl, h.set2 x' y', row_set2 h.box, h.new⟩

end Go.Proofs.YtpedbahppkimbaaDoor
