/- The boxes that a call has laid so far. -/
import Derived.Test.YtngbblofacganaaDoorBox
namespace Go.Proofs.YtngbblofacganaaDoor
open Go.RowKit Dg

/-- Since w0 only new blocks were laid; among them those of l, each with what it holds. -/
structure Fr (w0 w : World) (l : List (Nat × Obj)) : Prop where
  row : ∀ p ∈ l, w.heap[p.1]? = some p.2
  new : ∀ p ∈ l, w0.heap.size ≤ p.1
  t : Tch [] w0 w

section
variable {w0 w w' : World} {l : List (Nat × Obj)}

theorem Fr.nil (w : World) : Fr w w [] := ⟨fun _ h => by simp at h, fun _ h => by simp at h, Tch.refl [] w⟩

theorem Fr.keep (h : Fr w0 w l) (t : Tch [] w w') : Fr w0 w' l :=
  ⟨fun p hp => (t.block p.1 (Array.getElem?_eq_some_iff.1 (h.row p hp)).1 (by simp)).trans (h.row p hp), h.new, h.t.trans t (by simp)⟩

theorem Fr.add (h : Fr w0 w l) (o : Obj) (b : Nat) (hb : w.heap.size = b) : Fr w0 (w.alloc o) (l ++ [(b, o)]) := by
  subst hb
  refine ⟨fun p hp => ?_, fun p hp => ?_, h.t.alloc o⟩
  · rcases List.mem_append.1 hp with hp | hp
    · exact (Below.heap_alloc w o p.1 (Array.getElem?_eq_some_iff.1 (h.row p hp)).1).trans (h.row p hp)
    · rw [List.mem_singleton] at hp
      subst hp
      exact Below.heap_alloc_new' w o
  · rcases List.mem_append.1 hp with hp | hp
    · exact h.new p hp
    · rw [List.mem_singleton] at hp
      subst hp
      exact h.t.size

/-- A new block beside them. -/
theorem Fr.beside (h : Fr w0 w l) (o : Obj) : Fr w0 (w.alloc o) l :=
  ⟨fun p hp => (Below.heap_alloc w o p.1 (Array.getElem?_eq_some_iff.1 (h.row p hp)).1).trans (h.row p hp), h.new, h.t.alloc o⟩

theorem Tch.undrew {S : List Nat} (h : Tch S w.drew w') : Tch S w w' := ⟨h.os, h.tape, h.output, h.size, h.block⟩

theorem Fr.drew (h : Fr w0 w l) : Fr w0 w.drew l := ⟨h.row, h.new, h.t.drew⟩

theorem Fr.cell (h : Fr w0 w l) (i j : Nat) {b : Nat} {vs : Array Value} {T : TypeId} {v : Value} (hi : l[i]? = some (b, .cells vs T (0, 0))) (hj : vs[j]? = some v) : w.cell? ⟨b, j, none⟩ = some v := by
  rw [cell_of_row w b j vs T (0, 0) (h.row (b, .cells vs T (0, 0)) (List.mem_of_getElem? hi))]; exact hj

theorem Fr.frozen (h : Fr w0 w l) (i j : Nat) {b : Nat} {vs : Array Value} {T : TypeId} (hi : l[i]? = some (b, .cells vs T (0, 0))) : w.frozen? ⟨b, j, none⟩ = false :=
  frozen_of_row w b j _ T (h.row (b, .cells vs T (0, 0)) (List.mem_of_getElem? hi))

/-- Both cells of a number. -/
theorem Fr.two (h : Fr w0 w l) (i : Nat) {b : Nat} {x y : Value} {T : TypeId} (hi : l[i]? = some (b, .cells #[x, y] T (0, 0))) : w.cell? ⟨b, 0, none⟩ = some x ∧ w.cell? ⟨b, 1, none⟩ = some y := ⟨h.cell i 0 hi rfl, h.cell i 1 hi rfl⟩
theorem Fr.four (h : Fr w0 w l) (i : Nat) {b : Nat} {x y z u : Value} {T : TypeId} (hi : l[i]? = some (b, .cells #[x, y, z, u] T (0, 0))) : w.cell? ⟨b, 0, none⟩ = some x ∧ w.cell? ⟨b, 1, none⟩ = some y ∧ w.cell? ⟨b, 2, none⟩ = some z ∧ w.cell? ⟨b, 3, none⟩ = some u := ⟨h.cell i 0 hi rfl, h.cell i 1 hi rfl, h.cell i 2 hi rfl, h.cell i 3 hi rfl⟩
theorem Fr.fro2 (h : Fr w0 w l) (i : Nat) {b : Nat} {x y : Value} {T : TypeId} (hi : l[i]? = some (b, .cells #[x, y] T (0, 0))) : w.frozen? ⟨b, 0, none⟩ = false ∧ w.frozen? ⟨b, 1, none⟩ = false := ⟨h.frozen i 0 hi, h.frozen i 1 hi⟩
theorem Fr.fro4 (h : Fr w0 w l) (i : Nat) {b : Nat} {x y z u : Value} {T : TypeId} (hi : l[i]? = some (b, .cells #[x, y, z, u] T (0, 0))) : w.frozen? ⟨b, 0, none⟩ = false ∧ w.frozen? ⟨b, 1, none⟩ = false ∧ w.frozen? ⟨b, 2, none⟩ = false ∧ w.frozen? ⟨b, 3, none⟩ = false := ⟨h.frozen i 0 hi, h.frozen i 1 hi, h.frozen i 2 hi, h.frozen i 3 hi⟩

/-- A cell of a block that is none of theirs, and new, is written. -/
theorem Fr.away (h : Fr w0 w l) {p : Addr} (hp : ∀ q ∈ l, q.1 ≠ p.block) (hn : w0.heap.size ≤ p.block) (u : Value) : Fr w0 (w.setCell p u) l :=
  ⟨fun q hq => (heap_setCell_other w p q.1 u (hp q hq)).trans (h.row q hq), h.new, h.t.setCell (.inr hn) u⟩

theorem Fr.ne_size (h : Fr w0 w l) : ∀ q ∈ l, q.1 ≠ w.heap.size := fun q hq => Nat.ne_of_lt (Array.getElem?_eq_some_iff.1 (h.row q hq)).1

/-- A new box beside them, written at once. -/
theorem Fr.box2 (h : Fr w0 w l) (o : Obj) (a b : Value) : Fr w0 (((w.alloc o).setCell ⟨w.heap.size, 0, none⟩ a).setCell ⟨w.heap.size, 1, none⟩ b) l :=
  ((h.beside o).away h.ne_size h.t.size a).away h.ne_size h.t.size b
theorem Fr.box4 (h : Fr w0 w l) (o : Obj) (a b c d : Value) : Fr w0 (((((w.alloc o).setCell ⟨w.heap.size, 0, none⟩ a).setCell ⟨w.heap.size, 1, none⟩ b).setCell ⟨w.heap.size, 2, none⟩ c).setCell ⟨w.heap.size, 3, none⟩ d) l :=
  ((((h.beside o).away h.ne_size h.t.size a).away h.ne_size h.t.size b).away h.ne_size h.t.size c).away h.ne_size h.t.size d

/-- .. and a box that was laid before a call. -/
structure FrB (w0 w : World) (l : List (Nat × Obj)) (b : Nat) (o : Obj) : Prop where
  f : Fr w0 w l
  box : w.heap[b]? = some o
  ne : ∀ q ∈ l, q.1 ≠ b
  new : w0.heap.size ≤ b

theorem FrB.keep {b : Nat} {o : Obj} (h : FrB w0 w l b o) (t : Tch [] w w') : FrB w0 w' l b o :=
  ⟨h.f.keep t, (t.block b (Array.getElem?_eq_some_iff.1 h.box).1 (by simp)).trans h.box, h.ne, h.new⟩
theorem Fr.boxed (h : Fr w0 w l) (o : Obj) (t : Tch [] (w.alloc o) w') : FrB w0 w' l w.heap.size o :=
  FrB.keep (w := w.alloc o) ⟨h.beside o, Below.heap_alloc_new' w o, h.ne_size, h.t.size⟩ t

theorem Fr.boxedAt (h : Fr w0 w l) (o : Obj) (b : Nat) (hb : w.heap.size = b) (t : Tch [] (w.alloc o) w') : FrB w0 w' l b o := hb ▸ h.boxed o t

theorem FrB.cell {b : Nat} {vs : Array Value} {T : TypeId} (h : FrB w0 w l b (.cells vs T (0, 0))) (j : Nat) {v : Value} (hj : vs[j]? = some v) : w.cell? ⟨b, j, none⟩ = some v := by
  rw [cell_of_row w b j vs T (0, 0) h.box]; exact hj
theorem FrB.two {b : Nat} {x y : Value} {T : TypeId} (h : FrB w0 w l b (.cells #[x, y] T (0, 0))) : (w.cell? ⟨b, 0, none⟩ = some x ∧ w.cell? ⟨b, 1, none⟩ = some y) ∧ (w.frozen? ⟨b, 0, none⟩ = false ∧ w.frozen? ⟨b, 1, none⟩ = false) :=
  ⟨⟨h.cell 0 rfl, h.cell 1 rfl⟩, ⟨frozen_of_row w b 0 _ T h.box, frozen_of_row w b 1 _ T h.box⟩⟩
theorem FrB.four {b : Nat} {x y z u : Value} {T : TypeId} (h : FrB w0 w l b (.cells #[x, y, z, u] T (0, 0))) : (w.cell? ⟨b, 0, none⟩ = some x ∧ w.cell? ⟨b, 1, none⟩ = some y ∧ w.cell? ⟨b, 2, none⟩ = some z ∧ w.cell? ⟨b, 3, none⟩ = some u) ∧
    (w.frozen? ⟨b, 0, none⟩ = false ∧ w.frozen? ⟨b, 1, none⟩ = false ∧ w.frozen? ⟨b, 2, none⟩ = false ∧ w.frozen? ⟨b, 3, none⟩ = false) :=
  ⟨⟨h.cell 0 rfl, h.cell 1 rfl, h.cell 2 rfl, h.cell 3 rfl⟩, ⟨frozen_of_row w b 0 _ T h.box, frozen_of_row w b 1 _ T h.box, frozen_of_row w b 2 _ T h.box, frozen_of_row w b 3 _ T h.box⟩⟩
/-- Four cells of a block, all of them, written one behind the other. -/
theorem row_set4 {b : Nat} {x y z u x' y' z' u' : Value} {T : TypeId} (h : w.heap[b]? = some (.cells #[x, y, z, u] T (0, 0))) :
    ((((w.setCell ⟨b, 0, none⟩ x').setCell ⟨b, 1, none⟩ y').setCell ⟨b, 2, none⟩ z').setCell ⟨b, 3, none⟩ u').heap[b]? = some (.cells #[x', y', z', u'] T (0, 0)) := by
  have h1 := heap_setCell_same w b 0 _ T x' h
  have h2 := heap_setCell_same _ b 1 _ T y' h1
  have h3 := heap_setCell_same _ b 2 _ T z' h2
  exact heap_setCell_same _ b 3 _ T u' h3
theorem cells_row4 {b : Nat} {x y z u : Value} {T : TypeId} (h : w.heap[b]? = some (.cells #[x, y, z, u] T (0, 0))) : w.cell? ⟨b, 0, none⟩ = some x ∧ w.cell? ⟨b, 1, none⟩ = some y ∧ w.cell? ⟨b, 2, none⟩ = some z ∧ w.cell? ⟨b, 3, none⟩ = some u :=
  ⟨by rw [cell_of_row w b 0 _ T (0, 0) h]; rfl, by rw [cell_of_row w b 1 _ T (0, 0) h]; rfl, by rw [cell_of_row w b 2 _ T (0, 0) h]; rfl, by rw [cell_of_row w b 3 _ T (0, 0) h]; rfl⟩

theorem FrB.set2 {b : Nat} {o : Obj} (h : FrB w0 w l b o) (x y : Value) : Fr w0 ((w.setCell ⟨b, 0, none⟩ x).setCell ⟨b, 1, none⟩ y) l :=
  (h.f.away h.ne h.new x).away h.ne h.new y
theorem FrB.set4 {b : Nat} {o : Obj} (h : FrB w0 w l b o) (x y z u : Value) : Fr w0 ((((w.setCell ⟨b, 0, none⟩ x).setCell ⟨b, 1, none⟩ y).setCell ⟨b, 2, none⟩ z).setCell ⟨b, 3, none⟩ u) l :=
  (((h.f.away h.ne h.new x).away h.ne h.new y).away h.ne h.new z).away h.ne h.new u

/-- A box of the call's own is written: the last thing before the result. -/
theorem Fr.put (h : Fr w0 w l) (i j : Nat) {b : Nat} {o : Obj} (hi : l[i]? = some (b, o)) (u : Value) : Tch [] w0 (w.setCell ⟨b, j, none⟩ u) :=
  h.t.setCell (.inr (h.new (b, o) (List.mem_of_getElem? hi))) u
theorem Fr.fin2 (h : Fr w0 w l) (i : Nat) {b : Nat} {o : Obj} (hi : l[i]? = some (b, o)) (x y : Value) : Tch [] w0 ((w.setCell ⟨b, 0, none⟩ x).setCell ⟨b, 1, none⟩ y) :=
  (h.put i 0 hi x).setCell (.inr (h.new (b, o) (List.mem_of_getElem? hi))) y
theorem Fr.fin4 (h : Fr w0 w l) (i : Nat) {b : Nat} {o : Obj} (hi : l[i]? = some (b, o)) (x y z u : Value) : Tch [] w0 ((((w.setCell ⟨b, 0, none⟩ x).setCell ⟨b, 1, none⟩ y).setCell ⟨b, 2, none⟩ z).setCell ⟨b, 3, none⟩ u) :=
  ((h.fin2 i hi x y).setCell (.inr (h.new (b, o) (List.mem_of_getElem? hi))) z).setCell (.inr (h.new (b, o) (List.mem_of_getElem? hi))) u
end

end Go.Proofs.YtngbblofacganaaDoor
