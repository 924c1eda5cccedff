/- Boxes that lie side by side: what they hold across calls and stores. -/
import Derived.Test.YtngbblofacganaaDoorZ
namespace Go.Proofs.YtngbblofacganaaDoor
open Go.RowKit Dg

/-- From block A on lie the boxes L. -/
structure Bs (w : World) (A : Nat) (L : List Obj) : Prop where
  row : ∀ (i : Nat) (o : Obj), L[i]? = some o → w.heap[A + i]? = some o

section
variable {w w' : World} {A : Nat} {L : List Obj} {S : List Nat}

theorem Bs.kept (h : Bs w A L) (t : Tch S w w') (hS : ∀ k ∈ S, k < A ∨ A + L.length ≤ k) : Bs w' A L :=
  ⟨fun i o hi => by
    have h1 := h.row i o hi
    have hl : i < L.length := (List.getElem?_eq_some_iff.1 hi).1
    rw [t.block (A + i) (Array.getElem?_eq_some_iff.1 h1).1 (fun hk => by have := hS _ hk; omega)]
    exact h1⟩

theorem Bs.keep (h : Bs w A L) (t : Tch [] w w') : Bs w' A L := h.kept t (by simp)

theorem Bs.cell (h : Bs w A L) (i j : Nat) {vs : Array Value} {T : TypeId} {v : Value} (hi : L[i]? = some (.cells vs T (0, 0))) (hj : vs[j]? = some v) : w.cell? ⟨A + i, j, none⟩ = some v := by
  rw [cell_of_row w (A + i) j _ T (0, 0) (h.row i _ hi)]; exact hj

theorem Bs.frozen (h : Bs w A L) (i j : Nat) {vs : Array Value} {T : TypeId} (hi : L[i]? = some (.cells vs T (0, 0))) : w.frozen? ⟨A + i, j, none⟩ = false := frozen_of_row w (A + i) j _ T (h.row i _ hi)

theorem Bs.set (h : Bs w A L) (i j : Nat) {vs : Array Value} {T : TypeId} (u : Value) (hi : L[i]? = some (.cells vs T (0, 0))) : Bs (w.setCell ⟨A + i, j, none⟩ u) A (L.set i (.cells (vs.setIfInBounds j u) T (0, 0))) :=
  ⟨fun k o hk => by
    have hl : i < L.length := (List.getElem?_eq_some_iff.1 hi).1
    by_cases e : k = i
    · subst e
      rw [List.getElem?_set_self hl] at hk
      cases hk
      exact heap_setCell_same w (A + k) j _ T _ (h.row k _ hi)
    · rw [List.getElem?_set_ne (Ne.symm e)] at hk
      rw [heap_setCell_other w _ (A + k) u (by simp; omega)]
      exact h.row k o hk⟩

theorem Bs.nil (w : World) : Bs w w.heap.size [] := ⟨fun i o h => by simp at h⟩

theorem Bs.alloc (h : Bs w A L) (hz : w.heap.size = A + L.length) (o : Obj) : Bs (w.alloc o) A (L ++ [o]) :=
  ⟨fun k p hk => by
    by_cases e : k < L.length
    · rw [List.getElem?_append_left e] at hk
      rw [Below.heap_alloc w o (A + k) (by omega)]
      exact h.row k p hk
    · rw [List.getElem?_append_right (by omega)] at hk
      have e2 : k = L.length := by
        have := (List.getElem?_eq_some_iff.1 hk).1
        simp at this; omega
      subst e2
      simp at hk
      subst hk
      rw [← hz]
      exact Below.heap_alloc_new' w o⟩

theorem Bs.size (h : Bs w A L) (hL : L ≠ []) : A + L.length ≤ w.heap.size := by
  have hl : 0 < L.length := List.length_pos_iff.2 hL
  have h1 := h.row (L.length - 1) (L[L.length - 1]'(by omega)) (List.getElem?_eq_getElem (by omega))
  have := (Array.getElem?_eq_some_iff.1 h1).1
  omega

theorem Bs.drew (h : Bs w A L) : Bs w.drew A L := ⟨h.row⟩

/-- A new block beside them. -/
theorem Bs.beside (h : Bs w A L) (o : Obj) : Bs (w.alloc o) A L :=
  ⟨fun k p hk => (Below.heap_alloc w o (A + k) (Array.getElem?_eq_some_iff.1 (h.row k p hk)).1).trans (h.row k p hk)⟩
end

end Go.Proofs.YtngbblofacganaaDoor
