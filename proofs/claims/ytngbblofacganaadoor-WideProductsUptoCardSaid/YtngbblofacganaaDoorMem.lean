/- Memory: a window of numbers in a block, and which blocks a step may have touched. -/
import Derived.Test.YtngbblofacganaaDoorSmall
namespace Go.Proofs.YtngbblofacganaaDoor
open Go.RowKit

/-- Numbers as values of an integer kind. -/
def ints (k : IntKind) (xs : List Nat) : List Value := xs.map fun x : Nat => Value.int k (x : Int)

theorem ints_length (k : IntKind) (xs : List Nat) : (ints k xs).length = xs.length := by simp [ints]
theorem ints_append (k : IntKind) (xs ys : List Nat) : ints k (xs ++ ys) = ints k xs ++ ints k ys := by simp [ints]
theorem ints_take (k : IntKind) (xs : List Nat) (n : Nat) : (ints k xs).take n = ints k (xs.take n) := by simp [ints]
theorem ints_drop (k : IntKind) (xs : List Nat) (n : Nat) : (ints k xs).drop n = ints k (xs.drop n) := by simp [ints]
theorem ints_get (k : IntKind) (xs : List Nat) (j : Nat) (h : j < xs.length) : (ints k xs)[j]? = some (.int k ((xs.getD j 0 : Nat) : Int)) := by
  simp [ints, List.getElem?_eq_getElem h, List.getD]

/-- Block g holds pre, then the numbers xs (from offset o on), then post; none of it is frozen. -/
def Win (w : World) (T : TypeId) (k : IntKind) (g o : Nat) (pre : List Value) (xs : List Nat) (post : List Value) : Prop :=
  w.heap[g]? = some (.cells (pre ++ (ints k xs ++ post)).toArray T (0, 0)) ∧ pre.length = o

/-- Nothing but the blocks of S, and new blocks, may differ. -/
structure Tch (S : List Nat) (w w' : World) : Prop where
  os : w'.os = w.os
  tape : w'.tape = w.tape
  output : w'.output = w.output
  size : w.heap.size ≤ w'.heap.size
  block : ∀ k, k < w.heap.size → k ∉ S → w'.heap[k]? = w.heap[k]?

theorem Tch.refl (S : List Nat) (w : World) : Tch S w w := ⟨rfl, rfl, rfl, Nat.le_refl _, fun _ _ _ => rfl⟩

/-- Two steps; what the second one touches is touched by the first one's list, or new. -/
theorem Tch.trans {S S' : List Nat} {a b c : World} (h : Tch S a b) (h' : Tch S' b c) (hs : ∀ k ∈ S', k ∈ S ∨ a.heap.size ≤ k) : Tch S a c :=
  ⟨h'.os.trans h.os, h'.tape.trans h.tape, h'.output.trans h.output, Nat.le_trans h.size h'.size, fun k hk hn =>
    (h'.block k (Nat.lt_of_lt_of_le hk h.size) (fun hm => by rcases hs k hm with h1 | h1; exact hn h1; omega)).trans (h.block k hk hn)⟩

theorem Tch.mono {S S' : List Nat} {a b : World} (h : Tch S a b) (hs : ∀ k ∈ S, k ∈ S' ∨ a.heap.size ≤ k) : Tch S' a b :=
  ⟨h.os, h.tape, h.output, h.size, fun k hk hn => h.block k hk (fun hm => by rcases hs k hm with h1 | h1; exact hn h1; omega)⟩

theorem Tch.drew {S : List Nat} {a w : World} (h : Tch S a w) : Tch S a w.drew := ⟨h.os, h.tape, h.output, h.size, h.block⟩
theorem Tch.drewN {S : List Nat} {a w : World} (h : Tch S a w) (n : Nat) : Tch S a (w.drewN n) := ⟨h.os, h.tape, h.output, h.size, h.block⟩

theorem Tch.alloc {S : List Nat} {a w : World} (h : Tch S a w) (o : Obj) : Tch S a (w.alloc o) :=
  ⟨h.os, h.tape, h.output, Nat.le_trans h.size (by simp), fun k hk hn => (Below.heap_alloc w o k (Nat.lt_of_lt_of_le hk h.size)).trans (h.block k hk hn)⟩

theorem Tch.setCell {S : List Nat} {a w : World} (h : Tch S a w) {p : Addr} (hp : p.block ∈ S ∨ a.heap.size ≤ p.block) (u : Value) : Tch S a (w.setCell p u) :=
  ⟨h.os, h.tape, h.output, Nat.le_trans h.size (by simp), fun k hk hn =>
    (heap_setCell_other w p k u (fun e => by subst e; rcases hp with hp | hp; exact hn hp; omega)).trans (h.block k hk hn)⟩

theorem Tch.grown {S : List Nat} {a w w' : World} {row : Option Nat} (h : Tch S a w) (hg : w.grownBy w' row) (hr : ∀ k, row = some k → k ∈ S ∨ a.heap.size ≤ k) : Tch S a w' :=
  ⟨hg.os.trans h.os, hg.tape.trans h.tape, hg.output.trans h.output, Nat.le_trans h.size hg.size, fun k hk hn =>
    (hg.block k (Nat.lt_of_lt_of_le hk h.size) (fun e => by rcases hr k e.symm with h1 | h1; exact hn h1; omega)).trans (h.block k hk hn)⟩

theorem Tch.below {a w : World} (h : Tch [] a w) : Below a.heap.size a w := ⟨h.os, h.tape, h.output, h.size, fun k hk => h.block k hk (by simp)⟩
theorem Tch.of_below {a w : World} (h : Below a.heap.size a w) : Tch [] a w := ⟨h.os, h.tape, h.output, h.size, fun k hk _ => h.block k hk⟩

section
variable {w w' : World} {T : TypeId} {k : IntKind} {g o : Nat} {pre post : List Value} {xs : List Nat}

theorem Win.lt (h : Win w T k g o pre xs post) : g < w.heap.size := (Array.getElem?_eq_some_iff.1 h.1).1

theorem Win.kept {S : List Nat} (h : Win w T k g o pre xs post) (ht : Tch S w w') (hn : g ∉ S) : Win w' T k g o pre xs post :=
  ⟨(ht.block g h.lt hn).trans h.1, h.2⟩

theorem Win.cell (h : Win w T k g o pre xs post) {j : Nat} (hj : j < xs.length) : w.cell? ⟨g, o + j, none⟩ = some (.int k ((xs.getD j 0 : Nat) : Int)) := by
  rw [cell_of_row w g (o + j) _ T (0, 0) h.1, ← h.2]
  rw [List.getElem?_toArray, List.getElem?_append_right (by omega), Nat.add_sub_cancel_left, List.getElem?_append_left (by rw [ints_length]; exact hj)]
  exact ints_get k xs j hj

/-- The number that is read, under a name of its own. -/
theorem Win.read (h : Win w T k g o pre xs post) {j : Nat} (hj : j < xs.length) : ∃ x : Nat, Hid (xs.getD j 0 = x) ∧ w.cell? ⟨g, o + j, none⟩ = some (.int k (x : Int)) :=
  ⟨_, Lib.hid rfl, h.cell hj⟩

theorem Win.frozen (h : Win w T k g o pre xs post) (j : Nat) : w.frozen? ⟨g, j, none⟩ = false := frozen_of_row w g j _ T h.1

theorem ints_set (k : IntKind) (xs : List Nat) (j z : Nat) : (ints k xs).set j (.int k (z : Int)) = ints k (xs.set j z) := by simp [ints, List.map_set]

theorem Win.set (h : Win w T k g o pre xs post) {j : Nat} (hj : j < xs.length) (z : Nat) : Win (w.setCell ⟨g, o + j, none⟩ (.int k (z : Int))) T k g o pre (xs.set j z) post := by
  refine ⟨?_, h.2⟩
  rw [heap_setCell_same w g (o + j) _ T _ h.1]
  congr 2
  apply Array.ext'
  rw [Array.toList_setIfInBounds]
  simp only []
  rw [← h.2, List.set_append_right _ _ (by omega), Nat.add_sub_cancel_left, List.set_append_left _ _ (by rw [ints_length]; exact hj), ints_set]

/-- The next number of a window is written. -/
theorem Win.step {ws : List Nat} {i : Nat} (h : Win w T k g o pre (ws ++ xs.drop i) post) (hw : ws.length = i) (hi : i < xs.length) (z : Nat) :
    Win (w.setCell ⟨g, o + i, none⟩ (.int k (z : Int))) T k g o pre (ws ++ [z] ++ xs.drop (i + 1)) post := by
  have := h.set (j := i) (by rw [Dg.len_app hw (by omega)]; exact hi) z
  rwa [Dg.set_app hw hi] at this

theorem Win.readApp {ws : List Nat} {i : Nat} (h : Win w T k g o pre (ws ++ xs.drop i) post) (hw : ws.length = i) (hi : i < xs.length) :
    ∃ x : Nat, Hid (xs.getD i 0 = x) ∧ w.cell? ⟨g, o + i, none⟩ = some (.int k (x : Int)) := by
  have := h.cell (j := i) (by rw [Dg.len_app hw (by omega)]; exact hi)
  rw [Dg.getD_app hw hi] at this
  exact ⟨_, Lib.hid rfl, this⟩

/-- The next number of a window is written, from its end down. -/
theorem Win.stepDn {ws : List Nat} {m : Nat} (h : Win w T k g o pre (xs.take (m + 1) ++ ws) post) (hm : m < xs.length) (z : Nat) :
    Win (w.setCell ⟨g, o + m, none⟩ (.int k (z : Int))) T k g o pre (xs.take m ++ z :: ws) post := by
  have := h.set (j := m) (by rw [List.length_append, List.length_take]; omega) z
  rwa [Dg.set_dn hm] at this

theorem Win.readDn {ws : List Nat} {m : Nat} (h : Win w T k g o pre (xs.take (m + 1) ++ ws) post) (hm : m < xs.length) :
    ∃ x : Nat, Hid (xs.getD m 0 = x) ∧ w.cell? ⟨g, o + m, none⟩ = some (.int k (x : Int)) := by
  have := h.cell (j := m) (by rw [List.length_append, List.length_take]; omega)
  rw [Dg.getD_dn hm] at this
  exact ⟨_, Lib.hid rfl, this⟩

theorem Win.drew (h : Win w T k g o pre xs post) : Win w.drew T k g o pre xs post := h
theorem Win.drewN (h : Win w T k g o pre xs post) (n : Nat) : Win (w.drewN n) T k g o pre xs post := h

theorem Win.size (h : Win w T k g o pre xs post) : w.heap[g]? = some (.cells (pre ++ (ints k xs ++ post)).toArray T (0, 0)) := h.1

/-- A part of a window is a window. -/
theorem Win.part (h : Win w T k g o pre xs post) (i n : Nat) (hin : i + n ≤ xs.length) :
    Win w T k g (o + i) (pre ++ ints k (xs.take i)) ((xs.drop i).take n) (ints k (xs.drop (i + n)) ++ post) := by
  refine ⟨?_, ?_⟩
  · rw [h.1]
    congr 3
    have e : xs = xs.take i ++ ((xs.drop i).take n ++ xs.drop (i + n)) := by
      rw [show xs.drop (i + n) = (xs.drop i).drop n by rw [List.drop_drop], List.take_append_drop, List.take_append_drop]
    conv => lhs; rw [e]
    simp only [ints_append, List.append_assoc]
  · rw [List.length_append, h.2, ints_length, List.length_take]; omega

/-- .. and back: what was written into the part. -/
theorem Win.whole {i : Nat} {ys zs : List Nat} (h : Win w T k g (o + i) (pre ++ ints k ys) zs (ints k xs ++ post)) (ho : pre.length = o) : Win w T k g o pre (ys ++ (zs ++ xs)) post := by
  refine ⟨?_, ho⟩
  rw [h.1]
  congr 3
  simp only [ints_append, List.append_assoc]
end

end Go.Proofs.YtngbblofacganaaDoor
