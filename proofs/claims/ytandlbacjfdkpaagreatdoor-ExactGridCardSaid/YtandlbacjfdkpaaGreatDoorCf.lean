/- exact.commonFirst. -/
import Derived.Test.YtandlbacjfdkpaaGreatDoorLin
import Derived.Test.YtandlbacjfdkpaaGreatDoorNrm
namespace Go.Proofs.YtandlbacjfdkpaaGreatDoor
open Go Go.RowKit Go.Shelf Dg

attribute [local go_sem] Oper.semAt_some

/-- The first corner is a common one, the last one is not. -/
def cfB (p q r : P3) (x : T3) : Bool := isC p q r x.a && !isC p q r x.c
/-- The first such turn. -/
def cfI (a b c p q r : P3) : T3 := ((turns a b c).find? (cfB p q r)).getD ⟨a, b, c⟩

theorem Fr.putObj {w0 w : World} {l : List (Nat × Obj)} (h : Fr w0 w l) (hl : ∀ q ∈ l, q.2.isCells = true) {D : Nat} (hD : w0.heap.size ≤ D) {x : Option (List Deferred)} (hK : w.heap[D]? = some (.deferred x)) (o' : Obj) : Fr w0 (w.putObj D o') l :=
  (fr_own (fun (_ : Unit) => l) (fun _ => hl) (Nat.le_refl _)).putObj (s := ()) o' h hD hK rfl
theorem find_pre {α : Type} (f : α → Bool) (pre : List α) (x : α) (l : List α) (h : pre ++ [x] <+: l) (hp : ∀ y ∈ pre, f y = false) (hx : f x = true) : l.find? f = some x := by
  obtain ⟨t, rfl⟩ := h
  rw [List.append_assoc, List.find?_append, List.find?_eq_none.2 (fun y hy => by rw [hp y hy]; simp)]
  simp [hx]
theorem keeps9 (w : World) (n : Nat) (q0 q1 q2 q3 q4 q5 q6 q7 q8 : Value) : KeepsOthers w (((((((((w.setCell ⟨n, 0, none⟩ q0).setCell ⟨n, 1, none⟩ q1).setCell ⟨n, 2, none⟩ q2).setCell ⟨n, 3, none⟩ q3).setCell ⟨n, 4, none⟩ q4).setCell ⟨n, 5, none⟩ q5).setCell ⟨n, 6, none⟩ q6).setCell ⟨n, 7, none⟩ q7).setCell ⟨n, 8, none⟩ q8) :=
  ((((((((KeepsOthers.setCell _ _ _).trans (KeepsOthers.setCell _ _ _)).trans (KeepsOthers.setCell _ _ _)).trans (KeepsOthers.setCell _ _ _)).trans (KeepsOthers.setCell _ _ _)).trans (KeepsOthers.setCell _ _ _)).trans (KeepsOthers.setCell _ _ _)).trans (KeepsOthers.setCell _ _ _)).trans (KeepsOthers.setCell _ _ _)
theorem Fr.fro9 {w0 w : World} {l : List (Nat × Obj)} (h : Fr w0 w l) (i : Nat) {b : Nat} {vs : Array Value} {T : TypeId} (hi : l[i]? = some (b, .cells vs T (0, 0))) :
    w.frozen? ⟨b, 0, none⟩ = false ∧ w.frozen? ⟨b, 1, none⟩ = false ∧ w.frozen? ⟨b, 2, none⟩ = false ∧ w.frozen? ⟨b, 3, none⟩ = false ∧ w.frozen? ⟨b, 4, none⟩ = false ∧ w.frozen? ⟨b, 5, none⟩ = false ∧ w.frozen? ⟨b, 6, none⟩ = false ∧ w.frozen? ⟨b, 7, none⟩ = false ∧ w.frozen? ⟨b, 8, none⟩ = false :=
  ⟨h.frozen i 0 hi, h.frozen i 1 hi, h.frozen i 2 hi, h.frozen i 3 hi, h.frozen i 4 hi, h.frozen i 5 hi, h.frozen i 6 hi, h.frozen i 7 hi, h.frozen i 8 hi⟩
theorem set9 {w0 w : World} {n : Nat} {T : TypeId} {oa ob os : Obj} {p0 p1 p2 p3 p4 p5 p6 p7 p8 : Value} (h : Fr w0 w [(n, oa), (n + 1, ob), (n + 1 + 1, .cells #[p0, p1, p2, p3, p4, p5, p6, p7, p8] T (0, 0)), (n + 1 + 1 + 1, os)]) (hn : w0.heap.size ≤ n) (q0 q1 q2 q3 q4 q5 q6 q7 q8 : Value) :
    Fr w0 (((((((((w.setCell ⟨n + 1 + 1, 0, none⟩ q0).setCell ⟨n + 1 + 1, 1, none⟩ q1).setCell ⟨n + 1 + 1, 2, none⟩ q2).setCell ⟨n + 1 + 1, 3, none⟩ q3).setCell ⟨n + 1 + 1, 4, none⟩ q4).setCell ⟨n + 1 + 1, 5, none⟩ q5).setCell ⟨n + 1 + 1, 6, none⟩ q6).setCell ⟨n + 1 + 1, 7, none⟩ q7).setCell ⟨n + 1 + 1, 8, none⟩ q8) [(n, oa), (n + 1, ob), (n + 1 + 1, .cells #[q0, q1, q2, q3, q4, q5, q6, q7, q8] T (0, 0)), (n + 1 + 1 + 1, os)] := by
  have st : ∀ (W : World) (j : Nat) (vs : Array Value) (u : Value), Fr w0 W [(n, oa), (n + 1, ob), (n + 1 + 1, .cells vs T (0, 0)), (n + 1 + 1 + 1, os)] → Fr w0 (W.setCell ⟨n + 1 + 1, j, none⟩ u) [(n, oa), (n + 1, ob), (n + 1 + 1, .cells (vs.setIfInBounds j u) T (0, 0)), (n + 1 + 1 + 1, os)] := fun W j vs u g => by
    have h2 := heap_setCell_same W (n + 1 + 1) j _ T u (g.at 2 rfl)
    refine ⟨fun q hq => ?_, fun q hq => ?_, g.t.setCell (.inr (by show _ ≤ n + 1 + 1; omega)) u⟩
    · simp only [List.mem_cons, List.not_mem_nil, or_false] at hq
      rcases hq with e | e | e | e <;> rw [e]
      · exact (heap_setCell_other W ⟨n + 1 + 1, j, none⟩ n u (by simp; omega)).trans (g.at 0 rfl)
      · exact (heap_setCell_other W ⟨n + 1 + 1, j, none⟩ (n + 1) u (by simp)).trans (g.at 1 rfl)
      · exact h2
      · exact (heap_setCell_other W ⟨n + 1 + 1, j, none⟩ (n + 1 + 1 + 1) u (by simp)).trans (g.at 3 rfl)
    · simp only [List.mem_cons, List.not_mem_nil, or_false] at hq
      rcases hq with e | e | e | e <;> rw [e] <;> simp only <;> omega
  have h0 := st _ 0 _ q0 h
  simp only [List.setIfInBounds_toArray, List.set_cons_zero] at h0
  have h1 := st _ 1 _ q1 h0
  simp only [List.setIfInBounds_toArray, List.set_cons_zero, List.set_cons_succ] at h1
  have h2 := st _ 2 _ q2 h1
  simp only [List.setIfInBounds_toArray, List.set_cons_zero, List.set_cons_succ] at h2
  have h3 := st _ 3 _ q3 h2
  simp only [List.setIfInBounds_toArray, List.set_cons_zero, List.set_cons_succ] at h3
  have h4 := st _ 4 _ q4 h3
  simp only [List.setIfInBounds_toArray, List.set_cons_zero, List.set_cons_succ] at h4
  have h5 := st _ 5 _ q5 h4
  simp only [List.setIfInBounds_toArray, List.set_cons_zero, List.set_cons_succ] at h5
  have h6 := st _ 6 _ q6 h5
  simp only [List.setIfInBounds_toArray, List.set_cons_zero, List.set_cons_succ] at h6
  have h7 := st _ 7 _ q7 h6
  simp only [List.setIfInBounds_toArray, List.set_cons_zero, List.set_cons_succ] at h7
  have h8 := st _ 8 _ q8 h7
  simp only [List.setIfInBounds_toArray, List.set_cons_zero, List.set_cons_succ] at h8
  exact h8

set_option maxHeartbeats 4000000 in
set_option maxRecDepth 100000 in
theorem commonFirst (a b c p q r : P3) (ha : a.Ok) (hb : b.Ok) (hc : c.Ok) (w : World) :
    Calls Tryz.prog 46 #[.agg #[.int .i64 a.x, .int .i64 a.y, .int .i64 a.z, .int .i64 b.x, .int .i64 b.y, .int .i64 b.z, .int .i64 c.x, .int .i64 c.y, .int .i64 c.z], .agg #[.int .i64 p.x, .int .i64 p.y, .int .i64 p.z, .int .i64 q.x, .int .i64 q.y, .int .i64 q.z, .int .i64 r.x, .int .i64 r.y, .int .i64 r.z]] w fun e w' => e = .returned (.agg #[.int .i64 (cfI a b c p q r).a.x, .int .i64 (cfI a b c p q r).a.y, .int .i64 (cfI a b c p q r).a.z, .int .i64 (cfI a b c p q r).b.x, .int .i64 (cfI a b c p q r).b.y, .int .i64 (cfI a b c p q r).b.z, .int .i64 (cfI a b c p q r).c.x, .int .i64 (cfI a b c p q r).c.y, .int .i64 (cfI a b c p q r).c.z]) ∧ Tch [] w w' := by
  have F0 : Hid (Fr w (((w.alloc (.cells #[.int .i64 a.x, .int .i64 a.y, .int .i64 a.z, .int .i64 b.x, .int .i64 b.y, .int .i64 b.z, .int .i64 c.x, .int .i64 c.y, .int .i64 c.z] 33)).alloc (.cells #[.int .i64 p.x, .int .i64 p.y, .int .i64 p.z, .int .i64 q.x, .int .i64 q.y, .int .i64 q.z, .int .i64 r.x, .int .i64 r.y, .int .i64 r.z] 33)).alloc (.cells #[.int .i64 0, .int .i64 0, .int .i64 0, .int .i64 0, .int .i64 0, .int .i64 0, .int .i64 0, .int .i64 0, .int .i64 0] 33)) [(w.heap.size, .cells #[.int .i64 a.x, .int .i64 a.y, .int .i64 a.z, .int .i64 b.x, .int .i64 b.y, .int .i64 b.z, .int .i64 c.x, .int .i64 c.y, .int .i64 c.z] 33 (0, 0)), (w.heap.size + 1, .cells #[.int .i64 p.x, .int .i64 p.y, .int .i64 p.z, .int .i64 q.x, .int .i64 q.y, .int .i64 q.z, .int .i64 r.x, .int .i64 r.y, .int .i64 r.z] 33 (0, 0)), (w.heap.size + 1 + 1, .cells #[.int .i64 0, .int .i64 0, .int .i64 0, .int .i64 0, .int .i64 0, .int .i64 0, .int .i64 0, .int .i64 0, .int .i64 0] 33 (0, 0))]) := Lib.hid ((((Fr.nil w).add (.cells #[.int .i64 a.x, .int .i64 a.y, .int .i64 a.z, .int .i64 b.x, .int .i64 b.y, .int .i64 b.z, .int .i64 c.x, .int .i64 c.y, .int .i64 c.z] 33) w.heap.size rfl).add (.cells #[.int .i64 p.x, .int .i64 p.y, .int .i64 p.z, .int .i64 q.x, .int .i64 q.y, .int .i64 q.z, .int .i64 r.x, .int .i64 r.y, .int .i64 r.z] 33) (w.heap.size + 1) (by simp)).add (.cells #[.int .i64 0, .int .i64 0, .int .i64 0, .int .i64 0, .int .i64 0, .int .i64 0, .int .i64 0, .int .i64 0, .int .i64 0] 33) (w.heap.size + 1 + 1) (by simp))
  refine callsIn_wide (n := 9).1 ?_
  refine callsIn_of_wp_marks Tryz.func46 rfl trivial ?_ rfl
  simp only [Tryz.ntmps46, List.size_toArray, List.length_cons, List.length_nil, Nat.reduceAdd, Nat.reduceSub, Array.replicate_succ, Array.replicate_zero, List.push_toArray, List.append_toArray, List.nil_append, List.cons_append]
  obtain ⟨⟨t0, t1, t2⟩, ⟨t3, t4, t5⟩, t6, t7, t8⟩ := F0.out.nine 0 rfl
  gi_wp2_with (refine ⟨trivial, ?_⟩; gi_at_call 70; refine (callsIn_wide.2 (rotations a b c _)).mono ?_; rintro e w1 ⟨rfl, rfl⟩)
  obtain ⟨Z, hZ⟩ : ∃ Z, Z = (((w.alloc (.cells #[.int .i64 a.x, .int .i64 a.y, .int .i64 a.z, .int .i64 b.x, .int .i64 b.y, .int .i64 b.z, .int .i64 c.x, .int .i64 c.y, .int .i64 c.z] 33)).alloc (.cells #[.int .i64 p.x, .int .i64 p.y, .int .i64 p.z, .int .i64 q.x, .int .i64 q.y, .int .i64 q.z, .int .i64 r.x, .int .i64 r.y, .int .i64 r.z] 33)).alloc (.cells #[.int .i64 0, .int .i64 0, .int .i64 0, .int .i64 0, .int .i64 0, .int .i64 0, .int .i64 0, .int .i64 0, .int .i64 0] 33)).alloc (.cells #[.int .i64 a.x, .int .i64 a.y, .int .i64 a.z, .int .i64 b.x, .int .i64 b.y, .int .i64 b.z, .int .i64 c.x, .int .i64 c.y, .int .i64 c.z] 33) := ⟨_, rfl⟩
  have hsz : Z.heap.size = w.heap.size + 4 := by rw [hZ]; simp
  have G0 : Fr w Z [(w.heap.size, .cells #[.int .i64 a.x, .int .i64 a.y, .int .i64 a.z, .int .i64 b.x, .int .i64 b.y, .int .i64 b.z, .int .i64 c.x, .int .i64 c.y, .int .i64 c.z] 33 (0, 0)), (w.heap.size + 1, .cells #[.int .i64 p.x, .int .i64 p.y, .int .i64 p.z, .int .i64 q.x, .int .i64 q.y, .int .i64 q.z, .int .i64 r.x, .int .i64 r.y, .int .i64 r.z] 33 (0, 0)), (w.heap.size + 1 + 1, .cells #[.int .i64 0, .int .i64 0, .int .i64 0, .int .i64 0, .int .i64 0, .int .i64 0, .int .i64 0, .int .i64 0, .int .i64 0] 33 (0, 0)), (w.heap.size + 1 + 1 + 1, .cells #[.int .i64 a.x, .int .i64 a.y, .int .i64 a.z, .int .i64 b.x, .int .i64 b.y, .int .i64 b.z, .int .i64 c.x, .int .i64 c.y, .int .i64 c.z] 33 (0, 0))] := by
    have h := F0.out.add (.cells #[.int .i64 a.x, .int .i64 a.y, .int .i64 a.z, .int .i64 b.x, .int .i64 b.y, .int .i64 b.z, .int .i64 c.x, .int .i64 c.y, .int .i64 c.z] 33) (w.heap.size + 1 + 1 + 1) (by simp)
    rw [← hZ] at h
    exact h
  rw [← hZ]
  clear hZ F0 t0 t1 t2 t3 t4 t5 t6 t7 t8
  refine wpIn_rangeFunc_ownH rfl (by omega) (gf := 94) (lb := #[.pointer (some ⟨w.heap.size + 1 + 1 + 1, 0, none⟩)]) rfl trivial (enters_of Tryz.func94 (by kernel_rfl) rfl)
    (rot_stops 8 (by omega) (w.heap.size + 1 + 1 + 1) a b c ha hb hc Z (by omega) (G0.at 3 rfl)) (fun h1 h2 => h2.trans h1) (fun W l o o' hl h _ _ => World.putObj_heap_other (by omega)) (Below.refl _ _) (fun _ => rfl)
    (fun pre W => (∀ y ∈ pre, cfB p q r y.1 = false) ∧ Fr w W [(w.heap.size, .cells #[.int .i64 a.x, .int .i64 a.y, .int .i64 a.z, .int .i64 b.x, .int .i64 b.y, .int .i64 b.z, .int .i64 c.x, .int .i64 c.y, .int .i64 c.z] 33 (0, 0)), (w.heap.size + 1, .cells #[.int .i64 p.x, .int .i64 p.y, .int .i64 p.z, .int .i64 q.x, .int .i64 q.y, .int .i64 q.z, .int .i64 r.x, .int .i64 r.y, .int .i64 r.z] 33 (0, 0)), (w.heap.size + 1 + 1, .cells #[.int .i64 0, .int .i64 0, .int .i64 0, .int .i64 0, .int .i64 0, .int .i64 0, .int .i64 0, .int .i64 0, .int .i64 0] 33 (0, 0)), (w.heap.size + 1 + 1 + 1, .cells #[.int .i64 a.x, .int .i64 a.y, .int .i64 a.z, .int .i64 b.x, .int .i64 b.y, .int .i64 b.z, .int .i64 c.x, .int .i64 c.y, .int .i64 c.z] 33 (0, 0))])
    (fun cd pre W => ∃ pre0 x, (cd = .ret ∧ pre = pre0 ++ [x] ∧ (∀ y ∈ pre0, cfB p q r y.1 = false) ∧ cfB p q r x.1 = true) ∧ Fr w W [(w.heap.size, .cells #[.int .i64 a.x, .int .i64 a.y, .int .i64 a.z, .int .i64 b.x, .int .i64 b.y, .int .i64 b.z, .int .i64 c.x, .int .i64 c.y, .int .i64 c.z] 33 (0, 0)), (w.heap.size + 1, .cells #[.int .i64 p.x, .int .i64 p.y, .int .i64 p.z, .int .i64 q.x, .int .i64 q.y, .int .i64 q.z, .int .i64 r.x, .int .i64 r.y, .int .i64 r.z] 33 (0, 0)), (w.heap.size + 1 + 1, .cells #[.int .i64 x.1.a.x, .int .i64 x.1.a.y, .int .i64 x.1.a.z, .int .i64 x.1.b.x, .int .i64 x.1.b.y, .int .i64 x.1.b.z, .int .i64 x.1.c.x, .int .i64 x.1.c.y, .int .i64 x.1.c.z] 33 (0, 0)), (w.heap.size + 1 + 1 + 1, .cells #[.int .i64 a.x, .int .i64 a.y, .int .i64 a.z, .int .i64 b.x, .int .i64 b.y, .int .i64 b.z, .int .i64 c.x, .int .i64 c.y, .int .i64 c.z] 33 (0, 0))])
    (OwnFrom.and (ownFrom_pure _ _) (fr_own (fun _ => [(w.heap.size, .cells #[.int .i64 a.x, .int .i64 a.y, .int .i64 a.z, .int .i64 b.x, .int .i64 b.y, .int .i64 b.z, .int .i64 c.x, .int .i64 c.y, .int .i64 c.z] 33 (0, 0)), (w.heap.size + 1, .cells #[.int .i64 p.x, .int .i64 p.y, .int .i64 p.z, .int .i64 q.x, .int .i64 q.y, .int .i64 q.z, .int .i64 r.x, .int .i64 r.y, .int .i64 r.z] 33 (0, 0)), (w.heap.size + 1 + 1, .cells #[.int .i64 0, .int .i64 0, .int .i64 0, .int .i64 0, .int .i64 0, .int .i64 0, .int .i64 0, .int .i64 0, .int .i64 0] 33 (0, 0)), (w.heap.size + 1 + 1 + 1, .cells #[.int .i64 a.x, .int .i64 a.y, .int .i64 a.z, .int .i64 b.x, .int .i64 b.y, .int .i64 b.z, .int .i64 c.x, .int .i64 c.y, .int .i64 c.z] 33 (0, 0))]) (fun s q hq => by simp only [List.mem_cons, List.not_mem_nil, or_false] at hq; rcases hq with rfl | rfl | rfl | rfl <;> rfl) (by omega)))
    (fun cd s A B row hs hg hr => by
      obtain ⟨pre0, x, h1, h2⟩ := hs
      exact ⟨pre0, x, h1, fr_own (fun (x : TO) => [(w.heap.size, .cells #[.int .i64 a.x, .int .i64 a.y, .int .i64 a.z, .int .i64 b.x, .int .i64 b.y, .int .i64 b.z, .int .i64 c.x, .int .i64 c.y, .int .i64 c.z] 33 (0, 0)), (w.heap.size + 1, .cells #[.int .i64 p.x, .int .i64 p.y, .int .i64 p.z, .int .i64 q.x, .int .i64 q.y, .int .i64 q.z, .int .i64 r.x, .int .i64 r.y, .int .i64 r.z] 33 (0, 0)), (w.heap.size + 1 + 1, .cells #[.int .i64 x.1.a.x, .int .i64 x.1.a.y, .int .i64 x.1.a.z, .int .i64 x.1.b.x, .int .i64 x.1.b.y, .int .i64 x.1.b.z, .int .i64 x.1.c.x, .int .i64 x.1.c.y, .int .i64 x.1.c.z] 33 (0, 0)), (w.heap.size + 1 + 1 + 1, .cells #[.int .i64 a.x, .int .i64 a.y, .int .i64 a.z, .int .i64 b.x, .int .i64 b.y, .int .i64 b.z, .int .i64 c.x, .int .i64 c.y, .int .i64 c.z] 33 (0, 0))]) (fun s q hq => by simp only [List.mem_cons, List.not_mem_nil, or_false] at hq; rcases hq with rfl | rfl | rfl | rfl <;> rfl) (B := Z.heap.size) (by omega) x A B row h2 hg hr⟩)
    ⟨by simp, G0⟩
    (fun x a' W => ∃ Bx, w.heap.size + 3 < Bx ∧ W.heap[Bx]? = some (.cells #[.int .i64 x.1.a.x, .int .i64 x.1.a.y, .int .i64 x.1.a.z, .int .i64 x.1.b.x, .int .i64 x.1.b.y, .int .i64 x.1.b.z, .int .i64 x.1.c.x, .int .i64 x.1.c.y, .int .i64 x.1.c.z] 33 (0, 0)) ∧ a' = { tmps := #[.agg #[.int .i64 a.x, .int .i64 a.y, .int .i64 a.z, .int .i64 b.x, .int .i64 b.y, .int .i64 b.z, .int .i64 c.x, .int .i64 c.y, .int .i64 c.z], .agg #[.int .i64 p.x, .int .i64 p.y, .int .i64 p.z, .int .i64 q.x, .int .i64 q.y, .int .i64 q.z, .int .i64 r.x, .int .i64 r.y, .int .i64 r.z], .pointer (some ⟨w.heap.size, 0, none⟩), .pointer (some ⟨w.heap.size + 1, 0, none⟩), .pointer (some ⟨w.heap.size + 1 + 1, 0, none⟩), .pointer (some ⟨Bx, 0, none⟩), .agg #[.int .i64 a.x, .int .i64 a.y, .int .i64 a.z, .int .i64 b.x, .int .i64 b.y, .int .i64 b.z, .int .i64 c.x, .int .i64 c.y, .int .i64 c.z], .func (.func 94) #[] #[.pointer (some ⟨w.heap.size + 1 + 1 + 1, 0, none⟩)], .agg #[.int .i64 x.1.a.x, .int .i64 x.1.a.y, .int .i64 x.1.a.z, .int .i64 x.1.b.x, .int .i64 x.1.b.y, .int .i64 x.1.b.z, .int .i64 x.1.c.x, .int .i64 x.1.c.y, .int .i64 x.1.c.z], undef, undef, undef, undef, undef, undef, undef, undef, undef, undef, undef, undef, undef], defers := [] })
    (fun x a' _ X Y row hs hg hr => by
      obtain ⟨Bx, e1, e2, e3⟩ := hs
      exact ⟨Bx, e1, (hg.block Bx (Array.getElem?_eq_some_iff.1 e2).1 (fun e => by obtain ⟨_, o, ho, hc⟩ := hr Bx e.symm; rw [e2] at ho; cases ho; cases hc)).trans e2, e3⟩)
    ?assign ?body ?done ?stop
  case assign =>
    rintro l pre ⟨⟨u, v, z⟩, hu, hv, hz⟩ W K ⟨hp, hi⟩ hK
    have HI := Lib.hid hi
    have HP := Lib.hid hp
    clear hi hp
    dsimp only [encT]
    gi_wp2
    refine hK _ _ ((KeepsOthers.alloc _ _).from _) ?_ ⟨HP.out, HI.out.beside _⟩ ⟨W.heap.size, ?_, Below.heap_alloc_new' _ _, rfl⟩
    · exact Below.heap_alloc _ _ _ (HI.out.lt 3 rfl)
    · have := HI.out.lt 3 rfl; omega
  case body =>
    rintro l pre ⟨⟨u, v, z⟩, hu, hv, hz⟩ a' W hl - ⟨hp, hi⟩ ⟨Bx, hBx, bX, rfl⟩ -
    have C1 := Lib.hid (fun w1 => isCorner p q r u w1)
    have C2 := Lib.hid (fun w1 => isCorner p q r z w1)
    have HB : Hid (cfB p q r ⟨u, v, z⟩ = (isC p q r u && !isC p q r z)) := Lib.hid rfl
    have HI := Lib.hid hi
    have HX := Lib.hid bX
    have HP := Lib.hid hp
    obtain ⟨e1, he1⟩ : ∃ e1, e1 = isC p q r u := ⟨_, rfl⟩
    obtain ⟨e2, he2⟩ : ∃ e2, e2 = isC p q r z := ⟨_, rfl⟩
    rw [← he1] at C1 HB
    rw [← he2] at C2 HB
    clear hi hp he1 he2
    obtain ⟨⟨a0, a1, a2⟩, ⟨a3, a4, a5⟩, a6, a7, a8⟩ := HI.out.nine 1 rfl
    obtain ⟨x0, x1, x2, x3, x4, x5, x6, x7, x8⟩ := cells9 bX
    clear bX
    cases e1
    · gi_wp2_with (refine ⟨trivial, ?_⟩; gi_at_call 74; refine (CallsIn.inRound l (callsIn_wide.2 (C1.out _))).mono ?_; rintro e w4 ⟨rfl, hT⟩; have HT := Lib.hid hT; clear hT a0 a1 a2 a3 a4 a5 a6 a7 a8 x0 x1 x2 x3 x4 x5 x6 x7 x8)
      refine ⟨trivial, ?_⟩
      gi_wp2
      have F4 := HI.out.keep HT.out
      refine ⟨KeepsFrom.of_tch _ HT.out, (F4.at 3 rfl).trans (HI.out.at 3 rfl).symm, fun y hy => ?_, F4⟩
      rcases List.mem_append.1 hy with h | h
      · exact HP.out y h
      · rw [List.mem_singleton] at h; subst h; exact HB.out
    · cases e2
      · gi_wp2_with (refine ⟨trivial, ?_⟩; gi_at_call 74; (first | (with_reducible refine (CallsIn.inRound l (callsIn_wide.2 (C1.out _))).mono ?_; clear C1; rintro e w4 ⟨rfl, hT⟩; have F4 := Lib.hid (HI.out.keep hT); have HT := Lib.hid hT; have HX4 := Lib.hid ((hT.block Bx (Array.getElem?_eq_some_iff.1 HX.out).1 (by simp)).trans HX.out); clear hT a0 a1 a2 a3 a4 a5 a6 a7 a8 x0 x1 x2 x3 x4 x5 x6 x7 x8; obtain ⟨⟨a0, a1, a2⟩, ⟨a3, a4, a5⟩, a6, a7, a8⟩ := F4.out.nine 1 rfl; obtain ⟨x0, x1, x2, x3, x4, x5, x6, x7, x8⟩ := cells9 HX4.out) | (with_reducible refine (CallsIn.inRound l (callsIn_wide.2 (C2.out _))).mono ?_; clear C2; rintro e w5 ⟨rfl, hT⟩; have F5 := Lib.hid (F4.out.keep hT); have HT5 := Lib.hid hT; have HX5 := Lib.hid ((hT.block Bx (Array.getElem?_eq_some_iff.1 HX4.out).1 (by simp)).trans HX4.out); clear hT a0 a1 a2 a3 a4 a5 a6 a7 a8 x0 x1 x2 x3 x4 x5 x6 x7 x8; obtain ⟨f0, f1, f2, f3, f4, f5, f6, f7, f8⟩ := F5.out.fro9 2 rfl; obtain ⟨⟨r0, r1, r2⟩, ⟨r3, r4, r5⟩, r6, r7, r8⟩ := F5.out.nine 2 rfl; obtain ⟨x0, x1, x2, x3, x4, x5, x6, x7, x8⟩ := cells9 HX5.out)))
        exact ⟨((KeepsFrom.of_tch _ HT.out).trans (KeepsFrom.of_tch _ HT5.out)).trans ((keeps9 _ _ _ _ _ _ _ _ _ _ _).from _), pre, ⟨⟨u, v, z⟩, hu, hv, hz⟩, ⟨rfl, rfl, HP.out, HB.out⟩, set9 F5.out (Nat.le_refl _) _ _ _ _ _ _ _ _ _⟩
      · gi_wp2_with (refine ⟨trivial, ?_⟩; gi_at_call 74; (first | (with_reducible refine (CallsIn.inRound l (callsIn_wide.2 (C1.out _))).mono ?_; clear C1; rintro e w4 ⟨rfl, hT⟩; have F4 := Lib.hid (HI.out.keep hT); have HT := Lib.hid hT; have HX4 := Lib.hid ((hT.block Bx (Array.getElem?_eq_some_iff.1 HX.out).1 (by simp)).trans HX.out); clear hT a0 a1 a2 a3 a4 a5 a6 a7 a8 x0 x1 x2 x3 x4 x5 x6 x7 x8; obtain ⟨⟨a0, a1, a2⟩, ⟨a3, a4, a5⟩, a6, a7, a8⟩ := F4.out.nine 1 rfl; obtain ⟨x0, x1, x2, x3, x4, x5, x6, x7, x8⟩ := cells9 HX4.out) | (with_reducible refine (CallsIn.inRound l (callsIn_wide.2 (C2.out _))).mono ?_; clear C2; rintro e w5 ⟨rfl, hT⟩; have F5 := Lib.hid (F4.out.keep hT); have HT5 := Lib.hid hT; clear hT a0 a1 a2 a3 a4 a5 a6 a7 a8 x0 x1 x2 x3 x4 x5 x6 x7 x8)))
        refine ⟨(KeepsFrom.of_tch _ HT.out).trans (KeepsFrom.of_tch _ HT5.out), (F5.out.at 3 rfl).trans (HI.out.at 3 rfl).symm, fun y hy => ?_, F5.out⟩
        rcases List.mem_append.1 hy with h | h
        · exact HP.out y h
        · rw [List.mem_singleton] at h; subst h; exact HB.out
  case done =>
    rintro D ys W hD hys ⟨hp, hi⟩ hK
    have HI := Lib.hid hi
    have HV : Hid (cfI a b c p q r = ⟨a, b, c⟩) := Lib.hid (by
      unfold cfI
      rw [List.find?_eq_none.2 (fun y hy => ?_)]
      · rfl
      · rw [← hys] at hy
        obtain ⟨y', hy', rfl⟩ := List.mem_map.1 hy
        rw [hp y' hy']; simp)
    have HK := Lib.hid hK
    have HD := Lib.hid hD
    clear hi hK hD hys hp
    obtain ⟨⟨a0, a1, a2⟩, ⟨a3, a4, a5⟩, a6, a7, a8⟩ := HI.out.nine 0 rfl
    obtain ⟨⟨r0, r1, r2⟩, ⟨r3, r4, r5⟩, r6, r7, r8⟩ := HI.out.nine 2 rfl
    obtain ⟨f0, f1, f2, f3, f4, f5, f6, f7, f8⟩ := HI.out.fro9 2 rfl
    gi_wp2
    have F5 := set9 HI.out (Nat.le_refl _) (.int .i64 a.x) (.int .i64 a.y) (.int .i64 a.z) (.int .i64 b.x) (.int .i64 b.y) (.int .i64 b.z) (.int .i64 c.x) (.int .i64 c.y) (.int .i64 c.z)
    have hK5 := (keeps9 W (w.heap.size + 1 + 1) (.int .i64 a.x) (.int .i64 a.y) (.int .i64 a.z) (.int .i64 b.x) (.int .i64 b.y) (.int .i64 b.z) (.int .i64 c.x) (.int .i64 c.y) (.int .i64 c.z)).same D _ HK.out rfl
    have F6 := F5.putObj (fun q hq => by simp only [List.mem_cons, List.not_mem_nil, or_false] at hq; rcases hq with rfl | rfl | rfl | rfl <;> rfl) (Nat.le_trans (by omega) HD.out) hK5 (.deferred none)
    obtain ⟨⟨r0, r1, r2⟩, ⟨r3, r4, r5⟩, r6, r7, r8⟩ := F6.nine 2 rfl
    refine ⟨by simp, .inl ⟨_, _, rfl, run_takeDeferred hK5, ?_⟩⟩
    refine ⟨.agg #[.int .i64 a.x, .int .i64 a.y, .int .i64 a.z, .int .i64 b.x, .int .i64 b.y, .int .i64 b.z, .int .i64 c.x, .int .i64 c.y, .int .i64 c.z], ?_, by rw [HV.out], F6.t⟩
    clear F5 F6 hK5
    simp [results, Tryz.results46, go_sem, r0, r1, r2, r3, r4, r5, r6, r7, r8]
  case stop =>
    rintro D cd pre W hD hpre ⟨pre0, x, ⟨rfl, rfl, hp, hx⟩, hi⟩ hK
    have HI := Lib.hid hi
    have HV : Hid (cfI a b c p q r = x.1) := Lib.hid (by
      unfold cfI
      rw [find_pre (cfB p q r) (pre0.map (·.1)) x.1 _ (by simpa using hpre) (fun y hy => by obtain ⟨y', hy', rfl⟩ := List.mem_map.1 hy; exact hp y' hy') hx]; rfl)
    have HK := Lib.hid hK
    have HD := Lib.hid hD
    clear hi hK hD hp hx hpre
    gi_wp2
    have F6 := HI.out.putObj (fun q hq => by simp only [List.mem_cons, List.not_mem_nil, or_false] at hq; rcases hq with rfl | rfl | rfl | rfl <;> rfl) (Nat.le_trans (by omega) HD.out) HK.out (.deferred none)
    obtain ⟨⟨r0, r1, r2⟩, ⟨r3, r4, r5⟩, r6, r7, r8⟩ := F6.nine 2 rfl
    refine ⟨by simp, .inl ⟨_, _, rfl, run_takeDeferred HK.out, ?_⟩⟩
    refine ⟨.agg #[.int .i64 x.1.a.x, .int .i64 x.1.a.y, .int .i64 x.1.a.z, .int .i64 x.1.b.x, .int .i64 x.1.b.y, .int .i64 x.1.b.z, .int .i64 x.1.c.x, .int .i64 x.1.c.y, .int .i64 x.1.c.z], ?_, by rw [HV.out], F6.t⟩
    clear F6
    simp [results, Tryz.results46, go_sem, r0, r1, r2, r3, r4, r5, r6, r7, r8]

end Go.Proofs.YtandlbacjfdkpaaGreatDoor
