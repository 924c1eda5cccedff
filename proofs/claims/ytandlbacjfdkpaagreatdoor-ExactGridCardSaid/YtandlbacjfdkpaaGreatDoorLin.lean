/- exact.linePierces. -/
import Derived.Test.YtandlbacjfdkpaaGreatDoorRot
import Derived.Test.YtandlbacjfdkpaaGreatDoorOri
namespace Go.Proofs.YtandlbacjfdkpaaGreatDoor
open Go Go.RowKit Go.Shelf Dg

attribute [local go_sem] Oper.semAt_some

/-- On which sides the line p q passes the edges of the turns that have come. -/
def leftOf (p q : P3) (ts : List T3) : Bool := ts.any fun t => decide (0 < (detI p q t.a t.b).sign)
def rightOf (p q : P3) (ts : List T3) : Bool := ts.any fun t => decide ((detI p q t.a t.b).sign < 0)
theorem leftOf_snoc (p q : P3) (ts : List T3) (x : T3) : leftOf p q (ts ++ [x]) = (leftOf p q ts || decide (0 < (detI p q x.a x.b).sign)) := by unfold leftOf; rw [List.any_append]; simp
theorem rightOf_snoc (p q : P3) (ts : List T3) (x : T3) : rightOf p q (ts ++ [x]) = (rightOf p q ts || decide ((detI p q x.a x.b).sign < 0)) := by unfold rightOf; rw [List.any_append]; simp
/-- A line passes through a triangle. -/
def pierceI (p q a b c : P3) : Bool := !leftOf p q (turns a b c) || !rightOf p q (turns a b c)

theorem fr_own {β : Type} {w0 : World} (l : β → List (Nat × Obj)) (hl : ∀ s, ∀ q ∈ l s, q.2.isCells = true) {B : Nat} (hB : w0.heap.size ≤ B) : OwnFrom B (fun s W => Fr w0 W (l s)) := fun s W W' row hs hg hr => by
  refine ⟨fun q hq => ?_, hs.new, ⟨hg.os.trans hs.t.os, hg.tape.trans hs.t.tape, hg.output.trans hs.t.output, Nat.le_trans hs.t.size hg.size, fun k hk hn => ?_⟩⟩
  · have h1 := hs.row q hq
    refine (hg.block q.1 (Array.getElem?_eq_some_iff.1 h1).1 (fun e => ?_)).trans h1
    obtain ⟨_, o, ho, hc⟩ := hr q.1 e.symm
    rw [h1] at ho; cases ho
    rw [hl s q hq] at hc; cases hc
  · refine (hg.block k (Nat.lt_of_lt_of_le hk hs.t.size) (fun e => ?_)).trans (hs.t.block k hk hn)
    have := (hr k e.symm).1
    omega
theorem Fr.sub {w0 w : World} {l l' : List (Nat × Obj)} (h : Fr w0 w l) (hs : ∀ q ∈ l', q ∈ l) : Fr w0 w l' := ⟨fun q hq => h.row q (hs q hq), fun q hq => h.new q (hs q hq), h.t⟩
theorem Fr.lt {w0 w : World} {l : List (Nat × Obj)} (h : Fr w0 w l) (i : Nat) {b : Nat} {o : Obj} (hi : l[i]? = some (b, o)) : b < w.heap.size := (Array.getElem?_eq_some_iff.1 (h.row (b, o) (List.mem_of_getElem? hi))).1
theorem Fr.at {w0 w : World} {l : List (Nat × Obj)} (h : Fr w0 w l) (i : Nat) {b : Nat} {o : Obj} (hi : l[i]? = some (b, o)) : w.heap[b]? = some o := h.row (b, o) (List.mem_of_getElem? hi)
theorem lin_set {w0 w : World} {n : Nat} {T : TypeId} {oa ob os : Obj} {x y : Value} (h : Fr w0 w [(n, oa), (n + 1, ob), (n + 1 + 1 + 1, .cells #[x] T (0, 0)), (n + 1 + 1 + 1 + 1, .cells #[y] T (0, 0)), (n + 1 + 1 + 1 + 1 + 1, os)]) (hn : w0.heap.size ≤ n) (x' y' : Value) :
    Fr w0 ((w.setCell ⟨n + 1 + 1 + 1, 0, none⟩ x').setCell ⟨n + 1 + 1 + 1 + 1, 0, none⟩ y') [(n, oa), (n + 1, ob), (n + 1 + 1 + 1, .cells #[x'] T (0, 0)), (n + 1 + 1 + 1 + 1, .cells #[y'] T (0, 0)), (n + 1 + 1 + 1 + 1 + 1, os)] := by
  have h1 := heap_setCell_same w (n + 1 + 1 + 1) 0 _ T x' (h.at 2 rfl)
  have h2 := (heap_setCell_other (w.setCell ⟨n + 1 + 1 + 1, 0, none⟩ x') ⟨n + 1 + 1 + 1 + 1, 0, none⟩ (n + 1 + 1 + 1) y' (by simp)).trans h1
  have h3 := (heap_setCell_other w ⟨n + 1 + 1 + 1, 0, none⟩ (n + 1 + 1 + 1 + 1) x' (by simp)).trans (h.at 3 rfl)
  have h4 := heap_setCell_same _ (n + 1 + 1 + 1 + 1) 0 _ T y' h3
  have hk : ∀ k o, k ≠ n + 1 + 1 + 1 → k ≠ n + 1 + 1 + 1 + 1 → w.heap[k]? = some o → ((w.setCell ⟨n + 1 + 1 + 1, 0, none⟩ x').setCell ⟨n + 1 + 1 + 1 + 1, 0, none⟩ y').heap[k]? = some o := fun k o e1 e2 e =>
    (heap_setCell_other _ ⟨n + 1 + 1 + 1 + 1, 0, none⟩ k y' e2).trans ((heap_setCell_other w ⟨n + 1 + 1 + 1, 0, none⟩ k x' e1).trans e)
  refine ⟨fun q hq => ?_, fun q hq => ?_, (h.t.setCell (.inr (by show _ ≤ n + 1 + 1 + 1; omega)) x').setCell (.inr (by show _ ≤ n + 1 + 1 + 1 + 1; omega)) y'⟩
  · simp only [List.mem_cons, List.not_mem_nil, or_false] at hq
    rcases hq with e | e | e | e | e <;> rw [e]
    · exact hk _ _ (by omega) (by omega) (h.at 0 rfl)
    · exact hk _ _ (by omega) (by omega) (h.at 1 rfl)
    · exact h2
    · exact h4
    · exact hk _ _ (by omega) (by omega) (h.at 4 rfl)
  · simp only [List.mem_cons, List.not_mem_nil, or_false] at hq
    rcases hq with e | e | e | e | e <;> rw [e] <;> simp only <;> omega
theorem Tch.putObj {w0 w : World} {D : Nat} {o : Obj} (hD : w0.heap.size ≤ D) (_ : w.heap[D]? = some o) (o' : Obj) (ht : Tch [] w0 w) : Tch [] w0 (w.putObj D o') :=
  ⟨ht.os, ht.tape, ht.output, by simpa using ht.size, fun k hk hn => (World.putObj_heap_other (by omega)).trans (ht.block k hk hn)⟩
theorem KeepsFrom.of_tch {W W' : World} (B : Nat) (h : Tch [] W W') : KeepsFrom B W W' := ⟨h.size, fun k o _ hk _ => (h.block k (Array.getElem?_eq_some_iff.1 hk).1 (by simp)).trans hk⟩

set_option maxHeartbeats 4000000 in
set_option maxRecDepth 100000 in
theorem linePierces (p q a b c : P3) (hp : p.Ok) (hq : q.Ok) (ha : a.Ok) (hb : b.Ok) (hc : c.Ok) (w : World) :
    Calls Tryz.prog 40 #[.agg #[.int .i64 p.x, .int .i64 p.y, .int .i64 p.z], .agg #[.int .i64 q.x, .int .i64 q.y, .int .i64 q.z], .agg #[.int .i64 a.x, .int .i64 a.y, .int .i64 a.z, .int .i64 b.x, .int .i64 b.y, .int .i64 b.z, .int .i64 c.x, .int .i64 c.y, .int .i64 c.z]] w fun e w' => e = .returned (.bool (pierceI p q a b c)) ∧ Tch [] w w' := by
  have F0 : Hid (Fr w (((((w.alloc (.cells #[.int .i64 p.x, .int .i64 p.y, .int .i64 p.z] 27)).alloc (.cells #[.int .i64 q.x, .int .i64 q.y, .int .i64 q.z] 27)).alloc (.cells #[.int .i64 a.x, .int .i64 a.y, .int .i64 a.z, .int .i64 b.x, .int .i64 b.y, .int .i64 b.z, .int .i64 c.x, .int .i64 c.y, .int .i64 c.z] 33)).alloc (.cells #[.bool false] 4)).alloc (.cells #[.bool false] 4)) [(w.heap.size, .cells #[.int .i64 p.x, .int .i64 p.y, .int .i64 p.z] 27 (0, 0)), (w.heap.size + 1, .cells #[.int .i64 q.x, .int .i64 q.y, .int .i64 q.z] 27 (0, 0)), (w.heap.size + 1 + 1, .cells #[.int .i64 a.x, .int .i64 a.y, .int .i64 a.z, .int .i64 b.x, .int .i64 b.y, .int .i64 b.z, .int .i64 c.x, .int .i64 c.y, .int .i64 c.z] 33 (0, 0)), (w.heap.size + 1 + 1 + 1, .cells #[.bool false] 4 (0, 0)), (w.heap.size + 1 + 1 + 1 + 1, .cells #[.bool false] 4 (0, 0))]) := Lib.hid ((((((Fr.nil w).add (.cells #[.int .i64 p.x, .int .i64 p.y, .int .i64 p.z] 27) w.heap.size rfl).add (.cells #[.int .i64 q.x, .int .i64 q.y, .int .i64 q.z] 27) (w.heap.size + 1) (by simp)).add (.cells #[.int .i64 a.x, .int .i64 a.y, .int .i64 a.z, .int .i64 b.x, .int .i64 b.y, .int .i64 b.z, .int .i64 c.x, .int .i64 c.y, .int .i64 c.z] 33) (w.heap.size + 1 + 1) (by simp)).add (.cells #[.bool false] 4) (w.heap.size + 1 + 1 + 1) (by simp)).add (.cells #[.bool false] 4) (w.heap.size + 1 + 1 + 1 + 1) (by simp))
  refine callsIn_wide (n := 9).1 ?_
  refine callsIn_of_wp_marks Tryz.func40 rfl trivial ?_ rfl
  simp only [Tryz.ntmps40, List.size_toArray, List.length_cons, List.length_nil, Nat.reduceAdd, Nat.reduceSub, Array.replicate_succ, Array.replicate_zero, List.push_toArray, List.append_toArray, List.nil_append, List.cons_append]
  obtain ⟨⟨t0, t1, t2⟩, ⟨t3, t4, t5⟩, t6, t7, t8⟩ := F0.out.nine 2 rfl
  gi_wp2_with (refine ⟨trivial, ?_⟩; gi_at_call 70; refine (callsIn_wide.2 (rotations a b c _)).mono ?_; rintro e w1 ⟨rfl, rfl⟩)
  obtain ⟨Z, hZ⟩ : ∃ Z, Z = (((((w.alloc (.cells #[.int .i64 p.x, .int .i64 p.y, .int .i64 p.z] 27)).alloc (.cells #[.int .i64 q.x, .int .i64 q.y, .int .i64 q.z] 27)).alloc (.cells #[.int .i64 a.x, .int .i64 a.y, .int .i64 a.z, .int .i64 b.x, .int .i64 b.y, .int .i64 b.z, .int .i64 c.x, .int .i64 c.y, .int .i64 c.z] 33)).alloc (.cells #[.bool false] 4)).alloc (.cells #[.bool false] 4)).alloc (.cells #[.int .i64 a.x, .int .i64 a.y, .int .i64 a.z, .int .i64 b.x, .int .i64 b.y, .int .i64 b.z, .int .i64 c.x, .int .i64 c.y, .int .i64 c.z] 33) := ⟨_, rfl⟩
  have hsz : Z.heap.size = w.heap.size + 6 := by rw [hZ]; simp
  have G0 : Fr w Z [(w.heap.size, .cells #[.int .i64 p.x, .int .i64 p.y, .int .i64 p.z] 27 (0, 0)), (w.heap.size + 1, .cells #[.int .i64 q.x, .int .i64 q.y, .int .i64 q.z] 27 (0, 0)), (w.heap.size + 1 + 1 + 1, .cells #[.bool (false)] 4 (0, 0)), (w.heap.size + 1 + 1 + 1 + 1, .cells #[.bool (false)] 4 (0, 0)), (w.heap.size + 1 + 1 + 1 + 1 + 1, .cells #[.int .i64 a.x, .int .i64 a.y, .int .i64 a.z, .int .i64 b.x, .int .i64 b.y, .int .i64 b.z, .int .i64 c.x, .int .i64 c.y, .int .i64 c.z] 33 (0, 0))] := by
    have h := F0.out.add (.cells #[.int .i64 a.x, .int .i64 a.y, .int .i64 a.z, .int .i64 b.x, .int .i64 b.y, .int .i64 b.z, .int .i64 c.x, .int .i64 c.y, .int .i64 c.z] 33) (w.heap.size + 1 + 1 + 1 + 1 + 1) (by simp)
    rw [← hZ] at h
    refine h.sub (fun q hq => ?_)
    simp only [List.mem_cons, List.not_mem_nil, or_false] at hq
    rcases hq with e | e | e | e | e <;> (rw [e]; simp)
  rw [← hZ]
  clear hZ F0 t0 t1 t2 t3 t4 t5 t6 t7 t8
  refine wpIn_rangeFunc_ownH rfl (by omega) (gf := 94) (lb := #[.pointer (some ⟨w.heap.size + 1 + 1 + 1 + 1 + 1, 0, none⟩)]) rfl trivial (enters_of Tryz.func94 (by kernel_rfl) rfl)
    (rot_stops 8 (by omega) (w.heap.size + 1 + 1 + 1 + 1 + 1) a b c ha hb hc Z (by omega) (G0.at 4 rfl)) (fun h1 h2 => h2.trans h1) (fun W l o o' hl h _ _ => World.putObj_heap_other (by omega)) (Below.refl _ _) (fun _ => rfl)
    (fun pre W => Fr w W [(w.heap.size, .cells #[.int .i64 p.x, .int .i64 p.y, .int .i64 p.z] 27 (0, 0)), (w.heap.size + 1, .cells #[.int .i64 q.x, .int .i64 q.y, .int .i64 q.z] 27 (0, 0)), (w.heap.size + 1 + 1 + 1, .cells #[.bool (leftOf p q (pre.map (·.1)))] 4 (0, 0)), (w.heap.size + 1 + 1 + 1 + 1, .cells #[.bool (rightOf p q (pre.map (·.1)))] 4 (0, 0)), (w.heap.size + 1 + 1 + 1 + 1 + 1, .cells #[.int .i64 a.x, .int .i64 a.y, .int .i64 a.z, .int .i64 b.x, .int .i64 b.y, .int .i64 b.z, .int .i64 c.x, .int .i64 c.y, .int .i64 c.z] 33 (0, 0))])
    (fun _ _ _ => False)
    (fr_own _ (fun s q hq => by simp only [List.mem_cons, List.not_mem_nil, or_false] at hq; rcases hq with rfl | rfl | rfl | rfl | rfl <;> rfl) (by omega))
    (fun _ _ _ _ _ h _ _ => h)
    G0
    (fun x a' W => ∃ Bx, w.heap.size + 5 < Bx ∧ W.heap[Bx]? = some (.cells #[.int .i64 x.1.a.x, .int .i64 x.1.a.y, .int .i64 x.1.a.z, .int .i64 x.1.b.x, .int .i64 x.1.b.y, .int .i64 x.1.b.z, .int .i64 x.1.c.x, .int .i64 x.1.c.y, .int .i64 x.1.c.z] 33 (0, 0)) ∧ a' = { tmps := #[.agg #[.int .i64 p.x, .int .i64 p.y, .int .i64 p.z], .agg #[.int .i64 q.x, .int .i64 q.y, .int .i64 q.z], .agg #[.int .i64 a.x, .int .i64 a.y, .int .i64 a.z, .int .i64 b.x, .int .i64 b.y, .int .i64 b.z, .int .i64 c.x, .int .i64 c.y, .int .i64 c.z], .pointer (some ⟨w.heap.size, 0, none⟩), .pointer (some ⟨w.heap.size + 1, 0, none⟩), .pointer (some ⟨w.heap.size + 1 + 1, 0, none⟩), .bool false, .pointer (some ⟨w.heap.size + 1 + 1 + 1, 0, none⟩), .pointer (some ⟨w.heap.size + 1 + 1 + 1 + 1, 0, none⟩), .pointer (some ⟨Bx, 0, none⟩), undef, .agg #[.int .i64 a.x, .int .i64 a.y, .int .i64 a.z, .int .i64 b.x, .int .i64 b.y, .int .i64 b.z, .int .i64 c.x, .int .i64 c.y, .int .i64 c.z], .func (.func 94) #[] #[.pointer (some ⟨w.heap.size + 1 + 1 + 1 + 1 + 1, 0, none⟩)], .agg #[.int .i64 x.1.a.x, .int .i64 x.1.a.y, .int .i64 x.1.a.z, .int .i64 x.1.b.x, .int .i64 x.1.b.y, .int .i64 x.1.b.z, .int .i64 x.1.c.x, .int .i64 x.1.c.y, .int .i64 x.1.c.z], undef, undef, undef, undef, undef, undef, undef, undef, undef, undef, undef, undef, undef, undef, undef, undef, undef, undef, undef, undef, undef, undef, undef], defers := [] })
    (fun x a' _ X Y row hs hg hr => by
      obtain ⟨Bx, e1, e2, e3⟩ := hs
      exact ⟨Bx, e1, (hg.block Bx (Array.getElem?_eq_some_iff.1 e2).1 (fun e => by obtain ⟨_, o, ho, hc⟩ := hr Bx e.symm; rw [e2] at ho; cases ho; cases hc)).trans e2, e3⟩)
    ?assign ?body ?done ?stop
  case assign =>
    rintro l pre ⟨⟨u, v, z⟩, hu, hv, hz⟩ W K hi hK
    have HI := Lib.hid hi
    clear hi
    dsimp only [encT]
    gi_wp2
    refine hK _ _ ((KeepsOthers.alloc _ _).from _) ?_ (HI.out.beside _) ⟨W.heap.size, ?_, Below.heap_alloc_new' _ _, rfl⟩
    · exact Below.heap_alloc _ _ _ (HI.out.lt 4 rfl)
    · have := (HI.out.lt 4 rfl); omega
  case body =>
    rintro l pre ⟨⟨u, v, z⟩, hu, hv, hz⟩ a' W hl - hi ⟨Bx, hBx, bX, rfl⟩ -
    have C1 := Lib.hid (fun w1 => Orient p q u v hp hq hu hv w1)
    have HL := Lib.hid (leftOf_snoc p q (pre.map (·.1)) ⟨u, v, z⟩)
    have HR := Lib.hid (rightOf_snoc p q (pre.map (·.1)) ⟨u, v, z⟩)
    have HI := Lib.hid hi
    have HX := Lib.hid bX
    clear hi
    obtain ⟨o, ho⟩ : ∃ o, o = (detI p q u v).sign := ⟨_, rfl⟩
    obtain ⟨bl, hbl⟩ : ∃ bl, bl = leftOf p q (pre.map (·.1)) := ⟨_, rfl⟩
    obtain ⟨br, hbr⟩ : ∃ br, br = rightOf p q (pre.map (·.1)) := ⟨_, rfl⟩
    dsimp only at HL HR
    rw [← ho] at C1 HL HR
    rw [← hbl] at HL HI
    rw [← hbr] at HR HI
    rw [show List.map (·.1) pre ++ [(⟨u, v, z⟩ : T3)] = List.map (·.1) (pre ++ [(⟨⟨u, v, z⟩, hu, hv, hz⟩ : TO)]) by simp] at HL HR
    obtain ⟨bl2, hbl2⟩ : ∃ b2, b2 = leftOf p q ((pre ++ [(⟨⟨u, v, z⟩, hu, hv, hz⟩ : TO)]).map (·.1)) := ⟨_, rfl⟩
    obtain ⟨br2, hbr2⟩ : ∃ b2, b2 = rightOf p q ((pre ++ [(⟨⟨u, v, z⟩, hu, hv, hz⟩ : TO)]).map (·.1)) := ⟨_, rfl⟩
    rw [← hbl2] at HL
    rw [← hbr2] at HR
    have HB := Lib.hid hBx
    have HE := Lib.hid (And.intro hbl2 hbr2)
    clear hbl2 hbr2 hbl hbr ho hBx
    obtain ⟨a0, a1, a2⟩ := HI.out.three 0 rfl
    obtain ⟨b0, b1, b2⟩ := HI.out.three 1 rfl
    obtain ⟨x0, x1, x2, x3, x4, x5, x6, x7, x8⟩ := cells9 HX.out
    cases bl <;> cases br
    all_goals
      gi_wp2_with (refine ⟨trivial, ?_⟩; gi_at_call 20; refine (CallsIn.inRound l (callsIn_wide.2 (C1.out _))).mono ?_; rintro e w4 ⟨rfl, hT⟩; have F4 := Lib.hid (HI.out.keep hT); have HT := Lib.hid hT; clear hT a0 a1 a2 b0 b1 b2 x0 x1 x2 x3 x4 x5 x6 x7 x8; have l0 := F4.out.cell 2 0 rfl rfl; have l1 := F4.out.frozen 2 0 rfl; have r0 := F4.out.cell 3 0 rfl rfl; have r1 := F4.out.frozen 3 0 rfl)
      have F5 := lin_set F4.out (by omega) (.bool bl2) (.bool br2)
      rw [show bl2 = _ from HL.out, show br2 = _ from HR.out] at F5
      refine ⟨(KeepsFrom.of_tch _ HT.out).trans ((KeepsOthers.setCell _ _ _).trans (KeepsOthers.setCell _ _ _) |>.from _), ?_, ?_⟩
      · exact (F5.at 4 rfl).trans (HI.out.at 4 rfl).symm
      · show Fr w _ _
        rw [← HE.out.1, ← HE.out.2, show bl2 = _ from HL.out, show br2 = _ from HR.out]
        exact F5
  case done =>
    rintro D ys W hD hys hi hK
    have hv : pierceI p q a b c = (!leftOf p q (ys.map (·.1)) || !rightOf p q (ys.map (·.1))) := by rw [hys]; rfl
    obtain ⟨bl, hbl⟩ : ∃ bl, bl = leftOf p q (ys.map (·.1)) := ⟨_, rfl⟩
    obtain ⟨br, hbr⟩ : ∃ br, br = rightOf p q (ys.map (·.1)) := ⟨_, rfl⟩
    have HI : Hid (Fr w W _) := Lib.hid hi
    rw [← hbl, ← hbr] at HI hv
    have HV := Lib.hid hv
    have HK := Lib.hid hK
    have HD := Lib.hid hD
    clear hi hK hv hbl hbr hD hys
    have l0 := HI.out.cell 2 0 rfl rfl
    have r0 := HI.out.cell 3 0 rfl rfl
    cases bl <;> cases br
    all_goals
      gi_wp2
      refine ⟨by simp, .inl ⟨_, _, rfl, run_takeDeferred HK.out, ?_⟩⟩
      exact ⟨_, results_tmp rfl _ _ _, by rw [HV.out]; rfl, Tch.putObj (Nat.le_trans (by omega) HD.out) HK.out _ HI.out.t⟩
  case stop =>
    rintro D c' pre W hD hpre h _
    exact h.elim

end Go.Proofs.YtandlbacjfdkpaaGreatDoor

/- exact.Touch, where one of the ends is not in the plane. -/
namespace Go.Proofs.YtandlbacjfdkpaaGreatDoor
open Go Go.RowKit Dg

/-- A segment of which one end at least is not in the plane of a triangle touches it. -/
def touchN (p q a b c : P3) : Bool := if (detI a b c p).sign = (detI a b c q).sign then false else pierceI p q a b c

set_option maxHeartbeats 2000000 in
set_option maxRecDepth 100000 in
theorem TouchN (p q a b c : P3) (hp : p.Ok) (hq : q.Ok) (ha : a.Ok) (hb : b.Ok) (hc : c.Ok) (hz : ¬ ((detI a b c p).sign = 0 ∧ (detI a b c q).sign = 0)) (w : World) :
    Calls Tryz.prog 14 #[.agg #[.int .i64 p.x, .int .i64 p.y, .int .i64 p.z], .agg #[.int .i64 q.x, .int .i64 q.y, .int .i64 q.z], .agg #[.int .i64 a.x, .int .i64 a.y, .int .i64 a.z, .int .i64 b.x, .int .i64 b.y, .int .i64 b.z, .int .i64 c.x, .int .i64 c.y, .int .i64 c.z]] w fun e w' => e = .returned (.bool (touchN p q a b c)) ∧ Tch [] w w' := by
  have c1 := fun w1 => Orient a b c p ha hb hc hp w1
  have c2 := fun w1 => Orient a b c q ha hb hc hq w1
  have c3 := fun w1 => linePierces p q a b c hp hq ha hb hc w1
  have hv : touchN p q a b c = if (detI a b c p).sign = (detI a b c q).sign then false else pierceI p q a b c := rfl
  obtain ⟨o, ho⟩ : ∃ o, o = touchN p q a b c := ⟨_, rfl⟩
  rw [← ho] at hv ⊢
  obtain ⟨x, hx⟩ : ∃ x, x = (detI a b c p).sign := ⟨_, rfl⟩
  obtain ⟨y, hy⟩ : ∃ y, y = (detI a b c q).sign := ⟨_, rfl⟩
  obtain ⟨t, ht⟩ : ∃ t, t = pierceI p q a b c := ⟨_, rfl⟩
  rw [← hx] at c1 hz hv
  rw [← hy] at c2 hz hv
  rw [← ht] at c3 hv
  have C1 := Lib.hid c1
  have C2 := Lib.hid c2
  have C3 := Lib.hid c3
  have HV := Lib.hid hv
  have HZ := Lib.hid hz
  clear c1 c2 c3 hv hz ho hx hy ht hp hq ha hb hc
  have F : Hid (Fr w (((w.alloc (.cells #[.int .i64 p.x, .int .i64 p.y, .int .i64 p.z] 27)).alloc (.cells #[.int .i64 q.x, .int .i64 q.y, .int .i64 q.z] 27)).alloc (.cells #[.int .i64 a.x, .int .i64 a.y, .int .i64 a.z, .int .i64 b.x, .int .i64 b.y, .int .i64 b.z, .int .i64 c.x, .int .i64 c.y, .int .i64 c.z] 33)) [(w.heap.size, .cells #[.int .i64 p.x, .int .i64 p.y, .int .i64 p.z] 27 (0, 0)), (w.heap.size + 1, .cells #[.int .i64 q.x, .int .i64 q.y, .int .i64 q.z] 27 (0, 0)), (w.heap.size + 1 + 1, .cells #[.int .i64 a.x, .int .i64 a.y, .int .i64 a.z, .int .i64 b.x, .int .i64 b.y, .int .i64 b.z, .int .i64 c.x, .int .i64 c.y, .int .i64 c.z] 33 (0, 0))]) := Lib.hid ((((Fr.nil w).add (.cells #[.int .i64 p.x, .int .i64 p.y, .int .i64 p.z] 27) w.heap.size rfl).add (.cells #[.int .i64 q.x, .int .i64 q.y, .int .i64 q.z] 27) (w.heap.size + 1) (by simp)).add (.cells #[.int .i64 a.x, .int .i64 a.y, .int .i64 a.z, .int .i64 b.x, .int .i64 b.y, .int .i64 b.z, .int .i64 c.x, .int .i64 c.y, .int .i64 c.z] 33) (w.heap.size + 1 + 1) (by simp))
  have SF := Lib.hid (fun (w4 : World) (h : Fr w w4 [(w.heap.size, .cells #[.int .i64 p.x, .int .i64 p.y, .int .i64 p.z] 27 (0, 0)), (w.heap.size + 1, .cells #[.int .i64 q.x, .int .i64 q.y, .int .i64 q.z] 27 (0, 0)), (w.heap.size + 1 + 1, .cells #[.int .i64 a.x, .int .i64 a.y, .int .i64 a.z, .int .i64 b.x, .int .i64 b.y, .int .i64 b.z, .int .i64 c.x, .int .i64 c.y, .int .i64 c.z] 33 (0, 0))]) => And.intro (h.three 0 rfl) (And.intro (h.three 1 rfl) (h.nine 2 rfl)))
  go_enter Tryz.func14, Tryz.ntmps14
  go_wp2_with fail
  go_region_held3 (fun w4 => (w4.cell? ⟨w.heap.size, 0, none⟩ = some (.int .i64 p.x) ∧ w4.cell? ⟨w.heap.size, 1, none⟩ = some (.int .i64 p.y) ∧ w4.cell? ⟨w.heap.size, 2, none⟩ = some (.int .i64 p.z)) ∧ (w4.cell? ⟨w.heap.size + 1, 0, none⟩ = some (.int .i64 q.x) ∧ w4.cell? ⟨w.heap.size + 1, 1, none⟩ = some (.int .i64 q.y) ∧ w4.cell? ⟨w.heap.size + 1, 2, none⟩ = some (.int .i64 q.z)) ∧ ((w4.cell? ⟨w.heap.size + 1 + 1, 0, none⟩ = some (.int .i64 a.x) ∧ w4.cell? ⟨w.heap.size + 1 + 1, 1, none⟩ = some (.int .i64 a.y) ∧ w4.cell? ⟨w.heap.size + 1 + 1, 2, none⟩ = some (.int .i64 a.z)) ∧ (w4.cell? ⟨w.heap.size + 1 + 1, 3, none⟩ = some (.int .i64 b.x) ∧ w4.cell? ⟨w.heap.size + 1 + 1, 4, none⟩ = some (.int .i64 b.y) ∧ w4.cell? ⟨w.heap.size + 1 + 1, 5, none⟩ = some (.int .i64 b.z)) ∧ w4.cell? ⟨w.heap.size + 1 + 1, 6, none⟩ = some (.int .i64 c.x) ∧ w4.cell? ⟨w.heap.size + 1 + 1, 7, none⟩ = some (.int .i64 c.y) ∧ w4.cell? ⟨w.heap.size + 1 + 1, 8, none⟩ = some (.int .i64 c.z))) (first | with_reducible exact SF.out _ F.out | with_reducible exact SF.out _ F.out.drew) (first
    | (go_at_call 20; (first | (with_reducible refine (C1.out _).mono ?_) | (with_reducible refine (C2.out _).mono ?_)); rintro e w4 ⟨rfl, hT⟩; (first | (with_reducible have F := Lib.hid (F.out.keep hT)) | (have F := Lib.hid (F.out.drew.keep hT))); clear hT))
  all_goals
    obtain ⟨p0, p1, p2⟩ := F.out.three 0 rfl
    obtain ⟨q0, q1, q2⟩ := F.out.three 1 rfl
    obtain ⟨⟨a0, a1, a2⟩, ⟨a3, a4, a5⟩, a6, a7, a8⟩ := F.out.nine 2 rfl
    by_cases h : x = y
    · have HV2 : Hid (o = false) := Lib.hid (by rw [HV.out, if_pos h])
      subst h
      have h0 : (x == 0) = false := beq_eq_false_iff_ne.2 (fun e => HZ.out ⟨e, e⟩)
      clear HV HZ
      go_wp2
      go_ret
      exact ⟨by rw [HV2.out]; rfl, F.out.t⟩
    · have HV2 : Hid (o = t) := Lib.hid (by rw [HV.out, if_neg h])
      have h1 : (x == y) = false := beq_eq_false_iff_ne.2 h
      have h0 : (x == 0 && y == 0) = false := by
        by_cases e : x = 0
        · by_cases e2 : y = 0
          · exact absurd ⟨e, e2⟩ HZ.out
          · rw [beq_eq_false_iff_ne.2 e2, Bool.and_false]
        · rw [beq_eq_false_iff_ne.2 e, Bool.false_and]
      by_cases hx0 : x = 0
      · have hy0 : (y == 0) = false := beq_eq_false_iff_ne.2 (fun e => HZ.out ⟨hx0, e⟩)
        subst hx0
        clear h h0 HZ HV
        go_wp2_with (go_at_call 40; refine (C3.out _).mono ?_; rintro e w5 ⟨rfl, hT⟩; have F5 := Lib.hid (F.out.keep hT); clear hT p0 p1 p2 q0 q1 q2 a0 a1 a2 a3 a4 a5 a6 a7 a8)
        go_ret
        exact ⟨by rw [HV2.out]; rfl, F5.out.t⟩
      · have hx1 : (x == 0) = false := beq_eq_false_iff_ne.2 hx0
        clear h h0 HZ HV hx0
        go_wp2_with (go_at_call 40; refine (C3.out _).mono ?_; rintro e w5 ⟨rfl, hT⟩; have F5 := Lib.hid (F.out.keep hT); clear hT p0 p1 p2 q0 q1 q2 a0 a1 a2 a3 a4 a5 a6 a7 a8)
        go_ret
        exact ⟨by rw [HV2.out]; rfl, F5.out.t⟩

end Go.Proofs.YtandlbacjfdkpaaGreatDoor
