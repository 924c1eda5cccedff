/- exact.edgeTouches, extent, boxesApart, haveCommonPoint. -/
import Derived.Test.YtandlbacjfdkpaaGreatDoorGeo
namespace Go.Proofs.YtandlbacjfdkpaaGreatDoor
open Go Go.RowKit Go.Shelf Dg

attribute [local go_sem] Oper.semAt_some

set_option maxHeartbeats 4000000 in
set_option maxRecDepth 100000 in
theorem edgeTouches (a b c p q r : P3) (ha : a.Ok) (hb : b.Ok) (hc : c.Ok) (hp : p.Ok) (hq : q.Ok) (hr : r.Ok) (w : World) :
    Calls Tryz.prog 76 #[.agg #[.int .i64 a.x, .int .i64 a.y, .int .i64 a.z, .int .i64 b.x, .int .i64 b.y, .int .i64 b.z, .int .i64 c.x, .int .i64 c.y, .int .i64 c.z], .agg #[.int .i64 p.x, .int .i64 p.y, .int .i64 p.z, .int .i64 q.x, .int .i64 q.y, .int .i64 q.z, .int .i64 r.x, .int .i64 r.y, .int .i64 r.z]] w fun e w' => e = .returned (.bool (edgI a b c p q r)) ∧ Tch [] w w' := by
  have F0 : Hid (Fr w (((w.alloc (.cells #[.int .i64 a.x, .int .i64 a.y, .int .i64 a.z, .int .i64 b.x, .int .i64 b.y, .int .i64 b.z, .int .i64 c.x, .int .i64 c.y, .int .i64 c.z] 33)).alloc (.cells #[.int .i64 p.x, .int .i64 p.y, .int .i64 p.z, .int .i64 q.x, .int .i64 q.y, .int .i64 q.z, .int .i64 r.x, .int .i64 r.y, .int .i64 r.z] 33)).alloc (.cells #[.bool false] 4)) [(w.heap.size, .cells #[.int .i64 a.x, .int .i64 a.y, .int .i64 a.z, .int .i64 b.x, .int .i64 b.y, .int .i64 b.z, .int .i64 c.x, .int .i64 c.y, .int .i64 c.z] 33 (0, 0)), (w.heap.size + 1, .cells #[.int .i64 p.x, .int .i64 p.y, .int .i64 p.z, .int .i64 q.x, .int .i64 q.y, .int .i64 q.z, .int .i64 r.x, .int .i64 r.y, .int .i64 r.z] 33 (0, 0)), (w.heap.size + 1 + 1, .cells #[.bool false] 4 (0, 0))]) := Lib.hid ((((Fr.nil w).add (.cells #[.int .i64 a.x, .int .i64 a.y, .int .i64 a.z, .int .i64 b.x, .int .i64 b.y, .int .i64 b.z, .int .i64 c.x, .int .i64 c.y, .int .i64 c.z] 33) (w.heap.size) rfl).add (.cells #[.int .i64 p.x, .int .i64 p.y, .int .i64 p.z, .int .i64 q.x, .int .i64 q.y, .int .i64 q.z, .int .i64 r.x, .int .i64 r.y, .int .i64 r.z] 33) (w.heap.size + 1) (by simp)).add (.cells #[.bool false] 4) (w.heap.size + 1 + 1) (by simp))
  refine callsIn_wide (n := 9).1 ?_
  refine callsIn_of_wp_marks Tryz.func76 rfl trivial ?_ rfl
  simp only [Tryz.ntmps76, List.size_toArray, List.length_cons, List.length_nil, Nat.reduceAdd, Nat.reduceSub, Array.replicate_succ, Array.replicate_zero, List.push_toArray, List.append_toArray, List.nil_append, List.cons_append]
  obtain ⟨⟨t0, t1, t2⟩, ⟨t3, t4, t5⟩, t6, t7, t8⟩ := F0.out.nine 0 rfl
  gi_wp2_with (refine ⟨trivial, ?_⟩; gi_at_call 70; refine (callsIn_wide.2 (rotations a b c _)).mono ?_; rintro e w1 ⟨rfl, rfl⟩)
  obtain ⟨Z, hZ⟩ : ∃ Z, Z = (((w.alloc (.cells #[.int .i64 a.x, .int .i64 a.y, .int .i64 a.z, .int .i64 b.x, .int .i64 b.y, .int .i64 b.z, .int .i64 c.x, .int .i64 c.y, .int .i64 c.z] 33)).alloc (.cells #[.int .i64 p.x, .int .i64 p.y, .int .i64 p.z, .int .i64 q.x, .int .i64 q.y, .int .i64 q.z, .int .i64 r.x, .int .i64 r.y, .int .i64 r.z] 33)).alloc (.cells #[.bool false] 4)).alloc (.cells #[.int .i64 a.x, .int .i64 a.y, .int .i64 a.z, .int .i64 b.x, .int .i64 b.y, .int .i64 b.z, .int .i64 c.x, .int .i64 c.y, .int .i64 c.z] 33) := ⟨_, rfl⟩
  have hsz : Z.heap.size = w.heap.size + 4 := by rw [hZ]; simp
  have G0 : Fr w Z [(w.heap.size, .cells #[.int .i64 a.x, .int .i64 a.y, .int .i64 a.z, .int .i64 b.x, .int .i64 b.y, .int .i64 b.z, .int .i64 c.x, .int .i64 c.y, .int .i64 c.z] 33 (0, 0)), (w.heap.size + 1, .cells #[.int .i64 p.x, .int .i64 p.y, .int .i64 p.z, .int .i64 q.x, .int .i64 q.y, .int .i64 q.z, .int .i64 r.x, .int .i64 r.y, .int .i64 r.z] 33 (0, 0)), (w.heap.size + 1 + 1, .cells #[.bool false] 4 (0, 0)), (w.heap.size + 1 + 1 + 1, .cells #[.int .i64 a.x, .int .i64 a.y, .int .i64 a.z, .int .i64 b.x, .int .i64 b.y, .int .i64 b.z, .int .i64 c.x, .int .i64 c.y, .int .i64 c.z] 33 (0, 0))] := by
    have h := F0.out.add (.cells #[.int .i64 a.x, .int .i64 a.y, .int .i64 a.z, .int .i64 b.x, .int .i64 b.y, .int .i64 b.z, .int .i64 c.x, .int .i64 c.y, .int .i64 c.z] 33) (w.heap.size + 1 + 1 + 1) (by simp)
    rw [← hZ] at h
    exact h
  rw [← hZ]
  clear hZ F0 t0 t1 t2 t3 t4 t5 t6 t7 t8
  refine wpIn_rangeFunc_ownH rfl (by omega) (gf := 94) (lb := #[.pointer (some ⟨w.heap.size + 1 + 1 + 1, 0, none⟩)]) rfl trivial (enters_of Tryz.func94 (by kernel_rfl) rfl)
    (rot_stops 8 (by omega) (w.heap.size + 1 + 1 + 1) a b c ha hb hc Z (by omega) (G0.at 3 rfl)) (fun h1 h2 => h2.trans h1) (fun W l o o' hl h _ _ => World.putObj_heap_other (by omega)) (Below.refl _ _) (fun _ => rfl)
    (fun pre W => (∀ y ∈ pre, edgB p q r y.1 = false) ∧ Fr w W [(w.heap.size, .cells #[.int .i64 a.x, .int .i64 a.y, .int .i64 a.z, .int .i64 b.x, .int .i64 b.y, .int .i64 b.z, .int .i64 c.x, .int .i64 c.y, .int .i64 c.z] 33 (0, 0)), (w.heap.size + 1, .cells #[.int .i64 p.x, .int .i64 p.y, .int .i64 p.z, .int .i64 q.x, .int .i64 q.y, .int .i64 q.z, .int .i64 r.x, .int .i64 r.y, .int .i64 r.z] 33 (0, 0)), (w.heap.size + 1 + 1, .cells #[.bool false] 4 (0, 0)), (w.heap.size + 1 + 1 + 1, .cells #[.int .i64 a.x, .int .i64 a.y, .int .i64 a.z, .int .i64 b.x, .int .i64 b.y, .int .i64 b.z, .int .i64 c.x, .int .i64 c.y, .int .i64 c.z] 33 (0, 0))])
    (fun cd pre W => ∃ pre0 x, (cd = .ret ∧ pre = pre0 ++ [x] ∧ edgB p q r x.1 = true) ∧ Fr w W [(w.heap.size, .cells #[.int .i64 a.x, .int .i64 a.y, .int .i64 a.z, .int .i64 b.x, .int .i64 b.y, .int .i64 b.z, .int .i64 c.x, .int .i64 c.y, .int .i64 c.z] 33 (0, 0)), (w.heap.size + 1, .cells #[.int .i64 p.x, .int .i64 p.y, .int .i64 p.z, .int .i64 q.x, .int .i64 q.y, .int .i64 q.z, .int .i64 r.x, .int .i64 r.y, .int .i64 r.z] 33 (0, 0)), (w.heap.size + 1 + 1, .cells #[.bool true] 4 (0, 0)), (w.heap.size + 1 + 1 + 1, .cells #[.int .i64 a.x, .int .i64 a.y, .int .i64 a.z, .int .i64 b.x, .int .i64 b.y, .int .i64 b.z, .int .i64 c.x, .int .i64 c.y, .int .i64 c.z] 33 (0, 0))])
    (OwnFrom.and (ownFrom_pure _ _) (fr_own (fun _ => [(w.heap.size, .cells #[.int .i64 a.x, .int .i64 a.y, .int .i64 a.z, .int .i64 b.x, .int .i64 b.y, .int .i64 b.z, .int .i64 c.x, .int .i64 c.y, .int .i64 c.z] 33 (0, 0)), (w.heap.size + 1, .cells #[.int .i64 p.x, .int .i64 p.y, .int .i64 p.z, .int .i64 q.x, .int .i64 q.y, .int .i64 q.z, .int .i64 r.x, .int .i64 r.y, .int .i64 r.z] 33 (0, 0)), (w.heap.size + 1 + 1, .cells #[.bool false] 4 (0, 0)), (w.heap.size + 1 + 1 + 1, .cells #[.int .i64 a.x, .int .i64 a.y, .int .i64 a.z, .int .i64 b.x, .int .i64 b.y, .int .i64 b.z, .int .i64 c.x, .int .i64 c.y, .int .i64 c.z] 33 (0, 0))]) (fun s q hq => by simp only [List.mem_cons, List.not_mem_nil, or_false] at hq; rcases hq with rfl | rfl | rfl | rfl <;> rfl) (by omega)))
    (fun cd s A B row hs hg hr => by
      obtain ⟨pre0, x, h1, h2⟩ := hs
      exact ⟨pre0, x, h1, fr_own (fun (x : TO) => [(w.heap.size, .cells #[.int .i64 a.x, .int .i64 a.y, .int .i64 a.z, .int .i64 b.x, .int .i64 b.y, .int .i64 b.z, .int .i64 c.x, .int .i64 c.y, .int .i64 c.z] 33 (0, 0)), (w.heap.size + 1, .cells #[.int .i64 p.x, .int .i64 p.y, .int .i64 p.z, .int .i64 q.x, .int .i64 q.y, .int .i64 q.z, .int .i64 r.x, .int .i64 r.y, .int .i64 r.z] 33 (0, 0)), (w.heap.size + 1 + 1, .cells #[.bool true] 4 (0, 0)), (w.heap.size + 1 + 1 + 1, .cells #[.int .i64 a.x, .int .i64 a.y, .int .i64 a.z, .int .i64 b.x, .int .i64 b.y, .int .i64 b.z, .int .i64 c.x, .int .i64 c.y, .int .i64 c.z] 33 (0, 0))]) (fun s q hq => by simp only [List.mem_cons, List.not_mem_nil, or_false] at hq; rcases hq with rfl | rfl | rfl | rfl <;> rfl) (B := Z.heap.size) (by omega) x A B row h2 hg hr⟩)
    ⟨by simp, G0⟩
    (fun x a' W => ∃ Bx, w.heap.size + 3 < Bx ∧ W.heap[Bx]? = some (.cells #[.int .i64 x.1.a.x, .int .i64 x.1.a.y, .int .i64 x.1.a.z, .int .i64 x.1.b.x, .int .i64 x.1.b.y, .int .i64 x.1.b.z, .int .i64 x.1.c.x, .int .i64 x.1.c.y, .int .i64 x.1.c.z] 33 (0, 0)) ∧ a' = { tmps := #[.agg #[.int .i64 a.x, .int .i64 a.y, .int .i64 a.z, .int .i64 b.x, .int .i64 b.y, .int .i64 b.z, .int .i64 c.x, .int .i64 c.y, .int .i64 c.z], .agg #[.int .i64 p.x, .int .i64 p.y, .int .i64 p.z, .int .i64 q.x, .int .i64 q.y, .int .i64 q.z, .int .i64 r.x, .int .i64 r.y, .int .i64 r.z], .pointer (some ⟨w.heap.size, 0, none⟩), .pointer (some ⟨w.heap.size + 1, 0, none⟩), .pointer (some ⟨w.heap.size + 1 + 1, 0, none⟩), .pointer (some ⟨Bx, 0, none⟩), .agg #[.int .i64 a.x, .int .i64 a.y, .int .i64 a.z, .int .i64 b.x, .int .i64 b.y, .int .i64 b.z, .int .i64 c.x, .int .i64 c.y, .int .i64 c.z], .func (.func 94) #[] #[.pointer (some ⟨w.heap.size + 1 + 1 + 1, 0, none⟩)], .agg #[.int .i64 x.1.a.x, .int .i64 x.1.a.y, .int .i64 x.1.a.z, .int .i64 x.1.b.x, .int .i64 x.1.b.y, .int .i64 x.1.b.z, .int .i64 x.1.c.x, .int .i64 x.1.c.y, .int .i64 x.1.c.z], undef, undef, undef, undef, undef, undef], defers := [] })
    (fun x a' _ X Y row hs hg hr => by
      obtain ⟨Bx, e1, e2, e3⟩ := hs
      exact ⟨Bx, e1, (hg.block Bx (Array.getElem?_eq_some_iff.1 e2).1 (fun e => by obtain ⟨_, o, ho, hc⟩ := hr Bx e.symm; rw [e2] at ho; cases ho; cases hc)).trans e2, e3⟩)
    ?assign ?body ?done ?stop
  case assign =>
    rintro l pre ⟨⟨u, v, z⟩, hu, hv, hz⟩ W K ⟨hp', hi⟩ hK
    have HI := Lib.hid hi
    have HP := Lib.hid hp'
    clear hi hp'
    dsimp only [encT]
    gi_wp2
    refine hK _ _ ((KeepsOthers.alloc _ _).from _) ?_ ⟨HP.out, HI.out.beside _⟩ ⟨W.heap.size, ?_, Below.heap_alloc_new' _ _, rfl⟩
    · exact Below.heap_alloc _ _ _ (HI.out.lt 3 rfl)
    · have := HI.out.lt 3 rfl; omega
  case body =>
    rintro l pre ⟨⟨u, v, z⟩, hu, hv, hz⟩ a' W hl - ⟨hp', hi⟩ ⟨Bx, hBx, bX, rfl⟩ -
    have HI := Lib.hid hi
    have HX := Lib.hid bX
    have HP := Lib.hid hp'
    clear hi hp'
    have C1 := Lib.hid (fun w1 => Touch u v p q r hu hv hp hq hr w1)
    have HB : Hid (edgB p q r ⟨u, v, z⟩ = touchI u v p q r) := Lib.hid rfl
    obtain ⟨o, ho⟩ : ∃ o, o = touchI u v p q r := ⟨_, rfl⟩
    rw [← ho] at C1 HB
    clear ho
    obtain ⟨⟨p0, p1, p2⟩, ⟨p3, p4, p5⟩, p6, p7, p8⟩ := HI.out.nine 1 rfl
    obtain ⟨x0, x1, x2, x3, x4, x5, x6, x7, x8⟩ := cells9 bX
    clear bX
    rcases (show o = true ∨ o = false by cases o <;> simp) with rfl | rfl
    · gi_wp2_with (refine ⟨trivial, ?_⟩; gi_at_call 14; refine (CallsIn.inRound l (callsIn_wide.2 (C1.out _))).mono ?_; rintro e w4 ⟨rfl, hT⟩; have F4 := Lib.hid (HI.out.keep hT); have HT := Lib.hid hT; clear hT p0 p1 p2 p3 p4 p5 p6 p7 p8 x0 x1 x2 x3 x4 x5 x6 x7 x8; have l0 := F4.out.cell 2 0 rfl rfl; have l1 := F4.out.frozen 2 0 rfl)
      exact ⟨(KeepsFrom.of_tch _ HT.out).trans ((KeepsOthers.setCell _ _ _).from _), pre, ⟨⟨u, v, z⟩, hu, hv, hz⟩, ⟨rfl, rfl, HB.out⟩, Fr.set1 (l1 := [(w.heap.size, .cells #[.int .i64 a.x, .int .i64 a.y, .int .i64 a.z, .int .i64 b.x, .int .i64 b.y, .int .i64 b.z, .int .i64 c.x, .int .i64 c.y, .int .i64 c.z] 33 (0, 0)), (w.heap.size + 1, .cells #[.int .i64 p.x, .int .i64 p.y, .int .i64 p.z, .int .i64 q.x, .int .i64 q.y, .int .i64 q.z, .int .i64 r.x, .int .i64 r.y, .int .i64 r.z] 33 (0, 0))]) (l2 := [(w.heap.size + 1 + 1 + 1, .cells #[.int .i64 a.x, .int .i64 a.y, .int .i64 a.z, .int .i64 b.x, .int .i64 b.y, .int .i64 b.z, .int .i64 c.x, .int .i64 c.y, .int .i64 c.z] 33 (0, 0))]) F4.out (by intro q hq; simp only [List.cons_append, List.nil_append, List.mem_cons, List.not_mem_nil, or_false] at hq; rcases hq with rfl | rfl | rfl <;> simp <;> omega) (.bool true)⟩
    · gi_wp2_with (refine ⟨trivial, ?_⟩; gi_at_call 14; refine (CallsIn.inRound l (callsIn_wide.2 (C1.out _))).mono ?_; rintro e w4 ⟨rfl, hT⟩; have F4 := Lib.hid (HI.out.keep hT); have HT := Lib.hid hT; clear hT p0 p1 p2 p3 p4 p5 p6 p7 p8 x0 x1 x2 x3 x4 x5 x6 x7 x8)
      refine ⟨KeepsFrom.of_tch _ HT.out, (F4.out.at 3 rfl).trans (HI.out.at 3 rfl).symm, fun y hy => ?_, F4.out⟩
      rcases List.mem_append.1 hy with h' | h'
      · exact HP.out y h'
      · rw [List.mem_singleton] at h'; subst h'; exact HB.out
  case done =>
    rintro D ys W hD hys ⟨hp', hi⟩ hK
    have HI := Lib.hid hi
    have HN : Hid ((turns a b c).any (edgB p q r) = false) := Lib.hid (by
      rw [List.any_eq_false]
      intro y hy
      rw [← hys] at hy
      obtain ⟨y', hy', rfl⟩ := List.mem_map.1 hy
      rw [hp' y' hy']; simp)
    have HK := Lib.hid hK
    have HD := Lib.hid hD
    clear hi hK hD hys hp'
    have r0 := HI.out.cell 2 0 rfl rfl
    have f0 := HI.out.frozen 2 0 rfl
    gi_wp2
    have F5 : Fr w _ [(w.heap.size, .cells #[.int .i64 a.x, .int .i64 a.y, .int .i64 a.z, .int .i64 b.x, .int .i64 b.y, .int .i64 b.z, .int .i64 c.x, .int .i64 c.y, .int .i64 c.z] 33 (0, 0)), (w.heap.size + 1, .cells #[.int .i64 p.x, .int .i64 p.y, .int .i64 p.z, .int .i64 q.x, .int .i64 q.y, .int .i64 q.z, .int .i64 r.x, .int .i64 r.y, .int .i64 r.z] 33 (0, 0)), (w.heap.size + 1 + 1, .cells #[.bool false] 4 (0, 0)), (w.heap.size + 1 + 1 + 1, .cells #[.int .i64 a.x, .int .i64 a.y, .int .i64 a.z, .int .i64 b.x, .int .i64 b.y, .int .i64 b.z, .int .i64 c.x, .int .i64 c.y, .int .i64 c.z] 33 (0, 0))] := Fr.set1 (l1 := [(w.heap.size, .cells #[.int .i64 a.x, .int .i64 a.y, .int .i64 a.z, .int .i64 b.x, .int .i64 b.y, .int .i64 b.z, .int .i64 c.x, .int .i64 c.y, .int .i64 c.z] 33 (0, 0)), (w.heap.size + 1, .cells #[.int .i64 p.x, .int .i64 p.y, .int .i64 p.z, .int .i64 q.x, .int .i64 q.y, .int .i64 q.z, .int .i64 r.x, .int .i64 r.y, .int .i64 r.z] 33 (0, 0))]) (l2 := [(w.heap.size + 1 + 1 + 1, .cells #[.int .i64 a.x, .int .i64 a.y, .int .i64 a.z, .int .i64 b.x, .int .i64 b.y, .int .i64 b.z, .int .i64 c.x, .int .i64 c.y, .int .i64 c.z] 33 (0, 0))]) HI.out (by intro q hq; simp only [List.cons_append, List.nil_append, List.mem_cons, List.not_mem_nil, or_false] at hq; rcases hq with rfl | rfl | rfl <;> simp <;> omega) (.bool false)
    have hK5 := (KeepsOthers.setCell W ⟨w.heap.size + 1 + 1, 0, none⟩ (.bool false)).same D _ HK.out rfl
    have F6 := F5.putObj (fun q hq => by simp only [List.mem_cons, List.not_mem_nil, or_false] at hq; rcases hq with rfl | rfl | rfl | rfl <;> rfl) (Nat.le_trans (by omega) HD.out) hK5 (.deferred none)
    have r0 := F6.cell 2 0 rfl rfl
    refine ⟨by simp, .inl ⟨_, _, rfl, run_takeDeferred hK5, ?_⟩⟩
    refine ⟨.bool false, ?_, by rw [show edgI a b c p q r = false from HN.out], F6.t⟩
    clear F5 F6 hK5
    simp [results, Tryz.results76, go_sem, r0]
  case stop =>
    rintro D cd pre W hD hpre ⟨pre0, x, ⟨rfl, rfl, hx⟩, hi⟩ hK
    have HI := Lib.hid hi
    have HN : Hid ((turns a b c).any (edgB p q r) = true) := Lib.hid (by
      rw [List.any_eq_true]
      obtain ⟨t, ht⟩ := hpre
      exact ⟨x.1, by rw [← ht]; simp, hx⟩)
    have HK := Lib.hid hK
    have HD := Lib.hid hD
    clear hi hK hD hx hpre
    gi_wp2
    have F6 := HI.out.putObj (fun q hq => by simp only [List.mem_cons, List.not_mem_nil, or_false] at hq; rcases hq with rfl | rfl | rfl | rfl <;> rfl) (Nat.le_trans (by omega) HD.out) HK.out (.deferred none)
    have r0 := F6.cell 2 0 rfl rfl
    refine ⟨by simp, .inl ⟨_, _, rfl, run_takeDeferred HK.out, ?_⟩⟩
    refine ⟨.bool true, ?_, by rw [show edgI a b c p q r = true from HN.out], F6.t⟩
    clear F6
    simp [results, Tryz.results76, go_sem, r0]

set_option maxHeartbeats 4000000 in
set_option maxRecDepth 100000 in
theorem extentX (a b c : P3) (w : World) :
    Calls Tryz.prog 96 #[.agg #[.int .i64 a.x, .int .i64 a.y, .int .i64 a.z, .int .i64 b.x, .int .i64 b.y, .int .i64 b.z, .int .i64 c.x, .int .i64 c.y, .int .i64 c.z], .func (.func 91) #[] #[]] w fun e w' => e = .returned (.tuple #[.int .i64 (mn3 a.x b.x c.x), .int .i64 (mx3 a.x b.x c.x)]) ∧ Tch [] w w' := by
  have CP := Lib.hid (fun p w1 => pointX p w1)
  have HV : Hid (mn3 a.x b.x c.x = min (min a.x b.x) c.x ∧ mx3 a.x b.x c.x = max (max a.x b.x) c.x) := Lib.hid ⟨rfl, rfl⟩
  obtain ⟨u, hu⟩ : ∃ u, u = mn3 a.x b.x c.x := ⟨_, rfl⟩
  obtain ⟨v, hv⟩ : ∃ v, v = mx3 a.x b.x c.x := ⟨_, rfl⟩
  rw [← hu, ← hv] at HV ⊢
  clear hu hv
  have F : Hid (Fr w (w.alloc (.cells #[.int .i64 a.x, .int .i64 a.y, .int .i64 a.z, .int .i64 b.x, .int .i64 b.y, .int .i64 b.z, .int .i64 c.x, .int .i64 c.y, .int .i64 c.z] 33)) [(w.heap.size, .cells #[.int .i64 a.x, .int .i64 a.y, .int .i64 a.z, .int .i64 b.x, .int .i64 b.y, .int .i64 b.z, .int .i64 c.x, .int .i64 c.y, .int .i64 c.z] 33 (0, 0))]) := Lib.hid ((Fr.nil w).add (.cells #[.int .i64 a.x, .int .i64 a.y, .int .i64 a.z, .int .i64 b.x, .int .i64 b.y, .int .i64 b.z, .int .i64 c.x, .int .i64 c.y, .int .i64 c.z] 33) (w.heap.size) rfl)
  have SF := Lib.hid (fun (w4 : World) (h : Fr w w4 [(w.heap.size, .cells #[.int .i64 a.x, .int .i64 a.y, .int .i64 a.z, .int .i64 b.x, .int .i64 b.y, .int .i64 b.z, .int .i64 c.x, .int .i64 c.y, .int .i64 c.z] 33 (0, 0))]) => h.nine 0 rfl)
  go_enter Tryz.func96, Tryz.ntmps96
  go_wp2_with fail
  go_region_held3 (fun w4 => (w4.cell? ⟨w.heap.size, 0, none⟩ = some (.int .i64 a.x) ∧ w4.cell? ⟨w.heap.size, 1, none⟩ = some (.int .i64 a.y) ∧ w4.cell? ⟨w.heap.size, 2, none⟩ = some (.int .i64 a.z)) ∧ (w4.cell? ⟨w.heap.size, 3, none⟩ = some (.int .i64 b.x) ∧ w4.cell? ⟨w.heap.size, 4, none⟩ = some (.int .i64 b.y) ∧ w4.cell? ⟨w.heap.size, 5, none⟩ = some (.int .i64 b.z)) ∧ w4.cell? ⟨w.heap.size, 6, none⟩ = some (.int .i64 c.x) ∧ w4.cell? ⟨w.heap.size, 7, none⟩ = some (.int .i64 c.y) ∧ w4.cell? ⟨w.heap.size, 8, none⟩ = some (.int .i64 c.z)) (first | with_reducible exact SF.out _ F.out | with_reducible exact SF.out _ F.out.drew) (first
    | (go_at_call 91; (first | (with_reducible refine (CP.out a _).mono ?_) | (with_reducible refine (CP.out b _).mono ?_) | (with_reducible refine (CP.out c _).mono ?_)); rintro e w5 ⟨rfl, hT⟩; (first | (with_reducible have F := Lib.hid (F.out.keep hT)) | (have F := Lib.hid (F.out.drew.keep hT))); clear hT)
    | fail)
  all_goals
    go_wp2
    all_goals
      go_ret2
      obtain ⟨h1, h2⟩ := HV.out
      exact ⟨ret_two (by omega) (by omega), F.out.t⟩

set_option maxHeartbeats 4000000 in
set_option maxRecDepth 100000 in
theorem extentY (a b c : P3) (w : World) :
    Calls Tryz.prog 96 #[.agg #[.int .i64 a.x, .int .i64 a.y, .int .i64 a.z, .int .i64 b.x, .int .i64 b.y, .int .i64 b.z, .int .i64 c.x, .int .i64 c.y, .int .i64 c.z], .func (.func 92) #[] #[]] w fun e w' => e = .returned (.tuple #[.int .i64 (mn3 a.y b.y c.y), .int .i64 (mx3 a.y b.y c.y)]) ∧ Tch [] w w' := by
  have CP := Lib.hid (fun p w1 => pointY p w1)
  have HV : Hid (mn3 a.y b.y c.y = min (min a.y b.y) c.y ∧ mx3 a.y b.y c.y = max (max a.y b.y) c.y) := Lib.hid ⟨rfl, rfl⟩
  obtain ⟨u, hu⟩ : ∃ u, u = mn3 a.y b.y c.y := ⟨_, rfl⟩
  obtain ⟨v, hv⟩ : ∃ v, v = mx3 a.y b.y c.y := ⟨_, rfl⟩
  rw [← hu, ← hv] at HV ⊢
  clear hu hv
  have F : Hid (Fr w (w.alloc (.cells #[.int .i64 a.x, .int .i64 a.y, .int .i64 a.z, .int .i64 b.x, .int .i64 b.y, .int .i64 b.z, .int .i64 c.x, .int .i64 c.y, .int .i64 c.z] 33)) [(w.heap.size, .cells #[.int .i64 a.x, .int .i64 a.y, .int .i64 a.z, .int .i64 b.x, .int .i64 b.y, .int .i64 b.z, .int .i64 c.x, .int .i64 c.y, .int .i64 c.z] 33 (0, 0))]) := Lib.hid ((Fr.nil w).add (.cells #[.int .i64 a.x, .int .i64 a.y, .int .i64 a.z, .int .i64 b.x, .int .i64 b.y, .int .i64 b.z, .int .i64 c.x, .int .i64 c.y, .int .i64 c.z] 33) (w.heap.size) rfl)
  have SF := Lib.hid (fun (w4 : World) (h : Fr w w4 [(w.heap.size, .cells #[.int .i64 a.x, .int .i64 a.y, .int .i64 a.z, .int .i64 b.x, .int .i64 b.y, .int .i64 b.z, .int .i64 c.x, .int .i64 c.y, .int .i64 c.z] 33 (0, 0))]) => h.nine 0 rfl)
  go_enter Tryz.func96, Tryz.ntmps96
  go_wp2_with fail
  go_region_held3 (fun w4 => (w4.cell? ⟨w.heap.size, 0, none⟩ = some (.int .i64 a.x) ∧ w4.cell? ⟨w.heap.size, 1, none⟩ = some (.int .i64 a.y) ∧ w4.cell? ⟨w.heap.size, 2, none⟩ = some (.int .i64 a.z)) ∧ (w4.cell? ⟨w.heap.size, 3, none⟩ = some (.int .i64 b.x) ∧ w4.cell? ⟨w.heap.size, 4, none⟩ = some (.int .i64 b.y) ∧ w4.cell? ⟨w.heap.size, 5, none⟩ = some (.int .i64 b.z)) ∧ w4.cell? ⟨w.heap.size, 6, none⟩ = some (.int .i64 c.x) ∧ w4.cell? ⟨w.heap.size, 7, none⟩ = some (.int .i64 c.y) ∧ w4.cell? ⟨w.heap.size, 8, none⟩ = some (.int .i64 c.z)) (first | with_reducible exact SF.out _ F.out | with_reducible exact SF.out _ F.out.drew) (first
    | (go_at_call 92; (first | (with_reducible refine (CP.out a _).mono ?_) | (with_reducible refine (CP.out b _).mono ?_) | (with_reducible refine (CP.out c _).mono ?_)); rintro e w5 ⟨rfl, hT⟩; (first | (with_reducible have F := Lib.hid (F.out.keep hT)) | (have F := Lib.hid (F.out.drew.keep hT))); clear hT)
    | fail)
  all_goals
    go_wp2
    all_goals
      go_ret2
      obtain ⟨h1, h2⟩ := HV.out
      exact ⟨ret_two (by omega) (by omega), F.out.t⟩

set_option maxHeartbeats 4000000 in
set_option maxRecDepth 100000 in
theorem extentZ (a b c : P3) (w : World) :
    Calls Tryz.prog 96 #[.agg #[.int .i64 a.x, .int .i64 a.y, .int .i64 a.z, .int .i64 b.x, .int .i64 b.y, .int .i64 b.z, .int .i64 c.x, .int .i64 c.y, .int .i64 c.z], .func (.func 93) #[] #[]] w fun e w' => e = .returned (.tuple #[.int .i64 (mn3 a.z b.z c.z), .int .i64 (mx3 a.z b.z c.z)]) ∧ Tch [] w w' := by
  have CP := Lib.hid (fun p w1 => pointZ p w1)
  have HV : Hid (mn3 a.z b.z c.z = min (min a.z b.z) c.z ∧ mx3 a.z b.z c.z = max (max a.z b.z) c.z) := Lib.hid ⟨rfl, rfl⟩
  obtain ⟨u, hu⟩ : ∃ u, u = mn3 a.z b.z c.z := ⟨_, rfl⟩
  obtain ⟨v, hv⟩ : ∃ v, v = mx3 a.z b.z c.z := ⟨_, rfl⟩
  rw [← hu, ← hv] at HV ⊢
  clear hu hv
  have F : Hid (Fr w (w.alloc (.cells #[.int .i64 a.x, .int .i64 a.y, .int .i64 a.z, .int .i64 b.x, .int .i64 b.y, .int .i64 b.z, .int .i64 c.x, .int .i64 c.y, .int .i64 c.z] 33)) [(w.heap.size, .cells #[.int .i64 a.x, .int .i64 a.y, .int .i64 a.z, .int .i64 b.x, .int .i64 b.y, .int .i64 b.z, .int .i64 c.x, .int .i64 c.y, .int .i64 c.z] 33 (0, 0))]) := Lib.hid ((Fr.nil w).add (.cells #[.int .i64 a.x, .int .i64 a.y, .int .i64 a.z, .int .i64 b.x, .int .i64 b.y, .int .i64 b.z, .int .i64 c.x, .int .i64 c.y, .int .i64 c.z] 33) (w.heap.size) rfl)
  have SF := Lib.hid (fun (w4 : World) (h : Fr w w4 [(w.heap.size, .cells #[.int .i64 a.x, .int .i64 a.y, .int .i64 a.z, .int .i64 b.x, .int .i64 b.y, .int .i64 b.z, .int .i64 c.x, .int .i64 c.y, .int .i64 c.z] 33 (0, 0))]) => h.nine 0 rfl)
  go_enter Tryz.func96, Tryz.ntmps96
  go_wp2_with fail
  go_region_held3 (fun w4 => (w4.cell? ⟨w.heap.size, 0, none⟩ = some (.int .i64 a.x) ∧ w4.cell? ⟨w.heap.size, 1, none⟩ = some (.int .i64 a.y) ∧ w4.cell? ⟨w.heap.size, 2, none⟩ = some (.int .i64 a.z)) ∧ (w4.cell? ⟨w.heap.size, 3, none⟩ = some (.int .i64 b.x) ∧ w4.cell? ⟨w.heap.size, 4, none⟩ = some (.int .i64 b.y) ∧ w4.cell? ⟨w.heap.size, 5, none⟩ = some (.int .i64 b.z)) ∧ w4.cell? ⟨w.heap.size, 6, none⟩ = some (.int .i64 c.x) ∧ w4.cell? ⟨w.heap.size, 7, none⟩ = some (.int .i64 c.y) ∧ w4.cell? ⟨w.heap.size, 8, none⟩ = some (.int .i64 c.z)) (first | with_reducible exact SF.out _ F.out | with_reducible exact SF.out _ F.out.drew) (first
    | (go_at_call 93; (first | (with_reducible refine (CP.out a _).mono ?_) | (with_reducible refine (CP.out b _).mono ?_) | (with_reducible refine (CP.out c _).mono ?_)); rintro e w5 ⟨rfl, hT⟩; (first | (with_reducible have F := Lib.hid (F.out.keep hT)) | (have F := Lib.hid (F.out.drew.keep hT))); clear hT)
    | fail)
  all_goals
    go_wp2
    all_goals
      go_ret2
      obtain ⟨h1, h2⟩ := HV.out
      exact ⟨ret_two (by omega) (by omega), F.out.t⟩

set_option maxHeartbeats 8000000 in
set_option maxRecDepth 100000 in
theorem boxesApart (a b c p q r : P3) (w : World) :
    Calls Tryz.prog 75 #[.agg #[.int .i64 a.x, .int .i64 a.y, .int .i64 a.z, .int .i64 b.x, .int .i64 b.y, .int .i64 b.z, .int .i64 c.x, .int .i64 c.y, .int .i64 c.z], .agg #[.int .i64 p.x, .int .i64 p.y, .int .i64 p.z, .int .i64 q.x, .int .i64 q.y, .int .i64 q.z, .int .i64 r.x, .int .i64 r.y, .int .i64 r.z]] w fun e w' => e = .returned (.bool (apartI a b c p q r)) ∧ Tch [] w w' := by
  obtain ⟨o, ho⟩ : ∃ o, o = apartI a b c p q r := ⟨_, rfl⟩
  rw [← ho]
  obtain ⟨nx, hnx⟩ : ∃ u, u = mn3 a.x b.x c.x := ⟨_, rfl⟩
  obtain ⟨mx, hmx⟩ : ∃ u, u = mx3 a.x b.x c.x := ⟨_, rfl⟩
  obtain ⟨kx, hkx⟩ : ∃ u, u = mn3 p.x q.x r.x := ⟨_, rfl⟩
  obtain ⟨lx, hlx⟩ : ∃ u, u = mx3 p.x q.x r.x := ⟨_, rfl⟩
  have SX : Hid (∀ w1, Calls Tryz.prog 96 #[.agg #[.int .i64 a.x, .int .i64 a.y, .int .i64 a.z, .int .i64 b.x, .int .i64 b.y, .int .i64 b.z, .int .i64 c.x, .int .i64 c.y, .int .i64 c.z], .func (.func 91) #[] #[]] w1 fun e w' => e = .returned (.tuple #[.int .i64 nx, .int .i64 mx]) ∧ Tch [] w1 w') := Lib.hid (fun w1 => by rw [hnx, hmx]; exact extentX a b c w1)
  have TX : Hid (∀ w1, Calls Tryz.prog 96 #[.agg #[.int .i64 p.x, .int .i64 p.y, .int .i64 p.z, .int .i64 q.x, .int .i64 q.y, .int .i64 q.z, .int .i64 r.x, .int .i64 r.y, .int .i64 r.z], .func (.func 91) #[] #[]] w1 fun e w' => e = .returned (.tuple #[.int .i64 kx, .int .i64 lx]) ∧ Tch [] w1 w') := Lib.hid (fun w1 => by rw [hkx, hlx]; exact extentX p q r w1)
  obtain ⟨ny, hny⟩ : ∃ u, u = mn3 a.y b.y c.y := ⟨_, rfl⟩
  obtain ⟨my, hmy⟩ : ∃ u, u = mx3 a.y b.y c.y := ⟨_, rfl⟩
  obtain ⟨ky, hky⟩ : ∃ u, u = mn3 p.y q.y r.y := ⟨_, rfl⟩
  obtain ⟨ly, hly⟩ : ∃ u, u = mx3 p.y q.y r.y := ⟨_, rfl⟩
  have SY : Hid (∀ w1, Calls Tryz.prog 96 #[.agg #[.int .i64 a.x, .int .i64 a.y, .int .i64 a.z, .int .i64 b.x, .int .i64 b.y, .int .i64 b.z, .int .i64 c.x, .int .i64 c.y, .int .i64 c.z], .func (.func 92) #[] #[]] w1 fun e w' => e = .returned (.tuple #[.int .i64 ny, .int .i64 my]) ∧ Tch [] w1 w') := Lib.hid (fun w1 => by rw [hny, hmy]; exact extentY a b c w1)
  have TY : Hid (∀ w1, Calls Tryz.prog 96 #[.agg #[.int .i64 p.x, .int .i64 p.y, .int .i64 p.z, .int .i64 q.x, .int .i64 q.y, .int .i64 q.z, .int .i64 r.x, .int .i64 r.y, .int .i64 r.z], .func (.func 92) #[] #[]] w1 fun e w' => e = .returned (.tuple #[.int .i64 ky, .int .i64 ly]) ∧ Tch [] w1 w') := Lib.hid (fun w1 => by rw [hky, hly]; exact extentY p q r w1)
  obtain ⟨nz, hnz⟩ : ∃ u, u = mn3 a.z b.z c.z := ⟨_, rfl⟩
  obtain ⟨mz, hmz⟩ : ∃ u, u = mx3 a.z b.z c.z := ⟨_, rfl⟩
  obtain ⟨kz, hkz⟩ : ∃ u, u = mn3 p.z q.z r.z := ⟨_, rfl⟩
  obtain ⟨lz, hlz⟩ : ∃ u, u = mx3 p.z q.z r.z := ⟨_, rfl⟩
  have SZ : Hid (∀ w1, Calls Tryz.prog 96 #[.agg #[.int .i64 a.x, .int .i64 a.y, .int .i64 a.z, .int .i64 b.x, .int .i64 b.y, .int .i64 b.z, .int .i64 c.x, .int .i64 c.y, .int .i64 c.z], .func (.func 93) #[] #[]] w1 fun e w' => e = .returned (.tuple #[.int .i64 nz, .int .i64 mz]) ∧ Tch [] w1 w') := Lib.hid (fun w1 => by rw [hnz, hmz]; exact extentZ a b c w1)
  have TZ : Hid (∀ w1, Calls Tryz.prog 96 #[.agg #[.int .i64 p.x, .int .i64 p.y, .int .i64 p.z, .int .i64 q.x, .int .i64 q.y, .int .i64 q.z, .int .i64 r.x, .int .i64 r.y, .int .i64 r.z], .func (.func 93) #[] #[]] w1 fun e w' => e = .returned (.tuple #[.int .i64 kz, .int .i64 lz]) ∧ Tch [] w1 w') := Lib.hid (fun w1 => by rw [hkz, hlz]; exact extentZ p q r w1)
  have HV : Hid (o = ((decide (mx < kx) || decide (lx < nx)) || (decide (my < ky) || decide (ly < ny)) || (decide (mz < kz) || decide (lz < nz)))) := Lib.hid (by
    rw [ho]; unfold apartI offI
    rw [← hnx, ← hmx, ← hkx, ← hlx, ← hny, ← hmy, ← hky, ← hly, ← hnz, ← hmz, ← hkz, ← hlz])
  clear ho hnx hmx hkx hlx hny hmy hky hly hnz hmz hkz hlz
  have CF := Lib.hid (fun w1 => xfields w1)
  have F : Hid (Fr w ((w.alloc (.cells #[.int .i64 a.x, .int .i64 a.y, .int .i64 a.z, .int .i64 b.x, .int .i64 b.y, .int .i64 b.z, .int .i64 c.x, .int .i64 c.y, .int .i64 c.z] 33)).alloc (.cells #[.int .i64 p.x, .int .i64 p.y, .int .i64 p.z, .int .i64 q.x, .int .i64 q.y, .int .i64 q.z, .int .i64 r.x, .int .i64 r.y, .int .i64 r.z] 33)) [(w.heap.size, .cells #[.int .i64 a.x, .int .i64 a.y, .int .i64 a.z, .int .i64 b.x, .int .i64 b.y, .int .i64 b.z, .int .i64 c.x, .int .i64 c.y, .int .i64 c.z] 33 (0, 0)), (w.heap.size + 1, .cells #[.int .i64 p.x, .int .i64 p.y, .int .i64 p.z, .int .i64 q.x, .int .i64 q.y, .int .i64 q.z, .int .i64 r.x, .int .i64 r.y, .int .i64 r.z] 33 (0, 0))]) := Lib.hid (((Fr.nil w).add (.cells #[.int .i64 a.x, .int .i64 a.y, .int .i64 a.z, .int .i64 b.x, .int .i64 b.y, .int .i64 b.z, .int .i64 c.x, .int .i64 c.y, .int .i64 c.z] 33) (w.heap.size) rfl).add (.cells #[.int .i64 p.x, .int .i64 p.y, .int .i64 p.z, .int .i64 q.x, .int .i64 q.y, .int .i64 q.z, .int .i64 r.x, .int .i64 r.y, .int .i64 r.z] 33) (w.heap.size + 1) (by simp))
  go_enter Tryz.func75, Tryz.ntmps75
  go_wp2_with fail
  refine (CF.out _).mono ?_
  rintro e w1 ⟨rfl, hT⟩
  have F := Lib.hid (F.out.keep hT)
  clear hT CF
  go_wp2
  go_loopw [12] (fun i wr => ∃ k : Nat, k ≤ 3 ∧ i = .int .i64 (k : Int) ∧ Hid ((0 < k → kx ≤ mx ∧ nx ≤ lx) ∧ (1 < k → ky ≤ my ∧ ny ≤ ly) ∧ (2 < k → kz ≤ mz ∧ nz ≤ lz)) ∧ Hid (Fr w wr [(w.heap.size, .cells #[.int .i64 a.x, .int .i64 a.y, .int .i64 a.z, .int .i64 b.x, .int .i64 b.y, .int .i64 b.z, .int .i64 c.x, .int .i64 c.y, .int .i64 c.z] 33 (0, 0)), (w.heap.size + 1, .cells #[.int .i64 p.x, .int .i64 p.y, .int .i64 p.z, .int .i64 q.x, .int .i64 q.y, .int .i64 q.z, .int .i64 r.x, .int .i64 r.y, .int .i64 r.z] 33 (0, 0))])) (fun i _ => 3 - (intOf i).toNat)
  case atStart => exact ⟨0, by omega, rfl, Lib.hid ⟨fun h => absurd h (by omega), fun h => absurd h (by omega), fun h => absurd h (by omega)⟩, F⟩
  case round =>
    clear F
    obtain ⟨k, hk, rfl, hS, F⟩ := hrel
    rcases (show k = 0 ∨ k = 1 ∨ k = 2 ∨ k = 3 by omega) with rfl | rfl | rfl | rfl
    · have X := idx0
      obtain ⟨⟨a0, a1, a2⟩, ⟨a3, a4, a5⟩, a6, a7, a8⟩ := F.out.nine 0 rfl; obtain ⟨⟨b0, b1, b2⟩, ⟨b3, b4, b5⟩, b6, b7, b8⟩ := F.out.nine 1 rfl
      go_wp2_with fail
      refine (SX.out _).mono ?_
      rintro e w2 ⟨rfl, hT⟩
      have F := Lib.hid (F.out.keep hT)
      clear hT a0 a1 a2 a3 a4 a5 a6 a7 a8 b0 b1 b2 b3 b4 b5 b6 b7 b8
      obtain ⟨⟨a0, a1, a2⟩, ⟨a3, a4, a5⟩, a6, a7, a8⟩ := F.out.nine 0 rfl; obtain ⟨⟨b0, b1, b2⟩, ⟨b3, b4, b5⟩, b6, b7, b8⟩ := F.out.nine 1 rfl
      go_wp2_with fail
      refine (TX.out _).mono ?_
      rintro e w3 ⟨rfl, hT⟩
      have F := Lib.hid (F.out.keep hT)
      clear hT X a0 a1 a2 a3 a4 a5 a6 a7 a8 b0 b1 b2 b3 b4 b5 b6 b7 b8
      by_cases h1 : mx < kx
      · have HW : Hid (o = true) := Lib.hid (by rw [HV.out, decide_eq_true h1]; simp)
        go_wp2
        go_ret
        exact ⟨by rw [HW.out]; rfl, F.out.t⟩
      · by_cases h2 : lx < nx
        · have HW : Hid (o = true) := Lib.hid (by rw [HV.out, decide_eq_true h2]; simp)
          go_wp2
          go_ret
          exact ⟨by rw [HW.out]; rfl, F.out.t⟩
        · have HI : Hid (kx ≤ mx ∧ nx ≤ lx) := Lib.hid ⟨by omega, by omega⟩
          go_wp2
          go_roundw
          case rel => exact ⟨1, by omega, by go_num, Lib.hid ⟨fun _ => HI.out, fun h => absurd h (by omega), fun h => absurd h (by omega)⟩, F⟩
          case measure => simp [intOf]
    · have X := idx1
      obtain ⟨⟨a0, a1, a2⟩, ⟨a3, a4, a5⟩, a6, a7, a8⟩ := F.out.nine 0 rfl; obtain ⟨⟨b0, b1, b2⟩, ⟨b3, b4, b5⟩, b6, b7, b8⟩ := F.out.nine 1 rfl
      go_wp2_with fail
      refine (SY.out _).mono ?_
      rintro e w2 ⟨rfl, hT⟩
      have F := Lib.hid (F.out.keep hT)
      clear hT a0 a1 a2 a3 a4 a5 a6 a7 a8 b0 b1 b2 b3 b4 b5 b6 b7 b8
      obtain ⟨⟨a0, a1, a2⟩, ⟨a3, a4, a5⟩, a6, a7, a8⟩ := F.out.nine 0 rfl; obtain ⟨⟨b0, b1, b2⟩, ⟨b3, b4, b5⟩, b6, b7, b8⟩ := F.out.nine 1 rfl
      go_wp2_with fail
      refine (TY.out _).mono ?_
      rintro e w3 ⟨rfl, hT⟩
      have F := Lib.hid (F.out.keep hT)
      clear hT X a0 a1 a2 a3 a4 a5 a6 a7 a8 b0 b1 b2 b3 b4 b5 b6 b7 b8
      by_cases h1 : my < ky
      · have HW : Hid (o = true) := Lib.hid (by rw [HV.out, decide_eq_true h1]; simp)
        go_wp2
        go_ret
        exact ⟨by rw [HW.out]; rfl, F.out.t⟩
      · by_cases h2 : ly < ny
        · have HW : Hid (o = true) := Lib.hid (by rw [HV.out, decide_eq_true h2]; simp)
          go_wp2
          go_ret
          exact ⟨by rw [HW.out]; rfl, F.out.t⟩
        · have HI : Hid (ky ≤ my ∧ ny ≤ ly) := Lib.hid ⟨by omega, by omega⟩
          go_wp2
          go_roundw
          case rel => exact ⟨2, by omega, by go_num, Lib.hid ⟨fun _ => hS.out.1 (by omega), fun _ => HI.out, fun h => absurd h (by omega)⟩, F⟩
          case measure => simp [intOf]
    · have X := idx2
      obtain ⟨⟨a0, a1, a2⟩, ⟨a3, a4, a5⟩, a6, a7, a8⟩ := F.out.nine 0 rfl; obtain ⟨⟨b0, b1, b2⟩, ⟨b3, b4, b5⟩, b6, b7, b8⟩ := F.out.nine 1 rfl
      go_wp2_with fail
      refine (SZ.out _).mono ?_
      rintro e w2 ⟨rfl, hT⟩
      have F := Lib.hid (F.out.keep hT)
      clear hT a0 a1 a2 a3 a4 a5 a6 a7 a8 b0 b1 b2 b3 b4 b5 b6 b7 b8
      obtain ⟨⟨a0, a1, a2⟩, ⟨a3, a4, a5⟩, a6, a7, a8⟩ := F.out.nine 0 rfl; obtain ⟨⟨b0, b1, b2⟩, ⟨b3, b4, b5⟩, b6, b7, b8⟩ := F.out.nine 1 rfl
      go_wp2_with fail
      refine (TZ.out _).mono ?_
      rintro e w3 ⟨rfl, hT⟩
      have F := Lib.hid (F.out.keep hT)
      clear hT X a0 a1 a2 a3 a4 a5 a6 a7 a8 b0 b1 b2 b3 b4 b5 b6 b7 b8
      by_cases h1 : mz < kz
      · have HW : Hid (o = true) := Lib.hid (by rw [HV.out, decide_eq_true h1]; simp)
        go_wp2
        go_ret
        exact ⟨by rw [HW.out]; rfl, F.out.t⟩
      · by_cases h2 : lz < nz
        · have HW : Hid (o = true) := Lib.hid (by rw [HV.out, decide_eq_true h2]; simp)
          go_wp2
          go_ret
          exact ⟨by rw [HW.out]; rfl, F.out.t⟩
        · have HI : Hid (kz ≤ mz ∧ nz ≤ lz) := Lib.hid ⟨by omega, by omega⟩
          go_wp2
          go_roundw
          case rel => exact ⟨3, by omega, by go_num, Lib.hid ⟨fun _ => hS.out.1 (by omega), fun _ => hS.out.2.1 (by omega), fun _ => HI.out⟩, F⟩
          case measure => simp [intOf]
    · have HW : Hid (o = false) := Lib.hid (by
        have h0 := hS.out.1 (by omega)
        have h1 := hS.out.2.1 (by omega)
        have h2 := hS.out.2.2 (by omega)
        rw [HV.out, decide_eq_false (Int.not_lt.2 h0.1), decide_eq_false (Int.not_lt.2 h0.2), decide_eq_false (Int.not_lt.2 h1.1), decide_eq_false (Int.not_lt.2 h1.2), decide_eq_false (Int.not_lt.2 h2.1), decide_eq_false (Int.not_lt.2 h2.2)]; rfl)
      go_wp2
      go_ret
      exact ⟨by rw [HW.out]; rfl, F.out.t⟩

set_option maxHeartbeats 4000000 in
set_option maxRecDepth 100000 in
theorem haveCommonPoint (a b c p q r : P3) (ha : a.Ok) (hb : b.Ok) (hc : c.Ok) (hp : p.Ok) (hq : q.Ok) (hr : r.Ok) (w : World) :
    Calls Tryz.prog 45 #[.agg #[.int .i64 a.x, .int .i64 a.y, .int .i64 a.z, .int .i64 b.x, .int .i64 b.y, .int .i64 b.z, .int .i64 c.x, .int .i64 c.y, .int .i64 c.z], .agg #[.int .i64 p.x, .int .i64 p.y, .int .i64 p.z, .int .i64 q.x, .int .i64 q.y, .int .i64 q.z, .int .i64 r.x, .int .i64 r.y, .int .i64 r.z]] w fun e w' => e = .returned (.bool (havI a b c p q r)) ∧ Tch [] w w' := by
  have HV0 : havI a b c p q r = (!apartI a b c p q r && (edgI a b c p q r || edgI p q r a b c)) := rfl
  have c1 := fun w1 => boxesApart a b c p q r w1
  have c2 := fun w1 => edgeTouches a b c p q r ha hb hc hp hq hr w1
  have c3 := fun w1 => edgeTouches p q r a b c hp hq hr ha hb hc w1
  obtain ⟨o, ho⟩ : ∃ o, o = havI a b c p q r := ⟨_, rfl⟩
  obtain ⟨x, hx⟩ : ∃ o, o = apartI a b c p q r := ⟨_, rfl⟩
  obtain ⟨y, hy⟩ : ∃ o, o = edgI a b c p q r := ⟨_, rfl⟩
  obtain ⟨z, hz⟩ : ∃ o, o = edgI p q r a b c := ⟨_, rfl⟩
  rw [← ho] at HV0 ⊢
  rw [← hx] at HV0 c1
  rw [← hy] at HV0 c2
  rw [← hz] at HV0 c3
  have HV := Lib.hid HV0
  have C1 := Lib.hid c1
  have C2 := Lib.hid c2
  have C3 := Lib.hid c3
  clear HV0 c1 c2 c3 ho hx hy hz ha hb hc hp hq hr
  have F : Hid (Fr w ((w.alloc (.cells #[.int .i64 a.x, .int .i64 a.y, .int .i64 a.z, .int .i64 b.x, .int .i64 b.y, .int .i64 b.z, .int .i64 c.x, .int .i64 c.y, .int .i64 c.z] 33)).alloc (.cells #[.int .i64 p.x, .int .i64 p.y, .int .i64 p.z, .int .i64 q.x, .int .i64 q.y, .int .i64 q.z, .int .i64 r.x, .int .i64 r.y, .int .i64 r.z] 33)) [(w.heap.size, .cells #[.int .i64 a.x, .int .i64 a.y, .int .i64 a.z, .int .i64 b.x, .int .i64 b.y, .int .i64 b.z, .int .i64 c.x, .int .i64 c.y, .int .i64 c.z] 33 (0, 0)), (w.heap.size + 1, .cells #[.int .i64 p.x, .int .i64 p.y, .int .i64 p.z, .int .i64 q.x, .int .i64 q.y, .int .i64 q.z, .int .i64 r.x, .int .i64 r.y, .int .i64 r.z] 33 (0, 0))]) := Lib.hid (((Fr.nil w).add (.cells #[.int .i64 a.x, .int .i64 a.y, .int .i64 a.z, .int .i64 b.x, .int .i64 b.y, .int .i64 b.z, .int .i64 c.x, .int .i64 c.y, .int .i64 c.z] 33) (w.heap.size) rfl).add (.cells #[.int .i64 p.x, .int .i64 p.y, .int .i64 p.z, .int .i64 q.x, .int .i64 q.y, .int .i64 q.z, .int .i64 r.x, .int .i64 r.y, .int .i64 r.z] 33) (w.heap.size + 1) (by simp))
  obtain ⟨⟨a0, a1, a2⟩, ⟨a3, a4, a5⟩, a6, a7, a8⟩ := F.out.nine 0 rfl; obtain ⟨⟨b0, b1, b2⟩, ⟨b3, b4, b5⟩, b6, b7, b8⟩ := F.out.nine 1 rfl
  go_enter Tryz.func45, Tryz.ntmps45
  cases x <;> cases y
  all_goals
    go_wp2_with (go_at_call 75; (with_reducible refine (C1.out _).mono ?_); rintro e w1 ⟨rfl, hT⟩; have F := Lib.hid (F.out.keep hT); clear hT a0 a1 a2 a3 a4 a5 a6 a7 a8 b0 b1 b2 b3 b4 b5 b6 b7 b8; obtain ⟨⟨a0, a1, a2⟩, ⟨a3, a4, a5⟩, a6, a7, a8⟩ := F.out.nine 0 rfl; obtain ⟨⟨b0, b1, b2⟩, ⟨b3, b4, b5⟩, b6, b7, b8⟩ := F.out.nine 1 rfl)
    try go_wp2_with (go_at_call 76; (with_reducible refine (C2.out _).mono ?_); rintro e w2 ⟨rfl, hT⟩; have F := Lib.hid (F.out.keep hT); clear hT a0 a1 a2 a3 a4 a5 a6 a7 a8 b0 b1 b2 b3 b4 b5 b6 b7 b8; obtain ⟨⟨a0, a1, a2⟩, ⟨a3, a4, a5⟩, a6, a7, a8⟩ := F.out.nine 0 rfl; obtain ⟨⟨b0, b1, b2⟩, ⟨b3, b4, b5⟩, b6, b7, b8⟩ := F.out.nine 1 rfl)
    try go_wp2_with (go_at_call 76; (with_reducible refine (C3.out _).mono ?_); rintro e w3 ⟨rfl, hT⟩; have F := Lib.hid (F.out.keep hT); clear hT a0 a1 a2 a3 a4 a5 a6 a7 a8 b0 b1 b2 b3 b4 b5 b6 b7 b8; obtain ⟨⟨a0, a1, a2⟩, ⟨a3, a4, a5⟩, a6, a7, a8⟩ := F.out.nine 0 rfl; obtain ⟨⟨b0, b1, b2⟩, ⟨b3, b4, b5⟩, b6, b7, b8⟩ := F.out.nine 1 rfl)
    go_ret
    exact ⟨by rw [HV.out]; rfl, F.out.t⟩

end Go.Proofs.YtandlbacjfdkpaaGreatDoor
