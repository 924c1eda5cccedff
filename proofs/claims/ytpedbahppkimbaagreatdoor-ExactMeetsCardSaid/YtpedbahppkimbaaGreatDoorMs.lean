/- The walk of ExactMeets. -/
import Derived.Test.YtpedbahppkimbaaGreatDoorSan2
import Derived.Test.YtpedbahppkimbaaGreatDoorMr
import Derived.Test.YtpedbahppkimbaaGreatDoorMt
import Derived.Test.YtpedbahppkimbaaGreatDoorTu
namespace Go.Proofs.YtpedbahppkimbaaGreatDoor
open Go Go.RowKit Dg

theorem gridOk (a : P3) (k : Int) (hk : 0 < k ∧ k ≤ 1073741824) : (gridI a k).Ok := by
  have key : ∀ x : Int, I64 (x % k) := fun x => by
    have h1 := Int.emod_nonneg x (b := k) (by omega)
    have h2 := Int.emod_lt_of_pos x (b := k) hk.1
    exact ⟨by omega, by omega⟩
  exact ⟨key _, key _, key _⟩

theorem prm_ok {a b c x y z : P3} (h : Prm a b c x y z) (ha : a.Ok) (hb : b.Ok) (hc : c.Ok) : x.Ok ∧ y.Ok ∧ z.Ok := by
  cases h <;> exact ⟨by assumption, by assumption, by assumption⟩

set_option maxHeartbeats 16000000 in
set_option maxRecDepth 100000 in
theorem ms_walk (a b c p q r : P3) (m0 m1 : Int) (w : World) :
    Calls Tryz.prog 6 #[.agg #[.int .i64 a.x, .int .i64 a.y, .int .i64 a.z, .int .i64 b.x, .int .i64 b.y, .int .i64 b.z, .int .i64 c.x, .int .i64 c.y, .int .i64 c.z], .agg #[.int .i64 p.x, .int .i64 p.y, .int .i64 p.z, .int .i64 q.x, .int .i64 q.y, .int .i64 q.z, .int .i64 r.x, .int .i64 r.y, .int .i64 r.z], .agg #[.int .i64 m0, .int .i64 m1]] w fun e w' => e = .returned (.bool true) ∧ Tch [] w w' := by
  obtain ⟨ap, hap⟩ : ∃ u, u = gridI a 4 := ⟨_, rfl⟩
  have oa : ap.Ok := by rw [hap]; exact gridOk a 4 (by decide)
  obtain ⟨bp, hbp⟩ : ∃ u, u = gridI b 4 := ⟨_, rfl⟩
  have ob : bp.Ok := by rw [hbp]; exact gridOk b 4 (by decide)
  obtain ⟨cp, hcp⟩ : ∃ u, u = gridI c 4 := ⟨_, rfl⟩
  have oc : cp.Ok := by rw [hcp]; exact gridOk c 4 (by decide)
  obtain ⟨pp, hpp⟩ : ∃ u, u = gridI p 4 := ⟨_, rfl⟩
  have op : pp.Ok := by rw [hpp]; exact gridOk p 4 (by decide)
  obtain ⟨qp, hqp⟩ : ∃ u, u = gridI q 4 := ⟨_, rfl⟩
  have oq : qp.Ok := by rw [hqp]; exact gridOk q 4 (by decide)
  obtain ⟨rp, hrp⟩ : ∃ u, u = gridI r 4 := ⟨_, rfl⟩
  have or_ : rp.Ok := by rw [hrp]; exact gridOk r 4 (by decide)
  obtain ⟨s, hs⟩ : ∃ u, u = trnI pp qp rp (m0 % 6) := ⟨_, rfl⟩
  obtain ⟨u, hu⟩ : ∃ u, u = trnI ap bp cp (m1 % 6) := ⟨_, rfl⟩
  have ps : Prm pp qp rp s.a s.b s.c := by rw [hs]; exact trn_prm pp qp rp _
  have pu : Prm ap bp cp u.a u.b u.c := by rw [hu]; exact trn_prm ap bp cp _
  obtain ⟨os1, os2, os3⟩ := prm_ok ps op oq or_
  obtain ⟨ou1, ou2, ou3⟩ := prm_ok pu oa ob oc
  obtain ⟨v, hv⟩ : ∃ v, v = meetI ap bp cp pp qp rp := ⟨_, rfl⟩
  have ev : meetI s.a s.b s.c u.a u.b u.c = v := by rw [hv, meet_prm ps pu, meet_swap]
  have G1 : Hid (∀ w1, Calls Tryz.prog 12 #[.agg #[.int .i64 a.x, .int .i64 a.y, .int .i64 a.z, .int .i64 b.x, .int .i64 b.y, .int .i64 b.z, .int .i64 c.x, .int .i64 c.y, .int .i64 c.z], .int .i64 4] w1 fun e w' => e = .returned (.agg #[.int .i64 ap.x, .int .i64 ap.y, .int .i64 ap.z, .int .i64 bp.x, .int .i64 bp.y, .int .i64 bp.z, .int .i64 cp.x, .int .i64 cp.y, .int .i64 cp.z]) ∧ Tch [] w1 w') := Lib.hid (fun w1 => by rw [hap, hbp, hcp]; exact rTri a b c 4 (by decide) w1)
  have G2 : Hid (∀ w1, Calls Tryz.prog 12 #[.agg #[.int .i64 p.x, .int .i64 p.y, .int .i64 p.z, .int .i64 q.x, .int .i64 q.y, .int .i64 q.z, .int .i64 r.x, .int .i64 r.y, .int .i64 r.z], .int .i64 4] w1 fun e w' => e = .returned (.agg #[.int .i64 pp.x, .int .i64 pp.y, .int .i64 pp.z, .int .i64 qp.x, .int .i64 qp.y, .int .i64 qp.z, .int .i64 rp.x, .int .i64 rp.y, .int .i64 rp.z]) ∧ Tch [] w1 w') := Lib.hid (fun w1 => by rw [hpp, hqp, hrp]; exact rTri p q r 4 (by decide) w1)
  have M0 : Hid (∀ w1, Calls Tryz.prog 15 #[.agg #[.int .i64 ap.x, .int .i64 ap.y, .int .i64 ap.z, .int .i64 bp.x, .int .i64 bp.y, .int .i64 bp.z, .int .i64 cp.x, .int .i64 cp.y, .int .i64 cp.z], .agg #[.int .i64 pp.x, .int .i64 pp.y, .int .i64 pp.z, .int .i64 qp.x, .int .i64 qp.y, .int .i64 qp.z, .int .i64 rp.x, .int .i64 rp.y, .int .i64 rp.z]] w1 fun e w' => e = .returned (.bool v) ∧ Tch [] w1 w') := Lib.hid (fun w1 => by rw [hv, meet_eq]; exact rMeet ap bp cp pp qp rp oa ob oc op oq or_ w1)
  have M1 : Hid (∀ w1, Calls Tryz.prog 16 #[.agg #[.int .i64 ap.x, .int .i64 ap.y, .int .i64 ap.z, .int .i64 bp.x, .int .i64 bp.y, .int .i64 bp.z, .int .i64 cp.x, .int .i64 cp.y, .int .i64 cp.z], .agg #[.int .i64 pp.x, .int .i64 pp.y, .int .i64 pp.z, .int .i64 qp.x, .int .i64 qp.y, .int .i64 qp.z, .int .i64 rp.x, .int .i64 rp.y, .int .i64 rp.z]] w1 fun e w' => e = .returned (.bool v) ∧ Tch [] w1 w') := Lib.hid (fun w1 => by rw [hv]; exact Meet ap bp cp pp qp rp oa ob oc op oq or_ w1)
  have M2 : Hid (∀ w1, Calls Tryz.prog 16 #[.agg #[.int .i64 s.a.x, .int .i64 s.a.y, .int .i64 s.a.z, .int .i64 s.b.x, .int .i64 s.b.y, .int .i64 s.b.z, .int .i64 s.c.x, .int .i64 s.c.y, .int .i64 s.c.z], .agg #[.int .i64 u.a.x, .int .i64 u.a.y, .int .i64 u.a.z, .int .i64 u.b.x, .int .i64 u.b.y, .int .i64 u.b.z, .int .i64 u.c.x, .int .i64 u.c.y, .int .i64 u.c.z]] w1 fun e w' => e = .returned (.bool v) ∧ Tch [] w1 w') := Lib.hid (fun w1 => by rw [← ev]; exact Meet s.a s.b s.c u.a u.b u.c os1 os2 os3 ou1 ou2 ou3 w1)
  have T1 : Hid (∀ w1, Calls Tryz.prog 17 #[.agg #[.int .i64 pp.x, .int .i64 pp.y, .int .i64 pp.z, .int .i64 qp.x, .int .i64 qp.y, .int .i64 qp.z, .int .i64 rp.x, .int .i64 rp.y, .int .i64 rp.z], .int .i64 m0] w1 fun e w' => e = .returned (.agg #[.int .i64 s.a.x, .int .i64 s.a.y, .int .i64 s.a.z, .int .i64 s.b.x, .int .i64 s.b.y, .int .i64 s.b.z, .int .i64 s.c.x, .int .i64 s.c.y, .int .i64 s.c.z]) ∧ Tch [] w1 w') := Lib.hid (fun w1 => by rw [hs]; exact rTurned pp qp rp m0 w1)
  have T2 : Hid (∀ w1, Calls Tryz.prog 17 #[.agg #[.int .i64 ap.x, .int .i64 ap.y, .int .i64 ap.z, .int .i64 bp.x, .int .i64 bp.y, .int .i64 bp.z, .int .i64 cp.x, .int .i64 cp.y, .int .i64 cp.z], .int .i64 m1] w1 fun e w' => e = .returned (.agg #[.int .i64 u.a.x, .int .i64 u.a.y, .int .i64 u.a.z, .int .i64 u.b.x, .int .i64 u.b.y, .int .i64 u.b.z, .int .i64 u.c.x, .int .i64 u.c.y, .int .i64 u.c.z]) ∧ Tch [] w1 w') := Lib.hid (fun w1 => by rw [hu]; exact rTurned ap bp cp m1 w1)
  have CS := Lib.hid (fun w1 => sanity w1)
  clear hv ev ps pu hs hu os1 os2 os3 ou1 ou2 ou3 hap hbp hcp hpp hqp hrp oa ob oc op oq or_
  have F : Hid (Fr w (((w.alloc (.cells #[.int .i64 a.x, .int .i64 a.y, .int .i64 a.z, .int .i64 b.x, .int .i64 b.y, .int .i64 b.z, .int .i64 c.x, .int .i64 c.y, .int .i64 c.z] 31)).alloc (.cells #[.int .i64 p.x, .int .i64 p.y, .int .i64 p.z, .int .i64 q.x, .int .i64 q.y, .int .i64 q.z, .int .i64 r.x, .int .i64 r.y, .int .i64 r.z] 31)).alloc (.cells #[.int .i64 m0, .int .i64 m1] 37)) [(w.heap.size, .cells #[.int .i64 a.x, .int .i64 a.y, .int .i64 a.z, .int .i64 b.x, .int .i64 b.y, .int .i64 b.z, .int .i64 c.x, .int .i64 c.y, .int .i64 c.z] 31 (0, 0)), (w.heap.size + 1, .cells #[.int .i64 p.x, .int .i64 p.y, .int .i64 p.z, .int .i64 q.x, .int .i64 q.y, .int .i64 q.z, .int .i64 r.x, .int .i64 r.y, .int .i64 r.z] 31 (0, 0)), (w.heap.size + 1 + 1, .cells #[.int .i64 m0, .int .i64 m1] 37 (0, 0))]) := Lib.hid ((((Fr.nil w).add (.cells #[.int .i64 a.x, .int .i64 a.y, .int .i64 a.z, .int .i64 b.x, .int .i64 b.y, .int .i64 b.z, .int .i64 c.x, .int .i64 c.y, .int .i64 c.z] 31) (w.heap.size) rfl).add (.cells #[.int .i64 p.x, .int .i64 p.y, .int .i64 p.z, .int .i64 q.x, .int .i64 q.y, .int .i64 q.z, .int .i64 r.x, .int .i64 r.y, .int .i64 r.z] 31) (w.heap.size + 1) (by simp)).add (.cells #[.int .i64 m0, .int .i64 m1] 37) (w.heap.size + 1 + 1) (by simp))
  go_enter Tryz.func6, Tryz.ntmps6
  go_wp2_with fail
  refine (CS.out _).mono ?_
  rintro e w1 ⟨rfl, hT⟩
  have F := Lib.hid (F.out.keep hT)
  clear hT CS
  obtain ⟨⟨x0, x1, x2⟩, ⟨x3, x4, x5⟩, x6, x7, x8⟩ := F.out.nine 0 rfl
  go_wp2_with fail
  refine (G1.out _).mono ?_
  rintro e w2 ⟨rfl, hT⟩
  have F := Lib.hid ((F.out.keep hT).add (.cells #[.int .i64 ap.x, .int .i64 ap.y, .int .i64 ap.z, .int .i64 bp.x, .int .i64 bp.y, .int .i64 bp.z, .int .i64 cp.x, .int .i64 cp.y, .int .i64 cp.z] 33) w2.heap.size rfl)
  clear hT G1 x0 x1 x2 x3 x4 x5 x6 x7 x8
  obtain ⟨⟨x0, x1, x2⟩, ⟨x3, x4, x5⟩, x6, x7, x8⟩ := F.out.nine 1 rfl
  go_wp2_with fail
  refine (G2.out _).mono ?_
  rintro e w3 ⟨rfl, hT⟩
  have F := Lib.hid ((F.out.keep hT).add (.cells #[.int .i64 pp.x, .int .i64 pp.y, .int .i64 pp.z, .int .i64 qp.x, .int .i64 qp.y, .int .i64 qp.z, .int .i64 rp.x, .int .i64 rp.y, .int .i64 rp.z] 33) w3.heap.size rfl)
  clear hT G2 x0 x1 x2 x3 x4 x5 x6 x7 x8
  obtain ⟨⟨a0, a1, a2⟩, ⟨a3, a4, a5⟩, a6, a7, a8⟩ := F.out.nine 3 rfl; obtain ⟨⟨b0, b1, b2⟩, ⟨b3, b4, b5⟩, b6, b7, b8⟩ := F.out.nine 4 rfl
  go_wp2_with fail
  refine (M0.out _).mono ?_
  rintro e w5 ⟨rfl, hT⟩
  have F := Lib.hid (F.out.keep hT)
  clear hT M0 a0 a1 a2 a3 a4 a5 a6 a7 a8 b0 b1 b2 b3 b4 b5 b6 b7 b8
  obtain ⟨l, G, SF0⟩ : ∃ l, Fr w w5 l ∧ (∀ w9, Fr w w9 l → (w9.cell? ⟨w2.heap.size, 0, none⟩ = some (.int .i64 ap.x) ∧ w9.cell? ⟨w2.heap.size, 1, none⟩ = some (.int .i64 ap.y) ∧ w9.cell? ⟨w2.heap.size, 2, none⟩ = some (.int .i64 ap.z) ∧ w9.cell? ⟨w2.heap.size, 3, none⟩ = some (.int .i64 bp.x) ∧ w9.cell? ⟨w2.heap.size, 4, none⟩ = some (.int .i64 bp.y) ∧ w9.cell? ⟨w2.heap.size, 5, none⟩ = some (.int .i64 bp.z) ∧ w9.cell? ⟨w2.heap.size, 6, none⟩ = some (.int .i64 cp.x) ∧ w9.cell? ⟨w2.heap.size, 7, none⟩ = some (.int .i64 cp.y) ∧ w9.cell? ⟨w2.heap.size, 8, none⟩ = some (.int .i64 cp.z)) ∧ (w9.cell? ⟨w3.heap.size, 0, none⟩ = some (.int .i64 pp.x) ∧ w9.cell? ⟨w3.heap.size, 1, none⟩ = some (.int .i64 pp.y) ∧ w9.cell? ⟨w3.heap.size, 2, none⟩ = some (.int .i64 pp.z) ∧ w9.cell? ⟨w3.heap.size, 3, none⟩ = some (.int .i64 qp.x) ∧ w9.cell? ⟨w3.heap.size, 4, none⟩ = some (.int .i64 qp.y) ∧ w9.cell? ⟨w3.heap.size, 5, none⟩ = some (.int .i64 qp.z) ∧ w9.cell? ⟨w3.heap.size, 6, none⟩ = some (.int .i64 rp.x) ∧ w9.cell? ⟨w3.heap.size, 7, none⟩ = some (.int .i64 rp.y) ∧ w9.cell? ⟨w3.heap.size, 8, none⟩ = some (.int .i64 rp.z)) ∧ w9.cell? ⟨w.heap.size + 1 + 1, 0, none⟩ = some (.int .i64 m0) ∧ w9.cell? ⟨w.heap.size + 1 + 1, 1, none⟩ = some (.int .i64 m1)) :=
    ⟨_, F.out, fun w9 h => ⟨((fun k : _ ∧ _ ∧ _ => ⟨k.1.1, k.1.2.1, k.1.2.2, k.2.1.1, k.2.1.2.1, k.2.1.2.2, k.2.2.1, k.2.2.2.1, k.2.2.2.2⟩) (h.nine 3 rfl)), ((fun k : _ ∧ _ ∧ _ => ⟨k.1.1, k.1.2.1, k.1.2.2, k.2.1.1, k.2.1.2.1, k.2.1.2.2, k.2.2.1, k.2.2.2.1, k.2.2.2.2⟩) (h.nine 4 rfl)), h.two 2 rfl⟩⟩
  clear F
  have F := Lib.hid G
  have SF := Lib.hid SF0
  clear G SF0
  cases v
  · go_upto_region 5 with (fail)
    refine wp_region_noPanic ?_
    refine wp_region_held_drew (S := (fun w9 => (w9.cell? ⟨w2.heap.size, 0, none⟩ = some (.int .i64 ap.x) ∧ w9.cell? ⟨w2.heap.size, 1, none⟩ = some (.int .i64 ap.y) ∧ w9.cell? ⟨w2.heap.size, 2, none⟩ = some (.int .i64 ap.z) ∧ w9.cell? ⟨w2.heap.size, 3, none⟩ = some (.int .i64 bp.x) ∧ w9.cell? ⟨w2.heap.size, 4, none⟩ = some (.int .i64 bp.y) ∧ w9.cell? ⟨w2.heap.size, 5, none⟩ = some (.int .i64 bp.z) ∧ w9.cell? ⟨w2.heap.size, 6, none⟩ = some (.int .i64 cp.x) ∧ w9.cell? ⟨w2.heap.size, 7, none⟩ = some (.int .i64 cp.y) ∧ w9.cell? ⟨w2.heap.size, 8, none⟩ = some (.int .i64 cp.z)) ∧ (w9.cell? ⟨w3.heap.size, 0, none⟩ = some (.int .i64 pp.x) ∧ w9.cell? ⟨w3.heap.size, 1, none⟩ = some (.int .i64 pp.y) ∧ w9.cell? ⟨w3.heap.size, 2, none⟩ = some (.int .i64 pp.z) ∧ w9.cell? ⟨w3.heap.size, 3, none⟩ = some (.int .i64 qp.x) ∧ w9.cell? ⟨w3.heap.size, 4, none⟩ = some (.int .i64 qp.y) ∧ w9.cell? ⟨w3.heap.size, 5, none⟩ = some (.int .i64 qp.z) ∧ w9.cell? ⟨w3.heap.size, 6, none⟩ = some (.int .i64 rp.x) ∧ w9.cell? ⟨w3.heap.size, 7, none⟩ = some (.int .i64 rp.y) ∧ w9.cell? ⟨w3.heap.size, 8, none⟩ = some (.int .i64 rp.z)) ∧ w9.cell? ⟨w.heap.size + 1 + 1, 0, none⟩ = some (.int .i64 m0) ∧ w9.cell? ⟨w.heap.size + 1 + 1, 1, none⟩ = some (.int .i64 m1))) (by kernel_rfl) (SF.out _ F.out.drew) (fun hHeld => ?_)
    refine takeAt (i := 0) (d := (some 19)) (v := (.bool true)) rfl (by kernel_rfl) (by kernel_rfl) (by kernel_rfl) (by kernel_rfl) (fun _ _ _ h => h) (Or.inl ⟨by kernel_rfl, ?_⟩) (by assumption) ?_
    · intro w7 hSw
      try dsimp only at hSw
      go_simp
    simp only [Act.put, List.setIfInBounds_toArray, List.set_cons_zero, List.set_cons_succ]
    refine takeAt (i := 1) (d := (some 20)) (v := (.bool true)) rfl (by kernel_rfl) (by kernel_rfl) (by kernel_rfl) (by kernel_rfl) (fun _ _ _ h => h) (Or.inl ⟨by kernel_rfl, ?_⟩) (by assumption) ?_
    · intro w7 hSw
      try dsimp only at hSw
      go_simp
    simp only [Act.put, List.setIfInBounds_toArray, List.set_cons_zero, List.set_cons_succ]
    refine takeAt (i := 2) (d := (some 21)) (v := (.agg #[.int .i64 ap.x, .int .i64 ap.y, .int .i64 ap.z, .int .i64 bp.x, .int .i64 bp.y, .int .i64 bp.z, .int .i64 cp.x, .int .i64 cp.y, .int .i64 cp.z])) rfl (by kernel_rfl) (by kernel_rfl) (by kernel_rfl) (by kernel_rfl) (fun _ _ _ h => h) (Or.inl ⟨by kernel_rfl, ?_⟩) (by assumption) ?_
    · intro w7 hSw
      try dsimp only at hSw
      go_simp
    simp only [Act.put, List.setIfInBounds_toArray, List.set_cons_zero, List.set_cons_succ]
    refine takeAt (i := 3) (d := (some 22)) (v := (.agg #[.int .i64 pp.x, .int .i64 pp.y, .int .i64 pp.z, .int .i64 qp.x, .int .i64 qp.y, .int .i64 qp.z, .int .i64 rp.x, .int .i64 rp.y, .int .i64 rp.z])) rfl (by kernel_rfl) (by kernel_rfl) (by kernel_rfl) (by kernel_rfl) (fun _ _ _ h => h) (Or.inl ⟨by kernel_rfl, ?_⟩) (by assumption) ?_
    · intro w7 hSw
      try dsimp only at hSw
      go_simp
    simp only [Act.put, List.setIfInBounds_toArray, List.set_cons_zero, List.set_cons_succ]
    refine takeAt (i := 5) (d := (some 24)) (v := (.bool false)) rfl (by kernel_rfl) (by kernel_rfl) (by kernel_rfl) (by kernel_rfl) (fun _ _ _ h => h) (Or.inl ⟨by kernel_rfl, ?_⟩) (by assumption) ?_
    · intro w7 hSw
      try dsimp only at hSw
      go_simp
    simp only [Act.put, List.setIfInBounds_toArray, List.set_cons_zero, List.set_cons_succ]
    refine wpAnyH_ready (rs := [4]) (by kernel_rfl) (by simp) ?_
    refine AllReadyH.cons rfl (fun K hK => ?_) AllReadyH.nil
    go_simp
    refine (M1.out _).mono ?_
    rintro e w6 ⟨rfl, hT⟩
    have F := Lib.hid (F.out.drew.keep hT)
    clear hT
    go_wp2_with fail
    refine hK.out _ _ (SF.out _ F.out) (fun hHeld => ?_)
    clear hK K
    refine takeAt (i := 6) (d := (some 25)) (v := (.bool true)) rfl (by kernel_rfl) (by kernel_rfl) (by kernel_rfl) (by kernel_rfl) (fun _ _ _ h => h) (Or.inl ⟨by kernel_rfl, ?_⟩) (by assumption) ?_
    · intro w7 hSw
      try dsimp only at hSw
      go_simp
    simp only [Act.put, List.setIfInBounds_toArray, List.set_cons_zero, List.set_cons_succ]
    refine takeAt (i := 7) (d := (some 26)) (v := (.bool true)) rfl (by kernel_rfl) (by kernel_rfl) (by kernel_rfl) (by kernel_rfl) (fun _ _ _ h => h) (Or.inl ⟨by kernel_rfl, ?_⟩) (by assumption) ?_
    · intro w7 hSw
      try dsimp only at hSw
      go_simp
    simp only [Act.put, List.setIfInBounds_toArray, List.set_cons_zero, List.set_cons_succ]
    refine takeAt (i := 8) (d := (some 27)) (v := (.bool true)) rfl (by kernel_rfl) (by kernel_rfl) (by kernel_rfl) (by kernel_rfl) (fun _ _ _ h => h) (Or.inl ⟨by kernel_rfl, ?_⟩) (by assumption) ?_
    · intro w7 hSw
      try dsimp only at hSw
      go_simp
    simp only [Act.put, List.setIfInBounds_toArray, List.set_cons_zero, List.set_cons_succ]
    refine takeAt (i := 9) (d := (some 28)) (v := (.agg #[.int .i64 pp.x, .int .i64 pp.y, .int .i64 pp.z, .int .i64 qp.x, .int .i64 qp.y, .int .i64 qp.z, .int .i64 rp.x, .int .i64 rp.y, .int .i64 rp.z])) rfl (by kernel_rfl) (by kernel_rfl) (by kernel_rfl) (by kernel_rfl) (fun _ _ _ h => h) (Or.inl ⟨by kernel_rfl, ?_⟩) (by assumption) ?_
    · intro w7 hSw
      try dsimp only at hSw
      go_simp
    simp only [Act.put, List.setIfInBounds_toArray, List.set_cons_zero, List.set_cons_succ]
    refine takeAt (i := 10) (d := (some 29)) (v := (.pointer (some ⟨w.heap.size + 1 + 1, 0, none⟩))) rfl (by kernel_rfl) (by kernel_rfl) (by kernel_rfl) (by kernel_rfl) (fun _ _ _ h => h) (Or.inl ⟨by kernel_rfl, ?_⟩) (by assumption) ?_
    · intro w7 hSw
      try dsimp only at hSw
      go_simp
    simp only [Act.put, List.setIfInBounds_toArray, List.set_cons_zero, List.set_cons_succ]
    refine takeAt (i := 11) (d := (some 30)) (v := (.int .i64 m0)) rfl (by kernel_rfl) (by kernel_rfl) (by kernel_rfl) (by kernel_rfl) (fun _ _ _ h => h) (Or.inl ⟨by kernel_rfl, ?_⟩) (by assumption) ?_
    · intro w7 hSw
      try dsimp only at hSw
      go_simp
    simp only [Act.put, List.setIfInBounds_toArray, List.set_cons_zero, List.set_cons_succ]
    refine takeAt (i := 13) (d := (some 32)) (v := (.agg #[.int .i64 ap.x, .int .i64 ap.y, .int .i64 ap.z, .int .i64 bp.x, .int .i64 bp.y, .int .i64 bp.z, .int .i64 cp.x, .int .i64 cp.y, .int .i64 cp.z])) rfl (by kernel_rfl) (by kernel_rfl) (by kernel_rfl) (by kernel_rfl) (fun _ _ _ h => h) (Or.inl ⟨by kernel_rfl, ?_⟩) (by assumption) ?_
    · intro w7 hSw
      try dsimp only at hSw
      go_simp
    simp only [Act.put, List.setIfInBounds_toArray, List.set_cons_zero, List.set_cons_succ]
    refine takeAt (i := 14) (d := (some 33)) (v := (.pointer (some ⟨w.heap.size + 1 + 1, 1, none⟩))) rfl (by kernel_rfl) (by kernel_rfl) (by kernel_rfl) (by kernel_rfl) (fun _ _ _ h => h) (Or.inl ⟨by kernel_rfl, ?_⟩) (by assumption) ?_
    · intro w7 hSw
      try dsimp only at hSw
      go_simp
    simp only [Act.put, List.setIfInBounds_toArray, List.set_cons_zero, List.set_cons_succ]
    refine takeAt (i := 15) (d := (some 34)) (v := (.int .i64 m1)) rfl (by kernel_rfl) (by kernel_rfl) (by kernel_rfl) (by kernel_rfl) (fun _ _ _ h => h) (Or.inl ⟨by kernel_rfl, ?_⟩) (by assumption) ?_
    · intro w7 hSw
      try dsimp only at hSw
      go_simp
    simp only [Act.put, List.setIfInBounds_toArray, List.set_cons_zero, List.set_cons_succ]
    refine takeAt (i := 18) (d := (some 37)) (v := (.bool false)) rfl (by kernel_rfl) (by kernel_rfl) (by kernel_rfl) (by kernel_rfl) (fun _ _ _ h => h) (Or.inl ⟨by kernel_rfl, ?_⟩) (by assumption) ?_
    · intro w7 hSw
      try dsimp only at hSw
      go_simp
    simp only [Act.put, List.setIfInBounds_toArray, List.set_cons_zero, List.set_cons_succ]
    refine wpAnyH_ready (rs := [12]) (by kernel_rfl) (by simp) ?_
    refine AllReadyH.cons rfl (fun K hK => ?_) AllReadyH.nil
    go_simp
    refine (T1.out _).mono ?_
    rintro e w6 ⟨rfl, hT⟩
    have F := Lib.hid (F.out.keep hT)
    clear hT
    go_wp2_with fail
    refine hK.out _ _ (SF.out _ F.out) (fun hHeld => ?_)
    clear hK K
    refine wpAnyH_ready (rs := [16]) (by kernel_rfl) (by simp) ?_
    refine AllReadyH.cons rfl (fun K hK => ?_) AllReadyH.nil
    go_simp
    refine (T2.out _).mono ?_
    rintro e w6 ⟨rfl, hT⟩
    have F := Lib.hid (F.out.keep hT)
    clear hT
    go_wp2_with fail
    refine hK.out _ _ (SF.out _ F.out) (fun hHeld => ?_)
    clear hK K
    refine wpAnyH_ready (rs := [17]) (by kernel_rfl) (by simp) ?_
    refine AllReadyH.cons rfl (fun K hK => ?_) AllReadyH.nil
    go_simp
    refine (M2.out _).mono ?_
    rintro e w6 ⟨rfl, hT⟩
    have F := Lib.hid (F.out.keep hT)
    clear hT
    go_wp2_with fail
    refine hK.out _ _ (SF.out _ F.out) (fun hHeld => ?_)
    clear hK K
    refine takeAt (i := 19) (d := (some 38)) (v := (.bool true)) rfl (by kernel_rfl) (by kernel_rfl) (by kernel_rfl) (by kernel_rfl) (fun _ _ _ h => h) (Or.inl ⟨by kernel_rfl, ?_⟩) (by assumption) ?_
    · intro w7 hSw
      try dsimp only at hSw
      go_simp
    simp only [Act.put, List.setIfInBounds_toArray, List.set_cons_zero, List.set_cons_succ]
    refine takeAt (i := 20) (d := (some 39)) (v := (.bool true)) rfl (by kernel_rfl) (by kernel_rfl) (by kernel_rfl) (by kernel_rfl) (fun _ _ _ h => h) (Or.inl ⟨by kernel_rfl, ?_⟩) (by assumption) ?_
    · intro w7 hSw
      try dsimp only at hSw
      go_simp
    simp only [Act.put, List.setIfInBounds_toArray, List.set_cons_zero, List.set_cons_succ]
    refine takeAt (i := 21) (d := (some 6)) (v := (.bool true)) rfl (by kernel_rfl) (by kernel_rfl) (by kernel_rfl) (by kernel_rfl) (fun _ _ _ h => h) (Or.inl ⟨by kernel_rfl, ?_⟩) (by assumption) ?_
    · intro w7 hSw
      try dsimp only at hSw
      go_simp
    simp only [Act.put, List.setIfInBounds_toArray, List.set_cons_zero, List.set_cons_succ]
    refine wpAnyH_done (by kernel_rfl) ?_ _
    refine NoPanic.normal ?_
    go_wp2
    go_ret
    exact ⟨rfl, F.out.t⟩
  · go_upto_region 5 with (fail)
    refine wp_region_noPanic ?_
    refine wp_region_held_drew (S := (fun w9 => (w9.cell? ⟨w2.heap.size, 0, none⟩ = some (.int .i64 ap.x) ∧ w9.cell? ⟨w2.heap.size, 1, none⟩ = some (.int .i64 ap.y) ∧ w9.cell? ⟨w2.heap.size, 2, none⟩ = some (.int .i64 ap.z) ∧ w9.cell? ⟨w2.heap.size, 3, none⟩ = some (.int .i64 bp.x) ∧ w9.cell? ⟨w2.heap.size, 4, none⟩ = some (.int .i64 bp.y) ∧ w9.cell? ⟨w2.heap.size, 5, none⟩ = some (.int .i64 bp.z) ∧ w9.cell? ⟨w2.heap.size, 6, none⟩ = some (.int .i64 cp.x) ∧ w9.cell? ⟨w2.heap.size, 7, none⟩ = some (.int .i64 cp.y) ∧ w9.cell? ⟨w2.heap.size, 8, none⟩ = some (.int .i64 cp.z)) ∧ (w9.cell? ⟨w3.heap.size, 0, none⟩ = some (.int .i64 pp.x) ∧ w9.cell? ⟨w3.heap.size, 1, none⟩ = some (.int .i64 pp.y) ∧ w9.cell? ⟨w3.heap.size, 2, none⟩ = some (.int .i64 pp.z) ∧ w9.cell? ⟨w3.heap.size, 3, none⟩ = some (.int .i64 qp.x) ∧ w9.cell? ⟨w3.heap.size, 4, none⟩ = some (.int .i64 qp.y) ∧ w9.cell? ⟨w3.heap.size, 5, none⟩ = some (.int .i64 qp.z) ∧ w9.cell? ⟨w3.heap.size, 6, none⟩ = some (.int .i64 rp.x) ∧ w9.cell? ⟨w3.heap.size, 7, none⟩ = some (.int .i64 rp.y) ∧ w9.cell? ⟨w3.heap.size, 8, none⟩ = some (.int .i64 rp.z)) ∧ w9.cell? ⟨w.heap.size + 1 + 1, 0, none⟩ = some (.int .i64 m0) ∧ w9.cell? ⟨w.heap.size + 1 + 1, 1, none⟩ = some (.int .i64 m1))) (by kernel_rfl) (SF.out _ F.out.drew) (fun hHeld => ?_)
    refine takeAt (i := 0) (d := (some 19)) (v := (.bool true)) rfl (by kernel_rfl) (by kernel_rfl) (by kernel_rfl) (by kernel_rfl) (fun _ _ _ h => h) (Or.inl ⟨by kernel_rfl, ?_⟩) (by assumption) ?_
    · intro w7 hSw
      try dsimp only at hSw
      go_simp
    simp only [Act.put, List.setIfInBounds_toArray, List.set_cons_zero, List.set_cons_succ]
    refine takeAt (i := 1) (d := (some 20)) (v := (.bool true)) rfl (by kernel_rfl) (by kernel_rfl) (by kernel_rfl) (by kernel_rfl) (fun _ _ _ h => h) (Or.inl ⟨by kernel_rfl, ?_⟩) (by assumption) ?_
    · intro w7 hSw
      try dsimp only at hSw
      go_simp
    simp only [Act.put, List.setIfInBounds_toArray, List.set_cons_zero, List.set_cons_succ]
    refine takeAt (i := 2) (d := (some 21)) (v := (.agg #[.int .i64 ap.x, .int .i64 ap.y, .int .i64 ap.z, .int .i64 bp.x, .int .i64 bp.y, .int .i64 bp.z, .int .i64 cp.x, .int .i64 cp.y, .int .i64 cp.z])) rfl (by kernel_rfl) (by kernel_rfl) (by kernel_rfl) (by kernel_rfl) (fun _ _ _ h => h) (Or.inl ⟨by kernel_rfl, ?_⟩) (by assumption) ?_
    · intro w7 hSw
      try dsimp only at hSw
      go_simp
    simp only [Act.put, List.setIfInBounds_toArray, List.set_cons_zero, List.set_cons_succ]
    refine takeAt (i := 3) (d := (some 22)) (v := (.agg #[.int .i64 pp.x, .int .i64 pp.y, .int .i64 pp.z, .int .i64 qp.x, .int .i64 qp.y, .int .i64 qp.z, .int .i64 rp.x, .int .i64 rp.y, .int .i64 rp.z])) rfl (by kernel_rfl) (by kernel_rfl) (by kernel_rfl) (by kernel_rfl) (fun _ _ _ h => h) (Or.inl ⟨by kernel_rfl, ?_⟩) (by assumption) ?_
    · intro w7 hSw
      try dsimp only at hSw
      go_simp
    simp only [Act.put, List.setIfInBounds_toArray, List.set_cons_zero, List.set_cons_succ]
    refine takeAt (i := 5) (d := (some 24)) (v := (.bool true)) rfl (by kernel_rfl) (by kernel_rfl) (by kernel_rfl) (by kernel_rfl) (fun _ _ _ h => h) (Or.inl ⟨by kernel_rfl, ?_⟩) (by assumption) ?_
    · intro w7 hSw
      try dsimp only at hSw
      go_simp
    simp only [Act.put, List.setIfInBounds_toArray, List.set_cons_zero, List.set_cons_succ]
    refine wpAnyH_ready (rs := [4]) (by kernel_rfl) (by simp) ?_
    refine AllReadyH.cons rfl (fun K hK => ?_) AllReadyH.nil
    go_simp
    refine (M1.out _).mono ?_
    rintro e w6 ⟨rfl, hT⟩
    have F := Lib.hid (F.out.drew.keep hT)
    clear hT
    go_wp2_with fail
    refine hK.out _ _ (SF.out _ F.out) (fun hHeld => ?_)
    clear hK K
    refine takeAt (i := 6) (d := (some 25)) (v := (.bool true)) rfl (by kernel_rfl) (by kernel_rfl) (by kernel_rfl) (by kernel_rfl) (fun _ _ _ h => h) (Or.inl ⟨by kernel_rfl, ?_⟩) (by assumption) ?_
    · intro w7 hSw
      try dsimp only at hSw
      go_simp
    simp only [Act.put, List.setIfInBounds_toArray, List.set_cons_zero, List.set_cons_succ]
    refine takeAt (i := 7) (d := (some 26)) (v := (.bool true)) rfl (by kernel_rfl) (by kernel_rfl) (by kernel_rfl) (by kernel_rfl) (fun _ _ _ h => h) (Or.inl ⟨by kernel_rfl, ?_⟩) (by assumption) ?_
    · intro w7 hSw
      try dsimp only at hSw
      go_simp
    simp only [Act.put, List.setIfInBounds_toArray, List.set_cons_zero, List.set_cons_succ]
    refine takeAt (i := 8) (d := (some 27)) (v := (.bool true)) rfl (by kernel_rfl) (by kernel_rfl) (by kernel_rfl) (by kernel_rfl) (fun _ _ _ h => h) (Or.inl ⟨by kernel_rfl, ?_⟩) (by assumption) ?_
    · intro w7 hSw
      try dsimp only at hSw
      go_simp
    simp only [Act.put, List.setIfInBounds_toArray, List.set_cons_zero, List.set_cons_succ]
    refine takeAt (i := 9) (d := (some 28)) (v := (.agg #[.int .i64 pp.x, .int .i64 pp.y, .int .i64 pp.z, .int .i64 qp.x, .int .i64 qp.y, .int .i64 qp.z, .int .i64 rp.x, .int .i64 rp.y, .int .i64 rp.z])) rfl (by kernel_rfl) (by kernel_rfl) (by kernel_rfl) (by kernel_rfl) (fun _ _ _ h => h) (Or.inl ⟨by kernel_rfl, ?_⟩) (by assumption) ?_
    · intro w7 hSw
      try dsimp only at hSw
      go_simp
    simp only [Act.put, List.setIfInBounds_toArray, List.set_cons_zero, List.set_cons_succ]
    refine takeAt (i := 10) (d := (some 29)) (v := (.pointer (some ⟨w.heap.size + 1 + 1, 0, none⟩))) rfl (by kernel_rfl) (by kernel_rfl) (by kernel_rfl) (by kernel_rfl) (fun _ _ _ h => h) (Or.inl ⟨by kernel_rfl, ?_⟩) (by assumption) ?_
    · intro w7 hSw
      try dsimp only at hSw
      go_simp
    simp only [Act.put, List.setIfInBounds_toArray, List.set_cons_zero, List.set_cons_succ]
    refine takeAt (i := 11) (d := (some 30)) (v := (.int .i64 m0)) rfl (by kernel_rfl) (by kernel_rfl) (by kernel_rfl) (by kernel_rfl) (fun _ _ _ h => h) (Or.inl ⟨by kernel_rfl, ?_⟩) (by assumption) ?_
    · intro w7 hSw
      try dsimp only at hSw
      go_simp
    simp only [Act.put, List.setIfInBounds_toArray, List.set_cons_zero, List.set_cons_succ]
    refine takeAt (i := 13) (d := (some 32)) (v := (.agg #[.int .i64 ap.x, .int .i64 ap.y, .int .i64 ap.z, .int .i64 bp.x, .int .i64 bp.y, .int .i64 bp.z, .int .i64 cp.x, .int .i64 cp.y, .int .i64 cp.z])) rfl (by kernel_rfl) (by kernel_rfl) (by kernel_rfl) (by kernel_rfl) (fun _ _ _ h => h) (Or.inl ⟨by kernel_rfl, ?_⟩) (by assumption) ?_
    · intro w7 hSw
      try dsimp only at hSw
      go_simp
    simp only [Act.put, List.setIfInBounds_toArray, List.set_cons_zero, List.set_cons_succ]
    refine takeAt (i := 14) (d := (some 33)) (v := (.pointer (some ⟨w.heap.size + 1 + 1, 1, none⟩))) rfl (by kernel_rfl) (by kernel_rfl) (by kernel_rfl) (by kernel_rfl) (fun _ _ _ h => h) (Or.inl ⟨by kernel_rfl, ?_⟩) (by assumption) ?_
    · intro w7 hSw
      try dsimp only at hSw
      go_simp
    simp only [Act.put, List.setIfInBounds_toArray, List.set_cons_zero, List.set_cons_succ]
    refine takeAt (i := 15) (d := (some 34)) (v := (.int .i64 m1)) rfl (by kernel_rfl) (by kernel_rfl) (by kernel_rfl) (by kernel_rfl) (fun _ _ _ h => h) (Or.inl ⟨by kernel_rfl, ?_⟩) (by assumption) ?_
    · intro w7 hSw
      try dsimp only at hSw
      go_simp
    simp only [Act.put, List.setIfInBounds_toArray, List.set_cons_zero, List.set_cons_succ]
    refine takeAt (i := 18) (d := (some 37)) (v := (.bool true)) rfl (by kernel_rfl) (by kernel_rfl) (by kernel_rfl) (by kernel_rfl) (fun _ _ _ h => h) (Or.inl ⟨by kernel_rfl, ?_⟩) (by assumption) ?_
    · intro w7 hSw
      try dsimp only at hSw
      go_simp
    simp only [Act.put, List.setIfInBounds_toArray, List.set_cons_zero, List.set_cons_succ]
    refine wpAnyH_ready (rs := [12]) (by kernel_rfl) (by simp) ?_
    refine AllReadyH.cons rfl (fun K hK => ?_) AllReadyH.nil
    go_simp
    refine (T1.out _).mono ?_
    rintro e w6 ⟨rfl, hT⟩
    have F := Lib.hid (F.out.keep hT)
    clear hT
    go_wp2_with fail
    refine hK.out _ _ (SF.out _ F.out) (fun hHeld => ?_)
    clear hK K
    refine wpAnyH_ready (rs := [16]) (by kernel_rfl) (by simp) ?_
    refine AllReadyH.cons rfl (fun K hK => ?_) AllReadyH.nil
    go_simp
    refine (T2.out _).mono ?_
    rintro e w6 ⟨rfl, hT⟩
    have F := Lib.hid (F.out.keep hT)
    clear hT
    go_wp2_with fail
    refine hK.out _ _ (SF.out _ F.out) (fun hHeld => ?_)
    clear hK K
    refine wpAnyH_ready (rs := [17]) (by kernel_rfl) (by simp) ?_
    refine AllReadyH.cons rfl (fun K hK => ?_) AllReadyH.nil
    go_simp
    refine (M2.out _).mono ?_
    rintro e w6 ⟨rfl, hT⟩
    have F := Lib.hid (F.out.keep hT)
    clear hT
    go_wp2_with fail
    refine hK.out _ _ (SF.out _ F.out) (fun hHeld => ?_)
    clear hK K
    refine takeAt (i := 19) (d := (some 38)) (v := (.bool true)) rfl (by kernel_rfl) (by kernel_rfl) (by kernel_rfl) (by kernel_rfl) (fun _ _ _ h => h) (Or.inl ⟨by kernel_rfl, ?_⟩) (by assumption) ?_
    · intro w7 hSw
      try dsimp only at hSw
      go_simp
    simp only [Act.put, List.setIfInBounds_toArray, List.set_cons_zero, List.set_cons_succ]
    refine takeAt (i := 20) (d := (some 39)) (v := (.bool true)) rfl (by kernel_rfl) (by kernel_rfl) (by kernel_rfl) (by kernel_rfl) (fun _ _ _ h => h) (Or.inl ⟨by kernel_rfl, ?_⟩) (by assumption) ?_
    · intro w7 hSw
      try dsimp only at hSw
      go_simp
    simp only [Act.put, List.setIfInBounds_toArray, List.set_cons_zero, List.set_cons_succ]
    refine takeAt (i := 21) (d := (some 6)) (v := (.bool true)) rfl (by kernel_rfl) (by kernel_rfl) (by kernel_rfl) (by kernel_rfl) (fun _ _ _ h => h) (Or.inl ⟨by kernel_rfl, ?_⟩) (by assumption) ?_
    · intro w7 hSw
      try dsimp only at hSw
      go_simp
    simp only [Act.put, List.setIfInBounds_toArray, List.set_cons_zero, List.set_cons_succ]
    refine wpAnyH_done (by kernel_rfl) ?_ _
    refine NoPanic.normal ?_
    go_wp2
    go_ret
    exact ⟨rfl, F.out.t⟩

end Go.Proofs.YtpedbahppkimbaaGreatDoor
