/- The walk of ExactTouches. -/
import Derived.Test.YtpedbahppkimbaaGreatDoorSan2
import Derived.Test.YtpedbahppkimbaaGreatDoorRt
namespace Go.Proofs.YtpedbahppkimbaaGreatDoor
open Go Go.RowKit Dg

theorem gridOk (a : P3) (k : Int) (hk : 0 < k ∧ k ≤ 1073741824) : (gridI a k).Ok := by
  have key : ∀ x : Int, I64 (x % k) := fun x => by
    have h1 := Int.emod_nonneg x (b := k) (by omega)
    have h2 := Int.emod_lt_of_pos x (b := k) hk.1
    exact ⟨by omega, by omega⟩
  exact ⟨key _, key _, key _⟩

set_option maxHeartbeats 16000000 in
set_option maxRecDepth 100000 in
theorem to_walk (p q a b c : P3) (w : World) :
    Calls Tryz.prog 5 #[.agg #[.int .i64 p.x, .int .i64 p.y, .int .i64 p.z], .agg #[.int .i64 q.x, .int .i64 q.y, .int .i64 q.z], .agg #[.int .i64 a.x, .int .i64 a.y, .int .i64 a.z, .int .i64 b.x, .int .i64 b.y, .int .i64 b.z, .int .i64 c.x, .int .i64 c.y, .int .i64 c.z]] w fun e w' => e = .returned (.bool true) ∧ Tch [] w w' := by
  obtain ⟨pp, hpp⟩ : ∃ u, u = gridI p 5 := ⟨_, rfl⟩
  have op : pp.Ok := by rw [hpp]; exact gridOk p 5 (by decide)
  obtain ⟨qp, hqp⟩ : ∃ u, u = gridI q 5 := ⟨_, rfl⟩
  have oq : qp.Ok := by rw [hqp]; exact gridOk q 5 (by decide)
  obtain ⟨ap, hap⟩ : ∃ u, u = gridI a 5 := ⟨_, rfl⟩
  have oa : ap.Ok := by rw [hap]; exact gridOk a 5 (by decide)
  obtain ⟨bp, hbp⟩ : ∃ u, u = gridI b 5 := ⟨_, rfl⟩
  have ob : bp.Ok := by rw [hbp]; exact gridOk b 5 (by decide)
  obtain ⟨cp, hcp⟩ : ∃ u, u = gridI c 5 := ⟨_, rfl⟩
  have oc : cp.Ok := by rw [hcp]; exact gridOk c 5 (by decide)
  have GT : Hid (∀ w1, Calls Tryz.prog 12 #[.agg #[.int .i64 a.x, .int .i64 a.y, .int .i64 a.z, .int .i64 b.x, .int .i64 b.y, .int .i64 b.z, .int .i64 c.x, .int .i64 c.y, .int .i64 c.z], .int .i64 5] w1 fun e w' => e = .returned (.agg #[.int .i64 ap.x, .int .i64 ap.y, .int .i64 ap.z, .int .i64 bp.x, .int .i64 bp.y, .int .i64 bp.z, .int .i64 cp.x, .int .i64 cp.y, .int .i64 cp.z]) ∧ Tch [] w1 w') := Lib.hid (fun w1 => by rw [hap, hbp, hcp]; exact rTri a b c 5 (by decide) w1)
  have GP : Hid (∀ w1, Calls Tryz.prog 11 #[.agg #[.int .i64 p.x, .int .i64 p.y, .int .i64 p.z], .int .i64 5] w1 fun e w' => e = .returned (.agg #[.int .i64 pp.x, .int .i64 pp.y, .int .i64 pp.z]) ∧ Tch [] w1 w') := Lib.hid (fun w1 => by rw [hpp]; exact rGrid p 5 (by decide) w1)
  have GQ : Hid (∀ w1, Calls Tryz.prog 11 #[.agg #[.int .i64 q.x, .int .i64 q.y, .int .i64 q.z], .int .i64 5] w1 fun e w' => e = .returned (.agg #[.int .i64 qp.x, .int .i64 qp.y, .int .i64 qp.z]) ∧ Tch [] w1 w') := Lib.hid (fun w1 => by rw [hqp]; exact rGrid q 5 (by decide) w1)
  obtain ⟨v, hv⟩ : ∃ v, v = touchI pp qp ap bp cp := ⟨_, rfl⟩
  have T0 : Hid (∀ w1, Calls Tryz.prog 13 #[.agg #[.int .i64 pp.x, .int .i64 pp.y, .int .i64 pp.z], .agg #[.int .i64 qp.x, .int .i64 qp.y, .int .i64 qp.z], .agg #[.int .i64 ap.x, .int .i64 ap.y, .int .i64 ap.z, .int .i64 bp.x, .int .i64 bp.y, .int .i64 bp.z, .int .i64 cp.x, .int .i64 cp.y, .int .i64 cp.z]] w1 fun e w' => e = .returned (.bool v) ∧ Tch [] w1 w') := Lib.hid (fun w1 => by rw [hv, ← rTouch_eq]; exact rTouch pp qp ap bp cp op oq oa ob oc w1)
  have T1 : Hid (∀ w1, Calls Tryz.prog 14 #[.agg #[.int .i64 pp.x, .int .i64 pp.y, .int .i64 pp.z], .agg #[.int .i64 qp.x, .int .i64 qp.y, .int .i64 qp.z], .agg #[.int .i64 ap.x, .int .i64 ap.y, .int .i64 ap.z, .int .i64 bp.x, .int .i64 bp.y, .int .i64 bp.z, .int .i64 cp.x, .int .i64 cp.y, .int .i64 cp.z]] w1 fun e w' => e = .returned (.bool v) ∧ Tch [] w1 w') := Lib.hid (fun w1 => by rw [hv]; exact Touch pp qp ap bp cp op oq oa ob oc w1)
  have T2 : Hid (∀ w1, Calls Tryz.prog 14 #[.agg #[.int .i64 qp.x, .int .i64 qp.y, .int .i64 qp.z], .agg #[.int .i64 pp.x, .int .i64 pp.y, .int .i64 pp.z], .agg #[.int .i64 ap.x, .int .i64 ap.y, .int .i64 ap.z, .int .i64 bp.x, .int .i64 bp.y, .int .i64 bp.z, .int .i64 cp.x, .int .i64 cp.y, .int .i64 cp.z]] w1 fun e w' => e = .returned (.bool v) ∧ Tch [] w1 w') := Lib.hid (fun w1 => by rw [hv, ← touch_swap]; exact Touch qp pp ap bp cp oq op oa ob oc w1)
  have CS := Lib.hid (fun w1 => sanity w1)
  clear hv hpp op hqp oq hap oa hbp ob hcp oc
  have F : Hid (Fr w (((w.alloc (.cells #[.int .i64 p.x, .int .i64 p.y, .int .i64 p.z] 22)).alloc (.cells #[.int .i64 q.x, .int .i64 q.y, .int .i64 q.z] 22)).alloc (.cells #[.int .i64 a.x, .int .i64 a.y, .int .i64 a.z, .int .i64 b.x, .int .i64 b.y, .int .i64 b.z, .int .i64 c.x, .int .i64 c.y, .int .i64 c.z] 31)) [(w.heap.size, .cells #[.int .i64 p.x, .int .i64 p.y, .int .i64 p.z] 22 (0, 0)), (w.heap.size + 1, .cells #[.int .i64 q.x, .int .i64 q.y, .int .i64 q.z] 22 (0, 0)), (w.heap.size + 1 + 1, .cells #[.int .i64 a.x, .int .i64 a.y, .int .i64 a.z, .int .i64 b.x, .int .i64 b.y, .int .i64 b.z, .int .i64 c.x, .int .i64 c.y, .int .i64 c.z] 31 (0, 0))]) := Lib.hid ((((Fr.nil w).add (.cells #[.int .i64 p.x, .int .i64 p.y, .int .i64 p.z] 22) (w.heap.size) rfl).add (.cells #[.int .i64 q.x, .int .i64 q.y, .int .i64 q.z] 22) (w.heap.size + 1) (by simp)).add (.cells #[.int .i64 a.x, .int .i64 a.y, .int .i64 a.z, .int .i64 b.x, .int .i64 b.y, .int .i64 b.z, .int .i64 c.x, .int .i64 c.y, .int .i64 c.z] 31) (w.heap.size + 1 + 1) (by simp))
  go_enter Tryz.func5, Tryz.ntmps5
  go_wp2_with fail
  refine (CS.out _).mono ?_
  rintro e w1 ⟨rfl, hT⟩
  have F := Lib.hid (F.out.keep hT)
  clear hT CS
  obtain ⟨x0, x1, x2⟩ := F.out.three 0 rfl
  go_wp2_with fail
  refine (GP.out _).mono ?_
  rintro e w2 ⟨rfl, hT⟩
  have F := Lib.hid ((F.out.keep hT).add (.cells #[.int .i64 pp.x, .int .i64 pp.y, .int .i64 pp.z] 27) w2.heap.size rfl)
  clear hT GP x0 x1 x2
  obtain ⟨x0, x1, x2⟩ := F.out.three 1 rfl
  go_wp2_with fail
  refine (GQ.out _).mono ?_
  rintro e w3 ⟨rfl, hT⟩
  have F := Lib.hid ((F.out.keep hT).add (.cells #[.int .i64 qp.x, .int .i64 qp.y, .int .i64 qp.z] 27) w3.heap.size rfl)
  clear hT GQ x0 x1 x2
  obtain ⟨⟨x0, x1, x2⟩, ⟨x3, x4, x5⟩, x6, x7, x8⟩ := F.out.nine 2 rfl
  go_wp2_with fail
  refine (GT.out _).mono ?_
  rintro e w4 ⟨rfl, hT⟩
  have F := Lib.hid ((F.out.keep hT).add (.cells #[.int .i64 ap.x, .int .i64 ap.y, .int .i64 ap.z, .int .i64 bp.x, .int .i64 bp.y, .int .i64 bp.z, .int .i64 cp.x, .int .i64 cp.y, .int .i64 cp.z] 33) w4.heap.size rfl)
  clear hT GT x0 x1 x2 x3 x4 x5 x6 x7 x8
  obtain ⟨p0, p1, p2⟩ := F.out.three 3 rfl; obtain ⟨q0, q1, q2⟩ := F.out.three 4 rfl; obtain ⟨⟨x0, x1, x2⟩, ⟨x3, x4, x5⟩, x6, x7, x8⟩ := F.out.nine 5 rfl
  go_wp2_with fail
  refine (T0.out _).mono ?_
  rintro e w5 ⟨rfl, hT⟩
  have F := Lib.hid (F.out.keep hT)
  clear hT T0 p0 p1 p2 q0 q1 q2 x0 x1 x2 x3 x4 x5 x6 x7 x8
  obtain ⟨p0, p1, p2⟩ := F.out.three 3 rfl; obtain ⟨q0, q1, q2⟩ := F.out.three 4 rfl; obtain ⟨⟨x0, x1, x2⟩, ⟨x3, x4, x5⟩, x6, x7, x8⟩ := F.out.nine 5 rfl
  cases v
  all_goals
    go_wp2_with (go_at_call 14; (first | (with_reducible refine (T1.out _).mono ?_) | (with_reducible refine (T2.out _).mono ?_)); rintro e w6 ⟨rfl, hT⟩; have F := Lib.hid (F.out.keep hT); clear hT p0 p1 p2 q0 q1 q2 x0 x1 x2 x3 x4 x5 x6 x7 x8; obtain ⟨p0, p1, p2⟩ := F.out.three 3 rfl; obtain ⟨q0, q1, q2⟩ := F.out.three 4 rfl; obtain ⟨⟨x0, x1, x2⟩, ⟨x3, x4, x5⟩, x6, x7, x8⟩ := F.out.nine 5 rfl)
    go_ret
    exact ⟨rfl, F.out.t⟩

end Go.Proofs.YtpedbahppkimbaaGreatDoor
