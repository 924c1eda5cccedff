/- The walk of ExactShared. -/
import Derived.Test.YtpedbahppkimbaaGreatDoorSan2
import Derived.Test.YtpedbahppkimbaaGreatDoorMr
import Derived.Test.YtpedbahppkimbaaGreatDoorMt
import Derived.Test.YtpedbahppkimbaaGreatDoorTri
namespace Go.Proofs.YtpedbahppkimbaaGreatDoor
open Go Go.RowKit Dg

theorem gridOk (a : P3) (k : Int) (hk : 0 < k ∧ k ≤ 1073741824) : (gridI a k).Ok := by
  have key : ∀ x : Int, I64 (x % k) := fun x => by
    have h1 := Int.emod_nonneg x (b := k) (by omega)
    have h2 := Int.emod_lt_of_pos x (b := k) hk.1
    exact ⟨by omega, by omega⟩
  exact ⟨key _, key _, key _⟩

theorem FrB.putC {w0 w : World} {l : List (Nat × Obj)} {b : Nat} {T : TypeId} {x0 x1 x2 x3 x4 x5 x6 x7 x8 : Value} (h : FrB w0 w l b (.cells #[x0, x1, x2, x3, x4, x5, x6, x7, x8] T (0, 0))) (y0 y1 y2 : Value) : FrB w0 (((w.setCell ⟨b, 6, none⟩ y0).setCell ⟨b, 7, none⟩ y1).setCell ⟨b, 8, none⟩ y2) l b (.cells #[x0, x1, x2, x3, x4, x5, y0, y1, y2] T (0, 0)) := by
  have h0 := h.put1 6 y0
  rw [show (#[x0, x1, x2, x3, x4, x5, x6, x7, x8] : Array Value).setIfInBounds 6 y0 = #[x0, x1, x2, x3, x4, x5, y0, x7, x8] from rfl] at h0
  have h1 := h0.put1 7 y1
  rw [show (#[x0, x1, x2, x3, x4, x5, y0, x7, x8] : Array Value).setIfInBounds 7 y1 = #[x0, x1, x2, x3, x4, x5, y0, y1, x8] from rfl] at h1
  have h2 := h1.put1 8 y2
  rw [show (#[x0, x1, x2, x3, x4, x5, y0, y1, x8] : Array Value).setIfInBounds 8 y2 = #[x0, x1, x2, x3, x4, x5, y0, y1, y2] from rfl] at h2
  exact h2
theorem FrB.putB {w0 w : World} {l : List (Nat × Obj)} {b : Nat} {T : TypeId} {x0 x1 x2 x3 x4 x5 x6 x7 x8 : Value} (h : FrB w0 w l b (.cells #[x0, x1, x2, x3, x4, x5, x6, x7, x8] T (0, 0))) (y0 y1 y2 : Value) : FrB w0 (((w.setCell ⟨b, 3, none⟩ y0).setCell ⟨b, 4, none⟩ y1).setCell ⟨b, 5, none⟩ y2) l b (.cells #[x0, x1, x2, y0, y1, y2, x6, x7, x8] T (0, 0)) := by
  have h0 := h.put1 3 y0
  rw [show (#[x0, x1, x2, x3, x4, x5, x6, x7, x8] : Array Value).setIfInBounds 3 y0 = #[x0, x1, x2, y0, x4, x5, x6, x7, x8] from rfl] at h0
  have h1 := h0.put1 4 y1
  rw [show (#[x0, x1, x2, y0, x4, x5, x6, x7, x8] : Array Value).setIfInBounds 4 y1 = #[x0, x1, x2, y0, y1, x5, x6, x7, x8] from rfl] at h1
  have h2 := h1.put1 5 y2
  rw [show (#[x0, x1, x2, y0, y1, x5, x6, x7, x8] : Array Value).setIfInBounds 5 y2 = #[x0, x1, x2, y0, y1, y2, x6, x7, x8] from rfl] at h2
  exact h2
theorem grid4_in (a : P3) : (0 ≤ (gridI a 4).x ∧ (gridI a 4).x < 1000) ∧ (0 ≤ (gridI a 4).y ∧ (gridI a 4).y < 1000) ∧ 0 ≤ (gridI a 4).z ∧ (gridI a 4).z < 1000 := by
  have key : ∀ x : Int, 0 ≤ x % 4 ∧ x % 4 < 1000 := fun x => by omega
  exact ⟨key _, key _, key _⟩
theorem tmod_in (m : Int) : -1099511627776 < m.tmod 1099511627776 ∧ m.tmod 1099511627776 < 1099511627776 := by
  have h1 := Int.tmod_lt_of_pos m (b := 1099511627776) (by decide)
  have h2 := Int.lt_tmod_of_pos m (b := 1099511627776) (by decide)
  omega

set_option maxHeartbeats 16000000 in
set_option maxRecDepth 100000 in
theorem sh_walk (a b c d e : P3) (m0 m1 m2 m3 : Int) (w : World) :
    Calls Tryz.prog 7 #[.agg #[.int .i64 a.x, .int .i64 a.y, .int .i64 a.z, .int .i64 b.x, .int .i64 b.y, .int .i64 b.z, .int .i64 c.x, .int .i64 c.y, .int .i64 c.z], .agg #[.int .i64 d.x, .int .i64 d.y, .int .i64 d.z, .int .i64 e.x, .int .i64 e.y, .int .i64 e.z], .agg #[.int .i64 m0, .int .i64 m1, .int .i64 m2, .int .i64 m3]] w fun e' w' => e' = .returned (.bool true) ∧ Tch [] w w' := by
  obtain ⟨v, hv⟩ : ∃ v : P3, v = ⟨m1.tmod 1099511627776, m2.tmod 1099511627776, m3.tmod 1099511627776⟩ := ⟨_, rfl⟩
  have hv1 : (-1099511627776 < v.x ∧ v.x < 1099511627776) ∧ (-1099511627776 < v.y ∧ v.y < 1099511627776) ∧ -1099511627776 < v.z ∧ v.z < 1099511627776 := by rw [hv]; exact ⟨tmod_in m1, tmod_in m2, tmod_in m3⟩
  obtain ⟨nn, hn⟩ : ∃ n, wrap64 (1 + bits .and .i64 m0 1) = n := ⟨_, rfl⟩
  obtain ⟨ap, hap⟩ : ∃ u, u = gridI a 4 := ⟨_, rfl⟩
  have oa : ap.Ok := by rw [hap]; exact gridOk a 4 (by decide)
  obtain ⟨ak, al⟩ := mov_ok (p := ap) (s := 33554432) (by rw [hap]; exact grid4_in a) (by decide) hv1
  obtain ⟨am, ham⟩ : ∃ u, u = movI ap v 33554432 := ⟨_, rfl⟩
  rw [← ham] at al
  obtain ⟨bp, hbp⟩ : ∃ u, u = gridI b 4 := ⟨_, rfl⟩
  have ob : bp.Ok := by rw [hbp]; exact gridOk b 4 (by decide)
  obtain ⟨bk, bl⟩ := mov_ok (p := bp) (s := 33554432) (by rw [hbp]; exact grid4_in b) (by decide) hv1
  obtain ⟨bm, hbm⟩ : ∃ u, u = movI bp v 33554432 := ⟨_, rfl⟩
  rw [← hbm] at bl
  obtain ⟨cp, hcp⟩ : ∃ u, u = gridI c 4 := ⟨_, rfl⟩
  have oc : cp.Ok := by rw [hcp]; exact gridOk c 4 (by decide)
  obtain ⟨ck, cl⟩ := mov_ok (p := cp) (s := 33554432) (by rw [hcp]; exact grid4_in c) (by decide) hv1
  obtain ⟨cm, hcm⟩ : ∃ u, u = movI cp v 33554432 := ⟨_, rfl⟩
  rw [← hcm] at cl
  obtain ⟨dp, hdp⟩ : ∃ u, u = gridI d 4 := ⟨_, rfl⟩
  have od : dp.Ok := by rw [hdp]; exact gridOk d 4 (by decide)
  obtain ⟨dk, dl⟩ := mov_ok (p := dp) (s := 33554432) (by rw [hdp]; exact grid4_in d) (by decide) hv1
  obtain ⟨dm, hdm⟩ : ∃ u, u = movI dp v 33554432 := ⟨_, rfl⟩
  rw [← hdm] at dl
  obtain ⟨ep, hep⟩ : ∃ u, u = gridI e 4 := ⟨_, rfl⟩
  have oe : ep.Ok := by rw [hep]; exact gridOk e 4 (by decide)
  obtain ⟨ek, el⟩ := mov_ok (p := ep) (s := 33554432) (by rw [hep]; exact grid4_in e) (by decide) hv1
  obtain ⟨em, hem⟩ : ∃ u, u = movI ep v 33554432 := ⟨_, rfl⟩
  rw [← hem] at el
  have G1 : Hid (∀ w1, Calls Tryz.prog 12 #[.agg #[.int .i64 a.x, .int .i64 a.y, .int .i64 a.z, .int .i64 b.x, .int .i64 b.y, .int .i64 b.z, .int .i64 c.x, .int .i64 c.y, .int .i64 c.z], .int .i64 4] w1 fun e w' => e = .returned (.agg #[.int .i64 ap.x, .int .i64 ap.y, .int .i64 ap.z, .int .i64 bp.x, .int .i64 bp.y, .int .i64 bp.z, .int .i64 cp.x, .int .i64 cp.y, .int .i64 cp.z]) ∧ Tch [] w1 w') := Lib.hid (fun w1 => by rw [hap, hbp, hcp]; exact rTri a b c 4 (by decide) w1)
  have Gd : Hid (∀ w1, Calls Tryz.prog 11 #[.agg #[.int .i64 d.x, .int .i64 d.y, .int .i64 d.z], .int .i64 4] w1 fun e w' => e = .returned (.agg #[.int .i64 dp.x, .int .i64 dp.y, .int .i64 dp.z]) ∧ Tch [] w1 w') := Lib.hid (fun w1 => by rw [hdp]; exact rGrid d 4 (by decide) w1)
  have Ge : Hid (∀ w1, Calls Tryz.prog 11 #[.agg #[.int .i64 e.x, .int .i64 e.y, .int .i64 e.z], .int .i64 4] w1 fun e w' => e = .returned (.agg #[.int .i64 ep.x, .int .i64 ep.y, .int .i64 ep.z]) ∧ Tch [] w1 w') := Lib.hid (fun w1 => by rw [hep]; exact rGrid e 4 (by decide) w1)
  have MS : Hid (∀ w1, Calls Tryz.prog 18 #[.agg #[.int .i64 ap.x, .int .i64 ap.y, .int .i64 ap.z, .int .i64 bp.x, .int .i64 bp.y, .int .i64 bp.z, .int .i64 cp.x, .int .i64 cp.y, .int .i64 cp.z], .agg #[.int .i64 v.x, .int .i64 v.y, .int .i64 v.z], .int .i64 33554432] w1 fun e w' => e = .returned (.agg #[.int .i64 am.x, .int .i64 am.y, .int .i64 am.z, .int .i64 bm.x, .int .i64 bm.y, .int .i64 bm.z, .int .i64 cm.x, .int .i64 cm.y, .int .i64 cm.z]) ∧ Tch [] w1 w') := Lib.hid (fun w1 => by rw [ham, hbm, hcm]; exact rMovedTri ap bp cp v 33554432 ak bk ck w1)
  have M4 : Hid (∀ w1, Calls Tryz.prog 16 #[.agg #[.int .i64 ap.x, .int .i64 ap.y, .int .i64 ap.z, .int .i64 bp.x, .int .i64 bp.y, .int .i64 bp.z, .int .i64 cp.x, .int .i64 cp.y, .int .i64 cp.z], .agg #[.int .i64 ap.x, .int .i64 ap.y, .int .i64 ap.z, .int .i64 bp.x, .int .i64 bp.y, .int .i64 bp.z, .int .i64 cp.x, .int .i64 cp.y, .int .i64 cp.z]] w1 fun e w' => e = .returned (.bool true) ∧ Tch [] w1 w') := Lib.hid (fun w1 => by have h := Meet ap bp cp ap bp cp oa ob oc oa ob oc w1; rw [meet_self] at h; exact h)
  have MXb : Hid (∀ w1, Calls Tryz.prog 18 #[.agg #[.int .i64 ap.x, .int .i64 ap.y, .int .i64 ap.z, .int .i64 bp.x, .int .i64 bp.y, .int .i64 bp.z, .int .i64 dp.x, .int .i64 dp.y, .int .i64 dp.z], .agg #[.int .i64 v.x, .int .i64 v.y, .int .i64 v.z], .int .i64 33554432] w1 fun e w' => e = .returned (.agg #[.int .i64 am.x, .int .i64 am.y, .int .i64 am.z, .int .i64 bm.x, .int .i64 bm.y, .int .i64 bm.z, .int .i64 dm.x, .int .i64 dm.y, .int .i64 dm.z]) ∧ Tch [] w1 w') := Lib.hid (fun w1 => by rw [ham, hbm, hdm]; exact rMovedTri ap bp dp v 33554432 ak bk dk w1)
  obtain ⟨zb, hzb⟩ : ∃ zb, zb = meetI ap bp cp ap bp dp := ⟨_, rfl⟩
  have MRb : Hid (∀ w1, Calls Tryz.prog 15 #[.agg #[.int .i64 ap.x, .int .i64 ap.y, .int .i64 ap.z, .int .i64 bp.x, .int .i64 bp.y, .int .i64 bp.z, .int .i64 cp.x, .int .i64 cp.y, .int .i64 cp.z], .agg #[.int .i64 ap.x, .int .i64 ap.y, .int .i64 ap.z, .int .i64 bp.x, .int .i64 bp.y, .int .i64 bp.z, .int .i64 dp.x, .int .i64 dp.y, .int .i64 dp.z]] w1 fun e w' => e = .returned (.bool zb) ∧ Tch [] w1 w') := Lib.hid (fun w1 => by rw [hzb, meet_eq]; exact rMeet ap bp cp ap bp dp oa ob oc oa ob od w1)
  have M1b : Hid (∀ w1, Calls Tryz.prog 16 #[.agg #[.int .i64 ap.x, .int .i64 ap.y, .int .i64 ap.z, .int .i64 bp.x, .int .i64 bp.y, .int .i64 bp.z, .int .i64 cp.x, .int .i64 cp.y, .int .i64 cp.z], .agg #[.int .i64 ap.x, .int .i64 ap.y, .int .i64 ap.z, .int .i64 bp.x, .int .i64 bp.y, .int .i64 bp.z, .int .i64 dp.x, .int .i64 dp.y, .int .i64 dp.z]] w1 fun e w' => e = .returned (.bool zb) ∧ Tch [] w1 w') := Lib.hid (fun w1 => by rw [hzb]; exact Meet ap bp cp ap bp dp oa ob oc oa ob od w1)
  have ezb : meetI am bm cm am bm dm = zb := by rw [hzb, ham, hbm, hcm, hdm]; exact meet_mov (by decide) ap bp cp ap bp dp v
  have M2b : Hid (∀ w1, Calls Tryz.prog 16 #[.agg #[.int .i64 am.x, .int .i64 am.y, .int .i64 am.z, .int .i64 bm.x, .int .i64 bm.y, .int .i64 bm.z, .int .i64 cm.x, .int .i64 cm.y, .int .i64 cm.z], .agg #[.int .i64 am.x, .int .i64 am.y, .int .i64 am.z, .int .i64 bm.x, .int .i64 bm.y, .int .i64 bm.z, .int .i64 dm.x, .int .i64 dm.y, .int .i64 dm.z]] w1 fun e w' => e = .returned (.bool zb) ∧ Tch [] w1 w') := Lib.hid (fun w1 => by rw [← ezb]; exact Meet am bm cm am bm dm al bl cl al bl dl w1)
  have M3b : Hid (∀ w1, Calls Tryz.prog 16 #[.agg #[.int .i64 am.x, .int .i64 am.y, .int .i64 am.z, .int .i64 bm.x, .int .i64 bm.y, .int .i64 bm.z, .int .i64 dm.x, .int .i64 dm.y, .int .i64 dm.z], .agg #[.int .i64 am.x, .int .i64 am.y, .int .i64 am.z, .int .i64 bm.x, .int .i64 bm.y, .int .i64 bm.z, .int .i64 cm.x, .int .i64 cm.y, .int .i64 cm.z]] w1 fun e w' => e = .returned (.bool zb) ∧ Tch [] w1 w') := Lib.hid (fun w1 => by rw [← ezb, ← meet_swap]; exact Meet am bm dm am bm cm al bl dl al bl cl w1)
  have MXe : Hid (∀ w1, Calls Tryz.prog 18 #[.agg #[.int .i64 ap.x, .int .i64 ap.y, .int .i64 ap.z, .int .i64 ep.x, .int .i64 ep.y, .int .i64 ep.z, .int .i64 dp.x, .int .i64 dp.y, .int .i64 dp.z], .agg #[.int .i64 v.x, .int .i64 v.y, .int .i64 v.z], .int .i64 33554432] w1 fun e w' => e = .returned (.agg #[.int .i64 am.x, .int .i64 am.y, .int .i64 am.z, .int .i64 em.x, .int .i64 em.y, .int .i64 em.z, .int .i64 dm.x, .int .i64 dm.y, .int .i64 dm.z]) ∧ Tch [] w1 w') := Lib.hid (fun w1 => by rw [ham, hem, hdm]; exact rMovedTri ap ep dp v 33554432 ak ek dk w1)
  obtain ⟨ze, hze⟩ : ∃ ze, ze = meetI ap bp cp ap ep dp := ⟨_, rfl⟩
  have MRe : Hid (∀ w1, Calls Tryz.prog 15 #[.agg #[.int .i64 ap.x, .int .i64 ap.y, .int .i64 ap.z, .int .i64 bp.x, .int .i64 bp.y, .int .i64 bp.z, .int .i64 cp.x, .int .i64 cp.y, .int .i64 cp.z], .agg #[.int .i64 ap.x, .int .i64 ap.y, .int .i64 ap.z, .int .i64 ep.x, .int .i64 ep.y, .int .i64 ep.z, .int .i64 dp.x, .int .i64 dp.y, .int .i64 dp.z]] w1 fun e w' => e = .returned (.bool ze) ∧ Tch [] w1 w') := Lib.hid (fun w1 => by rw [hze, meet_eq]; exact rMeet ap bp cp ap ep dp oa ob oc oa oe od w1)
  have M1e : Hid (∀ w1, Calls Tryz.prog 16 #[.agg #[.int .i64 ap.x, .int .i64 ap.y, .int .i64 ap.z, .int .i64 bp.x, .int .i64 bp.y, .int .i64 bp.z, .int .i64 cp.x, .int .i64 cp.y, .int .i64 cp.z], .agg #[.int .i64 ap.x, .int .i64 ap.y, .int .i64 ap.z, .int .i64 ep.x, .int .i64 ep.y, .int .i64 ep.z, .int .i64 dp.x, .int .i64 dp.y, .int .i64 dp.z]] w1 fun e w' => e = .returned (.bool ze) ∧ Tch [] w1 w') := Lib.hid (fun w1 => by rw [hze]; exact Meet ap bp cp ap ep dp oa ob oc oa oe od w1)
  have eze : meetI am bm cm am em dm = ze := by rw [hze, ham, hbm, hcm, hem, hdm]; exact meet_mov (by decide) ap bp cp ap ep dp v
  have M2e : Hid (∀ w1, Calls Tryz.prog 16 #[.agg #[.int .i64 am.x, .int .i64 am.y, .int .i64 am.z, .int .i64 bm.x, .int .i64 bm.y, .int .i64 bm.z, .int .i64 cm.x, .int .i64 cm.y, .int .i64 cm.z], .agg #[.int .i64 am.x, .int .i64 am.y, .int .i64 am.z, .int .i64 em.x, .int .i64 em.y, .int .i64 em.z, .int .i64 dm.x, .int .i64 dm.y, .int .i64 dm.z]] w1 fun e w' => e = .returned (.bool ze) ∧ Tch [] w1 w') := Lib.hid (fun w1 => by rw [← eze]; exact Meet am bm cm am em dm al bl cl al el dl w1)
  have M3e : Hid (∀ w1, Calls Tryz.prog 16 #[.agg #[.int .i64 am.x, .int .i64 am.y, .int .i64 am.z, .int .i64 em.x, .int .i64 em.y, .int .i64 em.z, .int .i64 dm.x, .int .i64 dm.y, .int .i64 dm.z], .agg #[.int .i64 am.x, .int .i64 am.y, .int .i64 am.z, .int .i64 bm.x, .int .i64 bm.y, .int .i64 bm.z, .int .i64 cm.x, .int .i64 cm.y, .int .i64 cm.z]] w1 fun e w' => e = .returned (.bool ze) ∧ Tch [] w1 w') := Lib.hid (fun w1 => by rw [← eze, ← meet_swap]; exact Meet am em dm am bm cm al el dl al bl cl w1)
  have CS := Lib.hid (fun w1 => sanity w1)
  have HN := Lib.hid hn
  have HV := Lib.hid hv
  clear hn hv hv1 hzb hze ezb eze hap oa ak al ham hbp ob bk bl hbm hcp oc ck cl hcm hdp od dk dl hdm hep oe ek el hem
  have F : Hid (Fr w (((w.alloc (.cells #[.int .i64 a.x, .int .i64 a.y, .int .i64 a.z, .int .i64 b.x, .int .i64 b.y, .int .i64 b.z, .int .i64 c.x, .int .i64 c.y, .int .i64 c.z] 31)).alloc (.cells #[.int .i64 d.x, .int .i64 d.y, .int .i64 d.z, .int .i64 e.x, .int .i64 e.y, .int .i64 e.z] 41)).alloc (.cells #[.int .i64 m0, .int .i64 m1, .int .i64 m2, .int .i64 m3] 42)) [(w.heap.size, .cells #[.int .i64 a.x, .int .i64 a.y, .int .i64 a.z, .int .i64 b.x, .int .i64 b.y, .int .i64 b.z, .int .i64 c.x, .int .i64 c.y, .int .i64 c.z] 31 (0, 0)), (w.heap.size + 1, .cells #[.int .i64 d.x, .int .i64 d.y, .int .i64 d.z, .int .i64 e.x, .int .i64 e.y, .int .i64 e.z] 41 (0, 0)), (w.heap.size + 1 + 1, .cells #[.int .i64 m0, .int .i64 m1, .int .i64 m2, .int .i64 m3] 42 (0, 0))]) := Lib.hid ((((Fr.nil w).add (.cells #[.int .i64 a.x, .int .i64 a.y, .int .i64 a.z, .int .i64 b.x, .int .i64 b.y, .int .i64 b.z, .int .i64 c.x, .int .i64 c.y, .int .i64 c.z] 31) (w.heap.size) rfl).add (.cells #[.int .i64 d.x, .int .i64 d.y, .int .i64 d.z, .int .i64 e.x, .int .i64 e.y, .int .i64 e.z] 41) (w.heap.size + 1) (by simp)).add (.cells #[.int .i64 m0, .int .i64 m1, .int .i64 m2, .int .i64 m3] 42) (w.heap.size + 1 + 1) (by simp))
  go_enter Tryz.func7, Tryz.ntmps7
  go_wp2_with fail
  refine (CS.out _).mono ?_
  rintro e' w1 ⟨rfl, hT⟩
  have F := Lib.hid (F.out.keep hT)
  clear hT CS
  obtain ⟨⟨x0, x1, x2⟩, ⟨x3, x4, x5⟩, x6, x7, x8⟩ := F.out.nine 0 rfl
  go_wp2_with fail
  refine (G1.out _).mono ?_
  rintro e' w2 ⟨rfl, hT⟩
  have F := Lib.hid ((F.out.keep hT).add (.cells #[.int .i64 ap.x, .int .i64 ap.y, .int .i64 ap.z, .int .i64 bp.x, .int .i64 bp.y, .int .i64 bp.z, .int .i64 cp.x, .int .i64 cp.y, .int .i64 cp.z] 33) w2.heap.size rfl)
  have FB := Lib.hid (F.out.boxedAt (.cells #[.int .i64 ap.x, .int .i64 ap.y, .int .i64 ap.z, .int .i64 bp.x, .int .i64 bp.y, .int .i64 bp.z, .int .i64 cp.x, .int .i64 cp.y, .int .i64 cp.z] 33) (w2.heap.size + 1) (by simp) (Tch.refl [] _))
  clear hT G1 x0 x1 x2 x3 x4 x5 x6 x7 x8
  obtain ⟨n0, n1, n2, n3⟩ := FB.out.f.four 2 rfl
  obtain ⟨⟨x0, x1, x2⟩, ⟨x3, x4, x5⟩, x6, x7, x8⟩ := F.out.nine 3 rfl
  go_upto_region 5 with (fail)
  rw [HN.out]
  obtain ⟨bb, hbb⟩ : ∃ u, u = bits .and .i64 m0 1 := ⟨_, rfl⟩
  rw [← hbb]
  obtain ⟨V, hV⟩ : ∃ V, V = (w2.alloc (.cells #[.int .i64 ap.x, .int .i64 ap.y, .int .i64 ap.z, .int .i64 bp.x, .int .i64 bp.y, .int .i64 bp.z, .int .i64 cp.x, .int .i64 cp.y, .int .i64 cp.z] 33)).alloc (.cells #[.int .i64 ap.x, .int .i64 ap.y, .int .i64 ap.z, .int .i64 bp.x, .int .i64 bp.y, .int .i64 bp.z, .int .i64 cp.x, .int .i64 cp.y, .int .i64 cp.z] 33) := ⟨_, rfl⟩
  rw [← hV] at FB ⊢
  clear hbb HN hV F n0 n1 n2 n3 x0 x1 x2 x3 x4 x5 x6 x7 x8
  obtain ⟨l, G, SF0⟩ : ∃ l, FrB w V l (w2.heap.size + 1) (.cells #[.int .i64 ap.x, .int .i64 ap.y, .int .i64 ap.z, .int .i64 bp.x, .int .i64 bp.y, .int .i64 bp.z, .int .i64 cp.x, .int .i64 cp.y, .int .i64 cp.z] 33) ∧ (∀ w9, Fr w w9 l → (w9.cell? ⟨w.heap.size + 1, 0, none⟩ = some (.int .i64 d.x) ∧ w9.cell? ⟨w.heap.size + 1, 1, none⟩ = some (.int .i64 d.y) ∧ w9.cell? ⟨w.heap.size + 1, 2, none⟩ = some (.int .i64 d.z) ∧ w9.cell? ⟨w.heap.size + 1, 3, none⟩ = some (.int .i64 e.x) ∧ w9.cell? ⟨w.heap.size + 1, 4, none⟩ = some (.int .i64 e.y) ∧ w9.cell? ⟨w.heap.size + 1, 5, none⟩ = some (.int .i64 e.z)) ∧ (w9.cell? ⟨w.heap.size + 1 + 1, 0, none⟩ = some (.int .i64 m0) ∧ w9.cell? ⟨w.heap.size + 1 + 1, 1, none⟩ = some (.int .i64 m1) ∧ w9.cell? ⟨w.heap.size + 1 + 1, 2, none⟩ = some (.int .i64 m2) ∧ w9.cell? ⟨w.heap.size + 1 + 1, 3, none⟩ = some (.int .i64 m3)) ∧ ((w9.cell? ⟨w2.heap.size, 0, none⟩ = some (.int .i64 ap.x) ∧ w9.cell? ⟨w2.heap.size, 1, none⟩ = some (.int .i64 ap.y) ∧ w9.cell? ⟨w2.heap.size, 2, none⟩ = some (.int .i64 ap.z)) ∧ (w9.cell? ⟨w2.heap.size, 3, none⟩ = some (.int .i64 bp.x) ∧ w9.cell? ⟨w2.heap.size, 4, none⟩ = some (.int .i64 bp.y) ∧ w9.cell? ⟨w2.heap.size, 5, none⟩ = some (.int .i64 bp.z)) ∧ w9.cell? ⟨w2.heap.size, 6, none⟩ = some (.int .i64 cp.x) ∧ w9.cell? ⟨w2.heap.size, 7, none⟩ = some (.int .i64 cp.y) ∧ w9.cell? ⟨w2.heap.size, 8, none⟩ = some (.int .i64 cp.z))) :=
    ⟨_, FB.out, fun w9 h => ⟨h.six 1 rfl, h.four 2 rfl, h.nine 3 rfl⟩⟩
  clear FB
  have FB := Lib.hid G
  have SF := Lib.hid SF0
  clear G SF0
  obtain ⟨⟨d0, d1, d2, d3, d4, d5⟩, ⟨n0, n1, n2, n3⟩, ⟨a0, a1, a2⟩, ⟨a3, a4, a5⟩, a6, a7, a8⟩ := SF.out _ FB.out.f; obtain ⟨⟨x0, x1, x2, x3, x4, x5, x6, x7, x8⟩, ⟨f_0, f_1, f_2, f_3, f_4, f_5, f_6, f_7, f_8⟩⟩ := FB.out.nine
  go_wp2_with fail
  refine (Gd.out _).mono ?_
  rintro e' w3 ⟨rfl, hT⟩
  have FB := Lib.hid (FB.out.keep hT)
  clear hT Gd d0 d1 d2 d3 d4 d5 n0 n1 n2 n3 a0 a1 a2 a3 a4 a5 a6 a7 a8 x0 f_0 x1 f_1 x2 f_2 x3 f_3 x4 f_4 x5 f_5 x6 f_6 x7 f_7 x8 f_8
  obtain ⟨⟨d0, d1, d2, d3, d4, d5⟩, ⟨n0, n1, n2, n3⟩, ⟨a0, a1, a2⟩, ⟨a3, a4, a5⟩, a6, a7, a8⟩ := SF.out _ FB.out.f; obtain ⟨⟨x0, x1, x2, x3, x4, x5, x6, x7, x8⟩, ⟨f_0, f_1, f_2, f_3, f_4, f_5, f_6, f_7, f_8⟩⟩ := FB.out.nine
  go_upto_region 6 with (fail)
  have FB := Lib.hid (FB.out.putC (.int .i64 dp.x) (.int .i64 dp.y) (.int .i64 dp.z))
  obtain ⟨V3, hV⟩ : ∃ V3, V3 = ((w3.setCell ⟨w2.heap.size + 1, 6, none⟩ (.int .i64 dp.x)).setCell ⟨w2.heap.size + 1, 7, none⟩ (.int .i64 dp.y)).setCell ⟨w2.heap.size + 1, 8, none⟩ (.int .i64 dp.z) := ⟨_, rfl⟩
  rw [← hV] at FB ⊢
  clear hV d0 d1 d2 d3 d4 d5 n0 n1 n2 n3 a0 a1 a2 a3 a4 a5 a6 a7 a8 x0 f_0 x1 f_1 x2 f_2 x3 f_3 x4 f_4 x5 f_5 x6 f_6 x7 f_7 x8 f_8
  obtain ⟨⟨d0, d1, d2, d3, d4, d5⟩, ⟨n0, n1, n2, n3⟩, ⟨a0, a1, a2⟩, ⟨a3, a4, a5⟩, a6, a7, a8⟩ := SF.out _ FB.out.f; obtain ⟨⟨x0, x1, x2, x3, x4, x5, x6, x7, x8⟩, ⟨f_0, f_1, f_2, f_3, f_4, f_5, f_6, f_7, f_8⟩⟩ := FB.out.nine
  by_cases hn : nn = 1
  · subst hn
    go_wp2_with fail
    refine (Ge.out _).mono ?_
    rintro e' w7 ⟨rfl, hT⟩
    have FB := Lib.hid (FB.out.keep hT)
    clear hT Ge MXb MRb M1b M2b M3b d0 d1 d2 d3 d4 d5 n0 n1 n2 n3 a0 a1 a2 a3 a4 a5 a6 a7 a8 x0 f_0 x1 f_1 x2 f_2 x3 f_3 x4 f_4 x5 f_5 x6 f_6 x7 f_7 x8 f_8
    obtain ⟨⟨d0, d1, d2, d3, d4, d5⟩, ⟨n0, n1, n2, n3⟩, ⟨a0, a1, a2⟩, ⟨a3, a4, a5⟩, a6, a7, a8⟩ := SF.out _ FB.out.f; obtain ⟨⟨x0, x1, x2, x3, x4, x5, x6, x7, x8⟩, ⟨f_0, f_1, f_2, f_3, f_4, f_5, f_6, f_7, f_8⟩⟩ := FB.out.nine
    go_upto_region 8 with (fail)
    have FB := Lib.hid (FB.out.putB (.int .i64 ep.x) (.int .i64 ep.y) (.int .i64 ep.z))
    obtain ⟨V4, hV⟩ : ∃ V4, V4 = ((w7.setCell ⟨w2.heap.size + 1, 3, none⟩ (.int .i64 ep.x)).setCell ⟨w2.heap.size + 1, 4, none⟩ (.int .i64 ep.y)).setCell ⟨w2.heap.size + 1, 5, none⟩ (.int .i64 ep.z) := ⟨_, rfl⟩
    rw [← hV] at FB ⊢
    clear hV d0 d1 d2 d3 d4 d5 n0 n1 n2 n3 a0 a1 a2 a3 a4 a5 a6 a7 a8 x0 f_0 x1 f_1 x2 f_2 x3 f_3 x4 f_4 x5 f_5 x6 f_6 x7 f_7 x8 f_8
    obtain ⟨⟨d0, d1, d2, d3, d4, d5⟩, ⟨n0, n1, n2, n3⟩, ⟨a0, a1, a2⟩, ⟨a3, a4, a5⟩, a6, a7, a8⟩ := SF.out _ FB.out.f; obtain ⟨⟨x0, x1, x2, x3, x4, x5, x6, x7, x8⟩, ⟨f_0, f_1, f_2, f_3, f_4, f_5, f_6, f_7, f_8⟩⟩ := FB.out.nine
    go_upto_region 9 with (fail)
    have e0 : m1.tmod 1099511627776 = v.x := by rw [HV.out]
    have e1 : m2.tmod 1099511627776 = v.y := by rw [HV.out]
    have e2 : m3.tmod 1099511627776 = v.z := by rw [HV.out]
    rw [e0, e1, e2]
    clear e0 e1 e2 HV d0 d1 d2 d3 d4 d5 n0 n1 n2 n3 a0 a1 a2 a3 a4 a5 a6 a7 a8 x0 f_0 x1 f_1 x2 f_2 x3 f_3 x4 f_4 x5 f_5 x6 f_6 x7 f_7 x8 f_8
    have F := Lib.hid (FB.out.all.add (.cells #[.int .i64 v.x, .int .i64 v.y, .int .i64 v.z] 22) V4.heap.size rfl)
    obtain ⟨V5, hV⟩ : ∃ V5, V5 = V4.alloc (.cells #[.int .i64 v.x, .int .i64 v.y, .int .i64 v.z] 22) := ⟨_, rfl⟩
    rw [← hV] at F ⊢
    obtain ⟨l2, G, SF0⟩ : ∃ l2, Fr w V5 l2 ∧ (∀ w9, Fr w w9 l2 → ((w9.cell? ⟨w2.heap.size, 0, none⟩ = some (.int .i64 ap.x) ∧ w9.cell? ⟨w2.heap.size, 1, none⟩ = some (.int .i64 ap.y) ∧ w9.cell? ⟨w2.heap.size, 2, none⟩ = some (.int .i64 ap.z)) ∧ (w9.cell? ⟨w2.heap.size, 3, none⟩ = some (.int .i64 bp.x) ∧ w9.cell? ⟨w2.heap.size, 4, none⟩ = some (.int .i64 bp.y) ∧ w9.cell? ⟨w2.heap.size, 5, none⟩ = some (.int .i64 bp.z)) ∧ w9.cell? ⟨w2.heap.size, 6, none⟩ = some (.int .i64 cp.x) ∧ w9.cell? ⟨w2.heap.size, 7, none⟩ = some (.int .i64 cp.y) ∧ w9.cell? ⟨w2.heap.size, 8, none⟩ = some (.int .i64 cp.z)) ∧ ((w9.cell? ⟨w2.heap.size + 1, 0, none⟩ = some (.int .i64 ap.x) ∧ w9.cell? ⟨w2.heap.size + 1, 1, none⟩ = some (.int .i64 ap.y) ∧ w9.cell? ⟨w2.heap.size + 1, 2, none⟩ = some (.int .i64 ap.z)) ∧ (w9.cell? ⟨w2.heap.size + 1, 3, none⟩ = some (.int .i64 ep.x) ∧ w9.cell? ⟨w2.heap.size + 1, 4, none⟩ = some (.int .i64 ep.y) ∧ w9.cell? ⟨w2.heap.size + 1, 5, none⟩ = some (.int .i64 ep.z)) ∧ w9.cell? ⟨w2.heap.size + 1, 6, none⟩ = some (.int .i64 dp.x) ∧ w9.cell? ⟨w2.heap.size + 1, 7, none⟩ = some (.int .i64 dp.y) ∧ w9.cell? ⟨w2.heap.size + 1, 8, none⟩ = some (.int .i64 dp.z)) ∧ (w9.cell? ⟨V4.heap.size, 0, none⟩ = some (.int .i64 v.x) ∧ w9.cell? ⟨V4.heap.size, 1, none⟩ = some (.int .i64 v.y) ∧ w9.cell? ⟨V4.heap.size, 2, none⟩ = some (.int .i64 v.z))) :=
      ⟨_, F.out, fun w9 h => ⟨(SF.out _ h.front.front).2.2, h.front.lnine, h.lthree⟩⟩
    clear F FB SF hV
    have F := Lib.hid G
    have SF := Lib.hid SF0
    clear G SF0
    obtain ⟨⟨⟨a0, a1, a2⟩, ⟨a3, a4, a5⟩, a6, a7, a8⟩, ⟨⟨b0, b1, b2⟩, ⟨b3, b4, b5⟩, b6, b7, b8⟩, v0, v1, v2⟩ := SF.out _ F.out
    go_wp2_with fail
    refine (MS.out _).mono ?_
    rintro e' w4 ⟨rfl, hT⟩
    have F0 := Lib.hid (F.out.keep hT)
    have F := Lib.hid (F0.out.add (.cells #[.int .i64 am.x, .int .i64 am.y, .int .i64 am.z, .int .i64 bm.x, .int .i64 bm.y, .int .i64 bm.z, .int .i64 cm.x, .int .i64 cm.y, .int .i64 cm.z] 33) w4.heap.size rfl)
    have SF1 := Lib.hid (fun (w9 : World) (h : Fr w w9 (l2 ++ [(w4.heap.size, .cells #[.int .i64 am.x, .int .i64 am.y, .int .i64 am.z, .int .i64 bm.x, .int .i64 bm.y, .int .i64 bm.z, .int .i64 cm.x, .int .i64 cm.y, .int .i64 cm.z] 33 (0, 0))])) => And.intro (SF.out w9 h.front) h.lnine)
    clear hT MS F0 a0 a1 a2 a3 a4 a5 a6 a7 a8 b0 b1 b2 b3 b4 b5 b6 b7 b8 v0 v1 v2
    obtain ⟨⟨⟨⟨a0, a1, a2⟩, ⟨a3, a4, a5⟩, a6, a7, a8⟩, ⟨⟨b0, b1, b2⟩, ⟨b3, b4, b5⟩, b6, b7, b8⟩, v0, v1, v2⟩, -⟩ := SF1.out _ F.out
    go_wp2_with fail
    refine (MXe.out _).mono ?_
    rintro e' w5 ⟨rfl, hT⟩
    have F := Lib.hid ((F.out.keep hT).add (.cells #[.int .i64 am.x, .int .i64 am.y, .int .i64 am.z, .int .i64 em.x, .int .i64 em.y, .int .i64 em.z, .int .i64 dm.x, .int .i64 dm.y, .int .i64 dm.z] 33) w5.heap.size rfl)
    clear hT MXe a0 a1 a2 a3 a4 a5 a6 a7 a8 b0 b1 b2 b3 b4 b5 b6 b7 b8 v0 v1 v2
    go_upto_region 11 with (fail)
    obtain ⟨V6, hV⟩ : ∃ V6, V6 = w5.alloc (.cells #[.int .i64 am.x, .int .i64 am.y, .int .i64 am.z, .int .i64 em.x, .int .i64 em.y, .int .i64 em.z, .int .i64 dm.x, .int .i64 dm.y, .int .i64 dm.z] 33) := ⟨_, rfl⟩
    rw [← hV] at F ⊢
    obtain ⟨l3, G, SF0⟩ : ∃ l3, Fr w V6 l3 ∧ (∀ w9, Fr w w9 l3 → ((w9.cell? ⟨w2.heap.size, 0, none⟩ = some (.int .i64 ap.x) ∧ w9.cell? ⟨w2.heap.size, 1, none⟩ = some (.int .i64 ap.y) ∧ w9.cell? ⟨w2.heap.size, 2, none⟩ = some (.int .i64 ap.z)) ∧ (w9.cell? ⟨w2.heap.size, 3, none⟩ = some (.int .i64 bp.x) ∧ w9.cell? ⟨w2.heap.size, 4, none⟩ = some (.int .i64 bp.y) ∧ w9.cell? ⟨w2.heap.size, 5, none⟩ = some (.int .i64 bp.z)) ∧ w9.cell? ⟨w2.heap.size, 6, none⟩ = some (.int .i64 cp.x) ∧ w9.cell? ⟨w2.heap.size, 7, none⟩ = some (.int .i64 cp.y) ∧ w9.cell? ⟨w2.heap.size, 8, none⟩ = some (.int .i64 cp.z)) ∧ ((w9.cell? ⟨w2.heap.size + 1, 0, none⟩ = some (.int .i64 ap.x) ∧ w9.cell? ⟨w2.heap.size + 1, 1, none⟩ = some (.int .i64 ap.y) ∧ w9.cell? ⟨w2.heap.size + 1, 2, none⟩ = some (.int .i64 ap.z)) ∧ (w9.cell? ⟨w2.heap.size + 1, 3, none⟩ = some (.int .i64 ep.x) ∧ w9.cell? ⟨w2.heap.size + 1, 4, none⟩ = some (.int .i64 ep.y) ∧ w9.cell? ⟨w2.heap.size + 1, 5, none⟩ = some (.int .i64 ep.z)) ∧ w9.cell? ⟨w2.heap.size + 1, 6, none⟩ = some (.int .i64 dp.x) ∧ w9.cell? ⟨w2.heap.size + 1, 7, none⟩ = some (.int .i64 dp.y) ∧ w9.cell? ⟨w2.heap.size + 1, 8, none⟩ = some (.int .i64 dp.z)) ∧ ((w9.cell? ⟨w4.heap.size, 0, none⟩ = some (.int .i64 am.x) ∧ w9.cell? ⟨w4.heap.size, 1, none⟩ = some (.int .i64 am.y) ∧ w9.cell? ⟨w4.heap.size, 2, none⟩ = some (.int .i64 am.z)) ∧ (w9.cell? ⟨w4.heap.size, 3, none⟩ = some (.int .i64 bm.x) ∧ w9.cell? ⟨w4.heap.size, 4, none⟩ = some (.int .i64 bm.y) ∧ w9.cell? ⟨w4.heap.size, 5, none⟩ = some (.int .i64 bm.z)) ∧ w9.cell? ⟨w4.heap.size, 6, none⟩ = some (.int .i64 cm.x) ∧ w9.cell? ⟨w4.heap.size, 7, none⟩ = some (.int .i64 cm.y) ∧ w9.cell? ⟨w4.heap.size, 8, none⟩ = some (.int .i64 cm.z)) ∧ ((w9.cell? ⟨w5.heap.size, 0, none⟩ = some (.int .i64 am.x) ∧ w9.cell? ⟨w5.heap.size, 1, none⟩ = some (.int .i64 am.y) ∧ w9.cell? ⟨w5.heap.size, 2, none⟩ = some (.int .i64 am.z)) ∧ (w9.cell? ⟨w5.heap.size, 3, none⟩ = some (.int .i64 em.x) ∧ w9.cell? ⟨w5.heap.size, 4, none⟩ = some (.int .i64 em.y) ∧ w9.cell? ⟨w5.heap.size, 5, none⟩ = some (.int .i64 em.z)) ∧ w9.cell? ⟨w5.heap.size, 6, none⟩ = some (.int .i64 dm.x) ∧ w9.cell? ⟨w5.heap.size, 7, none⟩ = some (.int .i64 dm.y) ∧ w9.cell? ⟨w5.heap.size, 8, none⟩ = some (.int .i64 dm.z))) :=
      ⟨_, F.out, fun w9 h => ⟨(SF1.out _ h.front).1.1, (SF1.out _ h.front).1.2.1, (SF1.out _ h.front).2, h.lnine⟩⟩
    clear F SF SF1 hV
    have F := Lib.hid G
    have SF := Lib.hid SF0
    clear G SF0
    obtain ⟨⟨⟨a0, a1, a2⟩, ⟨a3, a4, a5⟩, a6, a7, a8⟩, ⟨⟨b0, b1, b2⟩, ⟨b3, b4, b5⟩, b6, b7, b8⟩, ⟨⟨c0, c1, c2⟩, ⟨c3, c4, c5⟩, c6, c7, c8⟩, ⟨d0, d1, d2⟩, ⟨d3, d4, d5⟩, d6, d7, d8⟩ := SF.out _ F.out
    go_wp2_with fail
    refine (MRe.out _).mono ?_
    rintro e' w6 ⟨rfl, hT⟩
    have F := Lib.hid (F.out.keep hT)
    clear hT MRe a0 a1 a2 a3 a4 a5 a6 a7 a8 b0 b1 b2 b3 b4 b5 b6 b7 b8 c0 c1 c2 c3 c4 c5 c6 c7 c8 d0 d1 d2 d3 d4 d5 d6 d7 d8
    obtain ⟨⟨⟨a0, a1, a2⟩, ⟨a3, a4, a5⟩, a6, a7, a8⟩, ⟨⟨b0, b1, b2⟩, ⟨b3, b4, b5⟩, b6, b7, b8⟩, ⟨⟨c0, c1, c2⟩, ⟨c3, c4, c5⟩, c6, c7, c8⟩, ⟨d0, d1, d2⟩, ⟨d3, d4, d5⟩, d6, d7, d8⟩ := SF.out _ F.out
    cases ze
    all_goals
      go_wp2_with (go_at_call 16; (first | (with_reducible refine (M1e.out _).mono ?_) | (with_reducible refine (M2e.out _).mono ?_) | (with_reducible refine (M3e.out _).mono ?_) | (with_reducible refine (M4.out _).mono ?_)); rintro e w6 ⟨rfl, hT⟩; have F := Lib.hid (F.out.keep hT); clear hT a0 a1 a2 a3 a4 a5 a6 a7 a8 b0 b1 b2 b3 b4 b5 b6 b7 b8 c0 c1 c2 c3 c4 c5 c6 c7 c8 d0 d1 d2 d3 d4 d5 d6 d7 d8; obtain ⟨⟨⟨a0, a1, a2⟩, ⟨a3, a4, a5⟩, a6, a7, a8⟩, ⟨⟨b0, b1, b2⟩, ⟨b3, b4, b5⟩, b6, b7, b8⟩, ⟨⟨c0, c1, c2⟩, ⟨c3, c4, c5⟩, c6, c7, c8⟩, ⟨d0, d1, d2⟩, ⟨d3, d4, d5⟩, d6, d7, d8⟩ := SF.out _ F.out)
      go_ret
      exact ⟨rfl, F.out.t⟩
  · have hb : (nn == 1) = false := beq_eq_false_iff_ne.2 hn
    clear hn Ge MXe MRe M1e M2e M3e
    go_upto_region 9 with (fail)
    clear hb
    have e0 : m1.tmod 1099511627776 = v.x := by rw [HV.out]
    have e1 : m2.tmod 1099511627776 = v.y := by rw [HV.out]
    have e2 : m3.tmod 1099511627776 = v.z := by rw [HV.out]
    rw [e0, e1, e2]
    clear e0 e1 e2 HV d0 d1 d2 d3 d4 d5 n0 n1 n2 n3 a0 a1 a2 a3 a4 a5 a6 a7 a8 x0 f_0 x1 f_1 x2 f_2 x3 f_3 x4 f_4 x5 f_5 x6 f_6 x7 f_7 x8 f_8
    have F := Lib.hid (FB.out.all.add (.cells #[.int .i64 v.x, .int .i64 v.y, .int .i64 v.z] 22) V3.heap.size rfl)
    obtain ⟨V5, hV⟩ : ∃ V5, V5 = V3.alloc (.cells #[.int .i64 v.x, .int .i64 v.y, .int .i64 v.z] 22) := ⟨_, rfl⟩
    rw [← hV] at F ⊢
    obtain ⟨l2, G, SF0⟩ : ∃ l2, Fr w V5 l2 ∧ (∀ w9, Fr w w9 l2 → ((w9.cell? ⟨w2.heap.size, 0, none⟩ = some (.int .i64 ap.x) ∧ w9.cell? ⟨w2.heap.size, 1, none⟩ = some (.int .i64 ap.y) ∧ w9.cell? ⟨w2.heap.size, 2, none⟩ = some (.int .i64 ap.z)) ∧ (w9.cell? ⟨w2.heap.size, 3, none⟩ = some (.int .i64 bp.x) ∧ w9.cell? ⟨w2.heap.size, 4, none⟩ = some (.int .i64 bp.y) ∧ w9.cell? ⟨w2.heap.size, 5, none⟩ = some (.int .i64 bp.z)) ∧ w9.cell? ⟨w2.heap.size, 6, none⟩ = some (.int .i64 cp.x) ∧ w9.cell? ⟨w2.heap.size, 7, none⟩ = some (.int .i64 cp.y) ∧ w9.cell? ⟨w2.heap.size, 8, none⟩ = some (.int .i64 cp.z)) ∧ ((w9.cell? ⟨w2.heap.size + 1, 0, none⟩ = some (.int .i64 ap.x) ∧ w9.cell? ⟨w2.heap.size + 1, 1, none⟩ = some (.int .i64 ap.y) ∧ w9.cell? ⟨w2.heap.size + 1, 2, none⟩ = some (.int .i64 ap.z)) ∧ (w9.cell? ⟨w2.heap.size + 1, 3, none⟩ = some (.int .i64 bp.x) ∧ w9.cell? ⟨w2.heap.size + 1, 4, none⟩ = some (.int .i64 bp.y) ∧ w9.cell? ⟨w2.heap.size + 1, 5, none⟩ = some (.int .i64 bp.z)) ∧ w9.cell? ⟨w2.heap.size + 1, 6, none⟩ = some (.int .i64 dp.x) ∧ w9.cell? ⟨w2.heap.size + 1, 7, none⟩ = some (.int .i64 dp.y) ∧ w9.cell? ⟨w2.heap.size + 1, 8, none⟩ = some (.int .i64 dp.z)) ∧ (w9.cell? ⟨V3.heap.size, 0, none⟩ = some (.int .i64 v.x) ∧ w9.cell? ⟨V3.heap.size, 1, none⟩ = some (.int .i64 v.y) ∧ w9.cell? ⟨V3.heap.size, 2, none⟩ = some (.int .i64 v.z))) :=
      ⟨_, F.out, fun w9 h => ⟨(SF.out _ h.front.front).2.2, h.front.lnine, h.lthree⟩⟩
    clear F FB SF hV
    have F := Lib.hid G
    have SF := Lib.hid SF0
    clear G SF0
    obtain ⟨⟨⟨a0, a1, a2⟩, ⟨a3, a4, a5⟩, a6, a7, a8⟩, ⟨⟨b0, b1, b2⟩, ⟨b3, b4, b5⟩, b6, b7, b8⟩, v0, v1, v2⟩ := SF.out _ F.out
    go_wp2_with fail
    refine (MS.out _).mono ?_
    rintro e' w4 ⟨rfl, hT⟩
    have F0 := Lib.hid (F.out.keep hT)
    have F := Lib.hid (F0.out.add (.cells #[.int .i64 am.x, .int .i64 am.y, .int .i64 am.z, .int .i64 bm.x, .int .i64 bm.y, .int .i64 bm.z, .int .i64 cm.x, .int .i64 cm.y, .int .i64 cm.z] 33) w4.heap.size rfl)
    have SF1 := Lib.hid (fun (w9 : World) (h : Fr w w9 (l2 ++ [(w4.heap.size, .cells #[.int .i64 am.x, .int .i64 am.y, .int .i64 am.z, .int .i64 bm.x, .int .i64 bm.y, .int .i64 bm.z, .int .i64 cm.x, .int .i64 cm.y, .int .i64 cm.z] 33 (0, 0))])) => And.intro (SF.out w9 h.front) h.lnine)
    clear hT MS F0 a0 a1 a2 a3 a4 a5 a6 a7 a8 b0 b1 b2 b3 b4 b5 b6 b7 b8 v0 v1 v2
    obtain ⟨⟨⟨⟨a0, a1, a2⟩, ⟨a3, a4, a5⟩, a6, a7, a8⟩, ⟨⟨b0, b1, b2⟩, ⟨b3, b4, b5⟩, b6, b7, b8⟩, v0, v1, v2⟩, -⟩ := SF1.out _ F.out
    go_wp2_with fail
    refine (MXb.out _).mono ?_
    rintro e' w5 ⟨rfl, hT⟩
    have F := Lib.hid ((F.out.keep hT).add (.cells #[.int .i64 am.x, .int .i64 am.y, .int .i64 am.z, .int .i64 bm.x, .int .i64 bm.y, .int .i64 bm.z, .int .i64 dm.x, .int .i64 dm.y, .int .i64 dm.z] 33) w5.heap.size rfl)
    clear hT MXb a0 a1 a2 a3 a4 a5 a6 a7 a8 b0 b1 b2 b3 b4 b5 b6 b7 b8 v0 v1 v2
    go_upto_region 11 with (fail)
    obtain ⟨V6, hV⟩ : ∃ V6, V6 = w5.alloc (.cells #[.int .i64 am.x, .int .i64 am.y, .int .i64 am.z, .int .i64 bm.x, .int .i64 bm.y, .int .i64 bm.z, .int .i64 dm.x, .int .i64 dm.y, .int .i64 dm.z] 33) := ⟨_, rfl⟩
    rw [← hV] at F ⊢
    obtain ⟨l3, G, SF0⟩ : ∃ l3, Fr w V6 l3 ∧ (∀ w9, Fr w w9 l3 → ((w9.cell? ⟨w2.heap.size, 0, none⟩ = some (.int .i64 ap.x) ∧ w9.cell? ⟨w2.heap.size, 1, none⟩ = some (.int .i64 ap.y) ∧ w9.cell? ⟨w2.heap.size, 2, none⟩ = some (.int .i64 ap.z)) ∧ (w9.cell? ⟨w2.heap.size, 3, none⟩ = some (.int .i64 bp.x) ∧ w9.cell? ⟨w2.heap.size, 4, none⟩ = some (.int .i64 bp.y) ∧ w9.cell? ⟨w2.heap.size, 5, none⟩ = some (.int .i64 bp.z)) ∧ w9.cell? ⟨w2.heap.size, 6, none⟩ = some (.int .i64 cp.x) ∧ w9.cell? ⟨w2.heap.size, 7, none⟩ = some (.int .i64 cp.y) ∧ w9.cell? ⟨w2.heap.size, 8, none⟩ = some (.int .i64 cp.z)) ∧ ((w9.cell? ⟨w2.heap.size + 1, 0, none⟩ = some (.int .i64 ap.x) ∧ w9.cell? ⟨w2.heap.size + 1, 1, none⟩ = some (.int .i64 ap.y) ∧ w9.cell? ⟨w2.heap.size + 1, 2, none⟩ = some (.int .i64 ap.z)) ∧ (w9.cell? ⟨w2.heap.size + 1, 3, none⟩ = some (.int .i64 bp.x) ∧ w9.cell? ⟨w2.heap.size + 1, 4, none⟩ = some (.int .i64 bp.y) ∧ w9.cell? ⟨w2.heap.size + 1, 5, none⟩ = some (.int .i64 bp.z)) ∧ w9.cell? ⟨w2.heap.size + 1, 6, none⟩ = some (.int .i64 dp.x) ∧ w9.cell? ⟨w2.heap.size + 1, 7, none⟩ = some (.int .i64 dp.y) ∧ w9.cell? ⟨w2.heap.size + 1, 8, none⟩ = some (.int .i64 dp.z)) ∧ ((w9.cell? ⟨w4.heap.size, 0, none⟩ = some (.int .i64 am.x) ∧ w9.cell? ⟨w4.heap.size, 1, none⟩ = some (.int .i64 am.y) ∧ w9.cell? ⟨w4.heap.size, 2, none⟩ = some (.int .i64 am.z)) ∧ (w9.cell? ⟨w4.heap.size, 3, none⟩ = some (.int .i64 bm.x) ∧ w9.cell? ⟨w4.heap.size, 4, none⟩ = some (.int .i64 bm.y) ∧ w9.cell? ⟨w4.heap.size, 5, none⟩ = some (.int .i64 bm.z)) ∧ w9.cell? ⟨w4.heap.size, 6, none⟩ = some (.int .i64 cm.x) ∧ w9.cell? ⟨w4.heap.size, 7, none⟩ = some (.int .i64 cm.y) ∧ w9.cell? ⟨w4.heap.size, 8, none⟩ = some (.int .i64 cm.z)) ∧ ((w9.cell? ⟨w5.heap.size, 0, none⟩ = some (.int .i64 am.x) ∧ w9.cell? ⟨w5.heap.size, 1, none⟩ = some (.int .i64 am.y) ∧ w9.cell? ⟨w5.heap.size, 2, none⟩ = some (.int .i64 am.z)) ∧ (w9.cell? ⟨w5.heap.size, 3, none⟩ = some (.int .i64 bm.x) ∧ w9.cell? ⟨w5.heap.size, 4, none⟩ = some (.int .i64 bm.y) ∧ w9.cell? ⟨w5.heap.size, 5, none⟩ = some (.int .i64 bm.z)) ∧ w9.cell? ⟨w5.heap.size, 6, none⟩ = some (.int .i64 dm.x) ∧ w9.cell? ⟨w5.heap.size, 7, none⟩ = some (.int .i64 dm.y) ∧ w9.cell? ⟨w5.heap.size, 8, none⟩ = some (.int .i64 dm.z))) :=
      ⟨_, F.out, fun w9 h => ⟨(SF1.out _ h.front).1.1, (SF1.out _ h.front).1.2.1, (SF1.out _ h.front).2, h.lnine⟩⟩
    clear F SF SF1 hV
    have F := Lib.hid G
    have SF := Lib.hid SF0
    clear G SF0
    obtain ⟨⟨⟨a0, a1, a2⟩, ⟨a3, a4, a5⟩, a6, a7, a8⟩, ⟨⟨b0, b1, b2⟩, ⟨b3, b4, b5⟩, b6, b7, b8⟩, ⟨⟨c0, c1, c2⟩, ⟨c3, c4, c5⟩, c6, c7, c8⟩, ⟨d0, d1, d2⟩, ⟨d3, d4, d5⟩, d6, d7, d8⟩ := SF.out _ F.out
    go_wp2_with fail
    refine (MRb.out _).mono ?_
    rintro e' w6 ⟨rfl, hT⟩
    have F := Lib.hid (F.out.keep hT)
    clear hT MRb a0 a1 a2 a3 a4 a5 a6 a7 a8 b0 b1 b2 b3 b4 b5 b6 b7 b8 c0 c1 c2 c3 c4 c5 c6 c7 c8 d0 d1 d2 d3 d4 d5 d6 d7 d8
    obtain ⟨⟨⟨a0, a1, a2⟩, ⟨a3, a4, a5⟩, a6, a7, a8⟩, ⟨⟨b0, b1, b2⟩, ⟨b3, b4, b5⟩, b6, b7, b8⟩, ⟨⟨c0, c1, c2⟩, ⟨c3, c4, c5⟩, c6, c7, c8⟩, ⟨d0, d1, d2⟩, ⟨d3, d4, d5⟩, d6, d7, d8⟩ := SF.out _ F.out
    cases zb
    all_goals
      go_wp2_with (go_at_call 16; (first | (with_reducible refine (M1b.out _).mono ?_) | (with_reducible refine (M2b.out _).mono ?_) | (with_reducible refine (M3b.out _).mono ?_) | (with_reducible refine (M4.out _).mono ?_)); rintro e w6 ⟨rfl, hT⟩; have F := Lib.hid (F.out.keep hT); clear hT a0 a1 a2 a3 a4 a5 a6 a7 a8 b0 b1 b2 b3 b4 b5 b6 b7 b8 c0 c1 c2 c3 c4 c5 c6 c7 c8 d0 d1 d2 d3 d4 d5 d6 d7 d8; obtain ⟨⟨⟨a0, a1, a2⟩, ⟨a3, a4, a5⟩, a6, a7, a8⟩, ⟨⟨b0, b1, b2⟩, ⟨b3, b4, b5⟩, b6, b7, b8⟩, ⟨⟨c0, c1, c2⟩, ⟨c3, c4, c5⟩, c6, c7, c8⟩, ⟨d0, d1, d2⟩, ⟨d3, d4, d5⟩, d6, d7, d8⟩ := SF.out _ F.out)
      go_ret
      exact ⟨rfl, F.out.t⟩

end Go.Proofs.YtpedbahppkimbaaGreatDoor
