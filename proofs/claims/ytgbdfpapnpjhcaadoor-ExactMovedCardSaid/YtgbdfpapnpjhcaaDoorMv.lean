/- The walk of ExactMoved. -/
import Derived.Test.YtgbdfpapnpjhcaaDoorSan2
import Derived.Test.YtgbdfpapnpjhcaaDoorMvd
namespace Go.Proofs.YtgbdfpapnpjhcaaDoor
open Go Go.RowKit Dg

theorem grid_in (a : P3) : (0 ≤ (gridI a 1000).x ∧ (gridI a 1000).x < 1000) ∧ (0 ≤ (gridI a 1000).y ∧ (gridI a 1000).y < 1000) ∧ 0 ≤ (gridI a 1000).z ∧ (gridI a 1000).z < 1000 := by
  unfold gridI; simp only; omega
theorem grid_ok (a : P3) : (gridI a 1000).Ok := by
  have h := grid_in a
  exact ⟨⟨by omega, by omega⟩, ⟨by omega, by omega⟩, ⟨by omega, by omega⟩⟩
theorem tmod_in (m : Int) : -1099511627776 < m.tmod 1099511627776 ∧ m.tmod 1099511627776 < 1099511627776 := by
  have h1 := Int.tmod_lt_of_pos m (b := 1099511627776) (by decide)
  have h2 := Int.lt_tmod_of_pos m (b := 1099511627776) (by decide)
  omega

theorem Fr.lthree' {w0 w : World} {l : List (Nat × Obj)} {g : Nat} {x y z : Value} {T : TypeId} (h : Fr w0 w (l ++ [(g, .cells #[x, y, z] T (0, 0))])) : w.cell? ⟨g, 0, none⟩ = some x ∧ w.cell? ⟨g, 1, none⟩ = some y ∧ w.cell? ⟨g, 2, none⟩ = some z := ⟨h.last 0 rfl, h.last 1 rfl, h.last 2 rfl⟩
theorem Fr.lnine' {w0 w : World} {l : List (Nat × Obj)} {g : Nat} {x y z p q r s t u : Value} {T : TypeId} (h : Fr w0 w (l ++ [(g, .cells #[x, y, z, p, q, r, s, t, u] T (0, 0))])) : (w.cell? ⟨g, 0, none⟩ = some x ∧ w.cell? ⟨g, 1, none⟩ = some y ∧ w.cell? ⟨g, 2, none⟩ = some z) ∧ (w.cell? ⟨g, 3, none⟩ = some p ∧ w.cell? ⟨g, 4, none⟩ = some q ∧ w.cell? ⟨g, 5, none⟩ = some r) ∧ w.cell? ⟨g, 6, none⟩ = some s ∧ w.cell? ⟨g, 7, none⟩ = some t ∧ w.cell? ⟨g, 8, none⟩ = some u := ⟨⟨h.last 0 rfl, h.last 1 rfl, h.last 2 rfl⟩, ⟨h.last 3 rfl, h.last 4 rfl, h.last 5 rfl⟩, h.last 6 rfl, h.last 7 rfl, h.last 8 rfl⟩

set_option maxHeartbeats 16000000 in
set_option maxRecDepth 100000 in
theorem mv_walk (a b c d : P3) (m0 m1 m2 m3 : Int) (w : World) :
    Calls Tryd.prog 3 #[.agg #[.int .i64 a.x, .int .i64 a.y, .int .i64 a.z, .int .i64 b.x, .int .i64 b.y, .int .i64 b.z], .agg #[.int .i64 c.x, .int .i64 c.y, .int .i64 c.z, .int .i64 d.x, .int .i64 d.y, .int .i64 d.z], .agg #[.int .i64 m0, .int .i64 m1, .int .i64 m2, .int .i64 m3]] w fun e w' => e = .returned (.bool true) ∧ Tch [] w w' := by
  obtain ⟨sc, hsc⟩ : ∃ s, s = 1 + bits .and .i64 m3 1073741823 := ⟨_, rfl⟩
  have hs1 : 0 < sc ∧ sc ≤ 1073741824 := by have := and_i64 m3; omega
  have hs2 : wrap64 (1 + bits .and .i64 m3 1073741823) = sc := by rw [hsc]; exact wrap64_in (by rw [← hsc]; omega)
  obtain ⟨v, hv⟩ : ∃ v : P3, v = ⟨m0.tmod 1099511627776, m1.tmod 1099511627776, m2.tmod 1099511627776⟩ := ⟨_, rfl⟩
  have hv1 : (-1099511627776 < v.x ∧ v.x < 1099511627776) ∧ (-1099511627776 < v.y ∧ v.y < 1099511627776) ∧ -1099511627776 < v.z ∧ v.z < 1099511627776 := by rw [hv]; exact ⟨tmod_in m0, tmod_in m1, tmod_in m2⟩
  obtain ⟨ap, hap⟩ : ∃ u, u = gridI a 1000 := ⟨_, rfl⟩
  have oa : ap.Ok := by rw [hap]; exact grid_ok a
  obtain ⟨ak, al⟩ := mov_ok (p := ap) (by rw [hap]; exact grid_in a) hs1 hv1
  obtain ⟨am, ham⟩ : ∃ u, u = movI ap v sc := ⟨_, rfl⟩
  rw [← ham] at al
  have Ga : Hid (∀ w1, Calls Tryd.prog 9 #[.agg #[.int .i64 a.x, .int .i64 a.y, .int .i64 a.z], .int .i64 1000] w1 fun e w' => e = .returned (.agg #[.int .i64 ap.x, .int .i64 ap.y, .int .i64 ap.z]) ∧ Tch [] w1 w') := Lib.hid (fun w1 => by rw [hap]; exact rGrid a 1000 (by omega) w1)
  have Ma : Hid (∀ w1, Calls Tryd.prog 10 #[.agg #[.int .i64 ap.x, .int .i64 ap.y, .int .i64 ap.z], .agg #[.int .i64 v.x, .int .i64 v.y, .int .i64 v.z], .int .i64 sc] w1 fun e w' => e = .returned (.agg #[.int .i64 am.x, .int .i64 am.y, .int .i64 am.z]) ∧ Tch [] w1 w') := Lib.hid (fun w1 => by rw [ham]; exact rMoved ap v sc ak w1)
  obtain ⟨bp, hbp⟩ : ∃ u, u = gridI b 1000 := ⟨_, rfl⟩
  have ob : bp.Ok := by rw [hbp]; exact grid_ok b
  obtain ⟨bk, bl⟩ := mov_ok (p := bp) (by rw [hbp]; exact grid_in b) hs1 hv1
  obtain ⟨bm, hbm⟩ : ∃ u, u = movI bp v sc := ⟨_, rfl⟩
  rw [← hbm] at bl
  have Gb : Hid (∀ w1, Calls Tryd.prog 9 #[.agg #[.int .i64 b.x, .int .i64 b.y, .int .i64 b.z], .int .i64 1000] w1 fun e w' => e = .returned (.agg #[.int .i64 bp.x, .int .i64 bp.y, .int .i64 bp.z]) ∧ Tch [] w1 w') := Lib.hid (fun w1 => by rw [hbp]; exact rGrid b 1000 (by omega) w1)
  have Mb : Hid (∀ w1, Calls Tryd.prog 10 #[.agg #[.int .i64 bp.x, .int .i64 bp.y, .int .i64 bp.z], .agg #[.int .i64 v.x, .int .i64 v.y, .int .i64 v.z], .int .i64 sc] w1 fun e w' => e = .returned (.agg #[.int .i64 bm.x, .int .i64 bm.y, .int .i64 bm.z]) ∧ Tch [] w1 w') := Lib.hid (fun w1 => by rw [hbm]; exact rMoved bp v sc bk w1)
  obtain ⟨cp, hcp⟩ : ∃ u, u = gridI c 1000 := ⟨_, rfl⟩
  have oc : cp.Ok := by rw [hcp]; exact grid_ok c
  obtain ⟨ck, cl⟩ := mov_ok (p := cp) (by rw [hcp]; exact grid_in c) hs1 hv1
  obtain ⟨cm, hcm⟩ : ∃ u, u = movI cp v sc := ⟨_, rfl⟩
  rw [← hcm] at cl
  have Gc : Hid (∀ w1, Calls Tryd.prog 9 #[.agg #[.int .i64 c.x, .int .i64 c.y, .int .i64 c.z], .int .i64 1000] w1 fun e w' => e = .returned (.agg #[.int .i64 cp.x, .int .i64 cp.y, .int .i64 cp.z]) ∧ Tch [] w1 w') := Lib.hid (fun w1 => by rw [hcp]; exact rGrid c 1000 (by omega) w1)
  have Mc : Hid (∀ w1, Calls Tryd.prog 10 #[.agg #[.int .i64 cp.x, .int .i64 cp.y, .int .i64 cp.z], .agg #[.int .i64 v.x, .int .i64 v.y, .int .i64 v.z], .int .i64 sc] w1 fun e w' => e = .returned (.agg #[.int .i64 cm.x, .int .i64 cm.y, .int .i64 cm.z]) ∧ Tch [] w1 w') := Lib.hid (fun w1 => by rw [hcm]; exact rMoved cp v sc ck w1)
  obtain ⟨dp, hdp⟩ : ∃ u, u = gridI d 1000 := ⟨_, rfl⟩
  have od : dp.Ok := by rw [hdp]; exact grid_ok d
  obtain ⟨dk, dl⟩ := mov_ok (p := dp) (by rw [hdp]; exact grid_in d) hs1 hv1
  obtain ⟨dm, hdm⟩ : ∃ u, u = movI dp v sc := ⟨_, rfl⟩
  rw [← hdm] at dl
  have Gd : Hid (∀ w1, Calls Tryd.prog 9 #[.agg #[.int .i64 d.x, .int .i64 d.y, .int .i64 d.z], .int .i64 1000] w1 fun e w' => e = .returned (.agg #[.int .i64 dp.x, .int .i64 dp.y, .int .i64 dp.z]) ∧ Tch [] w1 w') := Lib.hid (fun w1 => by rw [hdp]; exact rGrid d 1000 (by omega) w1)
  have Md : Hid (∀ w1, Calls Tryd.prog 10 #[.agg #[.int .i64 dp.x, .int .i64 dp.y, .int .i64 dp.z], .agg #[.int .i64 v.x, .int .i64 v.y, .int .i64 v.z], .int .i64 sc] w1 fun e w' => e = .returned (.agg #[.int .i64 dm.x, .int .i64 dm.y, .int .i64 dm.z]) ∧ Tch [] w1 w') := Lib.hid (fun w1 => by rw [hdm]; exact rMoved dp v sc dk w1)
  obtain ⟨o1, ho1⟩ : ∃ u, u = (detI ap bp cp dp).sign := ⟨_, rfl⟩
  have O1 : Hid (∀ w1, Calls Tryd.prog 11 #[.agg #[.int .i64 ap.x, .int .i64 ap.y, .int .i64 ap.z], .agg #[.int .i64 bp.x, .int .i64 bp.y, .int .i64 bp.z], .agg #[.int .i64 cp.x, .int .i64 cp.y, .int .i64 cp.z], .agg #[.int .i64 dp.x, .int .i64 dp.y, .int .i64 dp.z]] w1 fun e w' => e = .returned (.int .i64 o1) ∧ Tch [] w1 w') := Lib.hid (fun w1 => by rw [ho1]; exact Orient ap bp cp dp oa ob oc od w1)
  have O2 : Hid (∀ w1, Calls Tryd.prog 11 #[.agg #[.int .i64 am.x, .int .i64 am.y, .int .i64 am.z], .agg #[.int .i64 bm.x, .int .i64 bm.y, .int .i64 bm.z], .agg #[.int .i64 cm.x, .int .i64 cm.y, .int .i64 cm.z], .agg #[.int .i64 dm.x, .int .i64 dm.y, .int .i64 dm.z]] w1 fun e w' => e = .returned (.int .i64 o1) ∧ Tch [] w1 w') := Lib.hid (fun w1 => by have h := Orient am bm cm dm al bl cl dl w1; rw [show (detI am bm cm dm).sign = (detI ap bp cp dp).sign from by rw [ham, hbm, hcm, hdm]; exact det_mov hs1.1 _ _ _ _ _, ← ho1] at h; exact h)
  obtain ⟨o2, ho2⟩ : ∃ u, u = sideI ap bp cp dp := ⟨_, rfl⟩
  have S1 : Hid (∀ w1, Calls Tryd.prog 12 #[.agg #[.int .i64 ap.x, .int .i64 ap.y, .int .i64 ap.z, .int .i64 bp.x, .int .i64 bp.y, .int .i64 bp.z, .int .i64 cp.x, .int .i64 cp.y, .int .i64 cp.z], .agg #[.int .i64 dp.x, .int .i64 dp.y, .int .i64 dp.z]] w1 fun e w' => e = .returned (.int .i64 o2) ∧ Tch [] w1 w') := Lib.hid (fun w1 => by rw [ho2]; exact Side ap bp cp dp oa ob oc od w1)
  have S2 : Hid (∀ w1, Calls Tryd.prog 12 #[.agg #[.int .i64 am.x, .int .i64 am.y, .int .i64 am.z, .int .i64 bm.x, .int .i64 bm.y, .int .i64 bm.z, .int .i64 cm.x, .int .i64 cm.y, .int .i64 cm.z], .agg #[.int .i64 dm.x, .int .i64 dm.y, .int .i64 dm.z]] w1 fun e w' => e = .returned (.int .i64 o2) ∧ Tch [] w1 w') := Lib.hid (fun w1 => by have h := Side am bm cm dm al bl cl dl w1; rw [show sideI am bm cm dm = sideI ap bp cp dp from by rw [ham, hbm, hcm, hdm]; exact side_mov hs1.1 _ _ _ _ _, ← ho2] at h; exact h)
  obtain ⟨o3, ho3⟩ : ∃ u, u = flatI ap bp cp := ⟨_, rfl⟩
  have T1 : Hid (∀ w1, Calls Tryd.prog 13 #[.agg #[.int .i64 ap.x, .int .i64 ap.y, .int .i64 ap.z, .int .i64 bp.x, .int .i64 bp.y, .int .i64 bp.z, .int .i64 cp.x, .int .i64 cp.y, .int .i64 cp.z]] w1 fun e w' => e = .returned (.bool o3) ∧ Tch [] w1 w') := Lib.hid (fun w1 => by rw [ho3]; exact Flat ap bp cp oa ob oc w1)
  have T2 : Hid (∀ w1, Calls Tryd.prog 13 #[.agg #[.int .i64 am.x, .int .i64 am.y, .int .i64 am.z, .int .i64 bm.x, .int .i64 bm.y, .int .i64 bm.z, .int .i64 cm.x, .int .i64 cm.y, .int .i64 cm.z]] w1 fun e w' => e = .returned (.bool o3) ∧ Tch [] w1 w') := Lib.hid (fun w1 => by have h := Flat am bm cm al bl cl w1; rw [show flatI am bm cm = flatI ap bp cp from by rw [ham, hbm, hcm]; exact flat_mov hs1.1 _ _ _ _, ← ho3] at h; exact h)
  obtain ⟨o4, ho4⟩ : ∃ u, u = touchI ap dp ap bp cp := ⟨_, rfl⟩
  have U1 : Hid (∀ w1, Calls Tryd.prog 14 #[.agg #[.int .i64 ap.x, .int .i64 ap.y, .int .i64 ap.z], .agg #[.int .i64 dp.x, .int .i64 dp.y, .int .i64 dp.z], .agg #[.int .i64 ap.x, .int .i64 ap.y, .int .i64 ap.z, .int .i64 bp.x, .int .i64 bp.y, .int .i64 bp.z, .int .i64 cp.x, .int .i64 cp.y, .int .i64 cp.z]] w1 fun e w' => e = .returned (.bool o4) ∧ Tch [] w1 w') := Lib.hid (fun w1 => by rw [ho4]; exact Touch ap dp ap bp cp oa od oa ob oc w1)
  have U2 : Hid (∀ w1, Calls Tryd.prog 14 #[.agg #[.int .i64 am.x, .int .i64 am.y, .int .i64 am.z], .agg #[.int .i64 dm.x, .int .i64 dm.y, .int .i64 dm.z], .agg #[.int .i64 am.x, .int .i64 am.y, .int .i64 am.z, .int .i64 bm.x, .int .i64 bm.y, .int .i64 bm.z, .int .i64 cm.x, .int .i64 cm.y, .int .i64 cm.z]] w1 fun e w' => e = .returned (.bool o4) ∧ Tch [] w1 w') := Lib.hid (fun w1 => by have h := Touch am dm am bm cm al dl al bl cl w1; rw [show touchI am dm am bm cm = touchI ap dp ap bp cp from by rw [ham, hbm, hcm, hdm]; exact touch_mov hs1.1 _ _ _ _ _ _, ← ho4] at h; exact h)
  obtain ⟨o5, ho5⟩ : ∃ u, u = (dotI (nrmI ap bp cp) (nrmI ap cp dp)).sign := ⟨_, rfl⟩
  have V1 : Hid (∀ w1, Calls Tryd.prog 15 #[.agg #[.int .i64 ap.x, .int .i64 ap.y, .int .i64 ap.z, .int .i64 bp.x, .int .i64 bp.y, .int .i64 bp.z, .int .i64 cp.x, .int .i64 cp.y, .int .i64 cp.z], .agg #[.int .i64 ap.x, .int .i64 ap.y, .int .i64 ap.z, .int .i64 cp.x, .int .i64 cp.y, .int .i64 cp.z, .int .i64 dp.x, .int .i64 dp.y, .int .i64 dp.z]] w1 fun e w' => e = .returned (.int .i64 o5) ∧ Tch [] w1 w') := Lib.hid (fun w1 => by rw [ho5]; exact Facing ap bp cp ap cp dp oa ob oc oa oc od w1)
  have V2 : Hid (∀ w1, Calls Tryd.prog 15 #[.agg #[.int .i64 am.x, .int .i64 am.y, .int .i64 am.z, .int .i64 bm.x, .int .i64 bm.y, .int .i64 bm.z, .int .i64 cm.x, .int .i64 cm.y, .int .i64 cm.z], .agg #[.int .i64 am.x, .int .i64 am.y, .int .i64 am.z, .int .i64 cm.x, .int .i64 cm.y, .int .i64 cm.z, .int .i64 dm.x, .int .i64 dm.y, .int .i64 dm.z]] w1 fun e w' => e = .returned (.int .i64 o5) ∧ Tch [] w1 w') := Lib.hid (fun w1 => by have h := Facing am bm cm am cm dm al bl cl al cl dl w1; rw [show (dotI (nrmI am bm cm) (nrmI am cm dm)).sign = (dotI (nrmI ap bp cp) (nrmI ap cp dp)).sign from by rw [ham, hbm, hcm, hdm]; exact face_mov hs1.1 _ _ _ _ _ _ _, ← ho5] at h; exact h)
  obtain ⟨o6, ho6⟩ : ∃ u, u = lessI ap bp := ⟨_, rfl⟩
  have L1 : Hid (∀ w1, Calls Tryd.prog 16 #[.agg #[.int .i64 ap.x, .int .i64 ap.y, .int .i64 ap.z], .agg #[.int .i64 bp.x, .int .i64 bp.y, .int .i64 bp.z]] w1 fun e w' => e = .returned (.bool o6) ∧ Tch [] w1 w') := Lib.hid (fun w1 => by rw [ho6]; exact Less ap bp w1)
  have L2 : Hid (∀ w1, Calls Tryd.prog 16 #[.agg #[.int .i64 am.x, .int .i64 am.y, .int .i64 am.z], .agg #[.int .i64 bm.x, .int .i64 bm.y, .int .i64 bm.z]] w1 fun e w' => e = .returned (.bool o6) ∧ Tch [] w1 w') := Lib.hid (fun w1 => by have h := Less am bm w1; rw [show lessI am bm = lessI ap bp from by rw [ham, hbm]; exact less_mov hs1.1 _ _ _, ← ho6] at h; exact h)
  have CS := Lib.hid (fun w1 => sanity w1)
  have HS := Lib.hid hs2
  have HV := Lib.hid hv
  clear hap oa ak al ham hbp ob bk bl hbm hcp oc ck cl hcm hdp od dk dl hdm ho1 ho2 ho3 ho4 ho5 ho6 hsc hs1 hs2 hv hv1
  have F : Hid (Fr w (((w.alloc (.cells #[.int .i64 a.x, .int .i64 a.y, .int .i64 a.z, .int .i64 b.x, .int .i64 b.y, .int .i64 b.z] 23)).alloc (.cells #[.int .i64 c.x, .int .i64 c.y, .int .i64 c.z, .int .i64 d.x, .int .i64 d.y, .int .i64 d.z] 23)).alloc (.cells #[.int .i64 m0, .int .i64 m1, .int .i64 m2, .int .i64 m3] 24)) [(w.heap.size, .cells #[.int .i64 a.x, .int .i64 a.y, .int .i64 a.z, .int .i64 b.x, .int .i64 b.y, .int .i64 b.z] 23 (0, 0)), (w.heap.size + 1, .cells #[.int .i64 c.x, .int .i64 c.y, .int .i64 c.z, .int .i64 d.x, .int .i64 d.y, .int .i64 d.z] 23 (0, 0)), (w.heap.size + 1 + 1, .cells #[.int .i64 m0, .int .i64 m1, .int .i64 m2, .int .i64 m3] 24 (0, 0))]) := Lib.hid ((((Fr.nil w).add (.cells #[.int .i64 a.x, .int .i64 a.y, .int .i64 a.z, .int .i64 b.x, .int .i64 b.y, .int .i64 b.z] 23) w.heap.size rfl).add (.cells #[.int .i64 c.x, .int .i64 c.y, .int .i64 c.z, .int .i64 d.x, .int .i64 d.y, .int .i64 d.z] 23) (w.heap.size + 1) (by simp)).add (.cells #[.int .i64 m0, .int .i64 m1, .int .i64 m2, .int .i64 m3] 24) (w.heap.size + 1 + 1) (by simp))
  go_enter Tryd.func3, Tryd.ntmps3
  go_wp2_with fail
  refine (CS.out _).mono ?_
  rintro e w1 ⟨rfl, hT⟩
  have F := Lib.hid (F.out.keep hT)
  clear hT CS
  obtain ⟨x0, x1, x2, x3, x4, x5⟩ := F.out.six 0 rfl
  go_wp2_with fail
  refine (Ga.out _).mono ?_
  rintro e w2 ⟨rfl, hT⟩
  have F := Lib.hid ((F.out.keep hT).add (.cells #[.int .i64 ap.x, .int .i64 ap.y, .int .i64 ap.z] 27) w2.heap.size rfl)
  clear hT x0 x1 x2 x3 x4 x5 Ga
  obtain ⟨x0, x1, x2, x3, x4, x5⟩ := F.out.six 0 rfl
  go_wp2_with fail
  refine (Gb.out _).mono ?_
  rintro e w3 ⟨rfl, hT⟩
  have F := Lib.hid ((F.out.keep hT).add (.cells #[.int .i64 bp.x, .int .i64 bp.y, .int .i64 bp.z] 27) w3.heap.size rfl)
  clear hT x0 x1 x2 x3 x4 x5 Gb
  obtain ⟨x0, x1, x2, x3, x4, x5⟩ := F.out.six 1 rfl
  go_wp2_with fail
  refine (Gc.out _).mono ?_
  rintro e w4 ⟨rfl, hT⟩
  have F := Lib.hid ((F.out.keep hT).add (.cells #[.int .i64 cp.x, .int .i64 cp.y, .int .i64 cp.z] 27) w4.heap.size rfl)
  clear hT x0 x1 x2 x3 x4 x5 Gc
  obtain ⟨x0, x1, x2, x3, x4, x5⟩ := F.out.six 1 rfl
  go_wp2_with fail
  refine (Gd.out _).mono ?_
  rintro e w5 ⟨rfl, hT⟩
  have F := Lib.hid ((F.out.keep hT).add (.cells #[.int .i64 dp.x, .int .i64 dp.y, .int .i64 dp.z] 27) w5.heap.size rfl)
  clear hT x0 x1 x2 x3 x4 x5 Gd
  obtain ⟨x0, x1, x2, x3⟩ := F.out.four 2 rfl
  obtain ⟨y0, y1, y2⟩ := F.out.three 3 rfl
  have hs := HS.out
  go_upto_region 8 with (fail)
  clear hs
  have e0 : m0.tmod 1099511627776 = v.x := by rw [HV.out]
  have e1 : m1.tmod 1099511627776 = v.y := by rw [HV.out]
  have e2 : m2.tmod 1099511627776 = v.z := by rw [HV.out]
  rw [HS.out, e0, e1, e2]
  obtain ⟨bb, hbb⟩ : ∃ u, u = bits .and .i64 m3 1073741823 := ⟨_, rfl⟩
  rw [← hbb]
  clear hbb HS HV e0 e1 e2 x0 x1 x2 x3 y0 y1 y2
  have F := Lib.hid (F.out.add (.cells #[.int .i64 v.x, .int .i64 v.y, .int .i64 v.z] 22) (w5.heap.size + 1) (by simp))
  obtain ⟨W, hW⟩ : ∃ W, W = (w5.alloc (.cells #[.int .i64 dp.x, .int .i64 dp.y, .int .i64 dp.z] 27)).alloc (.cells #[.int .i64 v.x, .int .i64 v.y, .int .i64 v.z] 22) := ⟨_, rfl⟩
  rw [← hW] at F
  rw [← hW]
  clear hW
  obtain ⟨l, G, A0, B0, C0, D0, V0⟩ : ∃ l, Fr w W l ∧ (∀ w1, Fr w w1 l → w1.cell? ⟨w2.heap.size, 0, none⟩ = some (.int .i64 ap.x) ∧ w1.cell? ⟨w2.heap.size, 1, none⟩ = some (.int .i64 ap.y) ∧ w1.cell? ⟨w2.heap.size, 2, none⟩ = some (.int .i64 ap.z)) ∧ (∀ w1, Fr w w1 l → w1.cell? ⟨w3.heap.size, 0, none⟩ = some (.int .i64 bp.x) ∧ w1.cell? ⟨w3.heap.size, 1, none⟩ = some (.int .i64 bp.y) ∧ w1.cell? ⟨w3.heap.size, 2, none⟩ = some (.int .i64 bp.z)) ∧ (∀ w1, Fr w w1 l → w1.cell? ⟨w4.heap.size, 0, none⟩ = some (.int .i64 cp.x) ∧ w1.cell? ⟨w4.heap.size, 1, none⟩ = some (.int .i64 cp.y) ∧ w1.cell? ⟨w4.heap.size, 2, none⟩ = some (.int .i64 cp.z)) ∧ (∀ w1, Fr w w1 l → w1.cell? ⟨w5.heap.size, 0, none⟩ = some (.int .i64 dp.x) ∧ w1.cell? ⟨w5.heap.size, 1, none⟩ = some (.int .i64 dp.y) ∧ w1.cell? ⟨w5.heap.size, 2, none⟩ = some (.int .i64 dp.z)) ∧ (∀ w1, Fr w w1 l → w1.cell? ⟨w5.heap.size + 1, 0, none⟩ = some (.int .i64 v.x) ∧ w1.cell? ⟨w5.heap.size + 1, 1, none⟩ = some (.int .i64 v.y) ∧ w1.cell? ⟨w5.heap.size + 1, 2, none⟩ = some (.int .i64 v.z)) :=
    ⟨_, F.out, fun w1 h => h.three 3 rfl, fun w1 h => h.three 4 rfl, fun w1 h => h.three 5 rfl, fun w1 h => h.three 6 rfl, fun w1 h => h.three 7 rfl⟩
  have F := Lib.hid G
  have PA := Lib.hid A0
  have PB := Lib.hid B0
  have PC := Lib.hid C0
  have PD := Lib.hid D0
  have PV := Lib.hid V0
  clear G A0 B0 C0 D0 V0
  obtain ⟨x0, x1, x2⟩ := PA.out _ (F.out)
  obtain ⟨y0, y1, y2⟩ := PV.out _ (F.out)
  go_wp2_with fail
  refine (Ma.out _).mono ?_
  rintro e w6 ⟨rfl, hT⟩
  have F := Lib.hid ((F.out.keep hT).add (.cells #[.int .i64 am.x, .int .i64 am.y, .int .i64 am.z] 27) w6.heap.size rfl)
  clear hT x0 x1 x2 y0 y1 y2 Ma
  obtain ⟨x0, x1, x2⟩ := PB.out _ (F.out.front)
  obtain ⟨y0, y1, y2⟩ := PV.out _ (F.out.front)
  go_wp2_with fail
  refine (Mb.out _).mono ?_
  rintro e w7 ⟨rfl, hT⟩
  have F := Lib.hid ((F.out.keep hT).add (.cells #[.int .i64 bm.x, .int .i64 bm.y, .int .i64 bm.z] 27) w7.heap.size rfl)
  clear hT x0 x1 x2 y0 y1 y2 Mb
  obtain ⟨x0, x1, x2⟩ := PC.out _ (F.out.front.front)
  obtain ⟨y0, y1, y2⟩ := PV.out _ (F.out.front.front)
  go_wp2_with fail
  refine (Mc.out _).mono ?_
  rintro e w8 ⟨rfl, hT⟩
  have F := Lib.hid ((F.out.keep hT).add (.cells #[.int .i64 cm.x, .int .i64 cm.y, .int .i64 cm.z] 27) w8.heap.size rfl)
  clear hT x0 x1 x2 y0 y1 y2 Mc
  obtain ⟨x0, x1, x2⟩ := PD.out _ (F.out.front.front.front)
  obtain ⟨y0, y1, y2⟩ := PV.out _ (F.out.front.front.front)
  go_wp2_with fail
  refine (Md.out _).mono ?_
  rintro e w9 ⟨rfl, hT⟩
  have F := Lib.hid ((F.out.keep hT).add (.cells #[.int .i64 dm.x, .int .i64 dm.y, .int .i64 dm.z] 27) w9.heap.size rfl)
  clear hT x0 x1 x2 y0 y1 y2 Md
  obtain ⟨l2, G, PS0⟩ : ∃ l2, Fr w (w9.alloc (.cells #[.int .i64 dm.x, .int .i64 dm.y, .int .i64 dm.z] 27)) l2 ∧ (∀ w1, Fr w w1 l2 → (w1.cell? ⟨w2.heap.size, 0, none⟩ = some (.int .i64 ap.x) ∧ w1.cell? ⟨w2.heap.size, 1, none⟩ = some (.int .i64 ap.y) ∧ w1.cell? ⟨w2.heap.size, 2, none⟩ = some (.int .i64 ap.z)) ∧ (w1.cell? ⟨w3.heap.size, 0, none⟩ = some (.int .i64 bp.x) ∧ w1.cell? ⟨w3.heap.size, 1, none⟩ = some (.int .i64 bp.y) ∧ w1.cell? ⟨w3.heap.size, 2, none⟩ = some (.int .i64 bp.z)) ∧ (w1.cell? ⟨w4.heap.size, 0, none⟩ = some (.int .i64 cp.x) ∧ w1.cell? ⟨w4.heap.size, 1, none⟩ = some (.int .i64 cp.y) ∧ w1.cell? ⟨w4.heap.size, 2, none⟩ = some (.int .i64 cp.z)) ∧ (w1.cell? ⟨w5.heap.size, 0, none⟩ = some (.int .i64 dp.x) ∧ w1.cell? ⟨w5.heap.size, 1, none⟩ = some (.int .i64 dp.y) ∧ w1.cell? ⟨w5.heap.size, 2, none⟩ = some (.int .i64 dp.z)) ∧ (w1.cell? ⟨w6.heap.size, 0, none⟩ = some (.int .i64 am.x) ∧ w1.cell? ⟨w6.heap.size, 1, none⟩ = some (.int .i64 am.y) ∧ w1.cell? ⟨w6.heap.size, 2, none⟩ = some (.int .i64 am.z)) ∧ (w1.cell? ⟨w7.heap.size, 0, none⟩ = some (.int .i64 bm.x) ∧ w1.cell? ⟨w7.heap.size, 1, none⟩ = some (.int .i64 bm.y) ∧ w1.cell? ⟨w7.heap.size, 2, none⟩ = some (.int .i64 bm.z)) ∧ (w1.cell? ⟨w8.heap.size, 0, none⟩ = some (.int .i64 cm.x) ∧ w1.cell? ⟨w8.heap.size, 1, none⟩ = some (.int .i64 cm.y) ∧ w1.cell? ⟨w8.heap.size, 2, none⟩ = some (.int .i64 cm.z)) ∧ (w1.cell? ⟨w9.heap.size, 0, none⟩ = some (.int .i64 dm.x) ∧ w1.cell? ⟨w9.heap.size, 1, none⟩ = some (.int .i64 dm.y) ∧ w1.cell? ⟨w9.heap.size, 2, none⟩ = some (.int .i64 dm.z))) :=
    ⟨_, F.out, fun w1 h => ⟨PA.out _ h.front.front.front.front, PB.out _ h.front.front.front.front, PC.out _ h.front.front.front.front, PD.out _ h.front.front.front.front, h.front.front.front.lthree', h.front.front.lthree', h.front.lthree', h.lthree'⟩⟩
  have F := Lib.hid G
  have PS := Lib.hid PS0
  clear G PS0 PA PB PC PD PV
  obtain ⟨⟨x0, x1, x2⟩, ⟨x3, x4, x5⟩, ⟨x6, x7, x8⟩, _, ⟨y0, y1, y2⟩, ⟨y3, y4, y5⟩, ⟨y6, y7, y8⟩, _⟩ := PS.out _ F.out
  obtain ⟨⟨z0, z1, z2⟩, ⟨z3, z4, z5⟩, ⟨z6, z7, z8⟩, _, ⟨u0, u1, u2⟩, ⟨u3, u4, u5⟩, ⟨u6, u7, u8⟩, _⟩ := PS.out _ (F.out.beside (.cells #[.int .i64 ap.x, .int .i64 ap.y, .int .i64 ap.z, .int .i64 bp.x, .int .i64 bp.y, .int .i64 bp.z, .int .i64 cp.x, .int .i64 cp.y, .int .i64 cp.z] 31))
  go_upto_region 14 with (fail)
  clear x0 x1 x2 x3 x4 x5 x6 x7 x8 y0 y1 y2 y3 y4 y5 y6 y7 y8 z0 z1 z2 z3 z4 z5 z6 z7 z8 u0 u1 u2 u3 u4 u5 u6 u7 u8
  have F := Lib.hid ((F.out.add (.cells #[.int .i64 ap.x, .int .i64 ap.y, .int .i64 ap.z, .int .i64 bp.x, .int .i64 bp.y, .int .i64 bp.z, .int .i64 cp.x, .int .i64 cp.y, .int .i64 cp.z] 31) (w9.heap.size + 1) (by simp)).add (.cells #[.int .i64 am.x, .int .i64 am.y, .int .i64 am.z, .int .i64 bm.x, .int .i64 bm.y, .int .i64 bm.z, .int .i64 cm.x, .int .i64 cm.y, .int .i64 cm.z] 31) (w9.heap.size + 1 + 1) (by simp))
  obtain ⟨W2, hW2⟩ : ∃ W, W = ((w9.alloc (.cells #[.int .i64 dm.x, .int .i64 dm.y, .int .i64 dm.z] 27)).alloc (.cells #[.int .i64 ap.x, .int .i64 ap.y, .int .i64 ap.z, .int .i64 bp.x, .int .i64 bp.y, .int .i64 bp.z, .int .i64 cp.x, .int .i64 cp.y, .int .i64 cp.z] 31)).alloc (.cells #[.int .i64 am.x, .int .i64 am.y, .int .i64 am.z, .int .i64 bm.x, .int .i64 bm.y, .int .i64 bm.z, .int .i64 cm.x, .int .i64 cm.y, .int .i64 cm.z] 31) := ⟨_, rfl⟩
  rw [← hW2] at F
  rw [← hW2]
  clear hW2
  obtain ⟨l3, G, SF0⟩ : ∃ l3, Fr w W2 l3 ∧ (∀ w1, Fr w w1 l3 → (w1.cell? ⟨w2.heap.size, 0, none⟩ = some (.int .i64 ap.x) ∧ w1.cell? ⟨w2.heap.size, 1, none⟩ = some (.int .i64 ap.y) ∧ w1.cell? ⟨w2.heap.size, 2, none⟩ = some (.int .i64 ap.z)) ∧ (w1.cell? ⟨w3.heap.size, 0, none⟩ = some (.int .i64 bp.x) ∧ w1.cell? ⟨w3.heap.size, 1, none⟩ = some (.int .i64 bp.y) ∧ w1.cell? ⟨w3.heap.size, 2, none⟩ = some (.int .i64 bp.z)) ∧ (w1.cell? ⟨w4.heap.size, 0, none⟩ = some (.int .i64 cp.x) ∧ w1.cell? ⟨w4.heap.size, 1, none⟩ = some (.int .i64 cp.y) ∧ w1.cell? ⟨w4.heap.size, 2, none⟩ = some (.int .i64 cp.z)) ∧ (w1.cell? ⟨w5.heap.size, 0, none⟩ = some (.int .i64 dp.x) ∧ w1.cell? ⟨w5.heap.size, 1, none⟩ = some (.int .i64 dp.y) ∧ w1.cell? ⟨w5.heap.size, 2, none⟩ = some (.int .i64 dp.z)) ∧ (w1.cell? ⟨w6.heap.size, 0, none⟩ = some (.int .i64 am.x) ∧ w1.cell? ⟨w6.heap.size, 1, none⟩ = some (.int .i64 am.y) ∧ w1.cell? ⟨w6.heap.size, 2, none⟩ = some (.int .i64 am.z)) ∧ (w1.cell? ⟨w7.heap.size, 0, none⟩ = some (.int .i64 bm.x) ∧ w1.cell? ⟨w7.heap.size, 1, none⟩ = some (.int .i64 bm.y) ∧ w1.cell? ⟨w7.heap.size, 2, none⟩ = some (.int .i64 bm.z)) ∧ (w1.cell? ⟨w8.heap.size, 0, none⟩ = some (.int .i64 cm.x) ∧ w1.cell? ⟨w8.heap.size, 1, none⟩ = some (.int .i64 cm.y) ∧ w1.cell? ⟨w8.heap.size, 2, none⟩ = some (.int .i64 cm.z)) ∧ (w1.cell? ⟨w9.heap.size, 0, none⟩ = some (.int .i64 dm.x) ∧ w1.cell? ⟨w9.heap.size, 1, none⟩ = some (.int .i64 dm.y) ∧ w1.cell? ⟨w9.heap.size, 2, none⟩ = some (.int .i64 dm.z)) ∧ ((w1.cell? ⟨w9.heap.size + 1, 0, none⟩ = some (.int .i64 ap.x) ∧ w1.cell? ⟨w9.heap.size + 1, 1, none⟩ = some (.int .i64 ap.y) ∧ w1.cell? ⟨w9.heap.size + 1, 2, none⟩ = some (.int .i64 ap.z)) ∧ (w1.cell? ⟨w9.heap.size + 1, 3, none⟩ = some (.int .i64 bp.x) ∧ w1.cell? ⟨w9.heap.size + 1, 4, none⟩ = some (.int .i64 bp.y) ∧ w1.cell? ⟨w9.heap.size + 1, 5, none⟩ = some (.int .i64 bp.z)) ∧ w1.cell? ⟨w9.heap.size + 1, 6, none⟩ = some (.int .i64 cp.x) ∧ w1.cell? ⟨w9.heap.size + 1, 7, none⟩ = some (.int .i64 cp.y) ∧ w1.cell? ⟨w9.heap.size + 1, 8, none⟩ = some (.int .i64 cp.z)) ∧ ((w1.cell? ⟨w9.heap.size + 1 + 1, 0, none⟩ = some (.int .i64 am.x) ∧ w1.cell? ⟨w9.heap.size + 1 + 1, 1, none⟩ = some (.int .i64 am.y) ∧ w1.cell? ⟨w9.heap.size + 1 + 1, 2, none⟩ = some (.int .i64 am.z)) ∧ (w1.cell? ⟨w9.heap.size + 1 + 1, 3, none⟩ = some (.int .i64 bm.x) ∧ w1.cell? ⟨w9.heap.size + 1 + 1, 4, none⟩ = some (.int .i64 bm.y) ∧ w1.cell? ⟨w9.heap.size + 1 + 1, 5, none⟩ = some (.int .i64 bm.z)) ∧ w1.cell? ⟨w9.heap.size + 1 + 1, 6, none⟩ = some (.int .i64 cm.x) ∧ w1.cell? ⟨w9.heap.size + 1 + 1, 7, none⟩ = some (.int .i64 cm.y) ∧ w1.cell? ⟨w9.heap.size + 1 + 1, 8, none⟩ = some (.int .i64 cm.z))) :=
    ⟨_, F.out, fun w1 h => by obtain ⟨e1, e2, e3, e4, e5, e6, e7, e8⟩ := PS.out _ h.front.front; exact ⟨e1, e2, e3, e4, e5, e6, e7, e8, h.front.lnine', h.lnine'⟩⟩
  have F := Lib.hid G
  have SF := Lib.hid SF0
  clear G SF0 PS
  simp only [List.append_eq, List.cons_append, List.nil_append]
  go_region_held3 (fun w1 => (w1.cell? ⟨w2.heap.size, 0, none⟩ = some (.int .i64 ap.x) ∧ w1.cell? ⟨w2.heap.size, 1, none⟩ = some (.int .i64 ap.y) ∧ w1.cell? ⟨w2.heap.size, 2, none⟩ = some (.int .i64 ap.z)) ∧ (w1.cell? ⟨w3.heap.size, 0, none⟩ = some (.int .i64 bp.x) ∧ w1.cell? ⟨w3.heap.size, 1, none⟩ = some (.int .i64 bp.y) ∧ w1.cell? ⟨w3.heap.size, 2, none⟩ = some (.int .i64 bp.z)) ∧ (w1.cell? ⟨w4.heap.size, 0, none⟩ = some (.int .i64 cp.x) ∧ w1.cell? ⟨w4.heap.size, 1, none⟩ = some (.int .i64 cp.y) ∧ w1.cell? ⟨w4.heap.size, 2, none⟩ = some (.int .i64 cp.z)) ∧ (w1.cell? ⟨w5.heap.size, 0, none⟩ = some (.int .i64 dp.x) ∧ w1.cell? ⟨w5.heap.size, 1, none⟩ = some (.int .i64 dp.y) ∧ w1.cell? ⟨w5.heap.size, 2, none⟩ = some (.int .i64 dp.z)) ∧ (w1.cell? ⟨w6.heap.size, 0, none⟩ = some (.int .i64 am.x) ∧ w1.cell? ⟨w6.heap.size, 1, none⟩ = some (.int .i64 am.y) ∧ w1.cell? ⟨w6.heap.size, 2, none⟩ = some (.int .i64 am.z)) ∧ (w1.cell? ⟨w7.heap.size, 0, none⟩ = some (.int .i64 bm.x) ∧ w1.cell? ⟨w7.heap.size, 1, none⟩ = some (.int .i64 bm.y) ∧ w1.cell? ⟨w7.heap.size, 2, none⟩ = some (.int .i64 bm.z)) ∧ (w1.cell? ⟨w8.heap.size, 0, none⟩ = some (.int .i64 cm.x) ∧ w1.cell? ⟨w8.heap.size, 1, none⟩ = some (.int .i64 cm.y) ∧ w1.cell? ⟨w8.heap.size, 2, none⟩ = some (.int .i64 cm.z)) ∧ (w1.cell? ⟨w9.heap.size, 0, none⟩ = some (.int .i64 dm.x) ∧ w1.cell? ⟨w9.heap.size, 1, none⟩ = some (.int .i64 dm.y) ∧ w1.cell? ⟨w9.heap.size, 2, none⟩ = some (.int .i64 dm.z)) ∧ ((w1.cell? ⟨w9.heap.size + 1, 0, none⟩ = some (.int .i64 ap.x) ∧ w1.cell? ⟨w9.heap.size + 1, 1, none⟩ = some (.int .i64 ap.y) ∧ w1.cell? ⟨w9.heap.size + 1, 2, none⟩ = some (.int .i64 ap.z)) ∧ (w1.cell? ⟨w9.heap.size + 1, 3, none⟩ = some (.int .i64 bp.x) ∧ w1.cell? ⟨w9.heap.size + 1, 4, none⟩ = some (.int .i64 bp.y) ∧ w1.cell? ⟨w9.heap.size + 1, 5, none⟩ = some (.int .i64 bp.z)) ∧ w1.cell? ⟨w9.heap.size + 1, 6, none⟩ = some (.int .i64 cp.x) ∧ w1.cell? ⟨w9.heap.size + 1, 7, none⟩ = some (.int .i64 cp.y) ∧ w1.cell? ⟨w9.heap.size + 1, 8, none⟩ = some (.int .i64 cp.z)) ∧ ((w1.cell? ⟨w9.heap.size + 1 + 1, 0, none⟩ = some (.int .i64 am.x) ∧ w1.cell? ⟨w9.heap.size + 1 + 1, 1, none⟩ = some (.int .i64 am.y) ∧ w1.cell? ⟨w9.heap.size + 1 + 1, 2, none⟩ = some (.int .i64 am.z)) ∧ (w1.cell? ⟨w9.heap.size + 1 + 1, 3, none⟩ = some (.int .i64 bm.x) ∧ w1.cell? ⟨w9.heap.size + 1 + 1, 4, none⟩ = some (.int .i64 bm.y) ∧ w1.cell? ⟨w9.heap.size + 1 + 1, 5, none⟩ = some (.int .i64 bm.z)) ∧ w1.cell? ⟨w9.heap.size + 1 + 1, 6, none⟩ = some (.int .i64 cm.x) ∧ w1.cell? ⟨w9.heap.size + 1 + 1, 7, none⟩ = some (.int .i64 cm.y) ∧ w1.cell? ⟨w9.heap.size + 1 + 1, 8, none⟩ = some (.int .i64 cm.z))) (first | with_reducible exact SF.out _ F.out | with_reducible exact SF.out _ F.out.drew) (first
    | (go_at_call 11; (first | (with_reducible refine (O1.out _).mono ?_) | (with_reducible refine (O2.out _).mono ?_)); rintro e w6 ⟨rfl, hT⟩; (first | (with_reducible have F := Lib.hid (F.out.keep hT)) | (have F := Lib.hid (F.out.drew.keep hT))); clear hT)
    | (go_at_call 12; (first | (with_reducible refine (S1.out _).mono ?_) | (with_reducible refine (S2.out _).mono ?_)); rintro e w6 ⟨rfl, hT⟩; (first | (with_reducible have F := Lib.hid (F.out.keep hT)) | (have F := Lib.hid (F.out.drew.keep hT))); clear hT)
    | (go_at_call 13; (first | (with_reducible refine (T1.out _).mono ?_) | (with_reducible refine (T2.out _).mono ?_)); rintro e w6 ⟨rfl, hT⟩; (first | (with_reducible have F := Lib.hid (F.out.keep hT)) | (have F := Lib.hid (F.out.drew.keep hT))); clear hT)
    | (go_at_call 14; (first | (with_reducible refine (U1.out _).mono ?_) | (with_reducible refine (U2.out _).mono ?_)); rintro e w6 ⟨rfl, hT⟩; (first | (with_reducible have F := Lib.hid (F.out.keep hT)) | (have F := Lib.hid (F.out.drew.keep hT))); clear hT)
    | (go_at_call 15; (first | (with_reducible refine (V1.out _).mono ?_) | (with_reducible refine (V2.out _).mono ?_)); rintro e w6 ⟨rfl, hT⟩; (first | (with_reducible have F := Lib.hid (F.out.keep hT)) | (have F := Lib.hid (F.out.drew.keep hT))); clear hT)
    | (go_at_call 16; (first | (with_reducible refine (L1.out _).mono ?_) | (with_reducible refine (L2.out _).mono ?_)); rintro e w6 ⟨rfl, hT⟩; (first | (with_reducible have F := Lib.hid (F.out.keep hT)) | (have F := Lib.hid (F.out.drew.keep hT))); clear hT)
    | fail)
  all_goals
    go_wp2
    go_ret
    exact ⟨rfl, F.out.t⟩

end Go.Proofs.YtgbdfpapnpjhcaaDoor
