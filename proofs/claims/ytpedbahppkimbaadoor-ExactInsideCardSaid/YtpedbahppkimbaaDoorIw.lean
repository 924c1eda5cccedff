/- The walk of ExactInside. -/
import Derived.Test.YtpedbahppkimbaaDoorSan2
import Derived.Test.YtpedbahppkimbaaDoorIns
import Derived.Test.YtpedbahppkimbaaDoorTri
namespace Go.Proofs.YtpedbahppkimbaaDoor
open Go Go.RowKit Dg

theorem mod_in (x k : Int) (hk : 0 < k) : 0 ≤ x % k ∧ x % k < k := ⟨Int.emod_nonneg x (by omega), Int.emod_lt_of_pos x hk⟩
/-- Numbers from 0 up to k. -/
structure InK (k : Int) (p : P3) : Prop where
  x : 0 ≤ p.x ∧ p.x < k
  y : 0 ≤ p.y ∧ p.y < k
  z : 0 ≤ p.z ∧ p.z < k
theorem grid_inK (a : P3) (k : Int) (hk : 0 < k) : InK k (gridI a k) := ⟨mod_in _ k hk, mod_in _ k hk, mod_in _ k hk⟩
theorem wprod_in {x y : Int} (hx : 0 ≤ x ∧ x < 12) (hy : 0 ≤ y ∧ y < 50) : 0 ≤ x * y ∧ x * y ≤ 539 := by
  refine ⟨Int.mul_nonneg hx.1 hy.1, ?_⟩
  have h1 : x * y ≤ 11 * y := Int.mul_le_mul_of_nonneg_right (by omega) hy.1
  omega
/-- A sum of products with weights: no wraparound. -/
theorem lin_in {m : P3} (hm : InK 12 m) {s t u : Int} (hs : 0 ≤ s ∧ s < 50) (ht : 0 ≤ t ∧ t < 50) (hu : 0 ≤ u ∧ u < 50) : ∃ k1 k2 k3 k4 l : Int, wrap64 (m.x * s) = k1 ∧ wrap64 (m.y * t) = k2 ∧ wrap64 (m.z * u) = k3 ∧ wrap64 (k1 + k2) = k4 ∧ wrap64 (k4 + k3) = l ∧ l = m.x * s + m.y * t + m.z * u ∧ 0 ≤ l ∧ l ≤ 1617 := by
  have h1 := wprod_in hm.x hs
  have h2 := wprod_in hm.y ht
  have h3 := wprod_in hm.z hu
  refine ⟨m.x * s, m.y * t, m.z * u, m.x * s + m.y * t, m.x * s + m.y * t + m.z * u, wrap64_in ⟨by omega, by omega⟩, wrap64_in ⟨by omega, by omega⟩, wrap64_in ⟨by omega, by omega⟩, wrap64_in ⟨by omega, by omega⟩, wrap64_in ⟨by omega, by omega⟩, rfl, by omega, by omega⟩
theorem mov_zero {p : P3} {s : Int} (hp : InK 50 p) (hs : 0 ≤ s ∧ s ≤ 33) : MovOk p ⟨0, 0, 0⟩ s ∧ (movI p ⟨0, 0, 0⟩ s).Ok := by
  have key : ∀ x : Int, 0 ≤ x ∧ x < 50 → 0 ≤ x * s ∧ x * s ≤ 1617 := fun x h => by
    refine ⟨Int.mul_nonneg h.1 (by omega), ?_⟩
    have h1 : x * s ≤ 49 * s := Int.mul_le_mul_of_nonneg_right (by omega) (by omega)
    omega
  have kx := key _ hp.x
  have ky := key _ hp.y
  have kz := key _ hp.z
  refine ⟨⟨⟨⟨?_, ?_⟩, ⟨?_, ?_⟩⟩, ⟨⟨?_, ?_⟩, ⟨?_, ?_⟩⟩, ⟨⟨?_, ?_⟩, ⟨?_, ?_⟩⟩⟩, ⟨⟨?_, ?_⟩, ⟨?_, ?_⟩, ⟨?_, ?_⟩⟩⟩ <;> (try simp only [movI]) <;> omega
/-- The point of the scaled triangle. -/
theorem big_wgt {m a b c p : P3} {s : Int} (hm : InK 12 m) (hs : s = m.x + m.y + m.z) (hp : 0 < s) (hx : p.x = m.x * a.x + m.y * b.x + m.z * c.x) (hy : p.y = m.x * a.y + m.y * b.y + m.z * c.y) (hz : p.z = m.x * a.z + m.y * b.z + m.z * c.z) :
    Wgt p (movI a ⟨0, 0, 0⟩ s) (movI b ⟨0, 0, 0⟩ s) (movI c ⟨0, 0, 0⟩ s) m.x m.y m.z := by
  refine ⟨hm.x.1, hm.y.1, hm.z.1, by omega, ?_, ?_, ?_⟩ <;> simp only [movI] <;> subst hs
  · rw [hx]; grind
  · rw [hy]; grind
  · rw [hz]; grind

set_option maxHeartbeats 16000000 in
set_option maxRecDepth 100000 in
theorem ins_walk (a b c m v : P3) (w : World) :
    Calls Tryd.prog 3 #[.agg #[.int .i64 a.x, .int .i64 a.y, .int .i64 a.z, .int .i64 b.x, .int .i64 b.y, .int .i64 b.z, .int .i64 c.x, .int .i64 c.y, .int .i64 c.z], .agg #[.int .i64 m.x, .int .i64 m.y, .int .i64 m.z], .agg #[.int .i64 v.x, .int .i64 v.y, .int .i64 v.z]] w fun e w' => e = .returned (.bool true) ∧ Tch [] w w' := by
  obtain ⟨ap, hap⟩ : ∃ u, u = gridI a 50 := ⟨_, rfl⟩
  have ia : InK 50 ap := by rw [hap]; exact grid_inK a 50 (by decide)
  obtain ⟨bp, hbp⟩ : ∃ u, u = gridI b 50 := ⟨_, rfl⟩
  have ib : InK 50 bp := by rw [hbp]; exact grid_inK b 50 (by decide)
  obtain ⟨cp, hcp⟩ : ∃ u, u = gridI c 50 := ⟨_, rfl⟩
  have ic : InK 50 cp := by rw [hcp]; exact grid_inK c 50 (by decide)
  obtain ⟨mp, hmp⟩ : ∃ u, u = gridI m 12 := ⟨_, rfl⟩
  have im : InK 12 mp := by rw [hmp]; exact grid_inK m 12 (by decide)
  obtain ⟨vp, hvp⟩ : ∃ u, u = gridI v 50 := ⟨_, rfl⟩
  have iv : InK 50 vp := by rw [hvp]; exact grid_inK v 50 (by decide)
  obtain ⟨s2, hs2⟩ : ∃ u, u = mp.x + mp.y := ⟨_, rfl⟩
  obtain ⟨sm, hsm⟩ : ∃ u, u = mp.x + mp.y + mp.z := ⟨_, rfl⟩
  have bm : 0 ≤ sm ∧ sm ≤ 33 := by have h1 := im.x; have h2 := im.y; have h3 := im.z; omega
  have hw1 : wrap64 (mp.x + mp.y) = s2 := by rw [hs2]; have h1 := im.x; have h2 := im.y; exact wrap64_in ⟨by omega, by omega⟩
  have hw2 : wrap64 (s2 + mp.z) = sm := by rw [hs2, ← hsm]; exact wrap64_in ⟨by omega, by omega⟩
  obtain ⟨x1, x2, x3, x4, px, ex1, ex2, ex3, ex4, ex5, hx, nx⟩ := lin_in im ia.x ib.x ic.x
  obtain ⟨y1, y2, y3, y4, py, ey1, ey2, ey3, ey4, ey5, hy, ny⟩ := lin_in im ia.y ib.y ic.y
  obtain ⟨z1, z2, z3, z4, pz, ez1, ez2, ez3, ez4, ez5, hz, nz⟩ := lin_in im ia.z ib.z ic.z
  obtain ⟨pp, hpp⟩ : ∃ u : P3, u = ⟨px, py, pz⟩ := ⟨_, rfl⟩
  have qx : px = pp.x := by rw [hpp]
  rw [qx] at ex5 hx nx
  have qy : py = pp.y := by rw [hpp]
  rw [qy] at ey5 hy ny
  have qz : pz = pp.z := by rw [hpp]
  rw [qz] at ez5 hz nz
  obtain ⟨qp, hqp⟩ : ∃ u : P3, u = ⟨pp.x + vp.x, pp.y + vp.y, pp.z + vp.z⟩ := ⟨_, rfl⟩
  obtain ⟨rp, hrp⟩ : ∃ u : P3, u = ⟨pp.x - vp.x, pp.y - vp.y, pp.z - vp.z⟩ := ⟨_, rfl⟩
  obtain ⟨fp, hfp⟩ : ∃ u : P3, u = ⟨qp.x + vp.x, qp.y + vp.y, qp.z + vp.z⟩ := ⟨_, rfl⟩
  have opp : pp.Ok := ⟨⟨by omega, by omega⟩, ⟨by omega, by omega⟩, ⟨by omega, by omega⟩⟩
  have qpx : qp.x = pp.x + vp.x := by rw [hqp]
  have qpy : qp.y = pp.y + vp.y := by rw [hqp]
  have qpz : qp.z = pp.z + vp.z := by rw [hqp]
  have gqpx : I64 (pp.x + vp.x) := by have h1 := iv.x; exact ⟨by omega, by omega⟩
  have gqpy : I64 (pp.y + vp.y) := by have h1 := iv.y; exact ⟨by omega, by omega⟩
  have gqpz : I64 (pp.z + vp.z) := by have h1 := iv.z; exact ⟨by omega, by omega⟩
  have wqpx : wrap64 (pp.x + vp.x) = qp.x := by rw [qpx]; exact wrap64_in gqpx
  have wqpy : wrap64 (pp.y + vp.y) = qp.y := by rw [qpy]; exact wrap64_in gqpy
  have wqpz : wrap64 (pp.z + vp.z) = qp.z := by rw [qpz]; exact wrap64_in gqpz
  have oqp : qp.Ok := ⟨by rw [qpx]; exact gqpx, by rw [qpy]; exact gqpy, by rw [qpz]; exact gqpz⟩
  have rpx : rp.x = pp.x - vp.x := by rw [hrp]
  have rpy : rp.y = pp.y - vp.y := by rw [hrp]
  have rpz : rp.z = pp.z - vp.z := by rw [hrp]
  have grpx : I64 (pp.x - vp.x) := by have h1 := iv.x; exact ⟨by omega, by omega⟩
  have grpy : I64 (pp.y - vp.y) := by have h1 := iv.y; exact ⟨by omega, by omega⟩
  have grpz : I64 (pp.z - vp.z) := by have h1 := iv.z; exact ⟨by omega, by omega⟩
  have wrpx : wrap64 (pp.x - vp.x) = rp.x := by rw [rpx]; exact wrap64_in grpx
  have wrpy : wrap64 (pp.y - vp.y) = rp.y := by rw [rpy]; exact wrap64_in grpy
  have wrpz : wrap64 (pp.z - vp.z) = rp.z := by rw [rpz]; exact wrap64_in grpz
  have orp : rp.Ok := ⟨by rw [rpx]; exact grpx, by rw [rpy]; exact grpy, by rw [rpz]; exact grpz⟩
  have fpx : fp.x = qp.x + vp.x := by rw [hfp]
  have fpy : fp.y = qp.y + vp.y := by rw [hfp]
  have fpz : fp.z = qp.z + vp.z := by rw [hfp]
  have gfpx : I64 (qp.x + vp.x) := by have h1 := iv.x; exact ⟨by omega, by omega⟩
  have gfpy : I64 (qp.y + vp.y) := by have h1 := iv.y; exact ⟨by omega, by omega⟩
  have gfpz : I64 (qp.z + vp.z) := by have h1 := iv.z; exact ⟨by omega, by omega⟩
  have wfpx : wrap64 (qp.x + vp.x) = fp.x := by rw [fpx]; exact wrap64_in gfpx
  have wfpy : wrap64 (qp.y + vp.y) = fp.y := by rw [fpy]; exact wrap64_in gfpy
  have wfpz : wrap64 (qp.z + vp.z) = fp.z := by rw [fpz]; exact wrap64_in gfpz
  have ofp : fp.Ok := ⟨by rw [fpx]; exact gfpx, by rw [fpy]; exact gfpy, by rw [fpz]; exact gfpz⟩
  obtain ⟨mga, oga⟩ := mov_zero ia bm
  obtain ⟨ga, hga⟩ : ∃ u, u = movI ap ⟨0, 0, 0⟩ sm := ⟨_, rfl⟩
  rw [← hga] at oga
  obtain ⟨mgb, ogb⟩ := mov_zero ib bm
  obtain ⟨gb, hgb⟩ : ∃ u, u = movI bp ⟨0, 0, 0⟩ sm := ⟨_, rfl⟩
  rw [← hgb] at ogb
  obtain ⟨mgc, ogc⟩ := mov_zero ic bm
  obtain ⟨gc, hgc⟩ : ∃ u, u = movI cp ⟨0, 0, 0⟩ sm := ⟨_, rfl⟩
  rw [← hgc] at ogc
  obtain ⟨sd, hsd⟩ : ∃ u, u = (detI ga gb gc qp).sign := ⟨_, rfl⟩
  have OPQ : Opp pp qp rp := ⟨by omega, by omega, by omega⟩
  have OPF : Opp qp pp fp := ⟨by omega, by omega, by omega⟩
  have WG : sm ≠ 0 → Wgt pp ga gb gc mp.x mp.y mp.z := fun h => by rw [hga, hgb, hgc]; exact big_wgt im hsm (by omega) hx hy hz
  have GT : Hid (∀ w1, Calls Tryd.prog 5 #[.agg #[.int .i64 a.x, .int .i64 a.y, .int .i64 a.z, .int .i64 b.x, .int .i64 b.y, .int .i64 b.z, .int .i64 c.x, .int .i64 c.y, .int .i64 c.z], .int .i64 50] w1 fun e w' => e = .returned (.agg #[.int .i64 ap.x, .int .i64 ap.y, .int .i64 ap.z, .int .i64 bp.x, .int .i64 bp.y, .int .i64 bp.z, .int .i64 cp.x, .int .i64 cp.y, .int .i64 cp.z]) ∧ Tch [] w1 w') := Lib.hid (fun w1 => by rw [hap, hbp, hcp]; exact rTri a b c 50 (by decide) w1)
  have GM : Hid (∀ w1, Calls Tryd.prog 6 #[.agg #[.int .i64 m.x, .int .i64 m.y, .int .i64 m.z], .int .i64 12] w1 fun e w' => e = .returned (.agg #[.int .i64 mp.x, .int .i64 mp.y, .int .i64 mp.z]) ∧ Tch [] w1 w') := Lib.hid (fun w1 => by rw [hmp]; exact rGrid m 12 (by decide) w1)
  have GV : Hid (∀ w1, Calls Tryd.prog 6 #[.agg #[.int .i64 v.x, .int .i64 v.y, .int .i64 v.z], .int .i64 50] w1 fun e w' => e = .returned (.agg #[.int .i64 vp.x, .int .i64 vp.y, .int .i64 vp.z]) ∧ Tch [] w1 w') := Lib.hid (fun w1 => by rw [hvp]; exact rGrid v 50 (by decide) w1)
  have GB : Hid (∀ w1, Calls Tryd.prog 7 #[.agg #[.int .i64 ap.x, .int .i64 ap.y, .int .i64 ap.z, .int .i64 bp.x, .int .i64 bp.y, .int .i64 bp.z, .int .i64 cp.x, .int .i64 cp.y, .int .i64 cp.z], .agg #[.int .i64 0, .int .i64 0, .int .i64 0], .int .i64 sm] w1 fun e w' => e = .returned (.agg #[.int .i64 ga.x, .int .i64 ga.y, .int .i64 ga.z, .int .i64 gb.x, .int .i64 gb.y, .int .i64 gb.z, .int .i64 gc.x, .int .i64 gc.y, .int .i64 gc.z]) ∧ Tch [] w1 w') := Lib.hid (fun w1 => by rw [hga, hgb, hgc]; exact rMovedTri ap bp cp ⟨0, 0, 0⟩ sm mga mgb mgc w1)
  have OR : Hid (∀ w1, Calls Tryd.prog 8 #[.agg #[.int .i64 ga.x, .int .i64 ga.y, .int .i64 ga.z], .agg #[.int .i64 gb.x, .int .i64 gb.y, .int .i64 gb.z], .agg #[.int .i64 gc.x, .int .i64 gc.y, .int .i64 gc.z], .agg #[.int .i64 qp.x, .int .i64 qp.y, .int .i64 qp.z]] w1 fun e w' => e = .returned (.int .i64 sd) ∧ Tch [] w1 w') := Lib.hid (fun w1 => by rw [hsd]; exact Orient ga gb gc qp oga ogb ogc oqp w1)
  have T1 : Hid (sm ≠ 0 → ∀ w1, Calls Tryd.prog 9 #[.agg #[.int .i64 pp.x, .int .i64 pp.y, .int .i64 pp.z], .agg #[.int .i64 qp.x, .int .i64 qp.y, .int .i64 qp.z], .agg #[.int .i64 ga.x, .int .i64 ga.y, .int .i64 ga.z, .int .i64 gb.x, .int .i64 gb.y, .int .i64 gb.z, .int .i64 gc.x, .int .i64 gc.y, .int .i64 gc.z]] w1 fun e w' => e = .returned (.bool true) ∧ Tch [] w1 w') := Lib.hid (fun hne w1 => by have h := Touch pp qp ga gb gc opp oqp oga ogb ogc w1; rw [(inside_touch (WG hne) OPQ).1] at h; exact h)
  have T2 : Hid (sm ≠ 0 → ∀ w1, Calls Tryd.prog 9 #[.agg #[.int .i64 rp.x, .int .i64 rp.y, .int .i64 rp.z], .agg #[.int .i64 qp.x, .int .i64 qp.y, .int .i64 qp.z], .agg #[.int .i64 ga.x, .int .i64 ga.y, .int .i64 ga.z, .int .i64 gb.x, .int .i64 gb.y, .int .i64 gb.z, .int .i64 gc.x, .int .i64 gc.y, .int .i64 gc.z]] w1 fun e w' => e = .returned (.bool true) ∧ Tch [] w1 w') := Lib.hid (fun hne w1 => by have h := Touch rp qp ga gb gc orp oqp oga ogb ogc w1; rw [(inside_touch (WG hne) OPQ).2.1] at h; exact h)
  have T3 : Hid (sm ≠ 0 → ∀ w1, Calls Tryd.prog 9 #[.agg #[.int .i64 qp.x, .int .i64 qp.y, .int .i64 qp.z], .agg #[.int .i64 rp.x, .int .i64 rp.y, .int .i64 rp.z], .agg #[.int .i64 ga.x, .int .i64 ga.y, .int .i64 ga.z, .int .i64 gb.x, .int .i64 gb.y, .int .i64 gb.z, .int .i64 gc.x, .int .i64 gc.y, .int .i64 gc.z]] w1 fun e w' => e = .returned (.bool true) ∧ Tch [] w1 w') := Lib.hid (fun hne w1 => by have h := Touch qp rp ga gb gc oqp orp oga ogb ogc w1; rw [(inside_touch (WG hne) OPQ).2.2] at h; exact h)
  have T4 : Hid (sm ≠ 0 ∧ sd ≠ 0 → ∀ w1, Calls Tryd.prog 9 #[.agg #[.int .i64 qp.x, .int .i64 qp.y, .int .i64 qp.z], .agg #[.int .i64 fp.x, .int .i64 fp.y, .int .i64 fp.z], .agg #[.int .i64 ga.x, .int .i64 ga.y, .int .i64 ga.z, .int .i64 gb.x, .int .i64 gb.y, .int .i64 gb.z, .int .i64 gc.x, .int .i64 gc.y, .int .i64 gc.z]] w1 fun e w' => e = .returned (.bool false) ∧ Tch [] w1 w') := Lib.hid (fun hne w1 => by have h := Touch qp fp ga gb gc oqp ofp oga ogb ogc w1; rw [touch_beyond (WG hne.1) OPF (fun h => hne.2 (by rw [hsd, h]; rfl))] at h; exact h)
  have CS := Lib.hid (fun w1 => sanity w1)
  have HS := Lib.hid (And.intro hw1 hw2)
  have Hx := Lib.hid (And.intro ex1 (And.intro ex2 (And.intro ex3 (And.intro ex4 ex5))))
  have Hy := Lib.hid (And.intro ey1 (And.intro ey2 (And.intro ey3 (And.intro ey4 ey5))))
  have Hz := Lib.hid (And.intro ez1 (And.intro ez2 (And.intro ez3 (And.intro ez4 ez5))))
  have Hqp := Lib.hid (And.intro wqpx (And.intro wqpy wqpz))
  have Hrp := Lib.hid (And.intro wrpx (And.intro wrpy wrpz))
  have Hfp := Lib.hid (And.intro wfpx (And.intro wfpy wfpz))
  clear hap ia hbp ib hcp ic hmp im hvp iv hs2 hsm bm hw1 hw2 ex1 ex2 ex3 ex4 ex5 hx nx qx ey1 ey2 ey3 ey4 ey5 hy ny qy ez1 ez2 ez3 ez4 ez5 hz nz qz hpp opp hqp hrp hfp qpx qpy qpz gqpx gqpy gqpz wqpx wqpy wqpz oqp rpx rpy rpz grpx grpy grpz wrpx wrpy wrpz orp fpx fpy fpz gfpx gfpy gfpz wfpx wfpy wfpz ofp mga oga hga mgb ogb hgb mgc ogc hgc hsd OPQ OPF WG
  have F : Hid (Fr w (((w.alloc (.cells #[.int .i64 a.x, .int .i64 a.y, .int .i64 a.z, .int .i64 b.x, .int .i64 b.y, .int .i64 b.z, .int .i64 c.x, .int .i64 c.y, .int .i64 c.z] 22)).alloc (.cells #[.int .i64 m.x, .int .i64 m.y, .int .i64 m.z] 23)).alloc (.cells #[.int .i64 v.x, .int .i64 v.y, .int .i64 v.z] 23)) [(w.heap.size, .cells #[.int .i64 a.x, .int .i64 a.y, .int .i64 a.z, .int .i64 b.x, .int .i64 b.y, .int .i64 b.z, .int .i64 c.x, .int .i64 c.y, .int .i64 c.z] 22 (0, 0)), (w.heap.size + 1, .cells #[.int .i64 m.x, .int .i64 m.y, .int .i64 m.z] 23 (0, 0)), (w.heap.size + 1 + 1, .cells #[.int .i64 v.x, .int .i64 v.y, .int .i64 v.z] 23 (0, 0))]) := Lib.hid ((((Fr.nil w).add (.cells #[.int .i64 a.x, .int .i64 a.y, .int .i64 a.z, .int .i64 b.x, .int .i64 b.y, .int .i64 b.z, .int .i64 c.x, .int .i64 c.y, .int .i64 c.z] 22) (w.heap.size) rfl).add (.cells #[.int .i64 m.x, .int .i64 m.y, .int .i64 m.z] 23) (w.heap.size + 1) (by simp)).add (.cells #[.int .i64 v.x, .int .i64 v.y, .int .i64 v.z] 23) (w.heap.size + 1 + 1) (by simp))
  go_enter Tryd.func3, Tryd.ntmps3
  go_wp2_with fail
  refine (CS.out _).mono ?_
  rintro e w1 ⟨rfl, hT⟩
  have F := Lib.hid (F.out.keep hT)
  clear hT CS
  obtain ⟨⟨x0, x1, x2⟩, ⟨x3, x4, x5⟩, x6, x7, x8⟩ := F.out.nine 0 rfl
  go_wp2_with fail
  refine (GT.out _).mono ?_
  rintro e w2 ⟨rfl, hT⟩
  have F := Lib.hid ((F.out.keep hT).add (.cells #[.int .i64 ap.x, .int .i64 ap.y, .int .i64 ap.z, .int .i64 bp.x, .int .i64 bp.y, .int .i64 bp.z, .int .i64 cp.x, .int .i64 cp.y, .int .i64 cp.z] 28) w2.heap.size rfl)
  clear hT GT x0 x1 x2 x3 x4 x5 x6 x7 x8
  obtain ⟨x0, x1, x2⟩ := F.out.three 1 rfl
  go_wp2_with fail
  refine (GM.out _).mono ?_
  rintro e w3 ⟨rfl, hT⟩
  have F := Lib.hid ((F.out.keep hT).add (.cells #[.int .i64 mp.x, .int .i64 mp.y, .int .i64 mp.z] 26) w3.heap.size rfl)
  clear hT GM x0 x1 x2
  obtain ⟨m0, m1, m2⟩ := F.out.three 4 rfl
  obtain ⟨⟨x0, x1, x2⟩, ⟨x3, x4, x5⟩, x6, x7, x8⟩ := F.out.nine 3 rfl
  obtain ⟨hw1, hw2⟩ := HS.out
  go_upto_region 5 with (fail)
  rw [hw2]
  clear hw1 hw2 HS
  by_cases hz : sm = 0
  · subst hz
    go_wp2
    go_ret
    exact ⟨rfl, F.out.t⟩
  have HZ := Lib.hid hz
  have hb : (sm == 0) = false := beq_eq_false_iff_ne.2 hz
  go_wp2_with fail
  refine (GB.out _).mono ?_
  rintro e w4 ⟨rfl, hT⟩
  have F := Lib.hid ((F.out.keep hT).add (.cells #[.int .i64 ga.x, .int .i64 ga.y, .int .i64 ga.z, .int .i64 gb.x, .int .i64 gb.y, .int .i64 gb.z, .int .i64 gc.x, .int .i64 gc.y, .int .i64 gc.z] 28) w4.heap.size rfl)
  clear hT GB m0 m1 m2 x0 x1 x2 x3 x4 x5 x6 x7 x8 hz hb
  obtain ⟨m0, m1, m2⟩ := F.out.three 4 rfl
  obtain ⟨⟨x0, x1, x2⟩, ⟨x3, x4, x5⟩, x6, x7, x8⟩ := F.out.nine 3 rfl
  obtain ⟨ex1, ex2, ex3, ex4, ex5⟩ := Hx.out
  obtain ⟨ey1, ey2, ey3, ey4, ey5⟩ := Hy.out
  obtain ⟨ez1, ez2, ez3, ez4, ez5⟩ := Hz.out
  go_upto_region 9 with (fail)
  rw [ex5, ey5, ez5]
  clear ex1 ex2 ex3 ex4 ex5 ey1 ey2 ey3 ey4 ey5 ez1 ez2 ez3 ez4 ez5 Hx Hy Hz m0 m1 m2 x0 x1 x2 x3 x4 x5 x6 x7 x8
  have F := Lib.hid (F.out.add (.cells #[.int .i64 pp.x, .int .i64 pp.y, .int .i64 pp.z] 26) (w4.heap.size + 1) (by simp))
  obtain ⟨V0, hV0⟩ : ∃ W, W = (w4.alloc (.cells #[.int .i64 ga.x, .int .i64 ga.y, .int .i64 ga.z, .int .i64 gb.x, .int .i64 gb.y, .int .i64 gb.z, .int .i64 gc.x, .int .i64 gc.y, .int .i64 gc.z] 28)).alloc (.cells #[.int .i64 pp.x, .int .i64 pp.y, .int .i64 pp.z] 26) := ⟨_, rfl⟩
  rw [← hV0] at F
  rw [← hV0]
  clear hV0
  obtain ⟨x0, x1, x2⟩ := F.out.three 2 rfl
  go_wp2_with fail
  refine (GV.out _).mono ?_
  rintro e w5 ⟨rfl, hT⟩
  have F := Lib.hid ((F.out.keep hT).add (.cells #[.int .i64 vp.x, .int .i64 vp.y, .int .i64 vp.z] 26) w5.heap.size rfl)
  clear hT GV x0 x1 x2
  obtain ⟨x0, x1, x2⟩ := F.out.three 6 rfl
  obtain ⟨y0, y1, y2⟩ := F.out.three 7 rfl
  obtain ⟨h0, h1, h2⟩ := Hqp.out
  go_upto_region 11 with (fail)
  rw [h0, h1, h2]
  clear x0 x1 x2 y0 y1 y2 h0 h1 h2 Hqp
  have F := Lib.hid (F.out.add (.cells #[.int .i64 qp.x, .int .i64 qp.y, .int .i64 qp.z] 26) (w5.heap.size + 1) (by simp))
  obtain ⟨x0, x1, x2⟩ := F.out.three 6 rfl
  obtain ⟨y0, y1, y2⟩ := F.out.three 7 rfl
  obtain ⟨h0, h1, h2⟩ := Hrp.out
  go_upto_region 12 with (fail)
  rw [h0, h1, h2]
  clear x0 x1 x2 y0 y1 y2 h0 h1 h2 Hrp
  have F := Lib.hid (F.out.add (.cells #[.int .i64 rp.x, .int .i64 rp.y, .int .i64 rp.z] 26) (w5.heap.size + 1 + 1) (by simp))
  obtain ⟨x0, x1, x2⟩ := F.out.three 8 rfl
  obtain ⟨y0, y1, y2⟩ := F.out.three 7 rfl
  obtain ⟨h0, h1, h2⟩ := Hfp.out
  go_upto_region 13 with (fail)
  rw [h0, h1, h2]
  clear x0 x1 x2 y0 y1 y2 h0 h1 h2 Hfp
  have F := Lib.hid (F.out.add (.cells #[.int .i64 fp.x, .int .i64 fp.y, .int .i64 fp.z] 26) (w5.heap.size + 1 + 1 + 1) (by simp))
  obtain ⟨⟨x0, x1, x2⟩, ⟨x3, x4, x5⟩, x6, x7, x8⟩ := F.out.nine 5 rfl
  obtain ⟨y0, y1, y2⟩ := F.out.three 8 rfl
  go_wp2_with fail
  refine (OR.out _).mono ?_
  rintro e w6 ⟨rfl, hT⟩
  have F := Lib.hid (F.out.keep hT)
  clear hT OR x0 x1 x2 x3 x4 x5 x6 x7 x8 y0 y1 y2
  obtain ⟨l, G, SF0⟩ : ∃ l, Fr w w6 l ∧ (∀ w1, Fr w w1 l → (w1.cell? ⟨w4.heap.size + 1, 0, none⟩ = some (.int .i64 pp.x) ∧ w1.cell? ⟨w4.heap.size + 1, 1, none⟩ = some (.int .i64 pp.y) ∧ w1.cell? ⟨w4.heap.size + 1, 2, none⟩ = some (.int .i64 pp.z)) ∧ (w1.cell? ⟨w5.heap.size + 1, 0, none⟩ = some (.int .i64 qp.x) ∧ w1.cell? ⟨w5.heap.size + 1, 1, none⟩ = some (.int .i64 qp.y) ∧ w1.cell? ⟨w5.heap.size + 1, 2, none⟩ = some (.int .i64 qp.z)) ∧ (w1.cell? ⟨w5.heap.size + 1 + 1, 0, none⟩ = some (.int .i64 rp.x) ∧ w1.cell? ⟨w5.heap.size + 1 + 1, 1, none⟩ = some (.int .i64 rp.y) ∧ w1.cell? ⟨w5.heap.size + 1 + 1, 2, none⟩ = some (.int .i64 rp.z)) ∧ (w1.cell? ⟨w5.heap.size + 1 + 1 + 1, 0, none⟩ = some (.int .i64 fp.x) ∧ w1.cell? ⟨w5.heap.size + 1 + 1 + 1, 1, none⟩ = some (.int .i64 fp.y) ∧ w1.cell? ⟨w5.heap.size + 1 + 1 + 1, 2, none⟩ = some (.int .i64 fp.z)) ∧ ((w1.cell? ⟨w4.heap.size, 0, none⟩ = some (.int .i64 ga.x) ∧ w1.cell? ⟨w4.heap.size, 1, none⟩ = some (.int .i64 ga.y) ∧ w1.cell? ⟨w4.heap.size, 2, none⟩ = some (.int .i64 ga.z)) ∧ (w1.cell? ⟨w4.heap.size, 3, none⟩ = some (.int .i64 gb.x) ∧ w1.cell? ⟨w4.heap.size, 4, none⟩ = some (.int .i64 gb.y) ∧ w1.cell? ⟨w4.heap.size, 5, none⟩ = some (.int .i64 gb.z)) ∧ w1.cell? ⟨w4.heap.size, 6, none⟩ = some (.int .i64 gc.x) ∧ w1.cell? ⟨w4.heap.size, 7, none⟩ = some (.int .i64 gc.y) ∧ w1.cell? ⟨w4.heap.size, 8, none⟩ = some (.int .i64 gc.z))) :=
    ⟨_, F.out, fun w1 h => ⟨h.three 6 rfl, h.three 8 rfl, h.three 9 rfl, h.three 10 rfl, h.nine 5 rfl⟩⟩
  have F := Lib.hid G
  have SF := Lib.hid SF0
  clear G SF0
  have U1 := Lib.hid (T1.out HZ.out)
  have U2 := Lib.hid (T2.out HZ.out)
  have U3 := Lib.hid (T3.out HZ.out)
  clear T1 T2 T3
  by_cases hd : sd = 0
  · subst hd
    clear T4
    obtain ⟨⟨p0, p1, p2⟩, ⟨q0, q1, q2⟩, ⟨r0, r1, r2⟩, ⟨u0, u1, u2⟩, ⟨x0, x1, x2⟩, ⟨x3, x4, x5⟩, x6, x7, x8⟩ := SF.out _ F.out
    go_wp2_with (go_at_call 9; (first | (with_reducible refine (U1.out _).mono ?_) | (with_reducible refine (U2.out _).mono ?_) | (with_reducible refine (U3.out _).mono ?_)); rintro e w6 ⟨rfl, hT⟩; have F := Lib.hid (F.out.keep hT); clear hT p0 p1 p2 q0 q1 q2 r0 r1 r2 u0 u1 u2 x0 x1 x2 x3 x4 x5 x6 x7 x8; obtain ⟨⟨p0, p1, p2⟩, ⟨q0, q1, q2⟩, ⟨r0, r1, r2⟩, ⟨u0, u1, u2⟩, ⟨x0, x1, x2⟩, ⟨x3, x4, x5⟩, x6, x7, x8⟩ := SF.out _ F.out)
    go_ret
    exact ⟨rfl, F.out.t⟩
  · have U4 := Lib.hid (T4.out ⟨HZ.out, hd⟩)
    have hb : (sd == 0) = false := beq_eq_false_iff_ne.2 hd
    clear T4 hd
    obtain ⟨⟨p0, p1, p2⟩, ⟨q0, q1, q2⟩, ⟨r0, r1, r2⟩, ⟨u0, u1, u2⟩, ⟨x0, x1, x2⟩, ⟨x3, x4, x5⟩, x6, x7, x8⟩ := SF.out _ F.out
    go_wp2_with (go_at_call 9; (first | (with_reducible refine (U1.out _).mono ?_) | (with_reducible refine (U2.out _).mono ?_) | (with_reducible refine (U3.out _).mono ?_) | (with_reducible refine (U4.out _).mono ?_)); rintro e w6 ⟨rfl, hT⟩; have F := Lib.hid (F.out.keep hT); clear hT p0 p1 p2 q0 q1 q2 r0 r1 r2 u0 u1 u2 x0 x1 x2 x3 x4 x5 x6 x7 x8; obtain ⟨⟨p0, p1, p2⟩, ⟨q0, q1, q2⟩, ⟨r0, r1, r2⟩, ⟨u0, u1, u2⟩, ⟨x0, x1, x2⟩, ⟨x3, x4, x5⟩, x6, x7, x8⟩ := SF.out _ F.out)
    go_ret
    exact ⟨rfl, F.out.t⟩

end Go.Proofs.YtpedbahppkimbaaDoor
