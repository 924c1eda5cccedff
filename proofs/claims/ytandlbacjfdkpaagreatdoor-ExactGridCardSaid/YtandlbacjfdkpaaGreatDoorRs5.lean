/- The reference's signs, normals, Flat, Orient. -/
import Derived.Test.YtandlbacjfdkpaaGreatDoorRw
import Derived.Test.YtandlbacjfdkpaaGreatDoorRs2
import Derived.Test.YtandlbacjfdkpaaGreatDoorRef
namespace Go.Proofs.YtandlbacjfdkpaaGreatDoor
open Go Go.RowKit Dg

theorem JSign {x : Int} (hx : Sm 400 x) (w : World) :
    Calls Tryz.prog 63 #[(.agg #[.bool (sgz x), .string (moz x)])] w fun e w' => e = .returned (.int .i64 x.sign) ∧ Tch [] w w' := rSign hx.rep1 w
theorem in18_dif {a b : P3} (ha : In18 a) (hb : In18 b) : (-524288 ≤ (difI a b).x ∧ (difI a b).x ≤ 524288) ∧ (-524288 ≤ (difI a b).y ∧ (difI a b).y ≤ 524288) ∧ (-524288 ≤ (difI a b).z ∧ (difI a b).z ≤ 524288) := by
  unfold In18 at ha hb; simp only [difI]; omega
theorem prod19 {x y : Int} (hx : -524288 ≤ x ∧ x ≤ 524288) (hy : -524288 ≤ y ∧ y ≤ 524288) : -274877906944 ≤ x * y ∧ x * y ≤ 274877906944 := by
  have h : (x * y).natAbs ≤ 524288 * 524288 := by
    rw [Int.natAbs_mul]; exact Nat.mul_le_mul (by omega) (by omega)
  omega
theorem dif_ok {a b : P3} (ha : In18 a) (hb : In18 b) : (difI a b).Ok := by
  have h := in18_dif ha hb
  exact ⟨⟨by omega, by omega⟩, ⟨by omega, by omega⟩, ⟨by omega, by omega⟩⟩
theorem crs_ok {a b c d : P3} (ha : In18 a) (hb : In18 b) (hc : In18 c) (hd : In18 d) : CrsOk (difI a b) (difI c d) := by
  obtain ⟨h1, h2, h3⟩ := in18_dif ha hb
  obtain ⟨k1, k2, k3⟩ := in18_dif hc hd
  have a1 := prod19 h2 k3
  have a2 := prod19 h3 k2
  have a3 := prod19 h3 k1
  have a4 := prod19 h1 k3
  have a5 := prod19 h1 k2
  have a6 := prod19 h2 k1
  exact ⟨⟨⟨by omega, by omega⟩, ⟨by omega, by omega⟩, ⟨by omega, by omega⟩⟩, ⟨⟨by omega, by omega⟩, ⟨by omega, by omega⟩, ⟨by omega, by omega⟩⟩, ⟨⟨by omega, by omega⟩, ⟨by omega, by omega⟩, ⟨by omega, by omega⟩⟩⟩

set_option maxHeartbeats 16000000 in
set_option maxRecDepth 100000 in
theorem rSigns (a b c d : P3) (ha : a.Ok) (hb : b.Ok) (hc : c.Ok) (hd : d.Ok) (w : World) :
    Calls Tryz.prog 69 #[(.agg #[.int .i64 a.x, .int .i64 a.y, .int .i64 a.z]), (.agg #[.int .i64 b.x, .int .i64 b.y, .int .i64 b.z]), (.agg #[.int .i64 c.x, .int .i64 c.y, .int .i64 c.z]), (.agg #[.int .i64 d.x, .int .i64 d.y, .int .i64 d.z])] w fun e w' => e = .returned (.agg #[.int .i64 (sgnsI a b c d).x, .int .i64 (sgnsI a b c d).y, .int .i64 (sgnsI a b c d).z]) ∧ Tch [] w w' := by
  obtain ⟨r, hr⟩ : ∃ r, r = sgnsI a b c d := ⟨_, rfl⟩
  rw [← hr]
  obtain ⟨n, hn⟩ : ∃ n, n = crsI (difI a b) (difI c d) := ⟨_, rfl⟩
  have ex : n.x.sign = r.x := by rw [hr, hn]; rfl
  have ey : n.y.sign = r.y := by rw [hr, hn]; rfl
  have ez : n.z.sign = r.z := by rw [hr, hn]; rfl
  obtain ⟨u, hu⟩ : ∃ u, u = difI a b := ⟨_, rfl⟩
  obtain ⟨v, hv⟩ : ∃ v, v = difI c d := ⟨_, rfl⟩
  rw [← hu, ← hv] at hn
  have su : u.Sm 65 := by rw [hu]; exact difI_sm ha hb
  have sv : v.Sm 65 := by rw [hv]; exact difI_sm hc hd
  have s0 : Sm 400 n.x := by rw [hn]; exact (((su.y.mul sv.z).sub (su.z.mul sv.y))).mono (by omega)
  have G0 : Hid (∀ w1, Calls Tryz.prog 62 #[.int .i64 n.x] w1 fun e w' => e = .returned (.int .i64 r.x) ∧ Tch [] w1 w') := Lib.hid (fun w1 => by rw [← ex]; exact rsign _ w1)
  have H0 : Hid (∀ w1, Calls Tryz.prog 63 #[(.agg #[.bool (sgz n.x), .string (moz n.x)])] w1 fun e w' => e = .returned (.int .i64 r.x) ∧ Tch [] w1 w') := Lib.hid (fun w1 => by rw [← ex]; exact JSign s0 w1)
  have s1 : Sm 400 n.y := by rw [hn]; exact (((su.z.mul sv.x).sub (su.x.mul sv.z))).mono (by omega)
  have G1 : Hid (∀ w1, Calls Tryz.prog 62 #[.int .i64 n.y] w1 fun e w' => e = .returned (.int .i64 r.y) ∧ Tch [] w1 w') := Lib.hid (fun w1 => by rw [← ey]; exact rsign _ w1)
  have H1 : Hid (∀ w1, Calls Tryz.prog 63 #[(.agg #[.bool (sgz n.y), .string (moz n.y)])] w1 fun e w' => e = .returned (.int .i64 r.y) ∧ Tch [] w1 w') := Lib.hid (fun w1 => by rw [← ey]; exact JSign s1 w1)
  have s2 : Sm 400 n.z := by rw [hn]; exact (((su.x.mul sv.y).sub (su.y.mul sv.x))).mono (by omega)
  have G2 : Hid (∀ w1, Calls Tryz.prog 62 #[.int .i64 n.z] w1 fun e w' => e = .returned (.int .i64 r.z) ∧ Tch [] w1 w') := Lib.hid (fun w1 => by rw [← ez]; exact rsign _ w1)
  have H2 : Hid (∀ w1, Calls Tryz.prog 63 #[(.agg #[.bool (sgz n.z), .string (moz n.z)])] w1 fun e w' => e = .returned (.int .i64 r.z) ∧ Tch [] w1 w') := Lib.hid (fun w1 => by rw [← ez]; exact JSign s2 w1)
  have W1 : Hid (∀ w1, Calls Tryz.prog 66 #[(.agg #[.int .i64 a.x, .int .i64 a.y, .int .i64 a.z]), (.agg #[.int .i64 b.x, .int .i64 b.y, .int .i64 b.z])] w1 fun e w' => e = .returned (.agg #[.bool (sgz u.x), .string (moz u.x), .bool (sgz u.y), .string (moz u.y), .bool (sgz u.z), .string (moz u.z)]) ∧ Tch [] w1 w') := Lib.hid (fun w1 => by rw [hu]; exact rwideV a b ha hb w1)
  have W2 : Hid (∀ w1, Calls Tryz.prog 66 #[(.agg #[.int .i64 c.x, .int .i64 c.y, .int .i64 c.z]), (.agg #[.int .i64 d.x, .int .i64 d.y, .int .i64 d.z])] w1 fun e w' => e = .returned (.agg #[.bool (sgz v.x), .string (moz v.x), .bool (sgz v.y), .string (moz v.y), .bool (sgz v.z), .string (moz v.z)]) ∧ Tch [] w1 w') := Lib.hid (fun w1 => by rw [hv]; exact rwideV c d hc hd w1)
  have W3 : Hid (∀ w1, Calls Tryz.prog 65 #[.agg #[.bool (sgz u.x), .string (moz u.x), .bool (sgz u.y), .string (moz u.y), .bool (sgz u.z), .string (moz u.z)], .agg #[.bool (sgz v.x), .string (moz v.x), .bool (sgz v.y), .string (moz v.y), .bool (sgz v.z), .string (moz v.z)]] w1 fun e w' => e = .returned (.agg #[.bool (sgz n.x), .string (moz n.x), .bool (sgz n.y), .string (moz n.y), .bool (sgz n.z), .string (moz n.z)]) ∧ Tch [] w1 w') := Lib.hid (fun w1 => by rw [hn]; exact rwideProduct u v ⟨su.x.mono (by omega), su.y.mono (by omega), su.z.mono (by omega)⟩ ⟨sv.x.mono (by omega), sv.y.mono (by omega), sv.z.mono (by omega)⟩ w1)
  have V1 : Hid ((In18 a ∧ In18 b ∧ In18 c ∧ In18 d) → ∀ w1, Calls Tryz.prog 61 #[(.agg #[.int .i64 a.x, .int .i64 a.y, .int .i64 a.z]), (.agg #[.int .i64 b.x, .int .i64 b.y, .int .i64 b.z])] w1 fun e w' => e = .returned (.agg #[.int .i64 u.x, .int .i64 u.y, .int .i64 u.z]) ∧ Tch [] w1 w') := Lib.hid (fun hs w1 => by rw [hu]; exact rvector a b (dif_ok hs.1 hs.2.1) w1)
  have V2 : Hid ((In18 a ∧ In18 b ∧ In18 c ∧ In18 d) → ∀ w1, Calls Tryz.prog 61 #[(.agg #[.int .i64 c.x, .int .i64 c.y, .int .i64 c.z]), (.agg #[.int .i64 d.x, .int .i64 d.y, .int .i64 d.z])] w1 fun e w' => e = .returned (.agg #[.int .i64 v.x, .int .i64 v.y, .int .i64 v.z]) ∧ Tch [] w1 w') := Lib.hid (fun hs w1 => by rw [hv]; exact rvector c d (dif_ok hs.2.2.1 hs.2.2.2) w1)
  have V3 : Hid ((In18 a ∧ In18 b ∧ In18 c ∧ In18 d) → ∀ w1, Calls Tryz.prog 60 #[(.agg #[.int .i64 u.x, .int .i64 u.y, .int .i64 u.z]), (.agg #[.int .i64 v.x, .int .i64 v.y, .int .i64 v.z])] w1 fun e w' => e = .returned (.agg #[.int .i64 n.x, .int .i64 n.y, .int .i64 n.z]) ∧ Tch [] w1 w') := Lib.hid (fun hs w1 => by rw [hn]; exact rproduct u v (by rw [hu, hv]; exact crs_ok hs.1 hs.2.1 hs.2.2.1 hs.2.2.2) w1)
  have CS := Lib.hid (fun (g : Nat) (T : TypeId) (w1 : World) (hg : w1.heap[g]? = some (.cells #[.int .i64 a.x, .int .i64 a.y, .int .i64 a.z, .int .i64 b.x, .int .i64 b.y, .int .i64 b.z, .int .i64 c.x, .int .i64 c.y, .int .i64 c.z, .int .i64 d.x, .int .i64 d.y, .int .i64 d.z] T (0, 0))) => rSmall g a b c d T w1 hg)
  clear hr hn hu hv su sv s0 s1 s2 ex ey ez ha hb hc hd
  have F : Hid (Fr w (((((w.alloc (.cells #[.int .i64 a.x, .int .i64 a.y, .int .i64 a.z] 27)).alloc (.cells #[.int .i64 b.x, .int .i64 b.y, .int .i64 b.z] 27)).alloc (.cells #[.int .i64 c.x, .int .i64 c.y, .int .i64 c.z] 27)).alloc (.cells #[.int .i64 d.x, .int .i64 d.y, .int .i64 d.z] 27)).alloc (.cells #[.int .i64 0, .int .i64 0, .int .i64 0] 22)) [(w.heap.size, .cells #[.int .i64 a.x, .int .i64 a.y, .int .i64 a.z] 27 (0, 0)), (w.heap.size + 1, .cells #[.int .i64 b.x, .int .i64 b.y, .int .i64 b.z] 27 (0, 0)), (w.heap.size + 1 + 1, .cells #[.int .i64 c.x, .int .i64 c.y, .int .i64 c.z] 27 (0, 0)), (w.heap.size + 1 + 1 + 1, .cells #[.int .i64 d.x, .int .i64 d.y, .int .i64 d.z] 27 (0, 0)), (w.heap.size + 1 + 1 + 1 + 1, .cells #[.int .i64 0, .int .i64 0, .int .i64 0] 22 (0, 0))]) := Lib.hid ((((((Fr.nil w).add (.cells #[.int .i64 a.x, .int .i64 a.y, .int .i64 a.z] 27) (w.heap.size) rfl).add (.cells #[.int .i64 b.x, .int .i64 b.y, .int .i64 b.z] 27) (w.heap.size + 1) (by simp)).add (.cells #[.int .i64 c.x, .int .i64 c.y, .int .i64 c.z] 27) (w.heap.size + 1 + 1) (by simp)).add (.cells #[.int .i64 d.x, .int .i64 d.y, .int .i64 d.z] 27) (w.heap.size + 1 + 1 + 1) (by simp)).add (.cells #[.int .i64 0, .int .i64 0, .int .i64 0] 22) (w.heap.size + 1 + 1 + 1 + 1) (by simp))
  obtain ⟨a0, a1, a2⟩ := F.out.three 0 rfl; obtain ⟨b0, b1, b2⟩ := F.out.three 1 rfl; obtain ⟨c0, c1, c2⟩ := F.out.three 2 rfl; obtain ⟨d0, d1, d2⟩ := F.out.three 3 rfl
  go_enter Tryz.func69, Tryz.ntmps69
  go_wp2_with fail
  have F2 := F.out.add (.cells #[.int .i64 a.x, .int .i64 a.y, .int .i64 a.z, .int .i64 b.x, .int .i64 b.y, .int .i64 b.z, .int .i64 c.x, .int .i64 c.y, .int .i64 c.z, .int .i64 d.x, .int .i64 d.y, .int .i64 d.z] 27) (w.heap.size + 1 + 1 + 1 + 1 + 1) (by simp)
  have hg := F2.row (w.heap.size + 1 + 1 + 1 + 1 + 1, .cells #[.int .i64 a.x, .int .i64 a.y, .int .i64 a.z, .int .i64 b.x, .int .i64 b.y, .int .i64 b.z, .int .i64 c.x, .int .i64 c.y, .int .i64 c.z, .int .i64 d.x, .int .i64 d.y, .int .i64 d.z] 27 (0, 0)) (by simp)
  clear F2
  refine (CS.out _ 27 _ hg).mono ?_
  clear hg
  rintro e w1 ⟨rfl, hT⟩
  have F := Lib.hid ((F.out.beside _).keep hT)
  clear hT CS a0 a1 a2 b0 b1 b2 c0 c1 c2 d0 d1 d2
  have SF := Lib.hid (fun (w' : World) (h : Fr w w' [(w.heap.size, .cells #[.int .i64 a.x, .int .i64 a.y, .int .i64 a.z] 27 (0, 0)), (w.heap.size + 1, .cells #[.int .i64 b.x, .int .i64 b.y, .int .i64 b.z] 27 (0, 0)), (w.heap.size + 1 + 1, .cells #[.int .i64 c.x, .int .i64 c.y, .int .i64 c.z] 27 (0, 0)), (w.heap.size + 1 + 1 + 1, .cells #[.int .i64 d.x, .int .i64 d.y, .int .i64 d.z] 27 (0, 0)), (w.heap.size + 1 + 1 + 1 + 1, .cells #[.int .i64 0, .int .i64 0, .int .i64 0] 22 (0, 0))]) => And.intro (h.three 0 rfl) (And.intro (h.three 1 rfl) (And.intro (h.three 2 rfl) (h.three 3 rfl))))
  by_cases hs : In18 a ∧ In18 b ∧ In18 c ∧ In18 d
  · have hsm : smI a b c d = true := by unfold smI; rw [decide_eq_true hs.1, decide_eq_true hs.2.1, decide_eq_true hs.2.2.1, decide_eq_true hs.2.2.2]; rfl
    have U1 := Lib.hid (V1.out hs)
    have U2 := Lib.hid (V2.out hs)
    have U3 := Lib.hid (V3.out hs)
    clear V1 V2 V3 W1 W2 W3 H0 H1 H2 hs
    rw [hsm]
    clear hsm
    go_upto_region 3 with (fail)
    go_cut [10] (fun s wx => MidC w [(w.heap.size, .cells #[.int .i64 a.x, .int .i64 a.y, .int .i64 a.z] 27 (0, 0)), (w.heap.size + 1, .cells #[.int .i64 b.x, .int .i64 b.y, .int .i64 b.z] 27 (0, 0)), (w.heap.size + 1 + 1, .cells #[.int .i64 c.x, .int .i64 c.y, .int .i64 c.z] 27 (0, 0)), (w.heap.size + 1 + 1 + 1, .cells #[.int .i64 d.x, .int .i64 d.y, .int .i64 d.z] 27 (0, 0)), (w.heap.size + 1 + 1 + 1 + 1, .cells #[.int .i64 0, .int .i64 0, .int .i64 0] 22 (0, 0))] (.cells #[.int .i64 n.x, .int .i64 n.y, .int .i64 n.z] 22 (0, 0)) s wx)
    case first =>
      go_region_held3 (fun w' => (w'.cell? ⟨w.heap.size, 0, none⟩ = some (.int .i64 a.x) ∧ w'.cell? ⟨w.heap.size, 1, none⟩ = some (.int .i64 a.y) ∧ w'.cell? ⟨w.heap.size, 2, none⟩ = some (.int .i64 a.z)) ∧ (w'.cell? ⟨w.heap.size + 1, 0, none⟩ = some (.int .i64 b.x) ∧ w'.cell? ⟨w.heap.size + 1, 1, none⟩ = some (.int .i64 b.y) ∧ w'.cell? ⟨w.heap.size + 1, 2, none⟩ = some (.int .i64 b.z)) ∧ (w'.cell? ⟨w.heap.size + 1 + 1, 0, none⟩ = some (.int .i64 c.x) ∧ w'.cell? ⟨w.heap.size + 1 + 1, 1, none⟩ = some (.int .i64 c.y) ∧ w'.cell? ⟨w.heap.size + 1 + 1, 2, none⟩ = some (.int .i64 c.z)) ∧ (w'.cell? ⟨w.heap.size + 1 + 1 + 1, 0, none⟩ = some (.int .i64 d.x) ∧ w'.cell? ⟨w.heap.size + 1 + 1 + 1, 1, none⟩ = some (.int .i64 d.y) ∧ w'.cell? ⟨w.heap.size + 1 + 1 + 1, 2, none⟩ = some (.int .i64 d.z))) (first | with_reducible exact SF.out _ F3.out | with_reducible exact SF.out _ (F3.out.beside _) | with_reducible exact SF.out _ (F3.out.box3 _ _ _ _) | with_reducible exact SF.out _ (B3.out.set3 _ _ _) | with_reducible exact SF.out _ F.out | with_reducible exact SF.out _ F.out.drew | with_reducible exact SF.out _ (F.out.drew.beside _) | with_reducible exact SF.out _ (F.out.beside _).drew) (first
        | (go_at_call 61; (first | (with_reducible refine (U1.out _).mono ?_) | (with_reducible refine (U2.out _).mono ?_)); rintro e w5 ⟨rfl, hT⟩; (first | (with_reducible have B3 := Lib.hid (B3.out.keep hT); clear z0 z1 z2 f0 f1 f2; obtain ⟨⟨z0, z1, z2⟩, ⟨f0, f1, f2⟩⟩ := B3.out.three; have F3 := Lib.hid B3.out.f) | (with_reducible have F3 := Lib.hid (F3.out.keep hT)) | (with_reducible have B3 := Lib.hid (F3.out.boxed _ hT); obtain ⟨⟨z0, z1, z2⟩, ⟨f0, f1, f2⟩⟩ := B3.out.three; have F3 := Lib.hid B3.out.f) | (with_reducible have B3 := Lib.hid (F.out.boxedAt _ w1.heap.size rfl (Tch.undrew hT)); obtain ⟨⟨z0, z1, z2⟩, ⟨f0, f1, f2⟩⟩ := B3.out.three; have F3 := Lib.hid B3.out.f) | (with_reducible have F3 := Lib.hid (F.out.keep (Tch.undrew hT)))); clear hT)
        | (go_at_call 60; (with_reducible refine (U3.out _).mono ?_); rintro e w5 ⟨rfl, hT⟩; (first | (with_reducible have B3 := Lib.hid (B3.out.keep hT); clear z0 z1 z2 f0 f1 f2; obtain ⟨⟨z0, z1, z2⟩, ⟨f0, f1, f2⟩⟩ := B3.out.three; have F3 := Lib.hid B3.out.f) | (with_reducible have F3 := Lib.hid (F3.out.keep hT)) | (with_reducible have B3 := Lib.hid (F3.out.boxed _ hT); obtain ⟨⟨z0, z1, z2⟩, ⟨f0, f1, f2⟩⟩ := B3.out.three; have F3 := Lib.hid B3.out.f) | (with_reducible have B3 := Lib.hid (F.out.boxedAt _ w1.heap.size rfl (Tch.undrew hT)); obtain ⟨⟨z0, z1, z2⟩, ⟨f0, f1, f2⟩⟩ := B3.out.three; have F3 := Lib.hid B3.out.f) | (with_reducible have F3 := Lib.hid (F.out.keep (Tch.undrew hT)))); clear hT))
      all_goals (go_wp2_with fail; go_meet; (first | with_reducible exact F3.out.midC _ | with_reducible exact B3.out.midC3 _ _ _))
    case rest =>
    obtain ⟨g, rfl, FB⟩ := hcut
    have hne : w.heap.size + 1 + 1 + 1 + 1 ≠ g := FB.ne (_, .cells #[.int .i64 0, .int .i64 0, .int .i64 0] 22 (0, 0)) (by simp)
    have G0 : Hid (Fr w wc [(w.heap.size + 1 + 1 + 1 + 1, .cells #[.int .i64 0, .int .i64 0, .int .i64 0] 22 (0, 0)), (g, .cells #[.int .i64 n.x, .int .i64 n.y, .int .i64 n.z] 22 (0, 0))]) := Lib.hid (FB.all.sub (by intro q hq; simp only [List.cons_append, List.nil_append, List.mem_cons, List.not_mem_nil, or_false] at hq ⊢; rcases hq with rfl | rfl <;> simp))
    clear F FB SF
    have F := G0
    clear G0
    have SF := Lib.hid (fun (w' : World) (h : Fr w w' [(w.heap.size + 1 + 1 + 1 + 1, .cells #[.int .i64 0, .int .i64 0, .int .i64 0] 22 (0, 0)), (g, .cells #[.int .i64 n.x, .int .i64 n.y, .int .i64 n.z] 22 (0, 0))]) => h.three 1 rfl)
    have ST := Lib.hid (fun (w' : World) (y0 y1 y2 : Value) (h : Fr w w' [(w.heap.size + 1 + 1 + 1 + 1, .cells #[.int .i64 0, .int .i64 0, .int .i64 0] 22 (0, 0)), (g, .cells #[.int .i64 n.x, .int .i64 n.y, .int .i64 n.z] 22 (0, 0))]) => (((((h.only 1 rfl).away (p := ⟨w.heap.size + 1 + 1 + 1 + 1, 0, none⟩) (by intro q hq; simp only [List.mem_cons, List.not_mem_nil, or_false] at hq; subst hq; exact hne.symm) (by simp only; omega) y0).away (p := ⟨w.heap.size + 1 + 1 + 1 + 1, 1, none⟩) (by intro q hq; simp only [List.mem_cons, List.not_mem_nil, or_false] at hq; subst hq; exact hne.symm) (by simp only; omega) y1).away (p := ⟨w.heap.size + 1 + 1 + 1 + 1, 2, none⟩) (by intro q hq; simp only [List.mem_cons, List.not_mem_nil, or_false] at hq; subst hq; exact hne.symm) (by simp only; omega) y2).three 0 rfl))
    clear hne
    go_upto_region 4 with (fail)
    go_region_held3 (fun w' => (w'.cell? ⟨g, 0, none⟩ = some (.int .i64 n.x) ∧ w'.cell? ⟨g, 1, none⟩ = some (.int .i64 n.y) ∧ w'.cell? ⟨g, 2, none⟩ = some (.int .i64 n.z))) (first | with_reducible exact SF.out _ F.out | with_reducible exact SF.out _ F.out.drew | with_reducible exact ST.out _ _ _ _ F.out) (first
      | (go_at_call 62; (first | (with_reducible refine (G0.out _).mono ?_) | (with_reducible refine (G1.out _).mono ?_) | (with_reducible refine (G2.out _).mono ?_)); rintro e w5 ⟨rfl, hT⟩; (first | (with_reducible have F := Lib.hid (F.out.keep hT)) | (have F := Lib.hid (F.out.drew.keep hT))); clear hT; obtain ⟨r0, r1, r2⟩ := F.out.three 0 rfl; obtain ⟨f0, f1, f2⟩ := F.out.fro3 0 rfl)
      | fail)
    all_goals
      go_wp2
      refine bodyPost_ret (v := (.agg #[.int .i64 r.x, .int .i64 r.y, .int .i64 r.z])) (by simp [results, Tryz.results69, go_sem, r0, r1, r2]) rfl ⟨rfl, ?_⟩
      exact F.out.fin3 0 rfl _ _ _
  · have hsm : smI a b c d = false := by
      unfold smI
      rw [← Bool.not_eq_true]
      intro h
      simp only [Bool.and_eq_true, decide_eq_true_eq] at h
      exact hs ⟨h.1.1.1, h.1.1.2, h.1.2, h.2⟩
    clear V1 V2 V3 G0 G1 G2 hs
    rw [hsm]
    clear hsm
    go_upto_region 5 with (fail)
    go_cut [11] (fun s wx => MidC w [(w.heap.size, .cells #[.int .i64 a.x, .int .i64 a.y, .int .i64 a.z] 27 (0, 0)), (w.heap.size + 1, .cells #[.int .i64 b.x, .int .i64 b.y, .int .i64 b.z] 27 (0, 0)), (w.heap.size + 1 + 1, .cells #[.int .i64 c.x, .int .i64 c.y, .int .i64 c.z] 27 (0, 0)), (w.heap.size + 1 + 1 + 1, .cells #[.int .i64 d.x, .int .i64 d.y, .int .i64 d.z] 27 (0, 0)), (w.heap.size + 1 + 1 + 1 + 1, .cells #[.int .i64 0, .int .i64 0, .int .i64 0] 22 (0, 0))] (.cells #[.bool (sgz n.x), .string (moz n.x), .bool (sgz n.y), .string (moz n.y), .bool (sgz n.z), .string (moz n.z)] 47 (0, 0)) s wx)
    case first =>
      go_region_held3 (fun w' => (w'.cell? ⟨w.heap.size, 0, none⟩ = some (.int .i64 a.x) ∧ w'.cell? ⟨w.heap.size, 1, none⟩ = some (.int .i64 a.y) ∧ w'.cell? ⟨w.heap.size, 2, none⟩ = some (.int .i64 a.z)) ∧ (w'.cell? ⟨w.heap.size + 1, 0, none⟩ = some (.int .i64 b.x) ∧ w'.cell? ⟨w.heap.size + 1, 1, none⟩ = some (.int .i64 b.y) ∧ w'.cell? ⟨w.heap.size + 1, 2, none⟩ = some (.int .i64 b.z)) ∧ (w'.cell? ⟨w.heap.size + 1 + 1, 0, none⟩ = some (.int .i64 c.x) ∧ w'.cell? ⟨w.heap.size + 1 + 1, 1, none⟩ = some (.int .i64 c.y) ∧ w'.cell? ⟨w.heap.size + 1 + 1, 2, none⟩ = some (.int .i64 c.z)) ∧ (w'.cell? ⟨w.heap.size + 1 + 1 + 1, 0, none⟩ = some (.int .i64 d.x) ∧ w'.cell? ⟨w.heap.size + 1 + 1 + 1, 1, none⟩ = some (.int .i64 d.y) ∧ w'.cell? ⟨w.heap.size + 1 + 1 + 1, 2, none⟩ = some (.int .i64 d.z))) (first | with_reducible exact SF.out _ F3.out | with_reducible exact SF.out _ (F3.out.beside _) | with_reducible exact SF.out _ (F3.out.box6 _ _ _ _ _ _ _) | with_reducible exact SF.out _ (B3.out.set6 _ _ _ _ _ _) | with_reducible exact SF.out _ F.out | with_reducible exact SF.out _ F.out.drew | with_reducible exact SF.out _ (F.out.drew.beside _) | with_reducible exact SF.out _ (F.out.beside _).drew) (first
        | (go_at_call 66; (first | (with_reducible refine (W1.out _).mono ?_) | (with_reducible refine (W2.out _).mono ?_)); rintro e w5 ⟨rfl, hT⟩; (first | (with_reducible have B3 := Lib.hid (B3.out.keep hT); clear z0 z1 z2 z3 z4 z5 f0 f1 f2 f3 f4 f5; obtain ⟨⟨z0, z1, z2, z3, z4, z5⟩, ⟨f0, f1, f2, f3, f4, f5⟩⟩ := B3.out.six; have F3 := Lib.hid B3.out.f) | (with_reducible have F3 := Lib.hid (F3.out.keep hT)) | (with_reducible have B3 := Lib.hid (F3.out.boxed _ hT); obtain ⟨⟨z0, z1, z2, z3, z4, z5⟩, ⟨f0, f1, f2, f3, f4, f5⟩⟩ := B3.out.six; have F3 := Lib.hid B3.out.f) | (with_reducible have B3 := Lib.hid (F.out.boxedAt _ w1.heap.size rfl (Tch.undrew hT)); obtain ⟨⟨z0, z1, z2, z3, z4, z5⟩, ⟨f0, f1, f2, f3, f4, f5⟩⟩ := B3.out.six; have F3 := Lib.hid B3.out.f) | (with_reducible have F3 := Lib.hid (F.out.keep (Tch.undrew hT)))); clear hT)
        | (go_at_call 65; (with_reducible refine (W3.out _).mono ?_); rintro e w5 ⟨rfl, hT⟩; (first | (with_reducible have B3 := Lib.hid (B3.out.keep hT); clear z0 z1 z2 z3 z4 z5 f0 f1 f2 f3 f4 f5; obtain ⟨⟨z0, z1, z2, z3, z4, z5⟩, ⟨f0, f1, f2, f3, f4, f5⟩⟩ := B3.out.six; have F3 := Lib.hid B3.out.f) | (with_reducible have F3 := Lib.hid (F3.out.keep hT)) | (with_reducible have B3 := Lib.hid (F3.out.boxed _ hT); obtain ⟨⟨z0, z1, z2, z3, z4, z5⟩, ⟨f0, f1, f2, f3, f4, f5⟩⟩ := B3.out.six; have F3 := Lib.hid B3.out.f) | (with_reducible have B3 := Lib.hid (F.out.boxedAt _ w1.heap.size rfl (Tch.undrew hT)); obtain ⟨⟨z0, z1, z2, z3, z4, z5⟩, ⟨f0, f1, f2, f3, f4, f5⟩⟩ := B3.out.six; have F3 := Lib.hid B3.out.f) | (with_reducible have F3 := Lib.hid (F.out.keep (Tch.undrew hT)))); clear hT))
      all_goals (go_wp2_with fail; go_meet; (first | with_reducible exact F3.out.midC _ | with_reducible exact B3.out.midC6 _ _ _ _ _ _))
    case rest =>
    obtain ⟨g, rfl, FB⟩ := hcut
    have hne : w.heap.size + 1 + 1 + 1 + 1 ≠ g := FB.ne (_, .cells #[.int .i64 0, .int .i64 0, .int .i64 0] 22 (0, 0)) (by simp)
    have G0 : Hid (Fr w wc [(w.heap.size + 1 + 1 + 1 + 1, .cells #[.int .i64 0, .int .i64 0, .int .i64 0] 22 (0, 0)), (g, .cells #[.bool (sgz n.x), .string (moz n.x), .bool (sgz n.y), .string (moz n.y), .bool (sgz n.z), .string (moz n.z)] 47 (0, 0))]) := Lib.hid (FB.all.sub (by intro q hq; simp only [List.cons_append, List.nil_append, List.mem_cons, List.not_mem_nil, or_false] at hq ⊢; rcases hq with rfl | rfl <;> simp))
    clear F FB SF
    have F := G0
    clear G0
    have SF := Lib.hid (fun (w' : World) (h : Fr w w' [(w.heap.size + 1 + 1 + 1 + 1, .cells #[.int .i64 0, .int .i64 0, .int .i64 0] 22 (0, 0)), (g, .cells #[.bool (sgz n.x), .string (moz n.x), .bool (sgz n.y), .string (moz n.y), .bool (sgz n.z), .string (moz n.z)] 47 (0, 0))]) => h.six 1 rfl)
    have ST := Lib.hid (fun (w' : World) (y0 y1 y2 : Value) (h : Fr w w' [(w.heap.size + 1 + 1 + 1 + 1, .cells #[.int .i64 0, .int .i64 0, .int .i64 0] 22 (0, 0)), (g, .cells #[.bool (sgz n.x), .string (moz n.x), .bool (sgz n.y), .string (moz n.y), .bool (sgz n.z), .string (moz n.z)] 47 (0, 0))]) => (((((h.only 1 rfl).away (p := ⟨w.heap.size + 1 + 1 + 1 + 1, 0, none⟩) (by intro q hq; simp only [List.mem_cons, List.not_mem_nil, or_false] at hq; subst hq; exact hne.symm) (by simp only; omega) y0).away (p := ⟨w.heap.size + 1 + 1 + 1 + 1, 1, none⟩) (by intro q hq; simp only [List.mem_cons, List.not_mem_nil, or_false] at hq; subst hq; exact hne.symm) (by simp only; omega) y1).away (p := ⟨w.heap.size + 1 + 1 + 1 + 1, 2, none⟩) (by intro q hq; simp only [List.mem_cons, List.not_mem_nil, or_false] at hq; subst hq; exact hne.symm) (by simp only; omega) y2).six 0 rfl))
    clear hne
    go_upto_region 6 with (fail)
    go_region_held3 (fun w' => (w'.cell? ⟨g, 0, none⟩ = some (.bool (sgz n.x)) ∧ w'.cell? ⟨g, 1, none⟩ = some (.string (moz n.x)) ∧ w'.cell? ⟨g, 2, none⟩ = some (.bool (sgz n.y)) ∧ w'.cell? ⟨g, 3, none⟩ = some (.string (moz n.y)) ∧ w'.cell? ⟨g, 4, none⟩ = some (.bool (sgz n.z)) ∧ w'.cell? ⟨g, 5, none⟩ = some (.string (moz n.z)))) (first | with_reducible exact SF.out _ F.out | with_reducible exact SF.out _ F.out.drew | with_reducible exact ST.out _ _ _ _ F.out) (first
      | (go_at_call 63; (first | (with_reducible refine (H0.out _).mono ?_) | (with_reducible refine (H1.out _).mono ?_) | (with_reducible refine (H2.out _).mono ?_)); rintro e w5 ⟨rfl, hT⟩; (first | (with_reducible have F := Lib.hid (F.out.keep hT)) | (have F := Lib.hid (F.out.drew.keep hT))); clear hT; obtain ⟨r0, r1, r2⟩ := F.out.three 0 rfl; obtain ⟨f0, f1, f2⟩ := F.out.fro3 0 rfl)
      | fail)
    all_goals
      go_wp2
      refine bodyPost_ret (v := (.agg #[.int .i64 r.x, .int .i64 r.y, .int .i64 r.z])) (by simp [results, Tryz.results69, go_sem, r0, r1, r2]) rfl ⟨rfl, ?_⟩
      exact F.out.fin3 0 rfl _ _ _

end Go.Proofs.YtandlbacjfdkpaaGreatDoor

/- The reference's normals, Flat, axis, Orient. -/
namespace Go.Proofs.YtandlbacjfdkpaaGreatDoor
open Go Go.RowKit Dg

set_option maxHeartbeats 4000000 in
set_option maxRecDepth 100000 in
theorem rNormals (a b c : P3) (ha : a.Ok) (hb : b.Ok) (hc : c.Ok) (w : World) :
    Calls Tryz.prog 43 #[(.agg #[.int .i64 a.x, .int .i64 a.y, .int .i64 a.z]), (.agg #[.int .i64 b.x, .int .i64 b.y, .int .i64 b.z]), (.agg #[.int .i64 c.x, .int .i64 c.y, .int .i64 c.z])] w fun e w' => e = .returned (.agg #[.int .i64 (nmsI a b c).x, .int .i64 (nmsI a b c).y, .int .i64 (nmsI a b c).z]) ∧ Tch [] w w' := by
  obtain ⟨r, hr⟩ : ∃ r, r = nmsI a b c := ⟨_, rfl⟩
  rw [← hr]
  have C : Hid (∀ w1, Calls Tryz.prog 69 #[(.agg #[.int .i64 a.x, .int .i64 a.y, .int .i64 a.z]), (.agg #[.int .i64 b.x, .int .i64 b.y, .int .i64 b.z]), (.agg #[.int .i64 a.x, .int .i64 a.y, .int .i64 a.z]), (.agg #[.int .i64 c.x, .int .i64 c.y, .int .i64 c.z])] w1 fun e w' => e = .returned (.agg #[.int .i64 r.x, .int .i64 r.y, .int .i64 r.z]) ∧ Tch [] w1 w') := Lib.hid (fun w1 => by rw [hr]; exact rSigns a b a c ha hb ha hc w1)
  clear hr ha hb hc
  have F : Hid (Fr w ((((w.alloc (.cells #[.int .i64 a.x, .int .i64 a.y, .int .i64 a.z] 27)).alloc (.cells #[.int .i64 b.x, .int .i64 b.y, .int .i64 b.z] 27)).alloc (.cells #[.int .i64 c.x, .int .i64 c.y, .int .i64 c.z] 27)).alloc (.cells #[.int .i64 0, .int .i64 0, .int .i64 0] 22)) [(w.heap.size, .cells #[.int .i64 a.x, .int .i64 a.y, .int .i64 a.z] 27 (0, 0)), (w.heap.size + 1, .cells #[.int .i64 b.x, .int .i64 b.y, .int .i64 b.z] 27 (0, 0)), (w.heap.size + 1 + 1, .cells #[.int .i64 c.x, .int .i64 c.y, .int .i64 c.z] 27 (0, 0)), (w.heap.size + 1 + 1 + 1, .cells #[.int .i64 0, .int .i64 0, .int .i64 0] 22 (0, 0))]) := Lib.hid (((((Fr.nil w).add (.cells #[.int .i64 a.x, .int .i64 a.y, .int .i64 a.z] 27) (w.heap.size) rfl).add (.cells #[.int .i64 b.x, .int .i64 b.y, .int .i64 b.z] 27) (w.heap.size + 1) (by simp)).add (.cells #[.int .i64 c.x, .int .i64 c.y, .int .i64 c.z] 27) (w.heap.size + 1 + 1) (by simp)).add (.cells #[.int .i64 0, .int .i64 0, .int .i64 0] 22) (w.heap.size + 1 + 1 + 1) (by simp))
  obtain ⟨a0, a1, a2⟩ := F.out.three 0 rfl; obtain ⟨b0, b1, b2⟩ := F.out.three 1 rfl; obtain ⟨c0, c1, c2⟩ := F.out.three 2 rfl
  go_enter Tryz.func43, Tryz.ntmps43
  go_wp2_with fail
  refine (C.out _).mono ?_
  rintro e w1 ⟨rfl, hT⟩
  have F := Lib.hid (F.out.keep hT)
  clear hT a0 a1 a2 b0 b1 b2 c0 c1 c2
  obtain ⟨r0, r1, r2⟩ := F.out.three 3 rfl
  obtain ⟨f0, f1, f2⟩ := F.out.fro3 3 rfl
  go_wp2
  refine bodyPost_ret (v := (.agg #[.int .i64 r.x, .int .i64 r.y, .int .i64 r.z])) (by simp [results, Tryz.results43, go_sem, r0, r1, r2]) rfl ⟨rfl, ?_⟩
  exact F.out.fin3 3 rfl _ _ _

theorem eqArr3r (a b c d e f : Int) (w : World) : (Op.equalIn 10000 22 (.agg #[.int .i64 a, .int .i64 b, .int .i64 c]) (.agg #[.int .i64 d, .int .i64 e, .int .i64 f])).run Tryz.prog w = .ok (a == d && b == e && c == f) w := by
  have u3 := Tryz.underlying3
  have a3 := Tryz.isAgg3
  have z3 := Tryz.sizeOf3
  rw [show (10000 : Nat) = 9999 + 1 from rfl, Op.equalIn]
  simp only [Sem.run_bind, run_underlying Tryz.underlying22, Result.andThen_ok]
  simp only [Std.Legacy.Range.forIn_eq_forIn_range', Std.Legacy.Range.size, Nat.sub_zero, Nat.add_sub_cancel, Nat.div_one, List.range'_succ, List.range'_zero, List.forIn_cons, List.forIn_nil]
  go_simp
  by_cases h1 : a = d <;> by_cases h2 : b = e <;> by_cases h3 : c = f <;> simp [h1, h2, h3]
theorem eqlZ3 (p : P3) (w : World) : (binOp .eql 22 (.agg #[.int .i64 p.x, .int .i64 p.y, .int .i64 p.z]) (.agg #[.int .i64 0, .int .i64 0, .int .i64 0])).run Tryz.prog w = .ok (.bool (p.x == 0 && p.y == 0 && p.z == 0)) w := by
  rw [run_eql_struct, eqArr3r]; rfl
theorem flat_sgn (a b c : P3) : ((nmsI a b c).x == 0 && (nmsI a b c).y == 0 && (nmsI a b c).z == 0) = flatI a b c := by
  have e : ∀ x : Int, (x.sign == 0) = (x == 0) := fun x => by
    by_cases h : x = 0
    · subst h; rfl
    · rw [beq_eq_false_iff_ne.2 h, beq_eq_false_iff_ne.2 (fun g => h (Int.sign_eq_zero_iff_zero.1 g))]
  unfold nmsI sgnP flatI
  simp only [e]

set_option maxHeartbeats 4000000 in
set_option maxRecDepth 100000 in
theorem rFlat (a b c : P3) (ha : a.Ok) (hb : b.Ok) (hc : c.Ok) (w : World) :
    Calls Tryz.prog 26 #[(.agg #[.int .i64 a.x, .int .i64 a.y, .int .i64 a.z, .int .i64 b.x, .int .i64 b.y, .int .i64 b.z, .int .i64 c.x, .int .i64 c.y, .int .i64 c.z])] w fun e w' => e = .returned (.bool (flatI a b c)) ∧ Tch [] w w' := by
  obtain ⟨r, hr⟩ : ∃ r, r = nmsI a b c := ⟨_, rfl⟩
  have C : Hid (∀ w1, Calls Tryz.prog 43 #[(.agg #[.int .i64 a.x, .int .i64 a.y, .int .i64 a.z]), (.agg #[.int .i64 b.x, .int .i64 b.y, .int .i64 b.z]), (.agg #[.int .i64 c.x, .int .i64 c.y, .int .i64 c.z])] w1 fun e w' => e = .returned (.agg #[.int .i64 r.x, .int .i64 r.y, .int .i64 r.z]) ∧ Tch [] w1 w') := Lib.hid (fun w1 => by rw [hr]; exact rNormals a b c ha hb hc w1)
  have eq := fun w1 => eqlZ3 r w1
  rw [hr, flat_sgn, ← hr] at eq
  obtain ⟨o, ho⟩ : ∃ o, o = flatI a b c := ⟨_, rfl⟩
  rw [← ho] at eq ⊢
  have EQ := Lib.hid eq
  clear eq hr ho ha hb hc
  have F : Hid (Fr w (w.alloc (.cells #[.int .i64 a.x, .int .i64 a.y, .int .i64 a.z, .int .i64 b.x, .int .i64 b.y, .int .i64 b.z, .int .i64 c.x, .int .i64 c.y, .int .i64 c.z] 33)) [(w.heap.size, .cells #[.int .i64 a.x, .int .i64 a.y, .int .i64 a.z, .int .i64 b.x, .int .i64 b.y, .int .i64 b.z, .int .i64 c.x, .int .i64 c.y, .int .i64 c.z] 33 (0, 0))]) := Lib.hid ((Fr.nil w).add (.cells #[.int .i64 a.x, .int .i64 a.y, .int .i64 a.z, .int .i64 b.x, .int .i64 b.y, .int .i64 b.z, .int .i64 c.x, .int .i64 c.y, .int .i64 c.z] 33) (w.heap.size) rfl)
  obtain ⟨⟨x0, x1, x2⟩, ⟨x3, x4, x5⟩, x6, x7, x8⟩ := F.out.nine 0 rfl
  go_enter Tryz.func26, Tryz.ntmps26
  go_wp2_with fail
  refine (C.out _).mono ?_
  rintro e w1 ⟨rfl, hT⟩
  have F := Lib.hid (F.out.keep hT)
  clear hT x0 x1 x2 x3 x4 x5 x6 x7 x8
  have eq := EQ.out
  go_wp2
  go_ret
  exact ⟨rfl, F.out.t⟩

set_option maxHeartbeats 4000000 in
set_option maxRecDepth 100000 in
theorem raxis (n : P3) (w : World) :
    Calls Tryz.prog 68 #[(.agg #[.int .i64 n.x, .int .i64 n.y, .int .i64 n.z])] w fun e w' => e = .returned (.int .i64 (axI n)) ∧ Tch [] w w' := by
  obtain ⟨o, ho⟩ : ∃ o, o = axI n := ⟨_, rfl⟩
  rw [← ho]
  have HO := Lib.hid ho
  clear ho
  have F0 : Hid (Fr w (w.alloc (.cells #[.int .i64 n.x, .int .i64 n.y, .int .i64 n.z] 22)) [(w.heap.size, .cells #[.int .i64 n.x, .int .i64 n.y, .int .i64 n.z] 22 (0, 0))]) := Lib.hid ((Fr.nil w).add (.cells #[.int .i64 n.x, .int .i64 n.y, .int .i64 n.z] 22) (w.heap.size) rfl)
  go_enter Tryz.func68, Tryz.ntmps68
  go_wp2
  go_loopw [3] (fun i wr => ∃ k : Nat, k ≤ 3 ∧ i = .int .i64 (k : Int) ∧ Hid ((0 < k → n.x = 0) ∧ (1 < k → n.y = 0) ∧ (2 < k → n.z = 0)) ∧ Hid (Fr w wr [(w.heap.size, .cells #[.int .i64 n.x, .int .i64 n.y, .int .i64 n.z] 22 (0, 0))])) (fun i _ => 3 - (intOf i).toNat)
  case atStart => exact ⟨0, by omega, rfl, Lib.hid ⟨fun h => absurd h (by omega), fun h => absurd h (by omega), fun h => absurd h (by omega)⟩, F0⟩
  case round =>
    clear F0
    obtain ⟨k, hk, rfl, hS, hB⟩ := hrel
    rcases (show k = 0 ∨ k = 1 ∨ k = 2 ∨ k = 3 by omega) with rfl | rfl | rfl | rfl
    · obtain ⟨x0, x1, x2⟩ := hB.out.three 0 rfl
      by_cases hs : n.x = 0
      · have HI := Lib.hid hs
        rw [hs] at x0
        clear hs
        go_wp2
        go_roundw
        case rel => exact ⟨1, by omega, by go_num, Lib.hid ⟨fun _ => HI.out, fun h => absurd h (by omega), fun h => absurd h (by omega)⟩, hB⟩
        case measure => simp [intOf]
      · have hb : (n.x == 0) = false := beq_eq_false_iff_ne.2 hs
        have HN := Lib.hid hs
        clear hs
        go_wp2
        go_ret
        refine ⟨?_, hB.out.t⟩
        have hne := HN.out
        rw [HO.out]; unfold axI; simp [hne]
    · obtain ⟨x0, x1, x2⟩ := hB.out.three 0 rfl
      by_cases hs : n.y = 0
      · have HI := Lib.hid hs
        rw [hs] at x1
        clear hs
        go_wp2
        go_roundw
        case rel => exact ⟨2, by omega, by go_num, Lib.hid ⟨fun _ => hS.out.1 (by omega), fun _ => HI.out, fun h => absurd h (by omega)⟩, hB⟩
        case measure => simp [intOf]
      · have hb : (n.y == 0) = false := beq_eq_false_iff_ne.2 hs
        have HN := Lib.hid hs
        clear hs
        go_wp2
        go_ret
        refine ⟨?_, hB.out.t⟩
        have z0 := hS.out.1 (by omega); have hne := HN.out
        rw [HO.out]; unfold axI; simp [hne, z0]
    · obtain ⟨x0, x1, x2⟩ := hB.out.three 0 rfl
      by_cases hs : n.z = 0
      · have HI := Lib.hid hs
        rw [hs] at x2
        clear hs
        go_wp2
        go_roundw
        case rel => exact ⟨3, by omega, by go_num, Lib.hid ⟨fun _ => hS.out.1 (by omega), fun _ => hS.out.2.1 (by omega), fun _ => HI.out⟩, hB⟩
        case measure => simp [intOf]
      · have hb : (n.z == 0) = false := beq_eq_false_iff_ne.2 hs
        have HN := Lib.hid hs
        clear hs
        go_wp2
        go_ret
        refine ⟨?_, hB.out.t⟩
        have z0 := hS.out.1 (by omega); have z1 := hS.out.2.1 (by omega); have hne := HN.out
        rw [HO.out]; unfold axI; simp [hne, z0, z1]
    · go_wp2
      go_ret
      refine ⟨?_, hB.out.t⟩
      have z0 := hS.out.1 (by omega); have z1 := hS.out.2.1 (by omega); have z2 := hS.out.2.2 (by omega)
      rw [HO.out]; unfold axI; simp [z0, z1, z2]

end Go.Proofs.YtandlbacjfdkpaaGreatDoor

/- The reference's Orient. -/
namespace Go.Proofs.YtandlbacjfdkpaaGreatDoor
open Go Go.RowKit Dg

theorem prod58 {x y : Int} (hx : -549755813888 ≤ x ∧ x ≤ 549755813888) (hy : -524288 ≤ y ∧ y ≤ 524288) : -288230376151711744 ≤ x * y ∧ x * y ≤ 288230376151711744 := by
  have h : (x * y).natAbs ≤ 549755813888 * 524288 := by
    rw [Int.natAbs_mul]; exact Nat.mul_le_mul (by omega) (by omega)
  omega
theorem crs_bd18 {a b c d : P3} (ha : In18 a) (hb : In18 b) (hc : In18 c) (hd : In18 d) : (-549755813888 ≤ (crsI (difI a b) (difI c d)).x ∧ (crsI (difI a b) (difI c d)).x ≤ 549755813888) ∧ (-549755813888 ≤ (crsI (difI a b) (difI c d)).y ∧ (crsI (difI a b) (difI c d)).y ≤ 549755813888) ∧ (-549755813888 ≤ (crsI (difI a b) (difI c d)).z ∧ (crsI (difI a b) (difI c d)).z ≤ 549755813888) := by
  obtain ⟨h1, h2, h3⟩ := in18_dif ha hb
  obtain ⟨k1, k2, k3⟩ := in18_dif hc hd
  have a1 := prod19 h2 k3
  have a2 := prod19 h3 k2
  have a3 := prod19 h3 k1
  have a4 := prod19 h1 k3
  have a5 := prod19 h1 k2
  have a6 := prod19 h2 k1
  simp only [crsI]
  omega

set_option maxHeartbeats 16000000 in
set_option maxRecDepth 100000 in
theorem rOrient (a b c d : P3) (ha : a.Ok) (hb : b.Ok) (hc : c.Ok) (hd : d.Ok) (w : World) :
    Calls Tryz.prog 23 #[(.agg #[.int .i64 a.x, .int .i64 a.y, .int .i64 a.z]), (.agg #[.int .i64 b.x, .int .i64 b.y, .int .i64 b.z]), (.agg #[.int .i64 c.x, .int .i64 c.y, .int .i64 c.z]), (.agg #[.int .i64 d.x, .int .i64 d.y, .int .i64 d.z])] w fun e w' => e = .returned (.int .i64 (detI a b c d).sign) ∧ Tch [] w w' := by
  obtain ⟨o, ho⟩ : ∃ o, o = (detI a b c d).sign := ⟨_, rfl⟩
  rw [← ho]
  obtain ⟨n, hn⟩ : ∃ n, n = crsI (difI a b) (difI a c) := ⟨_, rfl⟩
  obtain ⟨u, hu⟩ : ∃ u, u = difI a b := ⟨_, rfl⟩
  obtain ⟨v, hv⟩ : ∃ v, v = difI a c := ⟨_, rfl⟩
  obtain ⟨x, hx⟩ : ∃ x, x = difI a d := ⟨_, rfl⟩
  obtain ⟨t, ht⟩ : ∃ t, t = dotI n x := ⟨_, rfl⟩
  have ho2 : t.sign = o := by rw [ho, ht, hn, hx]; rfl
  have hn2 : n = crsI u v := by rw [hn, hu, hv]
  have su : u.Sm 65 := by rw [hu]; exact difI_sm ha hb
  have sv : v.Sm 65 := by rw [hv]; exact difI_sm ha hc
  have sx : x.Sm 65 := by rw [hx]; exact difI_sm ha hd
  have sn : n.Sm 131 := by rw [hn2]; exact ⟨(su.y.mul sv.z).sub (su.z.mul sv.y), (su.z.mul sv.x).sub (su.x.mul sv.z), (su.x.mul sv.y).sub (su.y.mul sv.x)⟩
  have st : Sm 400 t := by rw [ht]; exact (((((sn.x.mul sx.x).add (sn.y.mul sx.y)).mono (l := 200) (by omega)).add ((sn.z.mul sx.z).mono (l := 200) (by omega)))).mono (by omega)
  have G0 : Hid (∀ w1, Calls Tryz.prog 62 #[.int .i64 t] w1 fun e w' => e = .returned (.int .i64 o) ∧ Tch [] w1 w') := Lib.hid (fun w1 => by rw [← ho2]; exact rsign _ w1)
  have H0 : Hid (∀ w1, Calls Tryz.prog 63 #[(.agg #[.bool (sgz t), .string (moz t)])] w1 fun e w' => e = .returned (.int .i64 o) ∧ Tch [] w1 w') := Lib.hid (fun w1 => by rw [← ho2]; exact JSign st w1)
  have W1 : Hid (∀ w1, Calls Tryz.prog 66 #[(.agg #[.int .i64 a.x, .int .i64 a.y, .int .i64 a.z]), (.agg #[.int .i64 b.x, .int .i64 b.y, .int .i64 b.z])] w1 fun e w' => e = .returned (.agg #[.bool (sgz u.x), .string (moz u.x), .bool (sgz u.y), .string (moz u.y), .bool (sgz u.z), .string (moz u.z)]) ∧ Tch [] w1 w') := Lib.hid (fun w1 => by rw [hu]; exact rwideV a b ha hb w1)
  have W2 : Hid (∀ w1, Calls Tryz.prog 66 #[(.agg #[.int .i64 a.x, .int .i64 a.y, .int .i64 a.z]), (.agg #[.int .i64 c.x, .int .i64 c.y, .int .i64 c.z])] w1 fun e w' => e = .returned (.agg #[.bool (sgz v.x), .string (moz v.x), .bool (sgz v.y), .string (moz v.y), .bool (sgz v.z), .string (moz v.z)]) ∧ Tch [] w1 w') := Lib.hid (fun w1 => by rw [hv]; exact rwideV a c ha hc w1)
  have W4 : Hid (∀ w1, Calls Tryz.prog 66 #[(.agg #[.int .i64 a.x, .int .i64 a.y, .int .i64 a.z]), (.agg #[.int .i64 d.x, .int .i64 d.y, .int .i64 d.z])] w1 fun e w' => e = .returned (.agg #[.bool (sgz x.x), .string (moz x.x), .bool (sgz x.y), .string (moz x.y), .bool (sgz x.z), .string (moz x.z)]) ∧ Tch [] w1 w') := Lib.hid (fun w1 => by rw [hx]; exact rwideV a d ha hd w1)
  have W3 : Hid (∀ w1, Calls Tryz.prog 65 #[.agg #[.bool (sgz u.x), .string (moz u.x), .bool (sgz u.y), .string (moz u.y), .bool (sgz u.z), .string (moz u.z)], .agg #[.bool (sgz v.x), .string (moz v.x), .bool (sgz v.y), .string (moz v.y), .bool (sgz v.z), .string (moz v.z)]] w1 fun e w' => e = .returned (.agg #[.bool (sgz n.x), .string (moz n.x), .bool (sgz n.y), .string (moz n.y), .bool (sgz n.z), .string (moz n.z)]) ∧ Tch [] w1 w') := Lib.hid (fun w1 => by rw [hn2]; exact rwideProduct u v ⟨su.x.mono (by omega), su.y.mono (by omega), su.z.mono (by omega)⟩ ⟨sv.x.mono (by omega), sv.y.mono (by omega), sv.z.mono (by omega)⟩ w1)
  have W5 : Hid (∀ w1, Calls Tryz.prog 64 #[.agg #[.bool (sgz n.x), .string (moz n.x), .bool (sgz n.y), .string (moz n.y), .bool (sgz n.z), .string (moz n.z)], .agg #[.bool (sgz x.x), .string (moz x.x), .bool (sgz x.y), .string (moz x.y), .bool (sgz x.z), .string (moz x.z)]] w1 fun e w' => e = .returned (.agg #[.bool (sgz t), .string (moz t)]) ∧ Tch [] w1 w') := Lib.hid (fun w1 => by rw [ht]; exact rscalar n x ⟨sn.x.mono (by omega), sn.y.mono (by omega), sn.z.mono (by omega)⟩ ⟨sx.x.mono (by omega), sx.y.mono (by omega), sx.z.mono (by omega)⟩ w1)
  have V1 : Hid ((In18 a ∧ In18 b ∧ In18 c ∧ In18 d) → ∀ w1, Calls Tryz.prog 61 #[(.agg #[.int .i64 a.x, .int .i64 a.y, .int .i64 a.z]), (.agg #[.int .i64 b.x, .int .i64 b.y, .int .i64 b.z])] w1 fun e w' => e = .returned (.agg #[.int .i64 u.x, .int .i64 u.y, .int .i64 u.z]) ∧ Tch [] w1 w') := Lib.hid (fun hs w1 => by rw [hu]; exact rvector a b (dif_ok hs.1 hs.2.1) w1)
  have V2 : Hid ((In18 a ∧ In18 b ∧ In18 c ∧ In18 d) → ∀ w1, Calls Tryz.prog 61 #[(.agg #[.int .i64 a.x, .int .i64 a.y, .int .i64 a.z]), (.agg #[.int .i64 c.x, .int .i64 c.y, .int .i64 c.z])] w1 fun e w' => e = .returned (.agg #[.int .i64 v.x, .int .i64 v.y, .int .i64 v.z]) ∧ Tch [] w1 w') := Lib.hid (fun hs w1 => by rw [hv]; exact rvector a c (dif_ok hs.1 hs.2.2.1) w1)
  have V4 : Hid ((In18 a ∧ In18 b ∧ In18 c ∧ In18 d) → ∀ w1, Calls Tryz.prog 61 #[(.agg #[.int .i64 a.x, .int .i64 a.y, .int .i64 a.z]), (.agg #[.int .i64 d.x, .int .i64 d.y, .int .i64 d.z])] w1 fun e w' => e = .returned (.agg #[.int .i64 x.x, .int .i64 x.y, .int .i64 x.z]) ∧ Tch [] w1 w') := Lib.hid (fun hs w1 => by rw [hx]; exact rvector a d (dif_ok hs.1 hs.2.2.2) w1)
  have V3 : Hid ((In18 a ∧ In18 b ∧ In18 c ∧ In18 d) → ∀ w1, Calls Tryz.prog 60 #[(.agg #[.int .i64 u.x, .int .i64 u.y, .int .i64 u.z]), (.agg #[.int .i64 v.x, .int .i64 v.y, .int .i64 v.z])] w1 fun e w' => e = .returned (.agg #[.int .i64 n.x, .int .i64 n.y, .int .i64 n.z]) ∧ Tch [] w1 w') := Lib.hid (fun hs w1 => by rw [hn2]; exact rproduct u v (by rw [hu, hv]; exact crs_ok hs.1 hs.2.1 hs.1 hs.2.2.1) w1)
  have BD : Hid ((In18 a ∧ In18 b ∧ In18 c ∧ In18 d) → ∃ k1 k2 k3 k4 : Int, wrap64 (n.x * x.x) = k1 ∧ wrap64 (n.y * x.y) = k2 ∧ wrap64 (k1 + k2) = k4 ∧ wrap64 (n.z * x.z) = k3 ∧ wrap64 (k4 + k3) = t) := Lib.hid (fun hs => by
    obtain ⟨b1, b2, b3⟩ := crs_bd18 hs.1 hs.2.1 hs.1 hs.2.2.1
    obtain ⟨d1, d2, d3⟩ := in18_dif hs.1 hs.2.2.2
    rw [← hn] at b1 b2 b3
    rw [← hx] at d1 d2 d3
    have p1 := prod58 b1 d1
    have p2 := prod58 b2 d2
    have p3 := prod58 b3 d3
    refine ⟨n.x * x.x, n.y * x.y, n.z * x.z, n.x * x.x + n.y * x.y, wrap64_in ⟨by omega, by omega⟩, wrap64_in ⟨by omega, by omega⟩, wrap64_in ⟨by omega, by omega⟩, wrap64_in ⟨by omega, by omega⟩, ?_⟩
    rw [ht]; unfold dotI
    exact wrap64_in ⟨by omega, by omega⟩)
  have CS := Lib.hid (fun (g : Nat) (T : TypeId) (w1 : World) (hg : w1.heap[g]? = some (.cells #[.int .i64 a.x, .int .i64 a.y, .int .i64 a.z, .int .i64 b.x, .int .i64 b.y, .int .i64 b.z, .int .i64 c.x, .int .i64 c.y, .int .i64 c.z, .int .i64 d.x, .int .i64 d.y, .int .i64 d.z] T (0, 0))) => rSmall g a b c d T w1 hg)
  clear ho hn hu hv hx ht ho2 hn2 su sv sx sn st ha hb hc hd
  have F : Hid (Fr w ((((w.alloc (.cells #[.int .i64 a.x, .int .i64 a.y, .int .i64 a.z] 27)).alloc (.cells #[.int .i64 b.x, .int .i64 b.y, .int .i64 b.z] 27)).alloc (.cells #[.int .i64 c.x, .int .i64 c.y, .int .i64 c.z] 27)).alloc (.cells #[.int .i64 d.x, .int .i64 d.y, .int .i64 d.z] 27)) [(w.heap.size, .cells #[.int .i64 a.x, .int .i64 a.y, .int .i64 a.z] 27 (0, 0)), (w.heap.size + 1, .cells #[.int .i64 b.x, .int .i64 b.y, .int .i64 b.z] 27 (0, 0)), (w.heap.size + 1 + 1, .cells #[.int .i64 c.x, .int .i64 c.y, .int .i64 c.z] 27 (0, 0)), (w.heap.size + 1 + 1 + 1, .cells #[.int .i64 d.x, .int .i64 d.y, .int .i64 d.z] 27 (0, 0))]) := Lib.hid (((((Fr.nil w).add (.cells #[.int .i64 a.x, .int .i64 a.y, .int .i64 a.z] 27) (w.heap.size) rfl).add (.cells #[.int .i64 b.x, .int .i64 b.y, .int .i64 b.z] 27) (w.heap.size + 1) (by simp)).add (.cells #[.int .i64 c.x, .int .i64 c.y, .int .i64 c.z] 27) (w.heap.size + 1 + 1) (by simp)).add (.cells #[.int .i64 d.x, .int .i64 d.y, .int .i64 d.z] 27) (w.heap.size + 1 + 1 + 1) (by simp))
  obtain ⟨a0, a1, a2⟩ := F.out.three 0 rfl; obtain ⟨b0, b1, b2⟩ := F.out.three 1 rfl; obtain ⟨c0, c1, c2⟩ := F.out.three 2 rfl; obtain ⟨d0, d1, d2⟩ := F.out.three 3 rfl
  go_enter Tryz.func23, Tryz.ntmps23
  go_wp2_with fail
  have F2 := F.out.add (.cells #[.int .i64 a.x, .int .i64 a.y, .int .i64 a.z, .int .i64 b.x, .int .i64 b.y, .int .i64 b.z, .int .i64 c.x, .int .i64 c.y, .int .i64 c.z, .int .i64 d.x, .int .i64 d.y, .int .i64 d.z] 27) (w.heap.size + 1 + 1 + 1 + 1) (by simp)
  have hg := F2.row (w.heap.size + 1 + 1 + 1 + 1, .cells #[.int .i64 a.x, .int .i64 a.y, .int .i64 a.z, .int .i64 b.x, .int .i64 b.y, .int .i64 b.z, .int .i64 c.x, .int .i64 c.y, .int .i64 c.z, .int .i64 d.x, .int .i64 d.y, .int .i64 d.z] 27 (0, 0)) (by simp)
  clear F2
  refine (CS.out _ 27 _ hg).mono ?_
  clear hg
  rintro e w1 ⟨rfl, hT⟩
  have F := Lib.hid ((F.out.beside _).keep hT)
  clear hT CS a0 a1 a2 b0 b1 b2 c0 c1 c2 d0 d1 d2
  have SF := Lib.hid (fun (w' : World) (h : Fr w w' [(w.heap.size, .cells #[.int .i64 a.x, .int .i64 a.y, .int .i64 a.z] 27 (0, 0)), (w.heap.size + 1, .cells #[.int .i64 b.x, .int .i64 b.y, .int .i64 b.z] 27 (0, 0)), (w.heap.size + 1 + 1, .cells #[.int .i64 c.x, .int .i64 c.y, .int .i64 c.z] 27 (0, 0)), (w.heap.size + 1 + 1 + 1, .cells #[.int .i64 d.x, .int .i64 d.y, .int .i64 d.z] 27 (0, 0))]) => And.intro (h.three 0 rfl) (And.intro (h.three 1 rfl) (And.intro (h.three 2 rfl) (h.three 3 rfl))))
  by_cases hs : In18 a ∧ In18 b ∧ In18 c ∧ In18 d
  · have hsm : smI a b c d = true := by unfold smI; rw [decide_eq_true hs.1, decide_eq_true hs.2.1, decide_eq_true hs.2.2.1, decide_eq_true hs.2.2.2]; rfl
    have U1 := Lib.hid (V1.out hs)
    have U2 := Lib.hid (V2.out hs)
    have U3 := Lib.hid (V3.out hs)
    have U4 := Lib.hid (V4.out hs)
    obtain ⟨k1, k2, k3, k4, e1, e2, e4, e3, e5⟩ := BD.out hs
    have HE := Lib.hid (And.intro e1 (And.intro e2 (And.intro e4 (And.intro e3 e5))))
    clear V1 V2 V3 V4 W1 W2 W3 W4 W5 H0 BD hs e1 e2 e3 e4 e5
    rw [hsm]
    clear hsm
    go_upto_region 3 with (fail)
    go_cut [10] (fun s wx => MidC w [(w.heap.size, .cells #[.int .i64 a.x, .int .i64 a.y, .int .i64 a.z] 27 (0, 0)), (w.heap.size + 1, .cells #[.int .i64 b.x, .int .i64 b.y, .int .i64 b.z] 27 (0, 0)), (w.heap.size + 1 + 1, .cells #[.int .i64 c.x, .int .i64 c.y, .int .i64 c.z] 27 (0, 0)), (w.heap.size + 1 + 1 + 1, .cells #[.int .i64 d.x, .int .i64 d.y, .int .i64 d.z] 27 (0, 0))] (.cells #[.int .i64 n.x, .int .i64 n.y, .int .i64 n.z] 22 (0, 0)) s wx)
    case first =>
      go_region_held3 (fun w' => (w'.cell? ⟨w.heap.size, 0, none⟩ = some (.int .i64 a.x) ∧ w'.cell? ⟨w.heap.size, 1, none⟩ = some (.int .i64 a.y) ∧ w'.cell? ⟨w.heap.size, 2, none⟩ = some (.int .i64 a.z)) ∧ (w'.cell? ⟨w.heap.size + 1, 0, none⟩ = some (.int .i64 b.x) ∧ w'.cell? ⟨w.heap.size + 1, 1, none⟩ = some (.int .i64 b.y) ∧ w'.cell? ⟨w.heap.size + 1, 2, none⟩ = some (.int .i64 b.z)) ∧ (w'.cell? ⟨w.heap.size + 1 + 1, 0, none⟩ = some (.int .i64 c.x) ∧ w'.cell? ⟨w.heap.size + 1 + 1, 1, none⟩ = some (.int .i64 c.y) ∧ w'.cell? ⟨w.heap.size + 1 + 1, 2, none⟩ = some (.int .i64 c.z)) ∧ (w'.cell? ⟨w.heap.size + 1 + 1 + 1, 0, none⟩ = some (.int .i64 d.x) ∧ w'.cell? ⟨w.heap.size + 1 + 1 + 1, 1, none⟩ = some (.int .i64 d.y) ∧ w'.cell? ⟨w.heap.size + 1 + 1 + 1, 2, none⟩ = some (.int .i64 d.z))) (first | with_reducible exact SF.out _ F3.out | with_reducible exact SF.out _ (F3.out.beside _) | with_reducible exact SF.out _ (F3.out.box3 _ _ _ _) | with_reducible exact SF.out _ (B3.out.set3 _ _ _) | with_reducible exact SF.out _ F.out | with_reducible exact SF.out _ F.out.drew | with_reducible exact SF.out _ (F.out.drew.beside _) | with_reducible exact SF.out _ (F.out.beside _).drew) (first
        | (go_at_call 61; (first | (with_reducible refine (U1.out _).mono ?_) | (with_reducible refine (U2.out _).mono ?_)); rintro e w5 ⟨rfl, hT⟩; (first | (with_reducible have B3 := Lib.hid (B3.out.keep hT); clear z0 z1 z2 f0 f1 f2; obtain ⟨⟨z0, z1, z2⟩, ⟨f0, f1, f2⟩⟩ := B3.out.three; have F3 := Lib.hid B3.out.f) | (with_reducible have F3 := Lib.hid (F3.out.keep hT)) | (with_reducible have B3 := Lib.hid (F3.out.boxed _ hT); obtain ⟨⟨z0, z1, z2⟩, ⟨f0, f1, f2⟩⟩ := B3.out.three; have F3 := Lib.hid B3.out.f) | (with_reducible have B3 := Lib.hid (F.out.boxedAt _ w1.heap.size rfl (Tch.undrew hT)); obtain ⟨⟨z0, z1, z2⟩, ⟨f0, f1, f2⟩⟩ := B3.out.three; have F3 := Lib.hid B3.out.f) | (with_reducible have F3 := Lib.hid (F.out.keep (Tch.undrew hT)))); clear hT)
        | (go_at_call 60; (with_reducible refine (U3.out _).mono ?_); rintro e w5 ⟨rfl, hT⟩; (first | (with_reducible have B3 := Lib.hid (B3.out.keep hT); clear z0 z1 z2 f0 f1 f2; obtain ⟨⟨z0, z1, z2⟩, ⟨f0, f1, f2⟩⟩ := B3.out.three; have F3 := Lib.hid B3.out.f) | (with_reducible have F3 := Lib.hid (F3.out.keep hT)) | (with_reducible have B3 := Lib.hid (F3.out.boxed _ hT); obtain ⟨⟨z0, z1, z2⟩, ⟨f0, f1, f2⟩⟩ := B3.out.three; have F3 := Lib.hid B3.out.f) | (with_reducible have B3 := Lib.hid (F.out.boxedAt _ w1.heap.size rfl (Tch.undrew hT)); obtain ⟨⟨z0, z1, z2⟩, ⟨f0, f1, f2⟩⟩ := B3.out.three; have F3 := Lib.hid B3.out.f) | (with_reducible have F3 := Lib.hid (F.out.keep (Tch.undrew hT)))); clear hT))
      all_goals (go_wp2_with fail; go_meet; (first | with_reducible exact F3.out.midC _ | with_reducible exact B3.out.midC3 _ _ _))
    case rest =>
    obtain ⟨g, rfl, FB⟩ := hcut
    have G1 : Hid (Fr w wc ([(w.heap.size, .cells #[.int .i64 a.x, .int .i64 a.y, .int .i64 a.z] 27 (0, 0)), (w.heap.size + 1, .cells #[.int .i64 b.x, .int .i64 b.y, .int .i64 b.z] 27 (0, 0)), (w.heap.size + 1 + 1, .cells #[.int .i64 c.x, .int .i64 c.y, .int .i64 c.z] 27 (0, 0)), (w.heap.size + 1 + 1 + 1, .cells #[.int .i64 d.x, .int .i64 d.y, .int .i64 d.z] 27 (0, 0))] ++ [(g, .cells #[.int .i64 n.x, .int .i64 n.y, .int .i64 n.z] 22 (0, 0))])) := Lib.hid FB.all
    clear F FB SF
    obtain ⟨a0, a1, a2⟩ := G1.out.front.three 0 rfl
    obtain ⟨d0, d1, d2⟩ := G1.out.front.three 3 rfl
    go_wp2_with fail
    refine (U4.out _).mono ?_
    rintro e w2 ⟨rfl, hT⟩
    have F := Lib.hid ((G1.out.keep hT).add (.cells #[.int .i64 x.x, .int .i64 x.y, .int .i64 x.z] 22) w2.heap.size rfl)
    clear hT G1 a0 a1 a2 d0 d1 d2
    obtain ⟨x0, x1, x2⟩ := F.out.lthree
    obtain ⟨n0, n1, n2⟩ := F.out.front.lthree
    obtain ⟨e1, e2, e4, e3, e5⟩ := HE.out
    go_wp2_with fail
    rw [e5]
    refine (G0.out _).mono ?_
    rintro e w3 ⟨rfl, hT⟩
    have F := Lib.hid (F.out.keep hT)
    go_wp2
    go_ret
    exact ⟨rfl, F.out.t⟩
  · have hsm : smI a b c d = false := by
      unfold smI
      rw [← Bool.not_eq_true]
      intro h
      simp only [Bool.and_eq_true, decide_eq_true_eq] at h
      exact hs ⟨h.1.1.1, h.1.1.2, h.1.2, h.2⟩
    clear V1 V2 V3 V4 G0 BD hs
    rw [hsm]
    clear hsm
    go_upto_region 6 with (fail)
    go_region_held3 (fun w' => (w'.cell? ⟨w.heap.size, 0, none⟩ = some (.int .i64 a.x) ∧ w'.cell? ⟨w.heap.size, 1, none⟩ = some (.int .i64 a.y) ∧ w'.cell? ⟨w.heap.size, 2, none⟩ = some (.int .i64 a.z)) ∧ (w'.cell? ⟨w.heap.size + 1, 0, none⟩ = some (.int .i64 b.x) ∧ w'.cell? ⟨w.heap.size + 1, 1, none⟩ = some (.int .i64 b.y) ∧ w'.cell? ⟨w.heap.size + 1, 2, none⟩ = some (.int .i64 b.z)) ∧ (w'.cell? ⟨w.heap.size + 1 + 1, 0, none⟩ = some (.int .i64 c.x) ∧ w'.cell? ⟨w.heap.size + 1 + 1, 1, none⟩ = some (.int .i64 c.y) ∧ w'.cell? ⟨w.heap.size + 1 + 1, 2, none⟩ = some (.int .i64 c.z)) ∧ (w'.cell? ⟨w.heap.size + 1 + 1 + 1, 0, none⟩ = some (.int .i64 d.x) ∧ w'.cell? ⟨w.heap.size + 1 + 1 + 1, 1, none⟩ = some (.int .i64 d.y) ∧ w'.cell? ⟨w.heap.size + 1 + 1 + 1, 2, none⟩ = some (.int .i64 d.z))) (first | with_reducible exact SF.out _ F.out | with_reducible exact SF.out _ F.out.drew) (first
      | (go_at_call 66; (first | (with_reducible refine (W1.out _).mono ?_) | (with_reducible refine (W2.out _).mono ?_) | (with_reducible refine (W4.out _).mono ?_)); rintro e w5 ⟨rfl, hT⟩; (first | (with_reducible have F := Lib.hid (F.out.keep hT)) | (have F := Lib.hid (F.out.drew.keep hT))); clear hT)
      | (go_at_call 65; (with_reducible refine (W3.out _).mono ?_); rintro e w5 ⟨rfl, hT⟩; (first | (with_reducible have F := Lib.hid (F.out.keep hT)) | (have F := Lib.hid (F.out.drew.keep hT))); clear hT)
      | (go_at_call 64; (with_reducible refine (W5.out _).mono ?_); rintro e w5 ⟨rfl, hT⟩; (first | (with_reducible have F := Lib.hid (F.out.keep hT)) | (have F := Lib.hid (F.out.drew.keep hT))); clear hT)
      | (go_at_call 63; (with_reducible refine (H0.out _).mono ?_); rintro e w5 ⟨rfl, hT⟩; (first | (with_reducible have F := Lib.hid (F.out.keep hT)) | (have F := Lib.hid (F.out.drew.keep hT))); clear hT)
      | fail)
    all_goals
      go_wp2
      go_ret
      exact ⟨rfl, F.out.t⟩

end Go.Proofs.YtandlbacjfdkpaaGreatDoor
