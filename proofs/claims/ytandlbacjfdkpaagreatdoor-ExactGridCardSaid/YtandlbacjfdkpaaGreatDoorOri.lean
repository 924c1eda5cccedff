/- exact.Orient: the sign of the determinant, for all ints. -/
import Derived.Test.YtandlbacjfdkpaaGreatDoorVecE
namespace Go.Proofs.YtandlbacjfdkpaaGreatDoor
open Go Go.RowKit Dg

set_option maxHeartbeats 2000000 in
set_option maxRecDepth 100000 in
theorem Orient (a b c d : P3) (ha : a.Ok) (hb : b.Ok) (hc : c.Ok) (hd : d.Ok) (w : World) :
    Calls Tryz.prog 20 #[.agg #[.int .i64 a.x, .int .i64 a.y, .int .i64 a.z], .agg #[.int .i64 b.x, .int .i64 b.y, .int .i64 b.z], .agg #[.int .i64 c.x, .int .i64 c.y, .int .i64 c.z], .agg #[.int .i64 d.x, .int .i64 d.y, .int .i64 d.z]] w fun e w' => e = .returned (.int .i64 (detI a b c d).sign) ∧ Tch [] w w' := by
  have c1 := fun w1 => xbetween a b w1
  have c2 := fun w1 => xbetween a c w1
  have c3 := fun w1 => xbetween a d w1
  obtain ⟨u, hu⟩ : ∃ u, u = dif a b := ⟨_, rfl⟩
  obtain ⟨v, hv⟩ : ∃ v, v = dif a c := ⟨_, rfl⟩
  obtain ⟨t, ht⟩ : ∃ t, t = dif a d := ⟨_, rfl⟩
  obtain ⟨s1, hs1⟩ : ∃ s1, s1 = shrt a b := ⟨_, rfl⟩
  obtain ⟨s2, hs2⟩ : ∃ s2, s2 = shrt a c := ⟨_, rfl⟩
  obtain ⟨s3, hs3⟩ : ∃ s3, s3 = shrt a d := ⟨_, rfl⟩
  rw [← hu, ← hs1] at c1
  rw [← hv, ← hs2] at c2
  rw [← ht, ← hs3] at c3
  have C1 := Lib.hid c1
  have C2 := Lib.hid c2
  have C3 := Lib.hid c3
  have HU := Lib.hid hu
  have HV := Lib.hid hv
  have HT := Lib.hid ht
  have HS1 := Lib.hid hs1
  have HS2 := Lib.hid hs2
  have HS3 := Lib.hid hs3
  have OA := Lib.hid ha
  have OB := Lib.hid hb
  have OC := Lib.hid hc
  have OD := Lib.hid hd
  clear c1 c2 c3 hu hv ht hs1 hs2 hs3 ha hb hc hd
  obtain ⟨r, hr⟩ : ∃ r, r = (detI a b c d).sign := ⟨_, rfl⟩
  rw [← hr]
  have HR := Lib.hid hr
  clear hr
  have F0 : Hid (Fr w ((((w.alloc (.cells #[.int .i64 a.x, .int .i64 a.y, .int .i64 a.z] 27)).alloc (.cells #[.int .i64 b.x, .int .i64 b.y, .int .i64 b.z] 27)).alloc (.cells #[.int .i64 c.x, .int .i64 c.y, .int .i64 c.z] 27)).alloc (.cells #[.int .i64 d.x, .int .i64 d.y, .int .i64 d.z] 27)) [(w.heap.size, .cells #[.int .i64 a.x, .int .i64 a.y, .int .i64 a.z] 27 (0, 0)), (w.heap.size + 1, .cells #[.int .i64 b.x, .int .i64 b.y, .int .i64 b.z] 27 (0, 0)), (w.heap.size + 1 + 1, .cells #[.int .i64 c.x, .int .i64 c.y, .int .i64 c.z] 27 (0, 0)), (w.heap.size + 1 + 1 + 1, .cells #[.int .i64 d.x, .int .i64 d.y, .int .i64 d.z] 27 (0, 0))]) := Lib.hid (((((Fr.nil w).add (.cells #[.int .i64 a.x, .int .i64 a.y, .int .i64 a.z] 27) w.heap.size rfl).add (.cells #[.int .i64 b.x, .int .i64 b.y, .int .i64 b.z] 27) (w.heap.size + 1) (by simp)).add (.cells #[.int .i64 c.x, .int .i64 c.y, .int .i64 c.z] 27) (w.heap.size + 1 + 1) (by simp)).add (.cells #[.int .i64 d.x, .int .i64 d.y, .int .i64 d.z] 27) (w.heap.size + 1 + 1 + 1) (by simp))
  go_enter Tryz.func20, Tryz.ntmps20
  go_wp2_with fail
  refine (C1.out _).mono ?_
  rintro e w1 ⟨rfl, hT⟩
  have F1 := Lib.hid ((F0.out.keep hT).add (.cells #[.int .i64 u.x, .int .i64 u.y, .int .i64 u.z] 66) w1.heap.size rfl)
  obtain ⟨a0, a1, a2⟩ := F1.out.three 0 rfl
  obtain ⟨c0, c1, c2⟩ := F1.out.three 2 rfl
  clear hT F0
  go_wp2_with fail
  refine (C2.out _).mono ?_
  rintro e w2 ⟨rfl, hT⟩
  have F2 := Lib.hid ((F1.out.keep hT).add (.cells #[.int .i64 v.x, .int .i64 v.y, .int .i64 v.z] 66) w2.heap.size rfl)
  clear hT F1 a0 a1 a2 c0 c1 c2
  obtain ⟨a0, a1, a2⟩ := F2.out.three 0 rfl
  obtain ⟨d0, d1, d2⟩ := F2.out.three 3 rfl
  go_wp2_with fail
  refine (C3.out _).mono ?_
  rintro e w3 ⟨rfl, hT⟩
  have F : Hid (Fr w (w3.alloc (.cells #[.int .i64 t.x, .int .i64 t.y, .int .i64 t.z] 66)) [(w.heap.size, .cells #[.int .i64 a.x, .int .i64 a.y, .int .i64 a.z] 27 (0, 0)), (w.heap.size + 1, .cells #[.int .i64 b.x, .int .i64 b.y, .int .i64 b.z] 27 (0, 0)), (w.heap.size + 1 + 1, .cells #[.int .i64 c.x, .int .i64 c.y, .int .i64 c.z] 27 (0, 0)), (w.heap.size + 1 + 1 + 1, .cells #[.int .i64 d.x, .int .i64 d.y, .int .i64 d.z] 27 (0, 0)), (w1.heap.size, .cells #[.int .i64 u.x, .int .i64 u.y, .int .i64 u.z] 66 (0, 0)), (w2.heap.size, .cells #[.int .i64 v.x, .int .i64 v.y, .int .i64 v.z] 66 (0, 0)), (w3.heap.size, .cells #[.int .i64 t.x, .int .i64 t.y, .int .i64 t.z] 66 (0, 0))]) := Lib.hid ((F2.out.keep hT).add (.cells #[.int .i64 t.x, .int .i64 t.y, .int .i64 t.z] 66) w3.heap.size rfl)
  clear hT F2 a0 a1 a2 d0 d1 d2 C1 C2 C3
  obtain ⟨W, hW⟩ : ∃ W, W = w3.alloc (.cells #[.int .i64 t.x, .int .i64 t.y, .int .i64 t.z] 66) := ⟨_, rfl⟩
  rw [← hW] at F
  have SF := Lib.hid (fun (w4 : World) (h : Fr w w4 [(w.heap.size, .cells #[.int .i64 a.x, .int .i64 a.y, .int .i64 a.z] 27 (0, 0)), (w.heap.size + 1, .cells #[.int .i64 b.x, .int .i64 b.y, .int .i64 b.z] 27 (0, 0)), (w.heap.size + 1 + 1, .cells #[.int .i64 c.x, .int .i64 c.y, .int .i64 c.z] 27 (0, 0)), (w.heap.size + 1 + 1 + 1, .cells #[.int .i64 d.x, .int .i64 d.y, .int .i64 d.z] 27 (0, 0)), (w1.heap.size, .cells #[.int .i64 u.x, .int .i64 u.y, .int .i64 u.z] 66 (0, 0)), (w2.heap.size, .cells #[.int .i64 v.x, .int .i64 v.y, .int .i64 v.z] 66 (0, 0)), (w3.heap.size, .cells #[.int .i64 t.x, .int .i64 t.y, .int .i64 t.z] 66 (0, 0))]) => And.intro (h.three 0 rfl) (And.intro (h.three 1 rfl) (And.intro (h.three 2 rfl) (h.three 3 rfl))))
  have SG := Lib.hid (fun (w4 : World) (h : Fr w w4 [(w.heap.size, .cells #[.int .i64 a.x, .int .i64 a.y, .int .i64 a.z] 27 (0, 0)), (w.heap.size + 1, .cells #[.int .i64 b.x, .int .i64 b.y, .int .i64 b.z] 27 (0, 0)), (w.heap.size + 1 + 1, .cells #[.int .i64 c.x, .int .i64 c.y, .int .i64 c.z] 27 (0, 0)), (w.heap.size + 1 + 1 + 1, .cells #[.int .i64 d.x, .int .i64 d.y, .int .i64 d.z] 27 (0, 0)), (w1.heap.size, .cells #[.int .i64 u.x, .int .i64 u.y, .int .i64 u.z] 66 (0, 0)), (w2.heap.size, .cells #[.int .i64 v.x, .int .i64 v.y, .int .i64 v.z] 66 (0, 0)), (w3.heap.size, .cells #[.int .i64 t.x, .int .i64 t.y, .int .i64 t.z] 66 (0, 0))]) => And.intro (h.three 4 rfl) (And.intro (h.three 5 rfl) (h.three 6 rfl)))
  cases s1
  · clear SG
    have c4 := fun x1 => xwideNormal a b c OA.out OB.out OC.out x1
    have c5 := fun x1 => zwBetween a d OA.out OD.out x1
    have c6 := fun x1 => xwideDot (crsI (difI a b) (difI a c)) (difI a d) ((crsI_sm (difI_sm OA.out OB.out) (difI_sm OA.out OC.out)).mono (by omega)) ((difI_sm OA.out OD.out).mono (by omega)) x1
    have c7 := fun x1 => ISign ((dotI_sm (crsI_sm (difI_sm OA.out OB.out) (difI_sm OA.out OC.out)) (difI_sm OA.out OD.out)).mono (l := 400) (by omega)) x1
    have hr := HR.out
    rw [show (dotI (crsI (difI a b) (difI a c)) (difI a d)).sign = r from hr.symm] at c7
    obtain ⟨q, hq⟩ : ∃ q, q = dotI (crsI (difI a b) (difI a c)) (difI a d) := ⟨_, rfl⟩
    rw [← hq] at c6 c7
    obtain ⟨n, hn⟩ : ∃ n, n = crsI (difI a b) (difI a c) := ⟨_, rfl⟩
    rw [← hn] at c4 c6
    obtain ⟨m, hm⟩ : ∃ m, m = difI a d := ⟨_, rfl⟩
    rw [← hm] at c5 c6
    have C4 := Lib.hid c4
    have C5 := Lib.hid c5
    have C6 := Lib.hid c6
    have C7 := Lib.hid c7
    clear c4 c5 c6 c7 hr hq hn hm HU HV HT HS1 HS2 HS3 OA OB OC OD HR
    obtain ⟨a0, a1, a2⟩ := F.out.three 0 rfl
    obtain ⟨b0, b1, b2⟩ := F.out.three 1 rfl
    obtain ⟨c0, c1, c2⟩ := F.out.three 2 rfl
    obtain ⟨d0, d1, d2⟩ := F.out.three 3 rfl
    go_wp2_with fail
    rw [← hW]
    clear hW
    go_region_held3 (fun w4 => (w4.cell? ⟨w.heap.size, 0, none⟩ = some (.int .i64 a.x) ∧ w4.cell? ⟨w.heap.size, 1, none⟩ = some (.int .i64 a.y) ∧ w4.cell? ⟨w.heap.size, 2, none⟩ = some (.int .i64 a.z)) ∧ (w4.cell? ⟨w.heap.size + 1, 0, none⟩ = some (.int .i64 b.x) ∧ w4.cell? ⟨w.heap.size + 1, 1, none⟩ = some (.int .i64 b.y) ∧ w4.cell? ⟨w.heap.size + 1, 2, none⟩ = some (.int .i64 b.z)) ∧ (w4.cell? ⟨w.heap.size + 1 + 1, 0, none⟩ = some (.int .i64 c.x) ∧ w4.cell? ⟨w.heap.size + 1 + 1, 1, none⟩ = some (.int .i64 c.y) ∧ w4.cell? ⟨w.heap.size + 1 + 1, 2, none⟩ = some (.int .i64 c.z)) ∧ w4.cell? ⟨w.heap.size + 1 + 1 + 1, 0, none⟩ = some (.int .i64 d.x) ∧ w4.cell? ⟨w.heap.size + 1 + 1 + 1, 1, none⟩ = some (.int .i64 d.y) ∧ w4.cell? ⟨w.heap.size + 1 + 1 + 1, 2, none⟩ = some (.int .i64 d.z)) (first | with_reducible exact SF.out _ F.out | with_reducible exact SF.out _ F.out.drew) (first
      | (go_at_call 51; (with_reducible refine (C4.out _).mono ?_); rintro e w4 ⟨rfl, hT⟩; (first | (with_reducible have F := Lib.hid (F.out.keep hT)) | (have F := Lib.hid (F.out.drew.keep hT))); clear hT)
      | (go_at_call 57; (with_reducible refine (C5.out _).mono ?_); rintro e w4 ⟨rfl, hT⟩; (first | (with_reducible have F := Lib.hid (F.out.keep hT)) | (have F := Lib.hid (F.out.drew.keep hT))); clear hT)
      | (go_at_call 56; (with_reducible refine (C6.out _).mono ?_); rintro e w4 ⟨rfl, hT⟩; have F := Lib.hid (F.out.keep hT); clear hT)
      | (go_at_call 55; (with_reducible refine (C7.out _).mono ?_); rintro e w4 ⟨rfl, hT⟩; have F := Lib.hid (F.out.keep hT); clear hT))
    go_wp2
    go_ret
    exact ⟨rfl, F.out.t⟩
  · cases s2
    · clear SG
      have c4 := fun x1 => xwideNormal a b c OA.out OB.out OC.out x1
      have c5 := fun x1 => zwBetween a d OA.out OD.out x1
      have c6 := fun x1 => xwideDot (crsI (difI a b) (difI a c)) (difI a d) ((crsI_sm (difI_sm OA.out OB.out) (difI_sm OA.out OC.out)).mono (by omega)) ((difI_sm OA.out OD.out).mono (by omega)) x1
      have c7 := fun x1 => ISign ((dotI_sm (crsI_sm (difI_sm OA.out OB.out) (difI_sm OA.out OC.out)) (difI_sm OA.out OD.out)).mono (l := 400) (by omega)) x1
      have hr := HR.out
      rw [show (dotI (crsI (difI a b) (difI a c)) (difI a d)).sign = r from hr.symm] at c7
      obtain ⟨q, hq⟩ : ∃ q, q = dotI (crsI (difI a b) (difI a c)) (difI a d) := ⟨_, rfl⟩
      rw [← hq] at c6 c7
      obtain ⟨n, hn⟩ : ∃ n, n = crsI (difI a b) (difI a c) := ⟨_, rfl⟩
      rw [← hn] at c4 c6
      obtain ⟨m, hm⟩ : ∃ m, m = difI a d := ⟨_, rfl⟩
      rw [← hm] at c5 c6
      have C4 := Lib.hid c4
      have C5 := Lib.hid c5
      have C6 := Lib.hid c6
      have C7 := Lib.hid c7
      clear c4 c5 c6 c7 hr hq hn hm HU HV HT HS1 HS2 HS3 OA OB OC OD HR
      obtain ⟨a0, a1, a2⟩ := F.out.three 0 rfl
      obtain ⟨b0, b1, b2⟩ := F.out.three 1 rfl
      obtain ⟨c0, c1, c2⟩ := F.out.three 2 rfl
      obtain ⟨d0, d1, d2⟩ := F.out.three 3 rfl
      go_wp2_with fail
      rw [← hW]
      clear hW
      go_region_held3 (fun w4 => (w4.cell? ⟨w.heap.size, 0, none⟩ = some (.int .i64 a.x) ∧ w4.cell? ⟨w.heap.size, 1, none⟩ = some (.int .i64 a.y) ∧ w4.cell? ⟨w.heap.size, 2, none⟩ = some (.int .i64 a.z)) ∧ (w4.cell? ⟨w.heap.size + 1, 0, none⟩ = some (.int .i64 b.x) ∧ w4.cell? ⟨w.heap.size + 1, 1, none⟩ = some (.int .i64 b.y) ∧ w4.cell? ⟨w.heap.size + 1, 2, none⟩ = some (.int .i64 b.z)) ∧ (w4.cell? ⟨w.heap.size + 1 + 1, 0, none⟩ = some (.int .i64 c.x) ∧ w4.cell? ⟨w.heap.size + 1 + 1, 1, none⟩ = some (.int .i64 c.y) ∧ w4.cell? ⟨w.heap.size + 1 + 1, 2, none⟩ = some (.int .i64 c.z)) ∧ w4.cell? ⟨w.heap.size + 1 + 1 + 1, 0, none⟩ = some (.int .i64 d.x) ∧ w4.cell? ⟨w.heap.size + 1 + 1 + 1, 1, none⟩ = some (.int .i64 d.y) ∧ w4.cell? ⟨w.heap.size + 1 + 1 + 1, 2, none⟩ = some (.int .i64 d.z)) (first | with_reducible exact SF.out _ F.out | with_reducible exact SF.out _ F.out.drew) (first
        | (go_at_call 51; (with_reducible refine (C4.out _).mono ?_); rintro e w4 ⟨rfl, hT⟩; (first | (with_reducible have F := Lib.hid (F.out.keep hT)) | (have F := Lib.hid (F.out.drew.keep hT))); clear hT)
        | (go_at_call 57; (with_reducible refine (C5.out _).mono ?_); rintro e w4 ⟨rfl, hT⟩; (first | (with_reducible have F := Lib.hid (F.out.keep hT)) | (have F := Lib.hid (F.out.drew.keep hT))); clear hT)
        | (go_at_call 56; (with_reducible refine (C6.out _).mono ?_); rintro e w4 ⟨rfl, hT⟩; have F := Lib.hid (F.out.keep hT); clear hT)
        | (go_at_call 55; (with_reducible refine (C7.out _).mono ?_); rintro e w4 ⟨rfl, hT⟩; have F := Lib.hid (F.out.keep hT); clear hT))
      go_wp2
      go_ret
      exact ⟨rfl, F.out.t⟩
    · cases s3
      · clear SG
        have c4 := fun x1 => xwideNormal a b c OA.out OB.out OC.out x1
        have c5 := fun x1 => zwBetween a d OA.out OD.out x1
        have c6 := fun x1 => xwideDot (crsI (difI a b) (difI a c)) (difI a d) ((crsI_sm (difI_sm OA.out OB.out) (difI_sm OA.out OC.out)).mono (by omega)) ((difI_sm OA.out OD.out).mono (by omega)) x1
        have c7 := fun x1 => ISign ((dotI_sm (crsI_sm (difI_sm OA.out OB.out) (difI_sm OA.out OC.out)) (difI_sm OA.out OD.out)).mono (l := 400) (by omega)) x1
        have hr := HR.out
        rw [show (dotI (crsI (difI a b) (difI a c)) (difI a d)).sign = r from hr.symm] at c7
        obtain ⟨q, hq⟩ : ∃ q, q = dotI (crsI (difI a b) (difI a c)) (difI a d) := ⟨_, rfl⟩
        rw [← hq] at c6 c7
        obtain ⟨n, hn⟩ : ∃ n, n = crsI (difI a b) (difI a c) := ⟨_, rfl⟩
        rw [← hn] at c4 c6
        obtain ⟨m, hm⟩ : ∃ m, m = difI a d := ⟨_, rfl⟩
        rw [← hm] at c5 c6
        have C4 := Lib.hid c4
        have C5 := Lib.hid c5
        have C6 := Lib.hid c6
        have C7 := Lib.hid c7
        clear c4 c5 c6 c7 hr hq hn hm HU HV HT HS1 HS2 HS3 OA OB OC OD HR
        obtain ⟨a0, a1, a2⟩ := F.out.three 0 rfl
        obtain ⟨b0, b1, b2⟩ := F.out.three 1 rfl
        obtain ⟨c0, c1, c2⟩ := F.out.three 2 rfl
        obtain ⟨d0, d1, d2⟩ := F.out.three 3 rfl
        go_wp2_with fail
        rw [← hW]
        clear hW
        go_region_held3 (fun w4 => (w4.cell? ⟨w.heap.size, 0, none⟩ = some (.int .i64 a.x) ∧ w4.cell? ⟨w.heap.size, 1, none⟩ = some (.int .i64 a.y) ∧ w4.cell? ⟨w.heap.size, 2, none⟩ = some (.int .i64 a.z)) ∧ (w4.cell? ⟨w.heap.size + 1, 0, none⟩ = some (.int .i64 b.x) ∧ w4.cell? ⟨w.heap.size + 1, 1, none⟩ = some (.int .i64 b.y) ∧ w4.cell? ⟨w.heap.size + 1, 2, none⟩ = some (.int .i64 b.z)) ∧ (w4.cell? ⟨w.heap.size + 1 + 1, 0, none⟩ = some (.int .i64 c.x) ∧ w4.cell? ⟨w.heap.size + 1 + 1, 1, none⟩ = some (.int .i64 c.y) ∧ w4.cell? ⟨w.heap.size + 1 + 1, 2, none⟩ = some (.int .i64 c.z)) ∧ w4.cell? ⟨w.heap.size + 1 + 1 + 1, 0, none⟩ = some (.int .i64 d.x) ∧ w4.cell? ⟨w.heap.size + 1 + 1 + 1, 1, none⟩ = some (.int .i64 d.y) ∧ w4.cell? ⟨w.heap.size + 1 + 1 + 1, 2, none⟩ = some (.int .i64 d.z)) (first | with_reducible exact SF.out _ F.out | with_reducible exact SF.out _ F.out.drew) (first
          | (go_at_call 51; (with_reducible refine (C4.out _).mono ?_); rintro e w4 ⟨rfl, hT⟩; (first | (with_reducible have F := Lib.hid (F.out.keep hT)) | (have F := Lib.hid (F.out.drew.keep hT))); clear hT)
          | (go_at_call 57; (with_reducible refine (C5.out _).mono ?_); rintro e w4 ⟨rfl, hT⟩; (first | (with_reducible have F := Lib.hid (F.out.keep hT)) | (have F := Lib.hid (F.out.drew.keep hT))); clear hT)
          | (go_at_call 56; (with_reducible refine (C6.out _).mono ?_); rintro e w4 ⟨rfl, hT⟩; have F := Lib.hid (F.out.keep hT); clear hT)
          | (go_at_call 55; (with_reducible refine (C7.out _).mono ?_); rintro e w4 ⟨rfl, hT⟩; have F := Lib.hid (F.out.keep hT); clear hT))
        go_wp2
        go_ret
        exact ⟨rfl, F.out.t⟩
      · have e1 := shrt_dif OA.out OB.out HS1.out.symm
        have e2 := shrt_dif OA.out OC.out HS2.out.symm
        have e3 := shrt_dif OA.out OD.out HS3.out.symm
        rw [← HU.out] at e1
        rw [← HV.out] at e2
        rw [← HT.out] at e3
        have k := crs_crsI (e1.1 ▸ e1.2) (e2.1 ▸ e2.2)
        have c4 := fun x1 => xcross u v x1
        have hn' := k.2
        rw [← k.1] at hn'
        have bd := dot_bd hn' (P3.Short.mid (e3.1 ▸ e3.2))
        have c5 := fun x1 => xdotSign (crs u v) t hn'.ok (P3.Short.mid (e3.1 ▸ e3.2)).ok bd.1 bd.2 x1
        have hd : (crs u v).x * t.x + (crs u v).y * t.y + (crs u v).z * t.z = detI a b c d := by rw [k.1, e1.1, e2.1, e3.1]; rfl
        rw [hd] at c5
        have hr := HR.out
        rw [← hr] at c5
        obtain ⟨n, hn⟩ : ∃ n, n = crs u v := ⟨_, rfl⟩
        rw [← hn] at c4 c5
        have C4 := Lib.hid c4
        have C5 := Lib.hid c5
        clear c4 c5 hr hn hd bd hn' k e1 e2 e3 HU HV HT HS1 HS2 HS3 OA OB OC OD HR
        obtain ⟨a0, a1, a2⟩ := F.out.three 4 rfl
        obtain ⟨b0, b1, b2⟩ := F.out.three 5 rfl
        obtain ⟨c0, c1, c2⟩ := F.out.three 6 rfl
        go_wp2_with fail
        rw [← hW]
        clear hW

        go_region_held3 (fun w4 => (w4.cell? ⟨w1.heap.size, 0, none⟩ = some (.int .i64 u.x) ∧ w4.cell? ⟨w1.heap.size, 1, none⟩ = some (.int .i64 u.y) ∧ w4.cell? ⟨w1.heap.size, 2, none⟩ = some (.int .i64 u.z)) ∧ (w4.cell? ⟨w2.heap.size, 0, none⟩ = some (.int .i64 v.x) ∧ w4.cell? ⟨w2.heap.size, 1, none⟩ = some (.int .i64 v.y) ∧ w4.cell? ⟨w2.heap.size, 2, none⟩ = some (.int .i64 v.z)) ∧ w4.cell? ⟨w3.heap.size, 0, none⟩ = some (.int .i64 t.x) ∧ w4.cell? ⟨w3.heap.size, 1, none⟩ = some (.int .i64 t.y) ∧ w4.cell? ⟨w3.heap.size, 2, none⟩ = some (.int .i64 t.z)) (first | with_reducible exact SG.out _ F.out | with_reducible exact SG.out _ F.out.drew) (first
          | (go_at_call 53; (with_reducible refine (C4.out _).mono ?_); rintro e w4 ⟨rfl, hT⟩; (first | (with_reducible have F := Lib.hid (F.out.keep hT)) | (have F := Lib.hid (F.out.drew.keep hT))); clear hT)
          | (go_at_call 54; (with_reducible refine (C5.out _).mono ?_); rintro e w4 ⟨rfl, hT⟩; (first | (with_reducible have F := Lib.hid (F.out.keep hT)) | (have F := Lib.hid (F.out.drew.keep hT))); clear hT))
        go_wp2
        go_ret
        exact ⟨rfl, F.out.t⟩

end Go.Proofs.YtandlbacjfdkpaaGreatDoor
