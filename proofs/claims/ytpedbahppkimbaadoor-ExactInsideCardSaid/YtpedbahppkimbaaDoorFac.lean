/- exact.Facing, for all ints. -/
import Derived.Test.YtpedbahppkimbaaDoorNrm
namespace Go.Proofs.YtpedbahppkimbaaDoor
open Go Go.RowKit Dg

/-- A normal: what the program computes with ints. -/
theorem nrm_key {a b c : P3} (ha : a.Ok) (hb : b.Ok) (hc : c.Ok) (h : (shrt a b && shrt a c) = true) : crs (dif a b) (dif a c) = nrmI a b c ∧ (nrmI a b c).Mid := by
  rw [Bool.and_eq_true] at h
  have e1 := shrt_dif ha hb h.1
  have e2 := shrt_dif ha hc h.2
  have k := crs_crsI e1.2 e2.2
  exact ⟨by rw [e1.1, e2.1, k.1]; rfl, k.2⟩
theorem nrmI_sm {a b c : P3} (ha : a.Ok) (hb : b.Ok) (hc : c.Ok) : (nrmI a b c).Sm 131 := crsI_sm (difI_sm ha hb) (difI_sm ha hc)

set_option maxHeartbeats 2000000 in
set_option maxRecDepth 100000 in
theorem Facing (a b c p q r : P3) (ha : a.Ok) (hb : b.Ok) (hc : c.Ok) (hp : p.Ok) (hq : q.Ok) (hr : r.Ok) (w : World) :
    Calls Tryd.prog 49 #[.agg #[.int .i64 a.x, .int .i64 a.y, .int .i64 a.z, .int .i64 b.x, .int .i64 b.y, .int .i64 b.z, .int .i64 c.x, .int .i64 c.y, .int .i64 c.z], .agg #[.int .i64 p.x, .int .i64 p.y, .int .i64 p.z, .int .i64 q.x, .int .i64 q.y, .int .i64 q.z, .int .i64 r.x, .int .i64 r.y, .int .i64 r.z]] w fun e w' => e = .returned (.int .i64 (dotI (nrmI a b c) (nrmI p q r)).sign) ∧ Tch [] w w' := by
  have c1 := fun w1 => xnormal a b c w1
  have c2 := fun w1 => xnormal p q r w1
  have c3 := fun w1 => xwideNormal a b c ha hb hc w1
  have c4 := fun w1 => xwideNormal p q r hp hq hr w1
  rw [show crsI (difI a b) (difI a c) = nrmI a b c from rfl] at c3
  rw [show crsI (difI p q) (difI p r) = nrmI p q r from rfl] at c4
  have c5 := fun w1 => xwideDot (nrmI a b c) (nrmI p q r) ((nrmI_sm ha hb hc).mono (by omega)) ((nrmI_sm hp hq hr).mono (by omega)) w1
  have c6 := fun w1 => ISign ((dotI_sm (nrmI_sm ha hb hc) (nrmI_sm hp hq hr)).mono (l := 400) (by omega)) w1
  have k1 := @nrm_key a b c ha hb hc
  have k2 := @nrm_key p q r hp hq hr
  obtain ⟨n, hn⟩ : ∃ n, n = nrmI a b c := ⟨_, rfl⟩
  obtain ⟨m, hm⟩ : ∃ m, m = nrmI p q r := ⟨_, rfl⟩
  rw [← hn] at c3 c5 c6 k1 ⊢
  rw [← hm] at c4 c5 c6 k2 ⊢
  obtain ⟨u, hu⟩ : ∃ u, u = crs (dif a b) (dif a c) := ⟨_, rfl⟩
  obtain ⟨v, hv⟩ : ∃ v, v = crs (dif p q) (dif p r) := ⟨_, rfl⟩
  obtain ⟨s, hs⟩ : ∃ s, s = (shrt a b && shrt a c) := ⟨_, rfl⟩
  obtain ⟨t, ht⟩ : ∃ t, t = (shrt p q && shrt p r) := ⟨_, rfl⟩
  rw [← hu, ← hs] at c1 k1
  rw [← hv, ← ht] at c2 k2
  obtain ⟨o, ho⟩ : ∃ o, o = (dotI n m).sign := ⟨_, rfl⟩
  rw [← ho] at c6 ⊢
  obtain ⟨d, hd⟩ : ∃ d, d = dotI n m := ⟨_, rfl⟩
  rw [← hd] at c5 c6
  have HO := Lib.hid ho
  have C1 := Lib.hid c1
  have C2 := Lib.hid c2
  have C3 := Lib.hid c3
  have C4 := Lib.hid c4
  have C5 := Lib.hid c5
  have C6 := Lib.hid c6
  have K1 := Lib.hid k1
  have K2 := Lib.hid k2
  clear c1 c2 c3 c4 c5 c6 k1 k2 hn hm hu hv hs ht ho hd ha hb hc hp hq hr
  have F0 : Hid (Fr w ((w.alloc (.cells #[.int .i64 a.x, .int .i64 a.y, .int .i64 a.z, .int .i64 b.x, .int .i64 b.y, .int .i64 b.z, .int .i64 c.x, .int .i64 c.y, .int .i64 c.z] 28)).alloc (.cells #[.int .i64 p.x, .int .i64 p.y, .int .i64 p.z, .int .i64 q.x, .int .i64 q.y, .int .i64 q.z, .int .i64 r.x, .int .i64 r.y, .int .i64 r.z] 28)) [(w.heap.size, .cells #[.int .i64 a.x, .int .i64 a.y, .int .i64 a.z, .int .i64 b.x, .int .i64 b.y, .int .i64 b.z, .int .i64 c.x, .int .i64 c.y, .int .i64 c.z] 28 (0, 0)), (w.heap.size + 1, .cells #[.int .i64 p.x, .int .i64 p.y, .int .i64 p.z, .int .i64 q.x, .int .i64 q.y, .int .i64 q.z, .int .i64 r.x, .int .i64 r.y, .int .i64 r.z] 28 (0, 0))]) := Lib.hid (((Fr.nil w).add (.cells #[.int .i64 a.x, .int .i64 a.y, .int .i64 a.z, .int .i64 b.x, .int .i64 b.y, .int .i64 b.z, .int .i64 c.x, .int .i64 c.y, .int .i64 c.z] 28) w.heap.size rfl).add (.cells #[.int .i64 p.x, .int .i64 p.y, .int .i64 p.z, .int .i64 q.x, .int .i64 q.y, .int .i64 q.z, .int .i64 r.x, .int .i64 r.y, .int .i64 r.z] 28) (w.heap.size + 1) (by simp))
  go_enter Tryd.func49, Tryd.ntmps49
  go_wp2_with fail
  refine (C1.out _).mono ?_
  rintro e w1 ⟨rfl, hT⟩
  have F1 := Lib.hid ((F0.out.keep hT).add (.cells #[.int .i64 u.x, .int .i64 u.y, .int .i64 u.z] 44) w1.heap.size rfl)
  clear hT F0
  obtain ⟨⟨b0, b1, b2⟩, ⟨b3, b4, b5⟩, b6, b7, b8⟩ := F1.out.nine 1 rfl
  go_wp2_with fail
  refine (C2.out _).mono ?_
  rintro e w2 ⟨rfl, hT⟩
  have F2 : Hid (Fr w (w2.alloc (.cells #[.int .i64 v.x, .int .i64 v.y, .int .i64 v.z] 44)) [(w.heap.size, .cells #[.int .i64 a.x, .int .i64 a.y, .int .i64 a.z, .int .i64 b.x, .int .i64 b.y, .int .i64 b.z, .int .i64 c.x, .int .i64 c.y, .int .i64 c.z] 28 (0, 0)), (w.heap.size + 1, .cells #[.int .i64 p.x, .int .i64 p.y, .int .i64 p.z, .int .i64 q.x, .int .i64 q.y, .int .i64 q.z, .int .i64 r.x, .int .i64 r.y, .int .i64 r.z] 28 (0, 0)), (w1.heap.size, .cells #[.int .i64 u.x, .int .i64 u.y, .int .i64 u.z] 44 (0, 0)), (w2.heap.size, .cells #[.int .i64 v.x, .int .i64 v.y, .int .i64 v.z] 44 (0, 0))]) := Lib.hid ((F1.out.keep hT).add (.cells #[.int .i64 v.x, .int .i64 v.y, .int .i64 v.z] 44) w2.heap.size rfl)
  clear hT F1 b0 b1 b2 b3 b4 b5 b6 b7 b8 C1 C2
  have F := F2
  have SF := Lib.hid (fun (w4 : World) (h : Fr w w4 [(w.heap.size, .cells #[.int .i64 a.x, .int .i64 a.y, .int .i64 a.z, .int .i64 b.x, .int .i64 b.y, .int .i64 b.z, .int .i64 c.x, .int .i64 c.y, .int .i64 c.z] 28 (0, 0)), (w.heap.size + 1, .cells #[.int .i64 p.x, .int .i64 p.y, .int .i64 p.z, .int .i64 q.x, .int .i64 q.y, .int .i64 q.z, .int .i64 r.x, .int .i64 r.y, .int .i64 r.z] 28 (0, 0)), (w1.heap.size, .cells #[.int .i64 u.x, .int .i64 u.y, .int .i64 u.z] 44 (0, 0)), (w2.heap.size, .cells #[.int .i64 v.x, .int .i64 v.y, .int .i64 v.z] 44 (0, 0))]) => And.intro (h.nine 0 rfl) (h.nine 1 rfl))
  have SG := Lib.hid (fun (w4 : World) (h : Fr w w4 [(w.heap.size, .cells #[.int .i64 a.x, .int .i64 a.y, .int .i64 a.z, .int .i64 b.x, .int .i64 b.y, .int .i64 b.z, .int .i64 c.x, .int .i64 c.y, .int .i64 c.z] 28 (0, 0)), (w.heap.size + 1, .cells #[.int .i64 p.x, .int .i64 p.y, .int .i64 p.z, .int .i64 q.x, .int .i64 q.y, .int .i64 q.z, .int .i64 r.x, .int .i64 r.y, .int .i64 r.z] 28 (0, 0)), (w1.heap.size, .cells #[.int .i64 u.x, .int .i64 u.y, .int .i64 u.z] 44 (0, 0)), (w2.heap.size, .cells #[.int .i64 v.x, .int .i64 v.y, .int .i64 v.z] 44 (0, 0))]) => And.intro (h.three 2 rfl) (h.three 3 rfl))
  obtain ⟨W, hW⟩ : ∃ W, W = w2.alloc (.cells #[.int .i64 v.x, .int .i64 v.y, .int .i64 v.z] 44) := ⟨_, rfl⟩
  rw [← hW] at F
  have HW := Lib.hid hW
  clear F2 hW
  cases s
  · clear SG K1 K2
    obtain ⟨⟨a0, a1, a2⟩, ⟨a3, a4, a5⟩, a6, a7, a8⟩ := F.out.nine 0 rfl
    obtain ⟨⟨b0, b1, b2⟩, ⟨b3, b4, b5⟩, b6, b7, b8⟩ := F.out.nine 1 rfl
    go_wp2_with fail
    rw [← HW.out]
    clear HW
    go_region_held3 (fun w4 => ((w4.cell? ⟨w.heap.size, 0, none⟩ = some (.int .i64 a.x) ∧ w4.cell? ⟨w.heap.size, 1, none⟩ = some (.int .i64 a.y) ∧ w4.cell? ⟨w.heap.size, 2, none⟩ = some (.int .i64 a.z)) ∧ (w4.cell? ⟨w.heap.size, 3, none⟩ = some (.int .i64 b.x) ∧ w4.cell? ⟨w.heap.size, 4, none⟩ = some (.int .i64 b.y) ∧ w4.cell? ⟨w.heap.size, 5, none⟩ = some (.int .i64 b.z)) ∧ w4.cell? ⟨w.heap.size, 6, none⟩ = some (.int .i64 c.x) ∧ w4.cell? ⟨w.heap.size, 7, none⟩ = some (.int .i64 c.y) ∧ w4.cell? ⟨w.heap.size, 8, none⟩ = some (.int .i64 c.z)) ∧ (w4.cell? ⟨w.heap.size + 1, 0, none⟩ = some (.int .i64 p.x) ∧ w4.cell? ⟨w.heap.size + 1, 1, none⟩ = some (.int .i64 p.y) ∧ w4.cell? ⟨w.heap.size + 1, 2, none⟩ = some (.int .i64 p.z)) ∧ (w4.cell? ⟨w.heap.size + 1, 3, none⟩ = some (.int .i64 q.x) ∧ w4.cell? ⟨w.heap.size + 1, 4, none⟩ = some (.int .i64 q.y) ∧ w4.cell? ⟨w.heap.size + 1, 5, none⟩ = some (.int .i64 q.z)) ∧ w4.cell? ⟨w.heap.size + 1, 6, none⟩ = some (.int .i64 r.x) ∧ w4.cell? ⟨w.heap.size + 1, 7, none⟩ = some (.int .i64 r.y) ∧ w4.cell? ⟨w.heap.size + 1, 8, none⟩ = some (.int .i64 r.z)) (first | with_reducible exact SF.out _ F.out | with_reducible exact SF.out _ F.out.drew) (first
      | (go_at_call 20; (first | (with_reducible refine (C3.out _).mono ?_) | (with_reducible refine (C4.out _).mono ?_)); rintro e w4 ⟨rfl, hT⟩; (first | (with_reducible have F := Lib.hid (F.out.keep hT)) | (have F := Lib.hid (F.out.drew.keep hT))); clear hT)
      | (go_at_call 21; (with_reducible refine (C5.out _).mono ?_); rintro e w4 ⟨rfl, hT⟩; have F := Lib.hid (F.out.keep hT); clear hT)
      | (go_at_call 19; (with_reducible refine (C6.out _).mono ?_); rintro e w4 ⟨rfl, hT⟩; have F := Lib.hid (F.out.keep hT); clear hT))
    go_wp2
    go_ret
    exact ⟨rfl, F.out.t⟩
  · cases t
    · clear SG K1 K2
      obtain ⟨⟨a0, a1, a2⟩, ⟨a3, a4, a5⟩, a6, a7, a8⟩ := F.out.nine 0 rfl
      obtain ⟨⟨b0, b1, b2⟩, ⟨b3, b4, b5⟩, b6, b7, b8⟩ := F.out.nine 1 rfl
      go_wp2_with fail
      rw [← HW.out]
      clear HW
      go_region_held3 (fun w4 => ((w4.cell? ⟨w.heap.size, 0, none⟩ = some (.int .i64 a.x) ∧ w4.cell? ⟨w.heap.size, 1, none⟩ = some (.int .i64 a.y) ∧ w4.cell? ⟨w.heap.size, 2, none⟩ = some (.int .i64 a.z)) ∧ (w4.cell? ⟨w.heap.size, 3, none⟩ = some (.int .i64 b.x) ∧ w4.cell? ⟨w.heap.size, 4, none⟩ = some (.int .i64 b.y) ∧ w4.cell? ⟨w.heap.size, 5, none⟩ = some (.int .i64 b.z)) ∧ w4.cell? ⟨w.heap.size, 6, none⟩ = some (.int .i64 c.x) ∧ w4.cell? ⟨w.heap.size, 7, none⟩ = some (.int .i64 c.y) ∧ w4.cell? ⟨w.heap.size, 8, none⟩ = some (.int .i64 c.z)) ∧ (w4.cell? ⟨w.heap.size + 1, 0, none⟩ = some (.int .i64 p.x) ∧ w4.cell? ⟨w.heap.size + 1, 1, none⟩ = some (.int .i64 p.y) ∧ w4.cell? ⟨w.heap.size + 1, 2, none⟩ = some (.int .i64 p.z)) ∧ (w4.cell? ⟨w.heap.size + 1, 3, none⟩ = some (.int .i64 q.x) ∧ w4.cell? ⟨w.heap.size + 1, 4, none⟩ = some (.int .i64 q.y) ∧ w4.cell? ⟨w.heap.size + 1, 5, none⟩ = some (.int .i64 q.z)) ∧ w4.cell? ⟨w.heap.size + 1, 6, none⟩ = some (.int .i64 r.x) ∧ w4.cell? ⟨w.heap.size + 1, 7, none⟩ = some (.int .i64 r.y) ∧ w4.cell? ⟨w.heap.size + 1, 8, none⟩ = some (.int .i64 r.z)) (first | with_reducible exact SF.out _ F.out | with_reducible exact SF.out _ F.out.drew) (first
        | (go_at_call 20; (first | (with_reducible refine (C3.out _).mono ?_) | (with_reducible refine (C4.out _).mono ?_)); rintro e w4 ⟨rfl, hT⟩; (first | (with_reducible have F := Lib.hid (F.out.keep hT)) | (have F := Lib.hid (F.out.drew.keep hT))); clear hT)
        | (go_at_call 21; (with_reducible refine (C5.out _).mono ?_); rintro e w4 ⟨rfl, hT⟩; have F := Lib.hid (F.out.keep hT); clear hT)
        | (go_at_call 19; (with_reducible refine (C6.out _).mono ?_); rintro e w4 ⟨rfl, hT⟩; have F := Lib.hid (F.out.keep hT); clear hT))
      go_wp2
      go_ret
      exact ⟨rfl, F.out.t⟩
    · obtain ⟨rfl, hm1⟩ := K1.out rfl
      obtain ⟨rfl, hm2⟩ := K2.out rfl
      have bd := dot_bd hm1 hm2
      have c7 := fun x1 => xdotSign u v hm1.ok hm2.ok bd.1 bd.2 x1
      rw [show u.x * v.x + u.y * v.y + u.z * v.z = dotI u v from rfl, ← HO.out] at c7
      have C7 := Lib.hid c7
      clear c7 bd hm1 hm2 K1 K2 C3 C4 C5 C6 SF HO
      obtain ⟨a0, a1, a2⟩ := F.out.three 2 rfl
      obtain ⟨b0, b1, b2⟩ := F.out.three 3 rfl
      rw [HW.out] at F a0 a1 a2 b0 b1 b2
      go_wp2_with fail
      refine (C7.out _).mono ?_
      rintro e w4 ⟨rfl, hT⟩
      have F := Lib.hid (F.out.keep hT)
      clear hT
      go_wp2
      go_ret
      exact ⟨rfl, F.out.t⟩

end Go.Proofs.YtpedbahppkimbaaDoor
