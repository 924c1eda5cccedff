/- exact.Normal, for all ints. -/
import Derived.Test.YtandlbacjfdkpaaGreatDoorVecE
import Derived.BigQuiet
namespace Go.Proofs.YtandlbacjfdkpaaGreatDoor
open Go Go.RowKit Dg

/-- The normal of a triangle. -/
def nrmI (a b c : P3) : P3 := crsI (difI a b) (difI a c)

theorem Fr.only {w0 w : World} {l : List (Nat × Obj)} {p : Nat × Obj} (h : Fr w0 w l) (i : Nat) (hi : l[i]? = some p) : Fr w0 w [p] :=
  ⟨fun q hq => h.row q (by rw [List.mem_singleton] at hq; subst hq; exact List.mem_of_getElem? hi), fun q hq => h.new q (by rw [List.mem_singleton] at hq; subst hq; exact List.mem_of_getElem? hi), h.t⟩

set_option maxHeartbeats 2000000 in
set_option maxRecDepth 100000 in
theorem Normal (a b c : P3) (ha : a.Ok) (hb : b.Ok) (hc : c.Ok) (w : World) :
    Calls Tryz.prog 19 #[.agg #[.int .i64 a.x, .int .i64 a.y, .int .i64 a.z, .int .i64 b.x, .int .i64 b.y, .int .i64 b.z, .int .i64 c.x, .int .i64 c.y, .int .i64 c.z]] w fun e w' => e = .returned (.agg #[.bool (sgz (nrmI a b c).x), .string (moz (nrmI a b c).x), .bool (sgz (nrmI a b c).y), .string (moz (nrmI a b c).y), .bool (sgz (nrmI a b c).z), .string (moz (nrmI a b c).z)]) ∧ Tch [] w w' := by
  have c1 := fun w1 => xnormal a b c w1
  have c2 := fun w1 => xwideNormal a b c ha hb hc w1
  rw [show crsI (difI a b) (difI a c) = nrmI a b c from rfl] at c2
  obtain ⟨u, hu⟩ : ∃ u, u = crs (dif a b) (dif a c) := ⟨_, rfl⟩
  obtain ⟨s, hs⟩ : ∃ s, s = (shrt a b && shrt a c) := ⟨_, rfl⟩
  rw [← hu, ← hs] at c1
  obtain ⟨n, hn⟩ : ∃ n, n = nrmI a b c := ⟨_, rfl⟩
  rw [← hn] at c2 ⊢
  have key : s = true → u = n ∧ n.Mid := by
    intro h
    rw [hs, Bool.and_eq_true] at h
    have e1 := shrt_dif ha hb h.1
    have e2 := shrt_dif ha hc h.2
    have k := crs_crsI e1.2 e2.2
    exact ⟨by rw [hu, e1.1, e2.1, k.1, hn]; rfl, by rw [hn]; exact k.2⟩
  have C1 := Lib.hid c1
  have C2 := Lib.hid c2
  have K := Lib.hid key
  clear c1 c2 hu hs hn key ha hb hc
  have F0 : Hid (Fr w ((w.alloc (.cells #[.int .i64 a.x, .int .i64 a.y, .int .i64 a.z, .int .i64 b.x, .int .i64 b.y, .int .i64 b.z, .int .i64 c.x, .int .i64 c.y, .int .i64 c.z] 33)).alloc (.cells #[.bool false, .string ⟨#[]⟩, .bool false, .string ⟨#[]⟩, .bool false, .string ⟨#[]⟩] 47)) [(w.heap.size, .cells #[.int .i64 a.x, .int .i64 a.y, .int .i64 a.z, .int .i64 b.x, .int .i64 b.y, .int .i64 b.z, .int .i64 c.x, .int .i64 c.y, .int .i64 c.z] 33 (0, 0)), (w.heap.size + 1, .cells #[.bool false, .string ⟨#[]⟩, .bool false, .string ⟨#[]⟩, .bool false, .string ⟨#[]⟩] 47 (0, 0))]) := Lib.hid (((Fr.nil w).add (.cells #[.int .i64 a.x, .int .i64 a.y, .int .i64 a.z, .int .i64 b.x, .int .i64 b.y, .int .i64 b.z, .int .i64 c.x, .int .i64 c.y, .int .i64 c.z] 33) w.heap.size rfl).add (.cells #[.bool false, .string ⟨#[]⟩, .bool false, .string ⟨#[]⟩, .bool false, .string ⟨#[]⟩] 47) (w.heap.size + 1) (by simp))
  go_enter Tryz.func19, Tryz.ntmps19
  go_wp2_with fail
  refine (C1.out _).mono ?_
  rintro e w1 ⟨rfl, hT⟩
  cases s
  · have F : Hid (Fr w (w1.alloc (.cells #[.int .i64 u.x, .int .i64 u.y, .int .i64 u.z] 66)) [(w.heap.size, .cells #[.int .i64 a.x, .int .i64 a.y, .int .i64 a.z, .int .i64 b.x, .int .i64 b.y, .int .i64 b.z, .int .i64 c.x, .int .i64 c.y, .int .i64 c.z] 33 (0, 0)), (w.heap.size + 1, .cells #[.bool false, .string ⟨#[]⟩, .bool false, .string ⟨#[]⟩, .bool false, .string ⟨#[]⟩] 47 (0, 0)), (w1.heap.size, .cells #[.int .i64 u.x, .int .i64 u.y, .int .i64 u.z] 66 (0, 0))]) := Lib.hid ((F0.out.keep hT).add (.cells #[.int .i64 u.x, .int .i64 u.y, .int .i64 u.z] 66) w1.heap.size rfl)
    clear hT F0
    obtain ⟨⟨a0, a1, a2⟩, ⟨a3, a4, a5⟩, a6, a7, a8⟩ := F.out.nine 0 rfl
    go_wp2_with fail
    refine (C2.out _).mono ?_
    rintro e w3 ⟨rfl, hT⟩
    have F := Lib.hid (F.out.keep hT)
    clear hT
    obtain ⟨r0, r1, r2, r3, r4, r5⟩ := F.out.six 1 rfl
    obtain ⟨f0, f1, f2, f3, f4, f5⟩ := F.out.fro6 1 rfl
    go_wp2
    refine bodyPost_ret (v := .agg #[.bool (sgz n.x), .string (moz n.x), .bool (sgz n.y), .string (moz n.y), .bool (sgz n.z), .string (moz n.z)]) (by simp [results, Tryz.results19, go_sem, r0, r1, r2, r3, r4, r5]) rfl ⟨rfl, ?_⟩
    exact F.out.fin6 1 rfl _ _ _ _ _ _
  · obtain ⟨rfl, hm⟩ := K.out rfl
    have c3 := fun x1 => IFrom hm.ok.x.1 hm.ok.x.2 x1
    have c4 := fun x1 => IFrom hm.ok.y.1 hm.ok.y.2 x1
    have c5 := fun x1 => IFrom hm.ok.z.1 hm.ok.z.2 x1
    have C3 := Lib.hid c3
    have C4 := Lib.hid c4
    have C5 := Lib.hid c5
    have F : Hid (Fr w (w1.alloc (.cells #[.int .i64 u.x, .int .i64 u.y, .int .i64 u.z] 66)) [(w.heap.size, .cells #[.int .i64 a.x, .int .i64 a.y, .int .i64 a.z, .int .i64 b.x, .int .i64 b.y, .int .i64 b.z, .int .i64 c.x, .int .i64 c.y, .int .i64 c.z] 33 (0, 0)), (w.heap.size + 1, .cells #[.bool false, .string ⟨#[]⟩, .bool false, .string ⟨#[]⟩, .bool false, .string ⟨#[]⟩] 47 (0, 0)), (w1.heap.size, .cells #[.int .i64 u.x, .int .i64 u.y, .int .i64 u.z] 66 (0, 0))]) := Lib.hid ((F0.out.keep hT).add (.cells #[.int .i64 u.x, .int .i64 u.y, .int .i64 u.z] 66) w1.heap.size rfl)
    have hn : w1.heap.size ≠ w.heap.size + 1 := by have := hT.size; simp at this; omega
    have SF := Lib.hid (fun (w3 : World) (h : Fr w w3 [(w.heap.size, .cells #[.int .i64 a.x, .int .i64 a.y, .int .i64 a.z, .int .i64 b.x, .int .i64 b.y, .int .i64 b.z, .int .i64 c.x, .int .i64 c.y, .int .i64 c.z] 33 (0, 0)), (w.heap.size + 1, .cells #[.bool false, .string ⟨#[]⟩, .bool false, .string ⟨#[]⟩, .bool false, .string ⟨#[]⟩] 47 (0, 0)), (w1.heap.size, .cells #[.int .i64 u.x, .int .i64 u.y, .int .i64 u.z] 66 (0, 0))]) => h.three 2 rfl)
    have ST := Lib.hid (fun (w3 : World) (x y z u' v r : Value) (h : Fr w w3 [(w.heap.size, .cells #[.int .i64 a.x, .int .i64 a.y, .int .i64 a.z, .int .i64 b.x, .int .i64 b.y, .int .i64 b.z, .int .i64 c.x, .int .i64 c.y, .int .i64 c.z] 33 (0, 0)), (w.heap.size + 1, .cells #[.bool false, .string ⟨#[]⟩, .bool false, .string ⟨#[]⟩, .bool false, .string ⟨#[]⟩] 47 (0, 0)), (w1.heap.size, .cells #[.int .i64 u.x, .int .i64 u.y, .int .i64 u.z] 66 (0, 0))]) => ((h.only 2 rfl).away6 (b := w.heap.size + 1) (by simpa using hn) (by omega) x y z u' v r).three 0 rfl)
    clear hT hn hm F0 c3 c4 c5 C1 C2 K
    obtain ⟨a0, a1, a2⟩ := F.out.three 2 rfl
    go_wp2_with fail
    go_region_held3 (fun w3 => w3.cell? ⟨w1.heap.size, 0, none⟩ = some (.int .i64 u.x) ∧ w3.cell? ⟨w1.heap.size, 1, none⟩ = some (.int .i64 u.y) ∧ w3.cell? ⟨w1.heap.size, 2, none⟩ = some (.int .i64 u.z)) (first | with_reducible exact SF.out _ F.out | with_reducible exact SF.out _ F.out.drew | with_reducible exact ST.out _ _ _ _ _ _ _ F.out) (first
      | (go_at_call 50; (first | (with_reducible refine (C3.out _).mono ?_) | (with_reducible refine (C4.out _).mono ?_) | (with_reducible refine (C5.out _).mono ?_)); rintro e w3 ⟨rfl, hT⟩; (first | (with_reducible have F := Lib.hid (F.out.keep hT)) | (have F := Lib.hid (F.out.drew.keep hT))); clear hT; obtain ⟨r0, r1, r2, r3, r4, r5⟩ := F.out.six 1 rfl; obtain ⟨f0, f1, f2, f3, f4, f5⟩ := F.out.fro6 1 rfl))
    go_wp2
    refine bodyPost_ret (v := .agg #[.bool (sgz u.x), .string (moz u.x), .bool (sgz u.y), .string (moz u.y), .bool (sgz u.z), .string (moz u.z)]) (by simp [results, Tryz.results19, go_sem, r0, r1, r2, r3, r4, r5]) rfl ⟨rfl, ?_⟩
    exact F.out.fin6 1 rfl _ _ _ _ _ _

end Go.Proofs.YtandlbacjfdkpaaGreatDoor

/- exact.Facing, for all ints. -/
namespace Go.Proofs.YtandlbacjfdkpaaGreatDoor
open Go Go.RowKit Dg

/-- A normal: what the program computes with ints. -/
theorem nrm_key {a b c : P3} (ha : a.Ok) (hb : b.Ok) (hc : c.Ok) (h : (shrt a b && shrt a c) = true) : crs (dif a b) (dif a c) = nrmI a b c ∧ (nrmI a b c).Mid := by
  rw [Bool.and_eq_true] at h
  have e1 := shrt_dif ha hb h.1
  have e2 := shrt_dif ha hc h.2
  have k := crs_crsI e1.2 e2.2
  exact ⟨by rw [e1.1, e2.1, k.1]; rfl, k.2⟩
theorem nrmI_sm {a b c : P3} (ha : a.Ok) (hb : b.Ok) (hc : c.Ok) : (nrmI a b c).Sm 131 := crsI_sm (difI_sm ha hb) (difI_sm ha hc)

set_option maxHeartbeats 2000000 in
set_option maxRecDepth 100000 in
theorem Facing (a b c p q r : P3) (ha : a.Ok) (hb : b.Ok) (hc : c.Ok) (hp : p.Ok) (hq : q.Ok) (hr : r.Ok) (w : World) :
    Calls Tryz.prog 28 #[.agg #[.int .i64 a.x, .int .i64 a.y, .int .i64 a.z, .int .i64 b.x, .int .i64 b.y, .int .i64 b.z, .int .i64 c.x, .int .i64 c.y, .int .i64 c.z], .agg #[.int .i64 p.x, .int .i64 p.y, .int .i64 p.z, .int .i64 q.x, .int .i64 q.y, .int .i64 q.z, .int .i64 r.x, .int .i64 r.y, .int .i64 r.z]] w fun e w' => e = .returned (.int .i64 (dotI (nrmI a b c) (nrmI p q r)).sign) ∧ Tch [] w w' := by
  have c1 := fun w1 => xnormal a b c w1
  have c2 := fun w1 => xnormal p q r w1
  have c3 := fun w1 => xwideNormal a b c ha hb hc w1
  have c4 := fun w1 => xwideNormal p q r hp hq hr w1
  rw [show crsI (difI a b) (difI a c) = nrmI a b c from rfl] at c3
  rw [show crsI (difI p q) (difI p r) = nrmI p q r from rfl] at c4
  have c5 := fun w1 => xwideDot (nrmI a b c) (nrmI p q r) ((nrmI_sm ha hb hc).mono (by omega)) ((nrmI_sm hp hq hr).mono (by omega)) w1
  have c6 := fun w1 => ISign ((dotI_sm (nrmI_sm ha hb hc) (nrmI_sm hp hq hr)).mono (l := 400) (by omega)) w1
  have k1 := @nrm_key a b c ha hb hc
  have k2 := @nrm_key p q r hp hq hr
  obtain ⟨n, hn⟩ : ∃ n, n = nrmI a b c := ⟨_, rfl⟩
  obtain ⟨m, hm⟩ : ∃ m, m = nrmI p q r := ⟨_, rfl⟩
  rw [← hn] at c3 c5 c6 k1 ⊢
  rw [← hm] at c4 c5 c6 k2 ⊢
  obtain ⟨u, hu⟩ : ∃ u, u = crs (dif a b) (dif a c) := ⟨_, rfl⟩
  obtain ⟨v, hv⟩ : ∃ v, v = crs (dif p q) (dif p r) := ⟨_, rfl⟩
  obtain ⟨s, hs⟩ : ∃ s, s = (shrt a b && shrt a c) := ⟨_, rfl⟩
  obtain ⟨t, ht⟩ : ∃ t, t = (shrt p q && shrt p r) := ⟨_, rfl⟩
  rw [← hu, ← hs] at c1 k1
  rw [← hv, ← ht] at c2 k2
  obtain ⟨o, ho⟩ : ∃ o, o = (dotI n m).sign := ⟨_, rfl⟩
  rw [← ho] at c6 ⊢
  obtain ⟨d, hd⟩ : ∃ d, d = dotI n m := ⟨_, rfl⟩
  rw [← hd] at c5 c6
  have HO := Lib.hid ho
  have C1 := Lib.hid c1
  have C2 := Lib.hid c2
  have C3 := Lib.hid c3
  have C4 := Lib.hid c4
  have C5 := Lib.hid c5
  have C6 := Lib.hid c6
  have K1 := Lib.hid k1
  have K2 := Lib.hid k2
  clear c1 c2 c3 c4 c5 c6 k1 k2 hn hm hu hv hs ht ho hd ha hb hc hp hq hr
  have F0 : Hid (Fr w ((w.alloc (.cells #[.int .i64 a.x, .int .i64 a.y, .int .i64 a.z, .int .i64 b.x, .int .i64 b.y, .int .i64 b.z, .int .i64 c.x, .int .i64 c.y, .int .i64 c.z] 33)).alloc (.cells #[.int .i64 p.x, .int .i64 p.y, .int .i64 p.z, .int .i64 q.x, .int .i64 q.y, .int .i64 q.z, .int .i64 r.x, .int .i64 r.y, .int .i64 r.z] 33)) [(w.heap.size, .cells #[.int .i64 a.x, .int .i64 a.y, .int .i64 a.z, .int .i64 b.x, .int .i64 b.y, .int .i64 b.z, .int .i64 c.x, .int .i64 c.y, .int .i64 c.z] 33 (0, 0)), (w.heap.size + 1, .cells #[.int .i64 p.x, .int .i64 p.y, .int .i64 p.z, .int .i64 q.x, .int .i64 q.y, .int .i64 q.z, .int .i64 r.x, .int .i64 r.y, .int .i64 r.z] 33 (0, 0))]) := Lib.hid (((Fr.nil w).add (.cells #[.int .i64 a.x, .int .i64 a.y, .int .i64 a.z, .int .i64 b.x, .int .i64 b.y, .int .i64 b.z, .int .i64 c.x, .int .i64 c.y, .int .i64 c.z] 33) w.heap.size rfl).add (.cells #[.int .i64 p.x, .int .i64 p.y, .int .i64 p.z, .int .i64 q.x, .int .i64 q.y, .int .i64 q.z, .int .i64 r.x, .int .i64 r.y, .int .i64 r.z] 33) (w.heap.size + 1) (by simp))
  go_enter Tryz.func28, Tryz.ntmps28
  go_wp2_with fail
  refine (C1.out _).mono ?_
  rintro e w1 ⟨rfl, hT⟩
  have F1 := Lib.hid ((F0.out.keep hT).add (.cells #[.int .i64 u.x, .int .i64 u.y, .int .i64 u.z] 66) w1.heap.size rfl)
  clear hT F0
  obtain ⟨⟨b0, b1, b2⟩, ⟨b3, b4, b5⟩, b6, b7, b8⟩ := F1.out.nine 1 rfl
  go_wp2_with fail
  refine (C2.out _).mono ?_
  rintro e w2 ⟨rfl, hT⟩
  have F2 : Hid (Fr w (w2.alloc (.cells #[.int .i64 v.x, .int .i64 v.y, .int .i64 v.z] 66)) [(w.heap.size, .cells #[.int .i64 a.x, .int .i64 a.y, .int .i64 a.z, .int .i64 b.x, .int .i64 b.y, .int .i64 b.z, .int .i64 c.x, .int .i64 c.y, .int .i64 c.z] 33 (0, 0)), (w.heap.size + 1, .cells #[.int .i64 p.x, .int .i64 p.y, .int .i64 p.z, .int .i64 q.x, .int .i64 q.y, .int .i64 q.z, .int .i64 r.x, .int .i64 r.y, .int .i64 r.z] 33 (0, 0)), (w1.heap.size, .cells #[.int .i64 u.x, .int .i64 u.y, .int .i64 u.z] 66 (0, 0)), (w2.heap.size, .cells #[.int .i64 v.x, .int .i64 v.y, .int .i64 v.z] 66 (0, 0))]) := Lib.hid ((F1.out.keep hT).add (.cells #[.int .i64 v.x, .int .i64 v.y, .int .i64 v.z] 66) w2.heap.size rfl)
  clear hT F1 b0 b1 b2 b3 b4 b5 b6 b7 b8 C1 C2
  have F := F2
  have SF := Lib.hid (fun (w4 : World) (h : Fr w w4 [(w.heap.size, .cells #[.int .i64 a.x, .int .i64 a.y, .int .i64 a.z, .int .i64 b.x, .int .i64 b.y, .int .i64 b.z, .int .i64 c.x, .int .i64 c.y, .int .i64 c.z] 33 (0, 0)), (w.heap.size + 1, .cells #[.int .i64 p.x, .int .i64 p.y, .int .i64 p.z, .int .i64 q.x, .int .i64 q.y, .int .i64 q.z, .int .i64 r.x, .int .i64 r.y, .int .i64 r.z] 33 (0, 0)), (w1.heap.size, .cells #[.int .i64 u.x, .int .i64 u.y, .int .i64 u.z] 66 (0, 0)), (w2.heap.size, .cells #[.int .i64 v.x, .int .i64 v.y, .int .i64 v.z] 66 (0, 0))]) => And.intro (h.nine 0 rfl) (h.nine 1 rfl))
  have SG := Lib.hid (fun (w4 : World) (h : Fr w w4 [(w.heap.size, .cells #[.int .i64 a.x, .int .i64 a.y, .int .i64 a.z, .int .i64 b.x, .int .i64 b.y, .int .i64 b.z, .int .i64 c.x, .int .i64 c.y, .int .i64 c.z] 33 (0, 0)), (w.heap.size + 1, .cells #[.int .i64 p.x, .int .i64 p.y, .int .i64 p.z, .int .i64 q.x, .int .i64 q.y, .int .i64 q.z, .int .i64 r.x, .int .i64 r.y, .int .i64 r.z] 33 (0, 0)), (w1.heap.size, .cells #[.int .i64 u.x, .int .i64 u.y, .int .i64 u.z] 66 (0, 0)), (w2.heap.size, .cells #[.int .i64 v.x, .int .i64 v.y, .int .i64 v.z] 66 (0, 0))]) => And.intro (h.three 2 rfl) (h.three 3 rfl))
  obtain ⟨W, hW⟩ : ∃ W, W = w2.alloc (.cells #[.int .i64 v.x, .int .i64 v.y, .int .i64 v.z] 66) := ⟨_, rfl⟩
  rw [← hW] at F
  have HW := Lib.hid hW
  clear F2 hW
  cases s
  · clear SG K1 K2
    obtain ⟨⟨a0, a1, a2⟩, ⟨a3, a4, a5⟩, a6, a7, a8⟩ := F.out.nine 0 rfl
    obtain ⟨⟨b0, b1, b2⟩, ⟨b3, b4, b5⟩, b6, b7, b8⟩ := F.out.nine 1 rfl
    go_wp2_with fail
    rw [← HW.out]
    clear HW
    go_region_held3 (fun w4 => ((w4.cell? ⟨w.heap.size, 0, none⟩ = some (.int .i64 a.x) ∧ w4.cell? ⟨w.heap.size, 1, none⟩ = some (.int .i64 a.y) ∧ w4.cell? ⟨w.heap.size, 2, none⟩ = some (.int .i64 a.z)) ∧ (w4.cell? ⟨w.heap.size, 3, none⟩ = some (.int .i64 b.x) ∧ w4.cell? ⟨w.heap.size, 4, none⟩ = some (.int .i64 b.y) ∧ w4.cell? ⟨w.heap.size, 5, none⟩ = some (.int .i64 b.z)) ∧ w4.cell? ⟨w.heap.size, 6, none⟩ = some (.int .i64 c.x) ∧ w4.cell? ⟨w.heap.size, 7, none⟩ = some (.int .i64 c.y) ∧ w4.cell? ⟨w.heap.size, 8, none⟩ = some (.int .i64 c.z)) ∧ (w4.cell? ⟨w.heap.size + 1, 0, none⟩ = some (.int .i64 p.x) ∧ w4.cell? ⟨w.heap.size + 1, 1, none⟩ = some (.int .i64 p.y) ∧ w4.cell? ⟨w.heap.size + 1, 2, none⟩ = some (.int .i64 p.z)) ∧ (w4.cell? ⟨w.heap.size + 1, 3, none⟩ = some (.int .i64 q.x) ∧ w4.cell? ⟨w.heap.size + 1, 4, none⟩ = some (.int .i64 q.y) ∧ w4.cell? ⟨w.heap.size + 1, 5, none⟩ = some (.int .i64 q.z)) ∧ w4.cell? ⟨w.heap.size + 1, 6, none⟩ = some (.int .i64 r.x) ∧ w4.cell? ⟨w.heap.size + 1, 7, none⟩ = some (.int .i64 r.y) ∧ w4.cell? ⟨w.heap.size + 1, 8, none⟩ = some (.int .i64 r.z)) (first | with_reducible exact SF.out _ F.out | with_reducible exact SF.out _ F.out.drew) (first
      | (go_at_call 51; (first | (with_reducible refine (C3.out _).mono ?_) | (with_reducible refine (C4.out _).mono ?_)); rintro e w4 ⟨rfl, hT⟩; (first | (with_reducible have F := Lib.hid (F.out.keep hT)) | (have F := Lib.hid (F.out.drew.keep hT))); clear hT)
      | (go_at_call 56; (with_reducible refine (C5.out _).mono ?_); rintro e w4 ⟨rfl, hT⟩; have F := Lib.hid (F.out.keep hT); clear hT)
      | (go_at_call 55; (with_reducible refine (C6.out _).mono ?_); rintro e w4 ⟨rfl, hT⟩; have F := Lib.hid (F.out.keep hT); clear hT))
    go_wp2
    go_ret
    exact ⟨rfl, F.out.t⟩
  · cases t
    · clear SG K1 K2
      obtain ⟨⟨a0, a1, a2⟩, ⟨a3, a4, a5⟩, a6, a7, a8⟩ := F.out.nine 0 rfl
      obtain ⟨⟨b0, b1, b2⟩, ⟨b3, b4, b5⟩, b6, b7, b8⟩ := F.out.nine 1 rfl
      go_wp2_with fail
      rw [← HW.out]
      clear HW
      go_region_held3 (fun w4 => ((w4.cell? ⟨w.heap.size, 0, none⟩ = some (.int .i64 a.x) ∧ w4.cell? ⟨w.heap.size, 1, none⟩ = some (.int .i64 a.y) ∧ w4.cell? ⟨w.heap.size, 2, none⟩ = some (.int .i64 a.z)) ∧ (w4.cell? ⟨w.heap.size, 3, none⟩ = some (.int .i64 b.x) ∧ w4.cell? ⟨w.heap.size, 4, none⟩ = some (.int .i64 b.y) ∧ w4.cell? ⟨w.heap.size, 5, none⟩ = some (.int .i64 b.z)) ∧ w4.cell? ⟨w.heap.size, 6, none⟩ = some (.int .i64 c.x) ∧ w4.cell? ⟨w.heap.size, 7, none⟩ = some (.int .i64 c.y) ∧ w4.cell? ⟨w.heap.size, 8, none⟩ = some (.int .i64 c.z)) ∧ (w4.cell? ⟨w.heap.size + 1, 0, none⟩ = some (.int .i64 p.x) ∧ w4.cell? ⟨w.heap.size + 1, 1, none⟩ = some (.int .i64 p.y) ∧ w4.cell? ⟨w.heap.size + 1, 2, none⟩ = some (.int .i64 p.z)) ∧ (w4.cell? ⟨w.heap.size + 1, 3, none⟩ = some (.int .i64 q.x) ∧ w4.cell? ⟨w.heap.size + 1, 4, none⟩ = some (.int .i64 q.y) ∧ w4.cell? ⟨w.heap.size + 1, 5, none⟩ = some (.int .i64 q.z)) ∧ w4.cell? ⟨w.heap.size + 1, 6, none⟩ = some (.int .i64 r.x) ∧ w4.cell? ⟨w.heap.size + 1, 7, none⟩ = some (.int .i64 r.y) ∧ w4.cell? ⟨w.heap.size + 1, 8, none⟩ = some (.int .i64 r.z)) (first | with_reducible exact SF.out _ F.out | with_reducible exact SF.out _ F.out.drew) (first
        | (go_at_call 51; (first | (with_reducible refine (C3.out _).mono ?_) | (with_reducible refine (C4.out _).mono ?_)); rintro e w4 ⟨rfl, hT⟩; (first | (with_reducible have F := Lib.hid (F.out.keep hT)) | (have F := Lib.hid (F.out.drew.keep hT))); clear hT)
        | (go_at_call 56; (with_reducible refine (C5.out _).mono ?_); rintro e w4 ⟨rfl, hT⟩; have F := Lib.hid (F.out.keep hT); clear hT)
        | (go_at_call 55; (with_reducible refine (C6.out _).mono ?_); rintro e w4 ⟨rfl, hT⟩; have F := Lib.hid (F.out.keep hT); clear hT))
      go_wp2
      go_ret
      exact ⟨rfl, F.out.t⟩
    · obtain ⟨rfl, hm1⟩ := K1.out rfl
      obtain ⟨rfl, hm2⟩ := K2.out rfl
      have bd := dot_bd hm1 hm2
      have c7 := fun x1 => xdotSign u v hm1.ok hm2.ok bd.1 bd.2 x1
      rw [show u.x * v.x + u.y * v.y + u.z * v.z = dotI u v from rfl, ← HO.out] at c7
      have C7 := Lib.hid c7
      clear c7 bd hm1 hm2 K1 K2 C3 C4 C5 C6 SF HO
      obtain ⟨a0, a1, a2⟩ := F.out.three 2 rfl
      obtain ⟨b0, b1, b2⟩ := F.out.three 3 rfl
      rw [HW.out] at F a0 a1 a2 b0 b1 b2
      go_wp2_with fail
      refine (C7.out _).mono ?_
      rintro e w4 ⟨rfl, hT⟩
      have F := Lib.hid (F.out.keep hT)
      clear hT
      go_wp2
      go_ret
      exact ⟨rfl, F.out.t⟩

end Go.Proofs.YtandlbacjfdkpaaGreatDoor

/- exact.isCorner, sameSide. -/
namespace Go.Proofs.YtandlbacjfdkpaaGreatDoor
open Go Go.RowKit Dg

/-- Two points are equal. -/
def ptE (p q : P3) : Bool := p.x == q.x && p.y == q.y && p.z == q.z
/-- A point is one of the three. -/
def isC (a b c p : P3) : Bool := ptE p a || ptE p b || ptE p c

set_option maxRecDepth 100000 in
theorem eqPt (p q : P3) (w : World) : (Op.equalIn 10000 27 (.agg #[.int .i64 p.x, .int .i64 p.y, .int .i64 p.z]) (.agg #[.int .i64 q.x, .int .i64 q.y, .int .i64 q.z])).run Tryz.prog w = .ok (ptE p q) w := by
  have u3 := Tryz.underlying3
  have a3 := Tryz.isAgg3
  have z3 := Tryz.sizeOf3
  have hS : Tryz.prog.underlying 27 = some (.struct (Tryz.prog.fieldsOf 27)) := by kernel_rfl
  have hp : Tryz.prog.stoodInHeld 27 = false := by kernel_rfl
  rw [show (10000 : Nat) = 9999 + 1 from rfl, run_equalIn_agg w 9999 27 _ _ hS hp]
  simp only [Program.fieldsOf, Tryz.underlying27]
  go_simp
  unfold ptE
  by_cases h1 : p.x = q.x <;> by_cases h2 : p.y = q.y <;> by_cases h3 : p.z = q.z <;> simp [h1, h2, h3]

theorem eqlPt (p q : P3) (w : World) : (binOp .eql 27 (.agg #[.int .i64 p.x, .int .i64 p.y, .int .i64 p.z]) (.agg #[.int .i64 q.x, .int .i64 q.y, .int .i64 q.z])).run Tryz.prog w = .ok (.bool (ptE p q)) w := by
  rw [run_eql_struct, eqPt]; rfl
attribute [local go_sem ↓] eqlPt

set_option maxHeartbeats 2000000 in
set_option maxRecDepth 100000 in
theorem isCorner (a b c p : P3) (w : World) :
    Calls Tryz.prog 74 #[.agg #[.int .i64 a.x, .int .i64 a.y, .int .i64 a.z, .int .i64 b.x, .int .i64 b.y, .int .i64 b.z, .int .i64 c.x, .int .i64 c.y, .int .i64 c.z], .agg #[.int .i64 p.x, .int .i64 p.y, .int .i64 p.z]] w fun e w' => e = .returned (.bool (isC a b c p)) ∧ Tch [] w w' := by
  have F0 : Hid (Fr w ((w.alloc (.cells #[.int .i64 a.x, .int .i64 a.y, .int .i64 a.z, .int .i64 b.x, .int .i64 b.y, .int .i64 b.z, .int .i64 c.x, .int .i64 c.y, .int .i64 c.z] 33)).alloc (.cells #[.int .i64 p.x, .int .i64 p.y, .int .i64 p.z] 27)) [(w.heap.size, .cells #[.int .i64 a.x, .int .i64 a.y, .int .i64 a.z, .int .i64 b.x, .int .i64 b.y, .int .i64 b.z, .int .i64 c.x, .int .i64 c.y, .int .i64 c.z] 33 (0, 0)), (w.heap.size + 1, .cells #[.int .i64 p.x, .int .i64 p.y, .int .i64 p.z] 27 (0, 0))]) := Lib.hid (((Fr.nil w).add (.cells #[.int .i64 a.x, .int .i64 a.y, .int .i64 a.z, .int .i64 b.x, .int .i64 b.y, .int .i64 b.z, .int .i64 c.x, .int .i64 c.y, .int .i64 c.z] 33) w.heap.size rfl).add (.cells #[.int .i64 p.x, .int .i64 p.y, .int .i64 p.z] 27) (w.heap.size + 1) (by simp))
  go_enter Tryz.func74, Tryz.ntmps74
  go_wp2
  · rename_i h
    go_ret
    exact ⟨by unfold isC; rw [h]; rfl, F0.out.t⟩
  · rename_i h h2
    go_ret
    exact ⟨by unfold isC; rw [h2, Bool.or_true]; rfl, F0.out.t⟩
  · rename_i h h2
    go_ret
    exact ⟨by unfold isC; rw [Bool.not_eq_true] at h h2; rw [h, h2]; rfl, F0.out.t⟩

/-- The normals of two triangles over one edge: on the same side. -/
def sameI (p q r s : P3) : Bool := decide (0 < (dotI (nrmI p q r) (nrmI p q s)).sign)

set_option maxHeartbeats 2000000 in
set_option maxRecDepth 100000 in
theorem sameSide (p q r s : P3) (hp : p.Ok) (hq : q.Ok) (hr : r.Ok) (hs : s.Ok) (w : World) :
    Calls Tryz.prog 47 #[.agg #[.int .i64 p.x, .int .i64 p.y, .int .i64 p.z], .agg #[.int .i64 q.x, .int .i64 q.y, .int .i64 q.z], .agg #[.int .i64 r.x, .int .i64 r.y, .int .i64 r.z], .agg #[.int .i64 s.x, .int .i64 s.y, .int .i64 s.z]] w fun e w' => e = .returned (.bool (sameI p q r s)) ∧ Tch [] w w' := by
  have c1 := fun w1 => Facing p q r p q s hp hq hr hp hq hs w1
  obtain ⟨o, ho⟩ : ∃ o, o = (dotI (nrmI p q r) (nrmI p q s)).sign := ⟨_, rfl⟩
  have hv : sameI p q r s = decide (0 < o) := by rw [ho]; rfl
  rw [← ho] at c1
  rw [hv]
  have C1 := Lib.hid c1
  clear c1 hv ho hp hq hr hs
  go_enter Tryz.func47, Tryz.ntmps47
  go_wp2_with fail
  refine (C1.out _).mono ?_
  rintro e w1 ⟨rfl, hT⟩
  have HT := Lib.hid ((((((Tch.refl [] w).alloc _).alloc _).alloc _).alloc _).trans hT (by simp))
  clear hT
  go_wp2
  go_ret
  exact ⟨rfl, HT.out⟩

end Go.Proofs.YtandlbacjfdkpaaGreatDoor

/- exact.commonCorners. -/
namespace Go.Proofs.YtandlbacjfdkpaaGreatDoor
open Go Go.RowKit Dg

theorem idxT0 (a b c : P3) (w : World) : (Instr.index 33 (.agg #[.int .i64 a.x, .int .i64 a.y, .int .i64 a.z, .int .i64 b.x, .int .i64 b.y, .int .i64 b.z, .int .i64 c.x, .int .i64 c.y, .int .i64 c.z]) (.int .i64 0)).run Tryz.prog w = .ok (.agg #[.int .i64 a.x, .int .i64 a.y, .int .i64 a.z]) w := by kernel_rfl
theorem idxT1 (a b c : P3) (w : World) : (Instr.index 33 (.agg #[.int .i64 a.x, .int .i64 a.y, .int .i64 a.z, .int .i64 b.x, .int .i64 b.y, .int .i64 b.z, .int .i64 c.x, .int .i64 c.y, .int .i64 c.z]) (.int .i64 1)).run Tryz.prog w = .ok (.agg #[.int .i64 b.x, .int .i64 b.y, .int .i64 b.z]) w := by kernel_rfl
theorem idxT2 (a b c : P3) (w : World) : (Instr.index 33 (.agg #[.int .i64 a.x, .int .i64 a.y, .int .i64 a.z, .int .i64 b.x, .int .i64 b.y, .int .i64 b.z, .int .i64 c.x, .int .i64 c.y, .int .i64 c.z]) (.int .i64 2)).run Tryz.prog w = .ok (.agg #[.int .i64 c.x, .int .i64 c.y, .int .i64 c.z]) w := by kernel_rfl

/-- How many of the three hold. -/
def cnt (e f g : Bool) : Nat := (if e then 1 else 0) + (if f then 1 else 0) + (if g then 1 else 0)
/-- How many of the first k hold. -/
def cst (e f g : Bool) (k : Nat) : Nat :=
  match k with
  | 0 => 0
  | 1 => cnt e false false
  | 2 => cnt e f false
  | _ => cnt e f g
/-- How many corners of the first triangle are corners of the second. -/
def comI (a b c p q r : P3) : Nat := cnt (isC p q r a) (isC p q r b) (isC p q r c)

set_option maxHeartbeats 2000000 in
set_option maxRecDepth 100000 in
theorem commonCorners (a b c p q r : P3) (w : World) :
    Calls Tryz.prog 44 #[.agg #[.int .i64 a.x, .int .i64 a.y, .int .i64 a.z, .int .i64 b.x, .int .i64 b.y, .int .i64 b.z, .int .i64 c.x, .int .i64 c.y, .int .i64 c.z], .agg #[.int .i64 p.x, .int .i64 p.y, .int .i64 p.z, .int .i64 q.x, .int .i64 q.y, .int .i64 q.z, .int .i64 r.x, .int .i64 r.y, .int .i64 r.z]] w fun e w' => e = .returned (.int .i64 (comI a b c p q r : Nat)) ∧ Tch [] w w' := by
  have c1 := fun w1 => isCorner p q r a w1
  have c2 := fun w1 => isCorner p q r b w1
  have c3 := fun w1 => isCorner p q r c w1
  have ho : comI a b c p q r = cnt (isC p q r a) (isC p q r b) (isC p q r c) := rfl
  rw [ho]
  obtain ⟨e1, h1⟩ : ∃ e1, e1 = isC p q r a := ⟨_, rfl⟩
  obtain ⟨e2, h2⟩ : ∃ e2, e2 = isC p q r b := ⟨_, rfl⟩
  obtain ⟨e3, h3⟩ : ∃ e3, e3 = isC p q r c := ⟨_, rfl⟩
  rw [← h1] at c1 ⊢
  rw [← h2] at c2 ⊢
  rw [← h3] at c3 ⊢
  have C1 := Lib.hid c1
  have C2 := Lib.hid c2
  have C3 := Lib.hid c3
  have F0 : Hid (Fr w ((w.alloc (.cells #[.int .i64 a.x, .int .i64 a.y, .int .i64 a.z, .int .i64 b.x, .int .i64 b.y, .int .i64 b.z, .int .i64 c.x, .int .i64 c.y, .int .i64 c.z] 33)).alloc (.cells #[.int .i64 p.x, .int .i64 p.y, .int .i64 p.z, .int .i64 q.x, .int .i64 q.y, .int .i64 q.z, .int .i64 r.x, .int .i64 r.y, .int .i64 r.z] 33)) [(w.heap.size, .cells #[.int .i64 a.x, .int .i64 a.y, .int .i64 a.z, .int .i64 b.x, .int .i64 b.y, .int .i64 b.z, .int .i64 c.x, .int .i64 c.y, .int .i64 c.z] 33 (0, 0)), (w.heap.size + 1, .cells #[.int .i64 p.x, .int .i64 p.y, .int .i64 p.z, .int .i64 q.x, .int .i64 q.y, .int .i64 q.z, .int .i64 r.x, .int .i64 r.y, .int .i64 r.z] 33 (0, 0))]) := Lib.hid (((Fr.nil w).add (.cells #[.int .i64 a.x, .int .i64 a.y, .int .i64 a.z, .int .i64 b.x, .int .i64 b.y, .int .i64 b.z, .int .i64 c.x, .int .i64 c.y, .int .i64 c.z] 33) w.heap.size rfl).add (.cells #[.int .i64 p.x, .int .i64 p.y, .int .i64 p.z, .int .i64 q.x, .int .i64 q.y, .int .i64 q.z, .int .i64 r.x, .int .i64 r.y, .int .i64 r.z] 33) (w.heap.size + 1) (by simp))
  clear c1 c2 c3 h1 h2 h3 ho
  go_enter Tryz.func44, Tryz.ntmps44
  go_wp2
  go_loopw [5, 9] (fun ct i wr => ∃ k v : Nat, k ≤ 3 ∧ v ≤ k ∧ ct = .int .i64 (v : Int) ∧ i = .int .i64 (k : Int) ∧ Hid (v = cst e1 e2 e3 k) ∧ Hid (Fr w wr [(w.heap.size, .cells #[.int .i64 a.x, .int .i64 a.y, .int .i64 a.z, .int .i64 b.x, .int .i64 b.y, .int .i64 b.z, .int .i64 c.x, .int .i64 c.y, .int .i64 c.z] 33 (0, 0)), (w.heap.size + 1, .cells #[.int .i64 p.x, .int .i64 p.y, .int .i64 p.z, .int .i64 q.x, .int .i64 q.y, .int .i64 q.z, .int .i64 r.x, .int .i64 r.y, .int .i64 r.z] 33 (0, 0))]))
    (fun _ i _ => 3 - (intOf i).toNat)
  case atStart => exact ⟨0, 0, by omega, by omega, rfl, rfl, Lib.hid rfl, F0⟩
  case round =>
    obtain ⟨k, v, hk, hv, rfl, rfl, HV, F⟩ := hrel
    rcases (show k = 0 ∨ k = 1 ∨ k = 2 ∨ k = 3 by omega) with rfl | rfl | rfl | rfl
    · have X := idxT0 a b c
      cases e1
      · have HV' : Hid (v = cst false e2 e3 1) := Lib.hid (by have h := HV.out; unfold cst cnt at h ⊢; simp at h ⊢; try omega)
        clear HV
        have F := Lib.hid (F.out.beside (.cells #[.int .i64 a.x, .int .i64 a.y, .int .i64 a.z] 27))
        obtain ⟨⟨t0, t1, t2⟩, ⟨t3, t4, t5⟩, t6, t7, t8⟩ := F.out.nine 1 rfl
        go_wp2_with fail
        refine (C1.out _).mono ?_
        rintro e w4 ⟨rfl, hT⟩
        have F := Lib.hid (F.out.keep hT)
        clear hT t0 t1 t2 t3 t4 t5 t6 t7 t8
        go_wp2
        go_roundw
        case rel => exact ⟨1, v, by omega, by omega, by first | rfl | go_num, by go_num, HV', F⟩
        case measure => simp [intOf]
      · have HV' : Hid (v + 1 = cst true e2 e3 1) := Lib.hid (by have h := HV.out; unfold cst cnt at h ⊢; simp at h ⊢; try omega)
        clear HV
        have F := Lib.hid (F.out.beside (.cells #[.int .i64 a.x, .int .i64 a.y, .int .i64 a.z] 27))
        obtain ⟨⟨t0, t1, t2⟩, ⟨t3, t4, t5⟩, t6, t7, t8⟩ := F.out.nine 1 rfl
        go_wp2_with fail
        refine (C1.out _).mono ?_
        rintro e w4 ⟨rfl, hT⟩
        have F := Lib.hid (F.out.keep hT)
        clear hT t0 t1 t2 t3 t4 t5 t6 t7 t8
        go_wp2
        go_roundw
        case rel => exact ⟨1, v + 1, by omega, by omega, by first | rfl | go_num, by go_num, HV', F⟩
        case measure => simp [intOf]
    · have X := idxT1 a b c
      cases e2
      · have HV' : Hid (v = cst e1 false e3 2) := Lib.hid (by have h := HV.out; unfold cst cnt at h ⊢; simp at h ⊢; try omega)
        clear HV
        have F := Lib.hid (F.out.beside (.cells #[.int .i64 b.x, .int .i64 b.y, .int .i64 b.z] 27))
        obtain ⟨⟨t0, t1, t2⟩, ⟨t3, t4, t5⟩, t6, t7, t8⟩ := F.out.nine 1 rfl
        go_wp2_with fail
        refine (C2.out _).mono ?_
        rintro e w4 ⟨rfl, hT⟩
        have F := Lib.hid (F.out.keep hT)
        clear hT t0 t1 t2 t3 t4 t5 t6 t7 t8
        go_wp2
        go_roundw
        case rel => exact ⟨2, v, by omega, by omega, by first | rfl | go_num, by go_num, HV', F⟩
        case measure => simp [intOf]
      · have HV' : Hid (v + 1 = cst e1 true e3 2) := Lib.hid (by have h := HV.out; unfold cst cnt at h ⊢; simp at h ⊢; try omega)
        clear HV
        have F := Lib.hid (F.out.beside (.cells #[.int .i64 b.x, .int .i64 b.y, .int .i64 b.z] 27))
        obtain ⟨⟨t0, t1, t2⟩, ⟨t3, t4, t5⟩, t6, t7, t8⟩ := F.out.nine 1 rfl
        go_wp2_with fail
        refine (C2.out _).mono ?_
        rintro e w4 ⟨rfl, hT⟩
        have F := Lib.hid (F.out.keep hT)
        clear hT t0 t1 t2 t3 t4 t5 t6 t7 t8
        go_wp2
        go_roundw
        case rel => exact ⟨2, v + 1, by omega, by omega, by first | rfl | go_num, by go_num, HV', F⟩
        case measure => simp [intOf]
    · have X := idxT2 a b c
      cases e3
      · have HV' : Hid (v = cst e1 e2 false 3) := Lib.hid (by have h := HV.out; unfold cst cnt at h ⊢; simp at h ⊢; try omega)
        clear HV
        have F := Lib.hid (F.out.beside (.cells #[.int .i64 c.x, .int .i64 c.y, .int .i64 c.z] 27))
        obtain ⟨⟨t0, t1, t2⟩, ⟨t3, t4, t5⟩, t6, t7, t8⟩ := F.out.nine 1 rfl
        go_wp2_with fail
        refine (C3.out _).mono ?_
        rintro e w4 ⟨rfl, hT⟩
        have F := Lib.hid (F.out.keep hT)
        clear hT t0 t1 t2 t3 t4 t5 t6 t7 t8
        go_wp2
        go_roundw
        case rel => exact ⟨3, v, by omega, by omega, by first | rfl | go_num, by go_num, HV', F⟩
        case measure => simp [intOf]
      · have HV' : Hid (v + 1 = cst e1 e2 true 3) := Lib.hid (by have h := HV.out; unfold cst cnt at h ⊢; simp at h ⊢; try omega)
        clear HV
        have F := Lib.hid (F.out.beside (.cells #[.int .i64 c.x, .int .i64 c.y, .int .i64 c.z] 27))
        obtain ⟨⟨t0, t1, t2⟩, ⟨t3, t4, t5⟩, t6, t7, t8⟩ := F.out.nine 1 rfl
        go_wp2_with fail
        refine (C3.out _).mono ?_
        rintro e w4 ⟨rfl, hT⟩
        have F := Lib.hid (F.out.keep hT)
        clear hT t0 t1 t2 t3 t4 t5 t6 t7 t8
        go_wp2
        go_roundw
        case rel => exact ⟨3, v + 1, by omega, by omega, by first | rfl | go_num, by go_num, HV', F⟩
        case measure => simp [intOf]
    · go_wp2
      go_ret
      exact ⟨by rw [HV.out]; rfl, F.out.t⟩

end Go.Proofs.YtandlbacjfdkpaaGreatDoor

/- Comparisons of vectors. -/
namespace Go.Proofs.YtandlbacjfdkpaaGreatDoor
open Go Go.RowKit Dg

theorem eqVec (a b c d e f : Int) (w : World) : (Op.equalIn 10000 66 (.agg #[.int .i64 a, .int .i64 b, .int .i64 c]) (.agg #[.int .i64 d, .int .i64 e, .int .i64 f])).run Tryz.prog w = .ok (a == d && b == e && c == f) w := by
  have u3 := Tryz.underlying3
  have a3 := Tryz.isAgg3
  have z3 := Tryz.sizeOf3
  rw [show (10000 : Nat) = 9999 + 1 from rfl, Op.equalIn]
  simp only [Sem.run_bind, run_underlying Tryz.underlying66, Result.andThen_ok]
  simp only [Std.Legacy.Range.forIn_eq_forIn_range', Std.Legacy.Range.size, Nat.sub_zero, Nat.add_sub_cancel, Nat.div_one, List.range'_succ, List.range'_zero, List.forIn_cons, List.forIn_nil]
  go_simp
  by_cases h1 : a = d <;> by_cases h2 : b = e <;> by_cases h3 : c = f <;> simp [h1, h2, h3]

theorem eqWide3 (a b c d e f : Bool) (s t u x y z : ByteArray) (w : World) : (Op.equalIn 10000 69 (.agg #[.bool a, .string s, .bool b, .string t, .bool c, .string u]) (.agg #[.bool d, .string x, .bool e, .string y, .bool f, .string z])).run Tryz.prog w =
    .ok ((a == d && s.toList == x.toList) && (b == e && t.toList == y.toList) && (c == f && u.toList == z.toList)) w := by
  have a3 := Tryz.isAgg46
  have z3 := Tryz.sizeOf46
  rw [show (10000 : Nat) = 9999 + 1 from rfl, Op.equalIn]
  simp only [Sem.run_bind, run_underlying Tryz.underlying69, Result.andThen_ok]
  simp only [Std.Legacy.Range.forIn_eq_forIn_range', Std.Legacy.Range.size, Nat.sub_zero, Nat.add_sub_cancel, Nat.div_one, List.range'_succ, List.range'_zero, List.forIn_cons, List.forIn_nil]
  go_simp
  repeat' split
  all_goals simp_all

/-- A number of no digits is 0. -/
theorem moz_nil (z : Int) : ((moz z).toList == (⟨#[]⟩ : ByteArray).toList) = (z == 0) := by
  by_cases h : z = 0
  · subst h; rw [moz_zero]; simp
  · have h2 : (moz z).toList ≠ [] := by
      rw [ByteArray.toList_eq]
      intro e
      have h3 : bv (sb (moz z)) = 0 := by unfold sb; rw [e]; rfl
      unfold moz at h3
      rw [bv_mo] at h3
      omega
    have h4 : (⟨#[]⟩ : ByteArray).toList = [] := by rw [ByteArray.toList_eq]
    rw [h4, show (z == 0) = false from beq_eq_false_iff_ne.2 h]
    exact beq_eq_false_iff_ne.2 h2
theorem toList_ne {s t : ByteArray} (h : s ≠ t) : s.toList ≠ t.toList := by
  intro e
  rw [ByteArray.toList_eq, ByteArray.toList_eq] at e
  exact h (by cases s; cases t; simp_all)
theorem wide_of {z : Int} : zval (sgz z) (bv (sb (moz z))) = z := zval_mo z
/-- Two numbers are equal if both fields are. -/
theorem wide_beq (x y : Int) : (sgz x == sgz y && (moz x).toList == (moz y).toList) = (x == y) := by
  by_cases h : x = y
  · subst h; simp
  · by_cases h1 : sgz x = sgz y
    · have h2 : moz x ≠ moz y := by
        intro e
        apply h
        rw [← wide_of (z := x), ← wide_of (z := y), h1, e]
      rw [show (x == y) = false from beq_eq_false_iff_ne.2 h, show ((moz x).toList == (moz y).toList) = false from beq_eq_false_iff_ne.2 (toList_ne h2), Bool.and_false]
    · rw [show (x == y) = false from beq_eq_false_iff_ne.2 h, show (sgz x == sgz y) = false from beq_eq_false_iff_ne.2 h1, Bool.false_and]
theorem sgz_nil (z : Int) : (sgz z == false && (moz z).toList == (⟨#[]⟩ : ByteArray).toList) = (z == 0) := by
  rw [moz_nil]
  by_cases h : z = 0
  · subst h; rfl
  · rw [show (z == 0) = false from beq_eq_false_iff_ne.2 h, Bool.and_false]

theorem eqWideZero (x y z : Int) (w : World) : (Op.equalIn 10000 69 (.agg #[.bool (sgz x), .string (moz x), .bool (sgz y), .string (moz y), .bool (sgz z), .string (moz z)]) (.agg #[.bool false, .string ⟨#[]⟩, .bool false, .string ⟨#[]⟩, .bool false, .string ⟨#[]⟩])).run Tryz.prog w =
    .ok (x == 0 && y == 0 && z == 0) w := by
  rw [eqWide3, sgz_nil, sgz_nil, sgz_nil, Bool.and_assoc]

end Go.Proofs.YtandlbacjfdkpaaGreatDoor

/- exact.Flat, for all ints. -/
namespace Go.Proofs.YtandlbacjfdkpaaGreatDoor
open Go Go.RowKit Dg

/-- Whether a triangle has no area. -/
def flatI (a b c : P3) : Bool := (nrmI a b c).x == 0 && (nrmI a b c).y == 0 && (nrmI a b c).z == 0

set_option maxHeartbeats 2000000 in
set_option maxRecDepth 100000 in
theorem Flat (a b c : P3) (ha : a.Ok) (hb : b.Ok) (hc : c.Ok) (w : World) :
    Calls Tryz.prog 25 #[.agg #[.int .i64 a.x, .int .i64 a.y, .int .i64 a.z, .int .i64 b.x, .int .i64 b.y, .int .i64 b.z, .int .i64 c.x, .int .i64 c.y, .int .i64 c.z]] w fun e w' => e = .returned (.bool (flatI a b c)) ∧ Tch [] w w' := by
  have c1 := fun w1 => xnormal a b c w1
  have c2 := fun w1 => xwideNormal a b c ha hb hc w1
  rw [show crsI (difI a b) (difI a c) = nrmI a b c from rfl] at c2
  obtain ⟨u, hu⟩ : ∃ u, u = crs (dif a b) (dif a c) := ⟨_, rfl⟩
  obtain ⟨s, hs⟩ : ∃ s, s = (shrt a b && shrt a c) := ⟨_, rfl⟩
  rw [← hu, ← hs] at c1
  obtain ⟨n, hn⟩ : ∃ n, n = nrmI a b c := ⟨_, rfl⟩
  rw [← hn] at c2
  have hf : flatI a b c = (n.x == 0 && n.y == 0 && n.z == 0) := by unfold flatI; rw [← hn]
  rw [hf]
  clear hf
  have key : s = true → u = n ∧ n.Mid := by
    intro h
    rw [hs, Bool.and_eq_true] at h
    have e1 := shrt_dif ha hb h.1
    have e2 := shrt_dif ha hc h.2
    have k := crs_crsI e1.2 e2.2
    exact ⟨by rw [hu, e1.1, e2.1, k.1, hn]; rfl, by rw [hn]; exact k.2⟩
  have C1 := Lib.hid c1
  have C2 := Lib.hid c2
  have K := Lib.hid key
  clear c1 c2 hu hs hn key ha hb hc
  have F0 : Hid (Fr w (w.alloc (.cells #[.int .i64 a.x, .int .i64 a.y, .int .i64 a.z, .int .i64 b.x, .int .i64 b.y, .int .i64 b.z, .int .i64 c.x, .int .i64 c.y, .int .i64 c.z] 33)) [(w.heap.size, .cells #[.int .i64 a.x, .int .i64 a.y, .int .i64 a.z, .int .i64 b.x, .int .i64 b.y, .int .i64 b.z, .int .i64 c.x, .int .i64 c.y, .int .i64 c.z] 33 (0, 0))]) := Lib.hid ((Fr.nil w).add (.cells #[.int .i64 a.x, .int .i64 a.y, .int .i64 a.z, .int .i64 b.x, .int .i64 b.y, .int .i64 b.z, .int .i64 c.x, .int .i64 c.y, .int .i64 c.z] 33) w.heap.size rfl)
  go_enter Tryz.func25, Tryz.ntmps25
  go_wp2_with fail
  refine (C1.out _).mono ?_
  rintro e w1 ⟨rfl, hT⟩
  have F := Lib.hid ((F0.out.keep hT).add (.cells #[.int .i64 u.x, .int .i64 u.y, .int .i64 u.z] 66) w1.heap.size rfl)
  clear hT F0
  cases s
  · obtain ⟨⟨a0, a1, a2⟩, ⟨a3, a4, a5⟩, a6, a7, a8⟩ := F.out.nine 0 rfl
    go_wp2_with fail
    refine (C2.out _).mono ?_
    rintro e w3 ⟨rfl, hT⟩
    have F := Lib.hid (F.out.keep hT)
    clear hT
    have E := eqWideZero n.x n.y n.z
    go_wp2
    go_ret
    exact ⟨rfl, F.out.t⟩
  · obtain ⟨rfl, hm⟩ := K.out rfl
    obtain ⟨a0, a1, a2⟩ := F.out.three 1 rfl
    clear hm C1 C2 K
    have E := eqVec u.x u.y u.z 0 0 0
    go_wp2
    go_ret
    exact ⟨rfl, F.out.t⟩

end Go.Proofs.YtandlbacjfdkpaaGreatDoor
