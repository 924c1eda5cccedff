/- The reference's Normal, Facing, Dist2, Side. -/
import Derived.Test.YtandlbacjfdkpaaGreatDoorRs5
import Derived.Test.YtandlbacjfdkpaaGreatDoorSide
import Derived.Test.YtandlbacjfdkpaaGreatDoorDst
namespace Go.Proofs.YtandlbacjfdkpaaGreatDoor
open Go Go.RowKit Dg

set_option maxHeartbeats 8000000 in
set_option maxRecDepth 100000 in
theorem rNormal (a b c : P3) (ha : a.Ok) (hb : b.Ok) (hc : c.Ok) (w : World) :
    Calls Tryz.prog 27 #[(.agg #[.int .i64 a.x, .int .i64 a.y, .int .i64 a.z, .int .i64 b.x, .int .i64 b.y, .int .i64 b.z, .int .i64 c.x, .int .i64 c.y, .int .i64 c.z])] w fun e w' => e = .returned (.agg #[.bool (sgz (nrmI a b c).x), .string (moz (nrmI a b c).x), .bool (sgz (nrmI a b c).y), .string (moz (nrmI a b c).y), .bool (sgz (nrmI a b c).z), .string (moz (nrmI a b c).z)]) ∧ Tch [] w w' := by
  obtain ⟨n, hn⟩ : ∃ u, u = nrmI a b c := ⟨_, rfl⟩
  rw [← hn]
  obtain ⟨u, hu⟩ : ∃ u, u = difI a b := ⟨_, rfl⟩
  obtain ⟨v, hv⟩ : ∃ u, u = difI a c := ⟨_, rfl⟩
  have su : u.Sm 65 := by rw [hu]; exact difI_sm ha hb
  have sv : v.Sm 65 := by rw [hv]; exact difI_sm ha hc
  have W1 : Hid (∀ w1, Calls Tryz.prog 66 #[(.agg #[.int .i64 a.x, .int .i64 a.y, .int .i64 a.z]), (.agg #[.int .i64 b.x, .int .i64 b.y, .int .i64 b.z])] w1 fun e w' => e = .returned (.agg #[.bool (sgz u.x), .string (moz u.x), .bool (sgz u.y), .string (moz u.y), .bool (sgz u.z), .string (moz u.z)]) ∧ Tch [] w1 w') := Lib.hid (fun w1 => by rw [hu]; exact rwideV a b ha hb w1)
  have W2 : Hid (∀ w1, Calls Tryz.prog 66 #[(.agg #[.int .i64 a.x, .int .i64 a.y, .int .i64 a.z]), (.agg #[.int .i64 c.x, .int .i64 c.y, .int .i64 c.z])] w1 fun e w' => e = .returned (.agg #[.bool (sgz v.x), .string (moz v.x), .bool (sgz v.y), .string (moz v.y), .bool (sgz v.z), .string (moz v.z)]) ∧ Tch [] w1 w') := Lib.hid (fun w1 => by rw [hv]; exact rwideV a c ha hc w1)
  have W3 : Hid (∀ w1, Calls Tryz.prog 65 #[.agg #[.bool (sgz u.x), .string (moz u.x), .bool (sgz u.y), .string (moz u.y), .bool (sgz u.z), .string (moz u.z)], .agg #[.bool (sgz v.x), .string (moz v.x), .bool (sgz v.y), .string (moz v.y), .bool (sgz v.z), .string (moz v.z)]] w1 fun e w' => e = .returned (.agg #[.bool (sgz n.x), .string (moz n.x), .bool (sgz n.y), .string (moz n.y), .bool (sgz n.z), .string (moz n.z)]) ∧ Tch [] w1 w') := Lib.hid (fun w1 => by rw [show n = crsI u v from by rw [hn, hu, hv]; rfl]; exact rwideProduct u v ⟨su.x.mono (by omega), su.y.mono (by omega), su.z.mono (by omega)⟩ ⟨sv.x.mono (by omega), sv.y.mono (by omega), sv.z.mono (by omega)⟩ w1)
  clear hn hu hv su sv ha hb hc
  have F : Hid (Fr w ((w.alloc (.cells #[.int .i64 a.x, .int .i64 a.y, .int .i64 a.z, .int .i64 b.x, .int .i64 b.y, .int .i64 b.z, .int .i64 c.x, .int .i64 c.y, .int .i64 c.z] 33)).alloc (.cells #[.bool false, .string ⟨#[]⟩, .bool false, .string ⟨#[]⟩, .bool false, .string ⟨#[]⟩] 47)) [(w.heap.size, .cells #[.int .i64 a.x, .int .i64 a.y, .int .i64 a.z, .int .i64 b.x, .int .i64 b.y, .int .i64 b.z, .int .i64 c.x, .int .i64 c.y, .int .i64 c.z] 33 (0, 0)), (w.heap.size + 1, .cells #[.bool false, .string ⟨#[]⟩, .bool false, .string ⟨#[]⟩, .bool false, .string ⟨#[]⟩] 47 (0, 0))]) := Lib.hid (((Fr.nil w).add (.cells #[.int .i64 a.x, .int .i64 a.y, .int .i64 a.z, .int .i64 b.x, .int .i64 b.y, .int .i64 b.z, .int .i64 c.x, .int .i64 c.y, .int .i64 c.z] 33) (w.heap.size) rfl).add (.cells #[.bool false, .string ⟨#[]⟩, .bool false, .string ⟨#[]⟩, .bool false, .string ⟨#[]⟩] 47) (w.heap.size + 1) (by simp))
  have SF := Lib.hid (fun (w4 : World) (h : Fr w w4 [(w.heap.size, .cells #[.int .i64 a.x, .int .i64 a.y, .int .i64 a.z, .int .i64 b.x, .int .i64 b.y, .int .i64 b.z, .int .i64 c.x, .int .i64 c.y, .int .i64 c.z] 33 (0, 0)), (w.heap.size + 1, .cells #[.bool false, .string ⟨#[]⟩, .bool false, .string ⟨#[]⟩, .bool false, .string ⟨#[]⟩] 47 (0, 0))]) => h.nine 0 rfl)
  have ST := Lib.hid (fun (w4 : World) (y0 y1 y2 y3 y4 y5 : Value) (h : Fr w w4 [(w.heap.size, .cells #[.int .i64 a.x, .int .i64 a.y, .int .i64 a.z, .int .i64 b.x, .int .i64 b.y, .int .i64 b.z, .int .i64 c.x, .int .i64 c.y, .int .i64 c.z] 33 (0, 0)), (w.heap.size + 1, .cells #[.bool false, .string ⟨#[]⟩, .bool false, .string ⟨#[]⟩, .bool false, .string ⟨#[]⟩] 47 (0, 0))]) => ((h.only 0 rfl).away6 (b := w.heap.size + 1) (by intro q hq; simp only [List.mem_cons, List.not_mem_nil, or_false] at hq; subst hq; simp) (by omega) y0 y1 y2 y3 y4 y5).nine 0 rfl)
  go_enter Tryz.func27, Tryz.ntmps27
  go_wp2_with fail
  go_region_held3 (fun w4 => ((w4.cell? ⟨w.heap.size, 0, none⟩ = some (.int .i64 a.x) ∧ w4.cell? ⟨w.heap.size, 1, none⟩ = some (.int .i64 a.y) ∧ w4.cell? ⟨w.heap.size, 2, none⟩ = some (.int .i64 a.z)) ∧ (w4.cell? ⟨w.heap.size, 3, none⟩ = some (.int .i64 b.x) ∧ w4.cell? ⟨w.heap.size, 4, none⟩ = some (.int .i64 b.y) ∧ w4.cell? ⟨w.heap.size, 5, none⟩ = some (.int .i64 b.z)) ∧ w4.cell? ⟨w.heap.size, 6, none⟩ = some (.int .i64 c.x) ∧ w4.cell? ⟨w.heap.size, 7, none⟩ = some (.int .i64 c.y) ∧ w4.cell? ⟨w.heap.size, 8, none⟩ = some (.int .i64 c.z))) (first | with_reducible exact SF.out _ F.out | with_reducible exact SF.out _ F.out.drew | with_reducible exact ST.out _ _ _ _ _ _ _ F.out) (first
    | (go_at_call 66; (first | (with_reducible refine (W1.out _).mono ?_) | (with_reducible refine (W2.out _).mono ?_)); rintro e w5 ⟨rfl, hT⟩; (first | (with_reducible have F := Lib.hid (F.out.keep hT)) | (have F := Lib.hid (F.out.drew.keep hT))); clear hT)
    | (go_at_call 65; (with_reducible refine (W3.out _).mono ?_); rintro e w5 ⟨rfl, hT⟩; (first | (with_reducible have F := Lib.hid (F.out.keep hT)) | (have F := Lib.hid (F.out.drew.keep hT))); clear hT; obtain ⟨r0, r1, r2, r3, r4, r5⟩ := F.out.six 1 rfl; obtain ⟨f0, f1, f2, f3, f4, f5⟩ := F.out.fro6 1 rfl)
    | fail)
  all_goals
    go_wp2
    refine bodyPost_ret (v := (.agg #[.bool (sgz n.x), .string (moz n.x), .bool (sgz n.y), .string (moz n.y), .bool (sgz n.z), .string (moz n.z)])) (by simp [results, Tryz.results27, go_sem, r0, r1, r2, r3, r4, r5]) rfl ⟨rfl, ?_⟩
    exact F.out.fin6 1 rfl _ _ _ _ _ _

set_option maxHeartbeats 8000000 in
set_option maxRecDepth 100000 in
theorem rFacing (a b c p q r : P3) (ha : a.Ok) (hb : b.Ok) (hc : c.Ok) (hp : p.Ok) (hq : q.Ok) (hr : r.Ok) (w : World) :
    Calls Tryz.prog 29 #[(.agg #[.int .i64 a.x, .int .i64 a.y, .int .i64 a.z, .int .i64 b.x, .int .i64 b.y, .int .i64 b.z, .int .i64 c.x, .int .i64 c.y, .int .i64 c.z]), (.agg #[.int .i64 p.x, .int .i64 p.y, .int .i64 p.z, .int .i64 q.x, .int .i64 q.y, .int .i64 q.z, .int .i64 r.x, .int .i64 r.y, .int .i64 r.z])] w fun e w' => e = .returned (.int .i64 (dotI (nrmI a b c) (nrmI p q r)).sign) ∧ Tch [] w w' := by
  obtain ⟨o, ho⟩ : ∃ u, u = (dotI (nrmI a b c) (nrmI p q r)).sign := ⟨_, rfl⟩
  rw [← ho]
  obtain ⟨n, hn⟩ : ∃ u, u = nrmI a b c := ⟨_, rfl⟩
  obtain ⟨m, hm⟩ : ∃ u, u = nrmI p q r := ⟨_, rfl⟩
  obtain ⟨d, hd⟩ : ∃ u, u = dotI n m := ⟨_, rfl⟩
  have sn : n.Sm 131 := by rw [hn]; exact nrmI_sm ha hb hc
  have sm : m.Sm 131 := by rw [hm]; exact nrmI_sm hp hq hr
  have sd : Sm 400 d := by rw [hd]; exact (((((sn.x.mul sm.x).add (sn.y.mul sm.y)).mono (l := 270) (by omega)).add ((sn.z.mul sm.z).mono (l := 270) (by omega)))).mono (by omega)
  have N1 : Hid (∀ w1, Calls Tryz.prog 27 #[(.agg #[.int .i64 a.x, .int .i64 a.y, .int .i64 a.z, .int .i64 b.x, .int .i64 b.y, .int .i64 b.z, .int .i64 c.x, .int .i64 c.y, .int .i64 c.z])] w1 fun e w' => e = .returned (.agg #[.bool (sgz n.x), .string (moz n.x), .bool (sgz n.y), .string (moz n.y), .bool (sgz n.z), .string (moz n.z)]) ∧ Tch [] w1 w') := Lib.hid (fun w1 => by rw [hn]; exact rNormal a b c ha hb hc w1)
  have N2 : Hid (∀ w1, Calls Tryz.prog 27 #[(.agg #[.int .i64 p.x, .int .i64 p.y, .int .i64 p.z, .int .i64 q.x, .int .i64 q.y, .int .i64 q.z, .int .i64 r.x, .int .i64 r.y, .int .i64 r.z])] w1 fun e w' => e = .returned (.agg #[.bool (sgz m.x), .string (moz m.x), .bool (sgz m.y), .string (moz m.y), .bool (sgz m.z), .string (moz m.z)]) ∧ Tch [] w1 w') := Lib.hid (fun w1 => by rw [hm]; exact rNormal p q r hp hq hr w1)
  have D1 : Hid (∀ w1, Calls Tryz.prog 64 #[.agg #[.bool (sgz n.x), .string (moz n.x), .bool (sgz n.y), .string (moz n.y), .bool (sgz n.z), .string (moz n.z)], .agg #[.bool (sgz m.x), .string (moz m.x), .bool (sgz m.y), .string (moz m.y), .bool (sgz m.z), .string (moz m.z)]] w1 fun e w' => e = .returned (.agg #[.bool (sgz d), .string (moz d)]) ∧ Tch [] w1 w') := Lib.hid (fun w1 => by rw [hd]; exact rscalar n m ⟨sn.x.mono (by omega), sn.y.mono (by omega), sn.z.mono (by omega)⟩ ⟨sm.x.mono (by omega), sm.y.mono (by omega), sm.z.mono (by omega)⟩ w1)
  have S1 : Hid (∀ w1, Calls Tryz.prog 63 #[(.agg #[.bool (sgz d), .string (moz d)])] w1 fun e w' => e = .returned (.int .i64 o) ∧ Tch [] w1 w') := Lib.hid (fun w1 => by rw [show o = d.sign from by rw [ho, hd, hn, hm]]; exact JSign sd w1)
  clear ho hn hm hd sn sm sd ha hb hc hp hq hr
  have F : Hid (Fr w ((w.alloc (.cells #[.int .i64 a.x, .int .i64 a.y, .int .i64 a.z, .int .i64 b.x, .int .i64 b.y, .int .i64 b.z, .int .i64 c.x, .int .i64 c.y, .int .i64 c.z] 33)).alloc (.cells #[.int .i64 p.x, .int .i64 p.y, .int .i64 p.z, .int .i64 q.x, .int .i64 q.y, .int .i64 q.z, .int .i64 r.x, .int .i64 r.y, .int .i64 r.z] 33)) [(w.heap.size, .cells #[.int .i64 a.x, .int .i64 a.y, .int .i64 a.z, .int .i64 b.x, .int .i64 b.y, .int .i64 b.z, .int .i64 c.x, .int .i64 c.y, .int .i64 c.z] 33 (0, 0)), (w.heap.size + 1, .cells #[.int .i64 p.x, .int .i64 p.y, .int .i64 p.z, .int .i64 q.x, .int .i64 q.y, .int .i64 q.z, .int .i64 r.x, .int .i64 r.y, .int .i64 r.z] 33 (0, 0))]) := Lib.hid (((Fr.nil w).add (.cells #[.int .i64 a.x, .int .i64 a.y, .int .i64 a.z, .int .i64 b.x, .int .i64 b.y, .int .i64 b.z, .int .i64 c.x, .int .i64 c.y, .int .i64 c.z] 33) (w.heap.size) rfl).add (.cells #[.int .i64 p.x, .int .i64 p.y, .int .i64 p.z, .int .i64 q.x, .int .i64 q.y, .int .i64 q.z, .int .i64 r.x, .int .i64 r.y, .int .i64 r.z] 33) (w.heap.size + 1) (by simp))
  have SF := Lib.hid (fun (w4 : World) (h : Fr w w4 [(w.heap.size, .cells #[.int .i64 a.x, .int .i64 a.y, .int .i64 a.z, .int .i64 b.x, .int .i64 b.y, .int .i64 b.z, .int .i64 c.x, .int .i64 c.y, .int .i64 c.z] 33 (0, 0)), (w.heap.size + 1, .cells #[.int .i64 p.x, .int .i64 p.y, .int .i64 p.z, .int .i64 q.x, .int .i64 q.y, .int .i64 q.z, .int .i64 r.x, .int .i64 r.y, .int .i64 r.z] 33 (0, 0))]) => And.intro (h.nine 0 rfl) (h.nine 1 rfl))
  go_enter Tryz.func29, Tryz.ntmps29
  go_wp2_with fail
  go_region_held3 (fun w4 => ((w4.cell? ⟨w.heap.size, 0, none⟩ = some (.int .i64 a.x) ∧ w4.cell? ⟨w.heap.size, 1, none⟩ = some (.int .i64 a.y) ∧ w4.cell? ⟨w.heap.size, 2, none⟩ = some (.int .i64 a.z)) ∧ (w4.cell? ⟨w.heap.size, 3, none⟩ = some (.int .i64 b.x) ∧ w4.cell? ⟨w.heap.size, 4, none⟩ = some (.int .i64 b.y) ∧ w4.cell? ⟨w.heap.size, 5, none⟩ = some (.int .i64 b.z)) ∧ w4.cell? ⟨w.heap.size, 6, none⟩ = some (.int .i64 c.x) ∧ w4.cell? ⟨w.heap.size, 7, none⟩ = some (.int .i64 c.y) ∧ w4.cell? ⟨w.heap.size, 8, none⟩ = some (.int .i64 c.z)) ∧ ((w4.cell? ⟨w.heap.size + 1, 0, none⟩ = some (.int .i64 p.x) ∧ w4.cell? ⟨w.heap.size + 1, 1, none⟩ = some (.int .i64 p.y) ∧ w4.cell? ⟨w.heap.size + 1, 2, none⟩ = some (.int .i64 p.z)) ∧ (w4.cell? ⟨w.heap.size + 1, 3, none⟩ = some (.int .i64 q.x) ∧ w4.cell? ⟨w.heap.size + 1, 4, none⟩ = some (.int .i64 q.y) ∧ w4.cell? ⟨w.heap.size + 1, 5, none⟩ = some (.int .i64 q.z)) ∧ w4.cell? ⟨w.heap.size + 1, 6, none⟩ = some (.int .i64 r.x) ∧ w4.cell? ⟨w.heap.size + 1, 7, none⟩ = some (.int .i64 r.y) ∧ w4.cell? ⟨w.heap.size + 1, 8, none⟩ = some (.int .i64 r.z))) (first | with_reducible exact SF.out _ F.out | with_reducible exact SF.out _ F.out.drew) (first
    | (go_at_call 27; (first | (with_reducible refine (N1.out _).mono ?_) | (with_reducible refine (N2.out _).mono ?_)); rintro e w5 ⟨rfl, hT⟩; (first | (with_reducible have F := Lib.hid (F.out.keep hT)) | (have F := Lib.hid (F.out.drew.keep hT))); clear hT)
    | (go_at_call 64; (with_reducible refine (D1.out _).mono ?_); rintro e w5 ⟨rfl, hT⟩; (first | (with_reducible have F := Lib.hid (F.out.keep hT)) | (have F := Lib.hid (F.out.drew.keep hT))); clear hT)
    | (go_at_call 63; (with_reducible refine (S1.out _).mono ?_); rintro e w5 ⟨rfl, hT⟩; (first | (with_reducible have F := Lib.hid (F.out.keep hT)) | (have F := Lib.hid (F.out.drew.keep hT))); clear hT)
    | fail)
  all_goals
    go_wp2
    go_ret
    exact ⟨rfl, F.out.t⟩

set_option maxHeartbeats 4000000 in
set_option maxRecDepth 100000 in
theorem rDist2 (a b : P3) (ha : a.Ok) (hb : b.Ok) (w : World) :
    Calls Tryz.prog 31 #[(.agg #[.int .i64 a.x, .int .i64 a.y, .int .i64 a.z]), (.agg #[.int .i64 b.x, .int .i64 b.y, .int .i64 b.z])] w fun e w' => e = .returned (.agg #[.bool (sgz (dst2I a b)), .string (moz (dst2I a b))]) ∧ Tch [] w w' := by
  obtain ⟨d, hd⟩ : ∃ u, u = dst2I a b := ⟨_, rfl⟩
  rw [← hd]
  obtain ⟨u, hu⟩ : ∃ u, u = difI a b := ⟨_, rfl⟩
  have su : u.Sm 65 := by rw [hu]; exact difI_sm ha hb
  have W1 : Hid (∀ w1, Calls Tryz.prog 66 #[(.agg #[.int .i64 a.x, .int .i64 a.y, .int .i64 a.z]), (.agg #[.int .i64 b.x, .int .i64 b.y, .int .i64 b.z])] w1 fun e w' => e = .returned (.agg #[.bool (sgz u.x), .string (moz u.x), .bool (sgz u.y), .string (moz u.y), .bool (sgz u.z), .string (moz u.z)]) ∧ Tch [] w1 w') := Lib.hid (fun w1 => by rw [hu]; exact rwideV a b ha hb w1)
  have D1 : Hid (∀ w1, Calls Tryz.prog 64 #[.agg #[.bool (sgz u.x), .string (moz u.x), .bool (sgz u.y), .string (moz u.y), .bool (sgz u.z), .string (moz u.z)], .agg #[.bool (sgz u.x), .string (moz u.x), .bool (sgz u.y), .string (moz u.y), .bool (sgz u.z), .string (moz u.z)]] w1 fun e w' => e = .returned (.agg #[.bool (sgz d), .string (moz d)]) ∧ Tch [] w1 w') := Lib.hid (fun w1 => by rw [show d = dotI u u from by rw [hd, hu]; rfl]; exact rscalar u u ⟨su.x.mono (by omega), su.y.mono (by omega), su.z.mono (by omega)⟩ ⟨su.x.mono (by omega), su.y.mono (by omega), su.z.mono (by omega)⟩ w1)
  clear hd hu su ha hb
  have F : Hid (Fr w (((w.alloc (.cells #[.int .i64 a.x, .int .i64 a.y, .int .i64 a.z] 27)).alloc (.cells #[.int .i64 b.x, .int .i64 b.y, .int .i64 b.z] 27)).alloc (.cells #[.bool false, .string ⟨#[]⟩] 46)) [(w.heap.size, .cells #[.int .i64 a.x, .int .i64 a.y, .int .i64 a.z] 27 (0, 0)), (w.heap.size + 1, .cells #[.int .i64 b.x, .int .i64 b.y, .int .i64 b.z] 27 (0, 0)), (w.heap.size + 1 + 1, .cells #[.bool false, .string ⟨#[]⟩] 46 (0, 0))]) := Lib.hid ((((Fr.nil w).add (.cells #[.int .i64 a.x, .int .i64 a.y, .int .i64 a.z] 27) (w.heap.size) rfl).add (.cells #[.int .i64 b.x, .int .i64 b.y, .int .i64 b.z] 27) (w.heap.size + 1) (by simp)).add (.cells #[.bool false, .string ⟨#[]⟩] 46) (w.heap.size + 1 + 1) (by simp))
  obtain ⟨a0, a1, a2⟩ := F.out.three 0 rfl; obtain ⟨b0, b1, b2⟩ := F.out.three 1 rfl
  go_enter Tryz.func31, Tryz.ntmps31
  go_wp2_with fail
  refine (W1.out _).mono ?_
  rintro e w1 ⟨rfl, hT⟩
  have F := Lib.hid ((F.out.keep hT).add (.cells #[.bool (sgz u.x), .string (moz u.x), .bool (sgz u.y), .string (moz u.y), .bool (sgz u.z), .string (moz u.z)] 47) w1.heap.size rfl)
  clear hT W1 a0 a1 a2 b0 b1 b2
  obtain ⟨x0, x1, x2, x3, x4, x5⟩ := F.out.six 3 rfl
  go_wp2_with fail
  refine (D1.out _).mono ?_
  rintro e w2 ⟨rfl, hT⟩
  have F := Lib.hid (F.out.keep hT)
  clear hT D1 x0 x1 x2 x3 x4 x5
  obtain ⟨r0, r1⟩ := F.out.two 2 rfl
  obtain ⟨f0, f1⟩ := F.out.fro2 2 rfl
  go_wp2
  refine bodyPost_ret (v := (.agg #[.bool (sgz d), .string (moz d)])) (by simp [results, Tryz.results31, go_sem, r0, r1]) rfl ⟨rfl, F.out.fin2 2 rfl _ _⟩

theorem side_res (a b c p : P3) : sideI a b c p = if (detI a b c p).sign = 0 then (if (nmsI a b c).x = 0 then (if (nmsI a b c).y = 0 then (nmsI a b c).z else (nmsI a b c).y) else (nmsI a b c).x) else (detI a b c p).sign := rfl

set_option maxHeartbeats 8000000 in
set_option maxRecDepth 100000 in
theorem rSide (a b c p : P3) (ha : a.Ok) (hb : b.Ok) (hc : c.Ok) (hp : p.Ok) (w : World) :
    Calls Tryz.prog 24 #[(.agg #[.int .i64 a.x, .int .i64 a.y, .int .i64 a.z, .int .i64 b.x, .int .i64 b.y, .int .i64 b.z, .int .i64 c.x, .int .i64 c.y, .int .i64 c.z]), (.agg #[.int .i64 p.x, .int .i64 p.y, .int .i64 p.z])] w fun e w' => e = .returned (.int .i64 (sideI a b c p)) ∧ Tch [] w w' := by
  obtain ⟨o, ho⟩ : ∃ u, u = sideI a b c p := ⟨_, rfl⟩
  rw [← ho]
  rw [side_res] at ho
  obtain ⟨n, hn⟩ : ∃ u, u = nmsI a b c := ⟨_, rfl⟩
  obtain ⟨d, hd⟩ : ∃ u, u = (detI a b c p).sign := ⟨_, rfl⟩
  rw [← hn, ← hd] at ho
  have C1 : Hid (∀ w1, Calls Tryz.prog 23 #[(.agg #[.int .i64 a.x, .int .i64 a.y, .int .i64 a.z]), (.agg #[.int .i64 b.x, .int .i64 b.y, .int .i64 b.z]), (.agg #[.int .i64 c.x, .int .i64 c.y, .int .i64 c.z]), (.agg #[.int .i64 p.x, .int .i64 p.y, .int .i64 p.z])] w1 fun e w' => e = .returned (.int .i64 d) ∧ Tch [] w1 w') := Lib.hid (fun w1 => by rw [hd]; exact rOrient a b c p ha hb hc hp w1)
  have C2 : Hid (∀ w1, Calls Tryz.prog 43 #[(.agg #[.int .i64 a.x, .int .i64 a.y, .int .i64 a.z]), (.agg #[.int .i64 b.x, .int .i64 b.y, .int .i64 b.z]), (.agg #[.int .i64 c.x, .int .i64 c.y, .int .i64 c.z])] w1 fun e w' => e = .returned (.agg #[.int .i64 n.x, .int .i64 n.y, .int .i64 n.z]) ∧ Tch [] w1 w') := Lib.hid (fun w1 => by rw [hn]; exact rNormals a b c ha hb hc w1)
  have HO := Lib.hid ho
  clear ho hn hd ha hb hc hp
  have F : Hid (Fr w ((w.alloc (.cells #[.int .i64 a.x, .int .i64 a.y, .int .i64 a.z, .int .i64 b.x, .int .i64 b.y, .int .i64 b.z, .int .i64 c.x, .int .i64 c.y, .int .i64 c.z] 33)).alloc (.cells #[.int .i64 p.x, .int .i64 p.y, .int .i64 p.z] 27)) [(w.heap.size, .cells #[.int .i64 a.x, .int .i64 a.y, .int .i64 a.z, .int .i64 b.x, .int .i64 b.y, .int .i64 b.z, .int .i64 c.x, .int .i64 c.y, .int .i64 c.z] 33 (0, 0)), (w.heap.size + 1, .cells #[.int .i64 p.x, .int .i64 p.y, .int .i64 p.z] 27 (0, 0))]) := Lib.hid (((Fr.nil w).add (.cells #[.int .i64 a.x, .int .i64 a.y, .int .i64 a.z, .int .i64 b.x, .int .i64 b.y, .int .i64 b.z, .int .i64 c.x, .int .i64 c.y, .int .i64 c.z] 33) (w.heap.size) rfl).add (.cells #[.int .i64 p.x, .int .i64 p.y, .int .i64 p.z] 27) (w.heap.size + 1) (by simp))
  obtain ⟨⟨a0, a1, a2⟩, ⟨a3, a4, a5⟩, a6, a7, a8⟩ := F.out.nine 0 rfl; obtain ⟨p0, p1, p2⟩ := F.out.three 1 rfl
  go_enter Tryz.func24, Tryz.ntmps24
  go_wp2_with fail
  refine (C1.out _).mono ?_
  rintro e w0 ⟨rfl, hT⟩
  have F := Lib.hid (F.out.keep hT)
  clear hT C1 a0 a1 a2 a3 a4 a5 a6 a7 a8 p0 p1 p2
  obtain ⟨⟨a0, a1, a2⟩, ⟨a3, a4, a5⟩, a6, a7, a8⟩ := F.out.nine 0 rfl
  go_wp2_with fail
  refine (C2.out _).mono ?_
  rintro e w1 ⟨rfl, hT⟩
  have F := Lib.hid ((F.out.keep hT).add (.cells #[.int .i64 n.x, .int .i64 n.y, .int .i64 n.z] 22) w1.heap.size rfl)
  clear hT C2 a0 a1 a2 a3 a4 a5 a6 a7 a8
  obtain ⟨l, G, SF0⟩ : ∃ l, Fr w (w1.alloc (.cells #[.int .i64 n.x, .int .i64 n.y, .int .i64 n.z] 22)) l ∧ (∀ w9, Fr w w9 l → (w9.cell? ⟨w1.heap.size, 0, none⟩ = some (.int .i64 n.x) ∧ w9.cell? ⟨w1.heap.size, 1, none⟩ = some (.int .i64 n.y) ∧ w9.cell? ⟨w1.heap.size, 2, none⟩ = some (.int .i64 n.z))) := ⟨_, F.out, fun w9 h => h.three 2 rfl⟩
  clear F
  have F := Lib.hid G
  have SF := Lib.hid SF0
  clear G SF0
  go_wp2
  go_loopw [5, 7] (fun sd i wr => ∃ (k : Nat) (v : Int), k ≤ 3 ∧ sd = .int .i64 v ∧ i = .int .i64 (k : Int) ∧ Hid (k = 0 ∧ v = d ∨ k = 1 ∧ d = 0 ∧ v = n.x ∨ k = 2 ∧ d = 0 ∧ n.x = 0 ∧ v = n.y ∨ k = 3 ∧ d = 0 ∧ n.x = 0 ∧ n.y = 0 ∧ v = n.z) ∧ Hid (Fr w wr l))
    (fun _ i _ => 3 - (intOf i).toNat)
  case atStart => exact ⟨0, d, by omega, rfl, rfl, Lib.hid (.inl ⟨rfl, rfl⟩), F⟩
  case round =>
    clear F
    obtain ⟨k, v, hk, rfl, rfl, HV, F⟩ := hrel
    obtain ⟨x0, x1, x2⟩ := SF.out _ F.out
    have HK := Lib.hid hk
    by_cases hv : v = 0
    · rcases (show k = 0 ∨ k = 1 ∨ k = 2 ∨ k = 3 by omega) with rfl | rfl | rfl | rfl
      · have HV2 : Hid (1 = 0 ∧ n.x = d ∨ 1 = 1 ∧ d = 0 ∧ n.x = n.x ∨ 1 = 2 ∧ d = 0 ∧ n.x = 0 ∧ n.x = n.y ∨ 1 = 3 ∧ d = 0 ∧ n.x = 0 ∧ n.y = 0 ∧ n.x = n.z) := Lib.hid (by have h := HV.out; simp_all)
        clear HV HK
        subst hv
        go_wp2
        go_roundw
        case rel => exact ⟨1, n.x, by omega, rfl, by go_num, HV2, F⟩
        case measure => simp [intOf]
      · have HV2 : Hid (2 = 0 ∧ n.y = d ∨ 2 = 1 ∧ d = 0 ∧ n.y = n.x ∨ 2 = 2 ∧ d = 0 ∧ n.x = 0 ∧ n.y = n.y ∨ 2 = 3 ∧ d = 0 ∧ n.x = 0 ∧ n.y = 0 ∧ n.y = n.z) := Lib.hid (by have h := HV.out; simp_all)
        clear HV HK
        subst hv
        go_wp2
        go_roundw
        case rel => exact ⟨2, n.y, by omega, rfl, by go_num, HV2, F⟩
        case measure => simp [intOf]
      · have HV2 : Hid (3 = 0 ∧ n.z = d ∨ 3 = 1 ∧ d = 0 ∧ n.z = n.x ∨ 3 = 2 ∧ d = 0 ∧ n.x = 0 ∧ n.z = n.y ∨ 3 = 3 ∧ d = 0 ∧ n.x = 0 ∧ n.y = 0 ∧ n.z = n.z) := Lib.hid (by have h := HV.out; simp_all)
        clear HV HK
        subst hv
        go_wp2
        go_roundw
        case rel => exact ⟨3, n.z, by omega, rfl, by go_num, HV2, F⟩
        case measure => simp [intOf]
      · have HO2 : Hid (o = v) := Lib.hid (by have h := HV.out; rw [HO.out]; simp_all)
        clear HV HK
        subst hv
        go_wp2
        go_ret
        exact ⟨by rw [HO2.out]; rfl, F.out.t⟩
    · have hv2 : (v == 0) = false := beq_eq_false_iff_ne.2 hv
      have HO2 : Hid (o = v) := Lib.hid (by have h := HV.out; rw [HO.out]; rcases h with ⟨_, h⟩ | ⟨_, e, h⟩ | ⟨_, e, f, h⟩ | ⟨_, e, f, g, h⟩ <;> simp_all)
      clear HV hv
      rcases (show k = 0 ∨ k = 1 ∨ k = 2 ∨ k = 3 from by have := HK.out; omega) with rfl | rfl | rfl | rfl
      all_goals
        clear HK
        go_wp2
        go_ret
        exact ⟨by rw [HO2.out]; rfl, F.out.t⟩

end Go.Proofs.YtandlbacjfdkpaaGreatDoor
