/- The reference's Normal, Facing, Dist2, Side. -/
import Derived.Test.YtmpfgkpimjiecaaDoorRw
import Derived.Test.YtmpfgkpimjiecaaDoorRs2
import Derived.Test.YtmpfgkpimjiecaaDoorRef
import Derived.Test.YtmpfgkpimjiecaaDoorVecE
import Derived.Test.YtmpfgkpimjiecaaDoorNrm
namespace Go.Proofs.YtmpfgkpimjiecaaDoor
open Go Go.RowKit Dg
set_option maxHeartbeats 8000000 in
set_option maxRecDepth 100000 in
theorem rNormal (a b c : P3) (ha : a.Ok) (hb : b.Ok) (hc : c.Ok) (w : World) :
    Calls Tryd.prog 56 #[(.agg #[.int .i64 a.x, .int .i64 a.y, .int .i64 a.z, .int .i64 b.x, .int .i64 b.y, .int .i64 b.z, .int .i64 c.x, .int .i64 c.y, .int .i64 c.z])] w fun e w' => e = .returned (.agg #[.bool (sgz (nrmI a b c).x), .string (moz (nrmI a b c).x), .bool (sgz (nrmI a b c).y), .string (moz (nrmI a b c).y), .bool (sgz (nrmI a b c).z), .string (moz (nrmI a b c).z)]) ∧ Tch [] w w' := by
  obtain ⟨n, hn⟩ : ∃ u, u = nrmI a b c := ⟨_, rfl⟩
  rw [← hn]
  obtain ⟨u, hu⟩ : ∃ u, u = difI a b := ⟨_, rfl⟩
  obtain ⟨v, hv⟩ : ∃ u, u = difI a c := ⟨_, rfl⟩
  have su : u.Sm 65 := by rw [hu]; exact difI_sm ha hb
  have sv : v.Sm 65 := by rw [hv]; exact difI_sm ha hc
  have W1 : Hid (∀ w1, Calls Tryd.prog 79 #[(.agg #[.int .i64 a.x, .int .i64 a.y, .int .i64 a.z]), (.agg #[.int .i64 b.x, .int .i64 b.y, .int .i64 b.z])] w1 fun e w' => e = .returned (.agg #[.bool (sgz u.x), .string (moz u.x), .bool (sgz u.y), .string (moz u.y), .bool (sgz u.z), .string (moz u.z)]) ∧ Tch [] w1 w') := Lib.hid (fun w1 => by rw [hu]; exact rwideV a b ha hb w1)
  have W2 : Hid (∀ w1, Calls Tryd.prog 79 #[(.agg #[.int .i64 a.x, .int .i64 a.y, .int .i64 a.z]), (.agg #[.int .i64 c.x, .int .i64 c.y, .int .i64 c.z])] w1 fun e w' => e = .returned (.agg #[.bool (sgz v.x), .string (moz v.x), .bool (sgz v.y), .string (moz v.y), .bool (sgz v.z), .string (moz v.z)]) ∧ Tch [] w1 w') := Lib.hid (fun w1 => by rw [hv]; exact rwideV a c ha hc w1)
  have W3 : Hid (∀ w1, Calls Tryd.prog 78 #[.agg #[.bool (sgz u.x), .string (moz u.x), .bool (sgz u.y), .string (moz u.y), .bool (sgz u.z), .string (moz u.z)], .agg #[.bool (sgz v.x), .string (moz v.x), .bool (sgz v.y), .string (moz v.y), .bool (sgz v.z), .string (moz v.z)]] w1 fun e w' => e = .returned (.agg #[.bool (sgz n.x), .string (moz n.x), .bool (sgz n.y), .string (moz n.y), .bool (sgz n.z), .string (moz n.z)]) ∧ Tch [] w1 w') := Lib.hid (fun w1 => by rw [show n = crsI u v from by rw [hn, hu, hv]; rfl]; exact rwideProduct u v ⟨su.x.mono (by omega), su.y.mono (by omega), su.z.mono (by omega)⟩ ⟨sv.x.mono (by omega), sv.y.mono (by omega), sv.z.mono (by omega)⟩ w1)
  clear hn hu hv su sv ha hb hc
  have F : Hid (Fr w ((w.alloc (.cells #[.int .i64 a.x, .int .i64 a.y, .int .i64 a.z, .int .i64 b.x, .int .i64 b.y, .int .i64 b.z, .int .i64 c.x, .int .i64 c.y, .int .i64 c.z] 31)).alloc (.cells #[.bool false, .string ⟨#[]⟩, .bool false, .string ⟨#[]⟩, .bool false, .string ⟨#[]⟩] 64)) [(w.heap.size, .cells #[.int .i64 a.x, .int .i64 a.y, .int .i64 a.z, .int .i64 b.x, .int .i64 b.y, .int .i64 b.z, .int .i64 c.x, .int .i64 c.y, .int .i64 c.z] 31 (0, 0)), (w.heap.size + 1, .cells #[.bool false, .string ⟨#[]⟩, .bool false, .string ⟨#[]⟩, .bool false, .string ⟨#[]⟩] 64 (0, 0))]) := Lib.hid (((Fr.nil w).add (.cells #[.int .i64 a.x, .int .i64 a.y, .int .i64 a.z, .int .i64 b.x, .int .i64 b.y, .int .i64 b.z, .int .i64 c.x, .int .i64 c.y, .int .i64 c.z] 31) (w.heap.size) rfl).add (.cells #[.bool false, .string ⟨#[]⟩, .bool false, .string ⟨#[]⟩, .bool false, .string ⟨#[]⟩] 64) (w.heap.size + 1) (by simp))
  have SF := Lib.hid (fun (w4 : World) (h : Fr w w4 [(w.heap.size, .cells #[.int .i64 a.x, .int .i64 a.y, .int .i64 a.z, .int .i64 b.x, .int .i64 b.y, .int .i64 b.z, .int .i64 c.x, .int .i64 c.y, .int .i64 c.z] 31 (0, 0)), (w.heap.size + 1, .cells #[.bool false, .string ⟨#[]⟩, .bool false, .string ⟨#[]⟩, .bool false, .string ⟨#[]⟩] 64 (0, 0))]) => h.nine 0 rfl)
  have ST := Lib.hid (fun (w4 : World) (y0 y1 y2 y3 y4 y5 : Value) (h : Fr w w4 [(w.heap.size, .cells #[.int .i64 a.x, .int .i64 a.y, .int .i64 a.z, .int .i64 b.x, .int .i64 b.y, .int .i64 b.z, .int .i64 c.x, .int .i64 c.y, .int .i64 c.z] 31 (0, 0)), (w.heap.size + 1, .cells #[.bool false, .string ⟨#[]⟩, .bool false, .string ⟨#[]⟩, .bool false, .string ⟨#[]⟩] 64 (0, 0))]) => ((h.only 0 rfl).away6 (b := w.heap.size + 1) (by intro q hq; simp only [List.mem_cons, List.not_mem_nil, or_false] at hq; subst hq; simp) (by omega) y0 y1 y2 y3 y4 y5).nine 0 rfl)
  go_enter Tryd.func56, Tryd.ntmps56
  go_wp2_with fail
  go_region_held3 (fun w4 => ((w4.cell? ⟨w.heap.size, 0, none⟩ = some (.int .i64 a.x) ∧ w4.cell? ⟨w.heap.size, 1, none⟩ = some (.int .i64 a.y) ∧ w4.cell? ⟨w.heap.size, 2, none⟩ = some (.int .i64 a.z)) ∧ (w4.cell? ⟨w.heap.size, 3, none⟩ = some (.int .i64 b.x) ∧ w4.cell? ⟨w.heap.size, 4, none⟩ = some (.int .i64 b.y) ∧ w4.cell? ⟨w.heap.size, 5, none⟩ = some (.int .i64 b.z)) ∧ w4.cell? ⟨w.heap.size, 6, none⟩ = some (.int .i64 c.x) ∧ w4.cell? ⟨w.heap.size, 7, none⟩ = some (.int .i64 c.y) ∧ w4.cell? ⟨w.heap.size, 8, none⟩ = some (.int .i64 c.z))) (first | with_reducible exact SF.out _ F.out | with_reducible exact SF.out _ F.out.drew | with_reducible exact ST.out _ _ _ _ _ _ _ F.out) (first
    | (go_at_call 79; (first | (with_reducible refine (W1.out _).mono ?_) | (with_reducible refine (W2.out _).mono ?_)); rintro e w5 ⟨rfl, hT⟩; (first | (with_reducible have F := Lib.hid (F.out.keep hT)) | (have F := Lib.hid (F.out.drew.keep hT))); clear hT)
    | (go_at_call 78; (with_reducible refine (W3.out _).mono ?_); rintro e w5 ⟨rfl, hT⟩; (first | (with_reducible have F := Lib.hid (F.out.keep hT)) | (have F := Lib.hid (F.out.drew.keep hT))); clear hT; obtain ⟨r0, r1, r2, r3, r4, r5⟩ := F.out.six 1 rfl; obtain ⟨f0, f1, f2, f3, f4, f5⟩ := F.out.fro6 1 rfl)
    | fail)
  all_goals
    go_wp2
    refine bodyPost_ret (v := (.agg #[.bool (sgz n.x), .string (moz n.x), .bool (sgz n.y), .string (moz n.y), .bool (sgz n.z), .string (moz n.z)])) (by simp [results, Tryd.results56, go_sem, r0, r1, r2, r3, r4, r5]) rfl ⟨rfl, ?_⟩
    exact F.out.fin6 1 rfl _ _ _ _ _ _

end Go.Proofs.YtmpfgkpimjiecaaDoor
