/- The walk of ExactPoints. -/
import Derived.Test.YtandlbacjfdkpaaGreatDoorSan2
import Derived.Test.YtandlbacjfdkpaaGreatDoorAg
import Derived.Test.YtandlbacjfdkpaaGreatDoorPnt
namespace Go.Proofs.YtandlbacjfdkpaaGreatDoor
open Go Go.RowKit Dg

set_option maxHeartbeats 16000000 in
set_option maxRecDepth 100000 in
theorem po_walk (a b c d : P3) (oa : a.Ok) (ob : b.Ok) (oc : c.Ok) (od : d.Ok) (w : World) :
    Calls Tryz.prog 3 #[.agg #[.int .i64 a.x, .int .i64 a.y, .int .i64 a.z], .agg #[.int .i64 b.x, .int .i64 b.y, .int .i64 b.z], .agg #[.int .i64 c.x, .int .i64 c.y, .int .i64 c.z, .int .i64 d.x, .int .i64 d.y, .int .i64 d.z]] w fun e w' => e = .returned (.bool true) ∧ Tch [] w w' := by
  have Ga : Hid (∀ w1, Calls Tryz.prog 10 #[.agg #[.int .i64 a.x, .int .i64 a.y, .int .i64 a.z]] w1 fun e w' => e = .returned (.agg #[.int .i64 a.x, .int .i64 a.y, .int .i64 a.z]) ∧ Tch [] w1 w') := Lib.hid (fun w1 => by exact lPoint a w1)
  have Gb : Hid (∀ w1, Calls Tryz.prog 10 #[.agg #[.int .i64 b.x, .int .i64 b.y, .int .i64 b.z]] w1 fun e w' => e = .returned (.agg #[.int .i64 b.x, .int .i64 b.y, .int .i64 b.z]) ∧ Tch [] w1 w') := Lib.hid (fun w1 => by exact lPoint b w1)
  have Gc : Hid (∀ w1, Calls Tryz.prog 10 #[.agg #[.int .i64 c.x, .int .i64 c.y, .int .i64 c.z]] w1 fun e w' => e = .returned (.agg #[.int .i64 c.x, .int .i64 c.y, .int .i64 c.z]) ∧ Tch [] w1 w') := Lib.hid (fun w1 => by exact lPoint c w1)
  have Gd : Hid (∀ w1, Calls Tryz.prog 10 #[.agg #[.int .i64 d.x, .int .i64 d.y, .int .i64 d.z]] w1 fun e w' => e = .returned (.agg #[.int .i64 d.x, .int .i64 d.y, .int .i64 d.z]) ∧ Tch [] w1 w') := Lib.hid (fun w1 => by exact lPoint d w1)
  have C1 : Hid (∀ w1, Calls Tryz.prog 9 #[.agg #[.int .i64 a.x, .int .i64 a.y, .int .i64 a.z], .agg #[.int .i64 b.x, .int .i64 b.y, .int .i64 b.z], .agg #[.int .i64 c.x, .int .i64 c.y, .int .i64 c.z], .agg #[.int .i64 d.x, .int .i64 d.y, .int .i64 d.z]] w1 fun e w' => e = .returned (.bool true) ∧ Tch [] w1 w') := Lib.hid (fun w1 => by exact agrees a b c d oa ob oc od w1)
  have C2 : Hid (∀ w1, Calls Tryz.prog 9 #[.agg #[.int .i64 a.x, .int .i64 a.y, .int .i64 a.z], .agg #[.int .i64 c.x, .int .i64 c.y, .int .i64 c.z], .agg #[.int .i64 a.x, .int .i64 a.y, .int .i64 a.z], .agg #[.int .i64 b.x, .int .i64 b.y, .int .i64 b.z]] w1 fun e w' => e = .returned (.bool true) ∧ Tch [] w1 w') := Lib.hid (fun w1 => by exact agrees a c a b oa oc oa ob w1)
  have C3 : Hid (∀ w1, Calls Tryz.prog 9 #[.agg #[.int .i64 b.x, .int .i64 b.y, .int .i64 b.z], .agg #[.int .i64 b.x, .int .i64 b.y, .int .i64 b.z], .agg #[.int .i64 d.x, .int .i64 d.y, .int .i64 d.z], .agg #[.int .i64 a.x, .int .i64 a.y, .int .i64 a.z]] w1 fun e w' => e = .returned (.bool true) ∧ Tch [] w1 w') := Lib.hid (fun w1 => by exact agrees b b d a ob ob od oa w1)
  have CS := Lib.hid (fun w1 => sanity w1)
  clear oa ob oc od
  have F : Hid (Fr w (((w.alloc (.cells #[.int .i64 a.x, .int .i64 a.y, .int .i64 a.z] 22)).alloc (.cells #[.int .i64 b.x, .int .i64 b.y, .int .i64 b.z] 22)).alloc (.cells #[.int .i64 c.x, .int .i64 c.y, .int .i64 c.z, .int .i64 d.x, .int .i64 d.y, .int .i64 d.z] 23)) [(w.heap.size, .cells #[.int .i64 a.x, .int .i64 a.y, .int .i64 a.z] 22 (0, 0)), (w.heap.size + 1, .cells #[.int .i64 b.x, .int .i64 b.y, .int .i64 b.z] 22 (0, 0)), (w.heap.size + 1 + 1, .cells #[.int .i64 c.x, .int .i64 c.y, .int .i64 c.z, .int .i64 d.x, .int .i64 d.y, .int .i64 d.z] 23 (0, 0))]) := Lib.hid ((((Fr.nil w).add (.cells #[.int .i64 a.x, .int .i64 a.y, .int .i64 a.z] 22) (w.heap.size) rfl).add (.cells #[.int .i64 b.x, .int .i64 b.y, .int .i64 b.z] 22) (w.heap.size + 1) (by simp)).add (.cells #[.int .i64 c.x, .int .i64 c.y, .int .i64 c.z, .int .i64 d.x, .int .i64 d.y, .int .i64 d.z] 23) (w.heap.size + 1 + 1) (by simp))
  have SF := Lib.hid (fun (w9 : World) (h : Fr w w9 [(w.heap.size, .cells #[.int .i64 a.x, .int .i64 a.y, .int .i64 a.z] 22 (0, 0)), (w.heap.size + 1, .cells #[.int .i64 b.x, .int .i64 b.y, .int .i64 b.z] 22 (0, 0)), (w.heap.size + 1 + 1, .cells #[.int .i64 c.x, .int .i64 c.y, .int .i64 c.z, .int .i64 d.x, .int .i64 d.y, .int .i64 d.z] 23 (0, 0))]) => And.intro (h.three 0 rfl) (And.intro (h.three 1 rfl) (h.six 2 rfl)))
  go_enter Tryz.func3, Tryz.ntmps3
  go_wp2_with fail
  refine (CS.out _).mono ?_
  rintro e w1 ⟨rfl, hT⟩
  have F := Lib.hid (F.out.keep hT)
  clear hT CS
  go_upto_region 2 with (fail)
  go_region_held3 (fun w9 => (w9.cell? ⟨w.heap.size, 0, none⟩ = some (.int .i64 a.x) ∧ w9.cell? ⟨w.heap.size, 1, none⟩ = some (.int .i64 a.y) ∧ w9.cell? ⟨w.heap.size, 2, none⟩ = some (.int .i64 a.z)) ∧ (w9.cell? ⟨w.heap.size + 1, 0, none⟩ = some (.int .i64 b.x) ∧ w9.cell? ⟨w.heap.size + 1, 1, none⟩ = some (.int .i64 b.y) ∧ w9.cell? ⟨w.heap.size + 1, 2, none⟩ = some (.int .i64 b.z)) ∧ (w9.cell? ⟨w.heap.size + 1 + 1, 0, none⟩ = some (.int .i64 c.x) ∧ w9.cell? ⟨w.heap.size + 1 + 1, 1, none⟩ = some (.int .i64 c.y) ∧ w9.cell? ⟨w.heap.size + 1 + 1, 2, none⟩ = some (.int .i64 c.z) ∧ w9.cell? ⟨w.heap.size + 1 + 1, 3, none⟩ = some (.int .i64 d.x) ∧ w9.cell? ⟨w.heap.size + 1 + 1, 4, none⟩ = some (.int .i64 d.y) ∧ w9.cell? ⟨w.heap.size + 1 + 1, 5, none⟩ = some (.int .i64 d.z))) (first | with_reducible exact SF.out _ F.out | with_reducible exact SF.out _ F.out.drew) (first
    | (go_at_call 10; (first | (with_reducible refine (Ga.out _).mono ?_) | (with_reducible refine (Gb.out _).mono ?_) | (with_reducible refine (Gc.out _).mono ?_) | (with_reducible refine (Gd.out _).mono ?_)); rintro e w5 ⟨rfl, hT⟩; (first | (with_reducible have F := Lib.hid (F.out.keep hT)) | (have F := Lib.hid (F.out.drew.keep hT))); clear hT)
    | (go_at_call 9; (first | (with_reducible refine (C1.out _).mono ?_) | (with_reducible refine (C2.out _).mono ?_) | (with_reducible refine (C3.out _).mono ?_)); rintro e w5 ⟨rfl, hT⟩; (first | (with_reducible have F := Lib.hid (F.out.keep hT)) | (have F := Lib.hid (F.out.drew.keep hT))); clear hT)
    | fail)
  go_wp2
  go_ret
  exact ⟨rfl, F.out.t⟩

end Go.Proofs.YtandlbacjfdkpaaGreatDoor
