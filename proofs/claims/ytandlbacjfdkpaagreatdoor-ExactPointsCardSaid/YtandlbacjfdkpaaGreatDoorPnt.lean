/- lithophaneref02.Point, lithophanelaw02.point. -/
import Derived.Test.YtandlbacjfdkpaaGreatDoorVecA
import Derived.Test.YtandlbacjfdkpaaGreatDoorVecE
namespace Go.Proofs.YtandlbacjfdkpaaGreatDoor
open Go Go.RowKit Dg

set_option maxHeartbeats 1000000 in
set_option maxRecDepth 100000 in
theorem rPoint (a : P3) (w : World) : Calls Tryz.prog 34 #[.agg #[.int .i64 a.x, .int .i64 a.y, .int .i64 a.z]] w fun e w' => e = .returned (.agg #[.int .i64 a.x, .int .i64 a.y, .int .i64 a.z]) ∧ Tch [] w w' := by
  go_enter Tryz.func34, Tryz.ntmps34
  go_wp2
  exact bodyPost_ret (v := .agg #[.int .i64 a.x, .int .i64 a.y, .int .i64 a.z]) (by simp [results, Tryz.results34, go_sem]) rfl ⟨rfl, ((Tch.refl [] w).alloc _).alloc _⟩

set_option maxHeartbeats 1000000 in
set_option maxRecDepth 100000 in
theorem lPoint (a : P3) (w : World) : Calls Tryz.prog 10 #[.agg #[.int .i64 a.x, .int .i64 a.y, .int .i64 a.z]] w fun e w' => e = .returned (.agg #[.int .i64 a.x, .int .i64 a.y, .int .i64 a.z]) ∧ Tch [] w w' := by
  have C := Lib.hid (fun w1 => rPoint a w1)
  have F : Hid (Fr w ((w.alloc (.cells #[.int .i64 a.x, .int .i64 a.y, .int .i64 a.z] 22)).alloc (.cells #[.int .i64 0, .int .i64 0, .int .i64 0] 27)) [(w.heap.size, .cells #[.int .i64 a.x, .int .i64 a.y, .int .i64 a.z] 22 (0, 0)), (w.heap.size + 1, .cells #[.int .i64 0, .int .i64 0, .int .i64 0] 27 (0, 0))]) := Lib.hid (((Fr.nil w).add (.cells #[.int .i64 a.x, .int .i64 a.y, .int .i64 a.z] 22) w.heap.size rfl).add (.cells #[.int .i64 0, .int .i64 0, .int .i64 0] 27) (w.heap.size + 1) (by simp))
  obtain ⟨a0, a1, a2⟩ := F.out.three 0 rfl
  go_enter Tryz.func10, Tryz.ntmps10
  go_wp2_with fail
  refine (C.out _).mono ?_
  rintro e w1 ⟨rfl, hT⟩
  have F1 := Lib.hid (F.out.keep hT)
  clear hT a0 a1 a2
  obtain ⟨r0, r1, r2⟩ := F1.out.three 1 rfl
  obtain ⟨f0, f1, f2⟩ := F1.out.fro3 1 rfl
  go_wp2
  exact bodyPost_ret (v := .agg #[.int .i64 a.x, .int .i64 a.y, .int .i64 a.z]) (by simp [results, Tryz.results10, go_sem, r0, r1, r2]) rfl ⟨rfl, F1.out.fin3 1 rfl _ _ _⟩

end Go.Proofs.YtandlbacjfdkpaaGreatDoor
