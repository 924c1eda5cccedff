/- lithophanelaw02.sanity. -/
import Derived.Test.YtpedbahppkimbaaDoorMet
import Derived.Test.YtpedbahppkimbaaDoorSide
import Derived.Test.YtpedbahppkimbaaDoorNrm
import Derived.Test.YtpedbahppkimbaaDoorRFrom
import Derived.Deep.RegionHeld3
namespace Go.Proofs.YtpedbahppkimbaaDoor
open Go Go.RowKit Dg

theorem i64l {x : Int} (h : (decide (-9223372036854775808 ≤ x) && decide (x ≤ 9223372036854775807)) = true) : I64 x := by
  rw [Bool.and_eq_true] at h; exact ⟨of_decide_eq_true h.1, of_decide_eq_true h.2⟩
theorem okp (x y z : Int) (hx : (decide (-9223372036854775808 ≤ x) && decide (x ≤ 9223372036854775807)) = true) (hy : (decide (-9223372036854775808 ≤ y) && decide (y ≤ 9223372036854775807)) = true) (hz : (decide (-9223372036854775808 ≤ z) && decide (z ≤ 9223372036854775807)) = true) : P3.Ok ⟨x, y, z⟩ := ⟨i64l hx, i64l hy, i64l hz⟩

theorem sn_or (w : World) : Calls Tryd.prog 8 #[.agg #[.int .i64 0, .int .i64 0, .int .i64 0], .agg #[.int .i64 1, .int .i64 0, .int .i64 0], .agg #[.int .i64 0, .int .i64 1, .int .i64 0], .agg #[.int .i64 0, .int .i64 0, .int .i64 1]] w fun e w' => e = .returned (.int .i64 1) ∧ Tch [] w w' := by
  have h := Orient ⟨0, 0, 0⟩ ⟨1, 0, 0⟩ ⟨0, 1, 0⟩ ⟨0, 0, 1⟩ (okp 0 0 0 rfl rfl rfl) (okp 1 0 0 rfl rfl rfl) (okp 0 1 0 rfl rfl rfl) (okp 0 0 1 rfl rfl rfl) w
  rw [show (detI ⟨0, 0, 0⟩ ⟨1, 0, 0⟩ ⟨0, 1, 0⟩ ⟨0, 0, 1⟩).sign = 1 by decide] at h
  exact h

theorem sn_nm (w : World) : Calls Tryd.prog 10 #[.agg #[.int .i64 0, .int .i64 0, .int .i64 0, .int .i64 2, .int .i64 0, .int .i64 0, .int .i64 0, .int .i64 3, .int .i64 0]] w fun e w' => e = .returned (.agg #[.bool false, .string ⟨#[]⟩, .bool false, .string ⟨#[]⟩, .bool (sgz 6), .string (moz 6)]) ∧ Tch [] w w' := by
  have h := Normal ⟨0, 0, 0⟩ ⟨2, 0, 0⟩ ⟨0, 3, 0⟩ (okp 0 0 0 rfl rfl rfl) (okp 2 0 0 rfl rfl rfl) (okp 0 3 0 rfl rfl rfl) w
  rw [show nrmI ⟨0, 0, 0⟩ ⟨2, 0, 0⟩ ⟨0, 3, 0⟩ = ⟨0, 0, 6⟩ from rfl] at h
  dsimp only at h
  rw [sgz_zero, moz_zero] at h
  exact h
theorem sn_rf (w : World) : Calls Tryd.prog 11 #[.int .i64 6] w fun e w' => e = .returned (.agg #[.bool (sgz 6), .string (moz 6)]) ∧ Tch [] w w' := by
  have h := rFrom 6 (by decide) (by decide) w
  rw [wz_sm] at h
  exact h

theorem sn_s1 (w : World) : Calls Tryd.prog 12 #[.agg #[.int .i64 0, .int .i64 0, .int .i64 0, .int .i64 2, .int .i64 0, .int .i64 0, .int .i64 0, .int .i64 3, .int .i64 0], .agg #[.int .i64 1, .int .i64 1, .int .i64 0]] w fun e w' => e = .returned (.int .i64 1) ∧ Tch [] w w' := by
  have h := Side ⟨0, 0, 0⟩ ⟨2, 0, 0⟩ ⟨0, 3, 0⟩ ⟨1, 1, 0⟩ (okp 0 0 0 rfl rfl rfl) (okp 2 0 0 rfl rfl rfl) (okp 0 3 0 rfl rfl rfl) (okp 1 1 0 rfl rfl rfl) w
  rw [show sideI ⟨0, 0, 0⟩ ⟨2, 0, 0⟩ ⟨0, 3, 0⟩ ⟨1, 1, 0⟩ = 1 by decide] at h
  exact h

theorem sn_s2 (w : World) : Calls Tryd.prog 12 #[.agg #[.int .i64 0, .int .i64 0, .int .i64 0, .int .i64 0, .int .i64 3, .int .i64 0, .int .i64 2, .int .i64 0, .int .i64 0], .agg #[.int .i64 1, .int .i64 1, .int .i64 0]] w fun e w' => e = .returned (.int .i64 (-1)) ∧ Tch [] w w' := by
  have h := Side ⟨0, 0, 0⟩ ⟨0, 3, 0⟩ ⟨2, 0, 0⟩ ⟨1, 1, 0⟩ (okp 0 0 0 rfl rfl rfl) (okp 0 3 0 rfl rfl rfl) (okp 2 0 0 rfl rfl rfl) (okp 1 1 0 rfl rfl rfl) w
  rw [show sideI ⟨0, 0, 0⟩ ⟨0, 3, 0⟩ ⟨2, 0, 0⟩ ⟨1, 1, 0⟩ = -1 by decide] at h
  exact h

theorem sn_t1 (w : World) : Calls Tryd.prog 9 #[.agg #[.int .i64 0, .int .i64 0, .int .i64 1], .agg #[.int .i64 0, .int .i64 0, .int .i64 (-1)], .agg #[.int .i64 0, .int .i64 0, .int .i64 0, .int .i64 2, .int .i64 0, .int .i64 0, .int .i64 0, .int .i64 3, .int .i64 0]] w fun e w' => e = .returned (.bool true) ∧ Tch [] w w' := by
  have h := TouchN ⟨0, 0, 1⟩ ⟨0, 0, -1⟩ ⟨0, 0, 0⟩ ⟨2, 0, 0⟩ ⟨0, 3, 0⟩ (okp 0 0 1 rfl rfl rfl) (okp 0 0 (-1) rfl rfl rfl) (okp 0 0 0 rfl rfl rfl) (okp 2 0 0 rfl rfl rfl) (okp 0 3 0 rfl rfl rfl) (by decide) w
  rw [show touchN ⟨0, 0, 1⟩ ⟨0, 0, -1⟩ ⟨0, 0, 0⟩ ⟨2, 0, 0⟩ ⟨0, 3, 0⟩ = true by decide] at h
  exact h

theorem sn_t2 (w : World) : Calls Tryd.prog 9 #[.agg #[.int .i64 5, .int .i64 5, .int .i64 1], .agg #[.int .i64 5, .int .i64 5, .int .i64 (-1)], .agg #[.int .i64 0, .int .i64 0, .int .i64 0, .int .i64 2, .int .i64 0, .int .i64 0, .int .i64 0, .int .i64 3, .int .i64 0]] w fun e w' => e = .returned (.bool false) ∧ Tch [] w w' := by
  have h := TouchN ⟨5, 5, 1⟩ ⟨5, 5, -1⟩ ⟨0, 0, 0⟩ ⟨2, 0, 0⟩ ⟨0, 3, 0⟩ (okp 5 5 1 rfl rfl rfl) (okp 5 5 (-1) rfl rfl rfl) (okp 0 0 0 rfl rfl rfl) (okp 2 0 0 rfl rfl rfl) (okp 0 3 0 rfl rfl rfl) (by decide) w
  rw [show touchN ⟨5, 5, 1⟩ ⟨5, 5, -1⟩ ⟨0, 0, 0⟩ ⟨2, 0, 0⟩ ⟨0, 3, 0⟩ = false by decide] at h
  exact h

theorem sn_m1 (w : World) : Calls Tryd.prog 13 #[.agg #[.int .i64 0, .int .i64 0, .int .i64 0, .int .i64 2, .int .i64 0, .int .i64 0, .int .i64 0, .int .i64 3, .int .i64 0], .agg #[.int .i64 0, .int .i64 0, .int .i64 0, .int .i64 1, .int .i64 1, .int .i64 5, .int .i64 (-1), .int .i64 2, .int .i64 5]] w fun e w' => e = .returned (.bool false) ∧ Tch [] w w' := by
  have h := MeetOne ⟨0, 0, 0⟩ ⟨2, 0, 0⟩ ⟨0, 3, 0⟩ ⟨0, 0, 0⟩ ⟨1, 1, 5⟩ ⟨-1, 2, 5⟩ ⟨okp 0 0 0 rfl rfl rfl, okp 2 0 0 rfl rfl rfl, okp 0 3 0 rfl rfl rfl, okp 0 0 0 rfl rfl rfl, okp 1 1 5 rfl rfl rfl, okp (-1) 2 5 rfl rfl rfl, by decide, by decide, rfl, rfl⟩ (by decide) (by decide) (by decide) w
  rw [show (touchN ⟨2, 0, 0⟩ ⟨0, 3, 0⟩ ⟨0, 0, 0⟩ ⟨1, 1, 5⟩ ⟨-1, 2, 5⟩ || touchN ⟨1, 1, 5⟩ ⟨-1, 2, 5⟩ ⟨0, 0, 0⟩ ⟨2, 0, 0⟩ ⟨0, 3, 0⟩) = false by decide] at h
  exact h

theorem sn_m2 (w : World) : Calls Tryd.prog 13 #[.agg #[.int .i64 0, .int .i64 0, .int .i64 0, .int .i64 2, .int .i64 0, .int .i64 0, .int .i64 0, .int .i64 3, .int .i64 0], .agg #[.int .i64 0, .int .i64 0, .int .i64 0, .int .i64 1, .int .i64 1, .int .i64 0, .int .i64 (-1), .int .i64 2, .int .i64 5]] w fun e w' => e = .returned (.bool true) ∧ Tch [] w w' := by
  have h := MeetOne ⟨0, 0, 0⟩ ⟨2, 0, 0⟩ ⟨0, 3, 0⟩ ⟨0, 0, 0⟩ ⟨1, 1, 0⟩ ⟨-1, 2, 5⟩ ⟨okp 0 0 0 rfl rfl rfl, okp 2 0 0 rfl rfl rfl, okp 0 3 0 rfl rfl rfl, okp 0 0 0 rfl rfl rfl, okp 1 1 0 rfl rfl rfl, okp (-1) 2 5 rfl rfl rfl, by decide, by decide, rfl, rfl⟩ (by decide) (by decide) (by decide) w
  rw [show (touchN ⟨2, 0, 0⟩ ⟨0, 3, 0⟩ ⟨0, 0, 0⟩ ⟨1, 1, 0⟩ ⟨-1, 2, 5⟩ || touchN ⟨1, 1, 0⟩ ⟨-1, 2, 5⟩ ⟨0, 0, 0⟩ ⟨2, 0, 0⟩ ⟨0, 3, 0⟩) = true by decide] at h
  exact h

theorem sn_m3 (w : World) : Calls Tryd.prog 13 #[.agg #[.int .i64 0, .int .i64 0, .int .i64 0, .int .i64 2, .int .i64 0, .int .i64 0, .int .i64 0, .int .i64 3, .int .i64 0], .agg #[.int .i64 2, .int .i64 0, .int .i64 0, .int .i64 0, .int .i64 0, .int .i64 0, .int .i64 1, .int .i64 (-4), .int .i64 0]] w fun e w' => e = .returned (.bool false) ∧ Tch [] w w' := by
  have h := MeetTwo ⟨0, 0, 0⟩ ⟨2, 0, 0⟩ ⟨0, 3, 0⟩ ⟨2, 0, 0⟩ ⟨0, 0, 0⟩ ⟨1, -4, 0⟩ ⟨okp 0 0 0 rfl rfl rfl, okp 2 0 0 rfl rfl rfl, okp 0 3 0 rfl rfl rfl, okp 2 0 0 rfl rfl rfl, okp 0 0 0 rfl rfl rfl, okp 1 (-4) 0 rfl rfl rfl, by decide, by decide, rfl, rfl⟩ (by decide) w
  rw [show ((detI ⟨0, 0, 0⟩ ⟨2, 0, 0⟩ ⟨0, 3, 0⟩ ⟨1, -4, 0⟩).sign == 0 && sameI ⟨0, 0, 0⟩ ⟨2, 0, 0⟩ ⟨0, 3, 0⟩ ⟨1, -4, 0⟩) = false by decide] at h
  exact h

theorem sn_m4 (w : World) : Calls Tryd.prog 13 #[.agg #[.int .i64 0, .int .i64 0, .int .i64 0, .int .i64 2, .int .i64 0, .int .i64 0, .int .i64 0, .int .i64 3, .int .i64 0], .agg #[.int .i64 2, .int .i64 0, .int .i64 0, .int .i64 0, .int .i64 0, .int .i64 0, .int .i64 1, .int .i64 4, .int .i64 0]] w fun e w' => e = .returned (.bool true) ∧ Tch [] w w' := by
  have h := MeetTwo ⟨0, 0, 0⟩ ⟨2, 0, 0⟩ ⟨0, 3, 0⟩ ⟨2, 0, 0⟩ ⟨0, 0, 0⟩ ⟨1, 4, 0⟩ ⟨okp 0 0 0 rfl rfl rfl, okp 2 0 0 rfl rfl rfl, okp 0 3 0 rfl rfl rfl, okp 2 0 0 rfl rfl rfl, okp 0 0 0 rfl rfl rfl, okp 1 4 0 rfl rfl rfl, by decide, by decide, rfl, rfl⟩ (by decide) w
  rw [show ((detI ⟨0, 0, 0⟩ ⟨2, 0, 0⟩ ⟨0, 3, 0⟩ ⟨1, 4, 0⟩).sign == 0 && sameI ⟨0, 0, 0⟩ ⟨2, 0, 0⟩ ⟨0, 3, 0⟩ ⟨1, 4, 0⟩) = true by decide] at h
  exact h

set_option maxHeartbeats 8000000 in
set_option maxRecDepth 100000 in
/-- The examples of the chapter hold. -/
theorem sanity (w : World) :
    Calls Tryd.prog 4 #[] w fun e w' => e = .returned (.bool true) ∧ Tch [] w w' := by
  have h1 := sn_or
  have h2 := sn_nm
  have h3 := sn_rf
  obtain ⟨b6, hb6⟩ : ∃ b6, b6 = sgz 6 := ⟨_, rfl⟩
  obtain ⟨s6, hs6⟩ : ∃ s6, s6 = moz 6 := ⟨_, rfl⟩
  rw [← hb6, ← hs6] at h2 h3
  have H1 := Lib.hid h1
  have H2 := Lib.hid h2
  have H3 := Lib.hid h3
  have H4 := Lib.hid sn_s1
  have H5 := Lib.hid sn_s2
  have H6 := Lib.hid sn_t1
  have H7 := Lib.hid sn_t2
  have H8 := Lib.hid sn_m1
  have H9 := Lib.hid sn_m2
  have H10 := Lib.hid sn_m3
  have H11 := Lib.hid sn_m4
  clear h1 h2 h3 hb6 hs6
  have F0 : Hid (Fr w ((w.alloc (.cells #[.int .i64 0, .int .i64 0, .int .i64 0] 26)).alloc (.cells #[.int .i64 0, .int .i64 0, .int .i64 0, .int .i64 2, .int .i64 0, .int .i64 0, .int .i64 0, .int .i64 3, .int .i64 0] 28)) [(w.heap.size, .cells #[.int .i64 0, .int .i64 0, .int .i64 0] 26 (0, 0)), (w.heap.size + 1, .cells #[.int .i64 0, .int .i64 0, .int .i64 0, .int .i64 2, .int .i64 0, .int .i64 0, .int .i64 0, .int .i64 3, .int .i64 0] 28 (0, 0))]) := Lib.hid (((Fr.nil w).add (.cells #[.int .i64 0, .int .i64 0, .int .i64 0] 26) w.heap.size rfl).add (.cells #[.int .i64 0, .int .i64 0, .int .i64 0, .int .i64 2, .int .i64 0, .int .i64 0, .int .i64 0, .int .i64 3, .int .i64 0] 28) (w.heap.size + 1) (by simp))
  obtain ⟨⟨t0, t1, t2⟩, ⟨t3, t4, t5⟩, t6, t7, t8⟩ := F0.out.nine 1 rfl
  go_enter Tryd.func4, Tryd.ntmps4
  go_wp2_with fail
  refine (H2.out _).mono ?_
  rintro e w1 ⟨rfl, hT⟩
  have F1 : Hid (Fr w (w1.alloc (.cells #[.bool false, .string ⟨#[]⟩, .bool false, .string ⟨#[]⟩, .bool b6, .string s6] 37)) [(w.heap.size, .cells #[.int .i64 0, .int .i64 0, .int .i64 0] 26 (0, 0)), (w.heap.size + 1, .cells #[.int .i64 0, .int .i64 0, .int .i64 0, .int .i64 2, .int .i64 0, .int .i64 0, .int .i64 0, .int .i64 3, .int .i64 0] 28 (0, 0)), (w1.heap.size, .cells #[.bool false, .string ⟨#[]⟩, .bool false, .string ⟨#[]⟩, .bool b6, .string s6] 37 (0, 0))]) := Lib.hid ((F0.out.keep hT).add (.cells #[.bool false, .string ⟨#[]⟩, .bool false, .string ⟨#[]⟩, .bool b6, .string s6] 37) w1.heap.size rfl)
  have SF := Lib.hid (fun (w4 : World) (h : Fr w w4 [(w.heap.size, .cells #[.int .i64 0, .int .i64 0, .int .i64 0] 26 (0, 0)), (w.heap.size + 1, .cells #[.int .i64 0, .int .i64 0, .int .i64 0, .int .i64 2, .int .i64 0, .int .i64 0, .int .i64 0, .int .i64 3, .int .i64 0] 28 (0, 0)), (w1.heap.size, .cells #[.bool false, .string ⟨#[]⟩, .bool false, .string ⟨#[]⟩, .bool b6, .string s6] 37 (0, 0))]) => And.intro (h.three 0 rfl) (h.six 2 rfl))
  clear hT F0 t0 t1 t2 t3 t4 t5 t6 t7 t8
  have F := F1
  go_wp2_with fail
  go_region_held3 (fun w4 => (w4.cell? ⟨w.heap.size, 0, none⟩ = some (.int .i64 0) ∧ w4.cell? ⟨w.heap.size, 1, none⟩ = some (.int .i64 0) ∧ w4.cell? ⟨w.heap.size, 2, none⟩ = some (.int .i64 0)) ∧ w4.cell? ⟨w1.heap.size, 0, none⟩ = some (.bool false) ∧ w4.cell? ⟨w1.heap.size, 1, none⟩ = some (.string ⟨#[]⟩) ∧ w4.cell? ⟨w1.heap.size, 2, none⟩ = some (.bool false) ∧ w4.cell? ⟨w1.heap.size, 3, none⟩ = some (.string ⟨#[]⟩) ∧ w4.cell? ⟨w1.heap.size, 4, none⟩ = some (.bool b6) ∧ w4.cell? ⟨w1.heap.size, 5, none⟩ = some (.string s6)) (first | with_reducible exact SF.out _ F.out | with_reducible exact SF.out _ F.out.drew) (first
    | (go_at_call 8; (with_reducible refine (H1.out _).mono ?_); rintro e w4 ⟨rfl, hT⟩; (first | (with_reducible have F := Lib.hid (F.out.keep hT)) | (have F := Lib.hid (F.out.drew.keep hT))); clear hT)
    | (go_at_call 11; (with_reducible refine (H3.out _).mono ?_); rintro e w4 ⟨rfl, hT⟩; have F := Lib.hid (F.out.keep hT); clear hT))
  all_goals
    clear SF H1 H2 H3
    obtain ⟨o0, o1, o2⟩ := F.out.three 0 rfl; obtain ⟨⟨t0, t1, t2⟩, ⟨t3, t4, t5⟩, t6, t7, t8⟩ := F.out.nine 1 rfl
    go_wp2_with (first
      | (go_at_call 12; (first | (with_reducible refine (H4.out _).mono ?_) | (with_reducible refine (H5.out _).mono ?_)); rintro e w4 ⟨rfl, hT⟩; have F := Lib.hid (F.out.keep hT); clear hT o0 o1 o2 t0 t1 t2 t3 t4 t5 t6 t7 t8; obtain ⟨o0, o1, o2⟩ := F.out.three 0 rfl; obtain ⟨⟨t0, t1, t2⟩, ⟨t3, t4, t5⟩, t6, t7, t8⟩ := F.out.nine 1 rfl)
      | (go_at_call 9; (first | (with_reducible refine (H6.out _).mono ?_) | (with_reducible refine (H7.out _).mono ?_)); rintro e w4 ⟨rfl, hT⟩; have F := Lib.hid (F.out.keep hT); clear hT o0 o1 o2 t0 t1 t2 t3 t4 t5 t6 t7 t8; obtain ⟨o0, o1, o2⟩ := F.out.three 0 rfl; obtain ⟨⟨t0, t1, t2⟩, ⟨t3, t4, t5⟩, t6, t7, t8⟩ := F.out.nine 1 rfl)
      | (go_at_call 13; (first | (with_reducible refine (H8.out _).mono ?_) | (with_reducible refine (H9.out _).mono ?_) | (with_reducible refine (H10.out _).mono ?_) | (with_reducible refine (H11.out _).mono ?_)); rintro e w4 ⟨rfl, hT⟩; have F := Lib.hid (F.out.keep hT); clear hT o0 o1 o2 t0 t1 t2 t3 t4 t5 t6 t7 t8; obtain ⟨o0, o1, o2⟩ := F.out.three 0 rfl; obtain ⟨⟨t0, t1, t2⟩, ⟨t3, t4, t5⟩, t6, t7, t8⟩ := F.out.nine 1 rfl))
    go_ret
    exact ⟨rfl, F.out.t⟩

end Go.Proofs.YtpedbahppkimbaaDoor
