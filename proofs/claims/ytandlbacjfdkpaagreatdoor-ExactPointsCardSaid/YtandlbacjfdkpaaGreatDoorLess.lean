/- exact.Less. -/
import Derived.Test.YtandlbacjfdkpaaGreatDoorVecB
import Derived.Test.YtandlbacjfdkpaaGreatDoorVecA
namespace Go.Proofs.YtandlbacjfdkpaaGreatDoor
open Go Go.RowKit Dg

/-- What is left of the comparison behind k coordinates. -/
def lst (a b : P3) (k : Nat) : Bool :=
  match k with
  | 0 => if a.x = b.x then (if a.y = b.y then (if a.z = b.z then false else decide (a.z < b.z)) else decide (a.y < b.y)) else decide (a.x < b.x)
  | 1 => if a.y = b.y then (if a.z = b.z then false else decide (a.z < b.z)) else decide (a.y < b.y)
  | 2 => if a.z = b.z then false else decide (a.z < b.z)
  | _ => false
/-- The order of points. -/
def lessI (a b : P3) : Bool := lst a b 0

set_option maxHeartbeats 2000000 in
set_option maxRecDepth 100000 in
theorem Less (a b : P3) (w : World) :
    Calls Tryz.prog 32 #[.agg #[.int .i64 a.x, .int .i64 a.y, .int .i64 a.z], .agg #[.int .i64 b.x, .int .i64 b.y, .int .i64 b.z]] w fun e w' => e = .returned (.bool (lessI a b)) ∧ Tch [] w w' := by
  have CF := Lib.hid (fun w1 => xfields w1)
  have PX := Lib.hid (fun p w1 => pointX p w1)
  have PY := Lib.hid (fun p w1 => pointY p w1)
  have PZ := Lib.hid (fun p w1 => pointZ p w1)
  have F0 : Hid (Fr w ((w.alloc (.cells #[.int .i64 a.x, .int .i64 a.y, .int .i64 a.z] 27)).alloc (.cells #[.int .i64 b.x, .int .i64 b.y, .int .i64 b.z] 27)) [(w.heap.size, .cells #[.int .i64 a.x, .int .i64 a.y, .int .i64 a.z] 27 (0, 0)), (w.heap.size + 1, .cells #[.int .i64 b.x, .int .i64 b.y, .int .i64 b.z] 27 (0, 0))]) := Lib.hid (((Fr.nil w).add (.cells #[.int .i64 a.x, .int .i64 a.y, .int .i64 a.z] 27) w.heap.size rfl).add (.cells #[.int .i64 b.x, .int .i64 b.y, .int .i64 b.z] 27) (w.heap.size + 1) (by simp))
  have SF := Lib.hid (fun (w4 : World) (h : Fr w w4 [(w.heap.size, .cells #[.int .i64 a.x, .int .i64 a.y, .int .i64 a.z] 27 (0, 0)), (w.heap.size + 1, .cells #[.int .i64 b.x, .int .i64 b.y, .int .i64 b.z] 27 (0, 0))]) => And.intro (h.three 0 rfl) (h.three 1 rfl))
  obtain ⟨o, ho⟩ : ∃ o, o = lessI a b := ⟨_, rfl⟩
  rw [← ho]
  have HO : Hid (o = lst a b 0) := Lib.hid ho
  clear ho
  go_enter Tryz.func32, Tryz.ntmps32
  go_wp2_with fail
  refine (CF.out _).mono ?_
  rintro e w1 ⟨rfl, hT⟩
  have F := Lib.hid (F0.out.keep hT)
  clear hT F0
  go_wp2
  go_loopw [10] (fun i wr => ∃ k : Nat, k ≤ 3 ∧ i = .int .i64 (k : Int) ∧ Hid (o = lst a b k) ∧ Hid (Fr w wr [(w.heap.size, .cells #[.int .i64 a.x, .int .i64 a.y, .int .i64 a.z] 27 (0, 0)), (w.heap.size + 1, .cells #[.int .i64 b.x, .int .i64 b.y, .int .i64 b.z] 27 (0, 0))]))
    (fun i _ => 3 - (intOf i).toNat)
  case atStart => exact ⟨0, by omega, rfl, HO, F⟩
  case round =>
    obtain ⟨k, hk, rfl, HV, F⟩ := hrel
    rcases (show k = 0 ∨ k = 1 ∨ k = 2 ∨ k = 3 by omega) with rfl | rfl | rfl | rfl
    · obtain ⟨a0, a1, a2⟩ := F.out.three 0 rfl
      obtain ⟨b0, b1, b2⟩ := F.out.three 1 rfl
      have X := idx0
      by_cases h : a.x = b.x
      · have HV' : Hid (o = lst a b 1) := Lib.hid (by rw [HV.out]; unfold lst; simp only [if_pos h])
        have h1 : (a.x == b.x) = true := beq_iff_eq.2 h
        clear HV h
        go_wp2_with fail
        go_region_held3 (fun w4 => (w4.cell? ⟨w.heap.size, 0, none⟩ = some (.int .i64 a.x) ∧ w4.cell? ⟨w.heap.size, 1, none⟩ = some (.int .i64 a.y) ∧ w4.cell? ⟨w.heap.size, 2, none⟩ = some (.int .i64 a.z)) ∧ w4.cell? ⟨w.heap.size + 1, 0, none⟩ = some (.int .i64 b.x) ∧ w4.cell? ⟨w.heap.size + 1, 1, none⟩ = some (.int .i64 b.y) ∧ w4.cell? ⟨w.heap.size + 1, 2, none⟩ = some (.int .i64 b.z)) (first | with_reducible exact SF.out _ F.out | with_reducible exact SF.out _ F.out.drew) (first
          | (go_at_call 91; (first | (with_reducible refine (PX.out a _).mono ?_) | (with_reducible refine (PX.out b _).mono ?_)); rintro e w4 ⟨rfl, hT⟩; (first | (with_reducible have F := Lib.hid (F.out.keep hT)) | (have F := Lib.hid (F.out.drew.keep hT))); clear hT))
        go_wp2
        go_roundw
        case rel => exact ⟨1, by omega, by go_num, HV', F⟩
        case measure => simp [intOf]
      · have HV' : Hid (o = decide (a.x < b.x)) := Lib.hid (by rw [HV.out]; unfold lst; simp only [if_neg h])
        have h1 : (a.x == b.x) = false := beq_eq_false_iff_ne.2 h
        clear HV h
        go_wp2_with fail
        go_region_held3 (fun w4 => (w4.cell? ⟨w.heap.size, 0, none⟩ = some (.int .i64 a.x) ∧ w4.cell? ⟨w.heap.size, 1, none⟩ = some (.int .i64 a.y) ∧ w4.cell? ⟨w.heap.size, 2, none⟩ = some (.int .i64 a.z)) ∧ w4.cell? ⟨w.heap.size + 1, 0, none⟩ = some (.int .i64 b.x) ∧ w4.cell? ⟨w.heap.size + 1, 1, none⟩ = some (.int .i64 b.y) ∧ w4.cell? ⟨w.heap.size + 1, 2, none⟩ = some (.int .i64 b.z)) (first | with_reducible exact SF.out _ F.out | with_reducible exact SF.out _ F.out.drew) (first
          | (go_at_call 91; (first | (with_reducible refine (PX.out a _).mono ?_) | (with_reducible refine (PX.out b _).mono ?_)); rintro e w4 ⟨rfl, hT⟩; (first | (with_reducible have F := Lib.hid (F.out.keep hT)) | (have F := Lib.hid (F.out.drew.keep hT))); clear hT))
        go_wp2
        go_ret
        exact ⟨by rw [HV'.out]; rfl, F.out.t⟩
    · obtain ⟨a0, a1, a2⟩ := F.out.three 0 rfl
      obtain ⟨b0, b1, b2⟩ := F.out.three 1 rfl
      have X := idx1
      by_cases h : a.y = b.y
      · have HV' : Hid (o = lst a b 2) := Lib.hid (by rw [HV.out]; unfold lst; simp only [if_pos h])
        have h1 : (a.y == b.y) = true := beq_iff_eq.2 h
        clear HV h
        go_wp2_with fail
        go_region_held3 (fun w4 => (w4.cell? ⟨w.heap.size, 0, none⟩ = some (.int .i64 a.x) ∧ w4.cell? ⟨w.heap.size, 1, none⟩ = some (.int .i64 a.y) ∧ w4.cell? ⟨w.heap.size, 2, none⟩ = some (.int .i64 a.z)) ∧ w4.cell? ⟨w.heap.size + 1, 0, none⟩ = some (.int .i64 b.x) ∧ w4.cell? ⟨w.heap.size + 1, 1, none⟩ = some (.int .i64 b.y) ∧ w4.cell? ⟨w.heap.size + 1, 2, none⟩ = some (.int .i64 b.z)) (first | with_reducible exact SF.out _ F.out | with_reducible exact SF.out _ F.out.drew) (first
          | (go_at_call 92; (first | (with_reducible refine (PY.out a _).mono ?_) | (with_reducible refine (PY.out b _).mono ?_)); rintro e w4 ⟨rfl, hT⟩; (first | (with_reducible have F := Lib.hid (F.out.keep hT)) | (have F := Lib.hid (F.out.drew.keep hT))); clear hT))
        go_wp2
        go_roundw
        case rel => exact ⟨2, by omega, by go_num, HV', F⟩
        case measure => simp [intOf]
      · have HV' : Hid (o = decide (a.y < b.y)) := Lib.hid (by rw [HV.out]; unfold lst; simp only [if_neg h])
        have h1 : (a.y == b.y) = false := beq_eq_false_iff_ne.2 h
        clear HV h
        go_wp2_with fail
        go_region_held3 (fun w4 => (w4.cell? ⟨w.heap.size, 0, none⟩ = some (.int .i64 a.x) ∧ w4.cell? ⟨w.heap.size, 1, none⟩ = some (.int .i64 a.y) ∧ w4.cell? ⟨w.heap.size, 2, none⟩ = some (.int .i64 a.z)) ∧ w4.cell? ⟨w.heap.size + 1, 0, none⟩ = some (.int .i64 b.x) ∧ w4.cell? ⟨w.heap.size + 1, 1, none⟩ = some (.int .i64 b.y) ∧ w4.cell? ⟨w.heap.size + 1, 2, none⟩ = some (.int .i64 b.z)) (first | with_reducible exact SF.out _ F.out | with_reducible exact SF.out _ F.out.drew) (first
          | (go_at_call 92; (first | (with_reducible refine (PY.out a _).mono ?_) | (with_reducible refine (PY.out b _).mono ?_)); rintro e w4 ⟨rfl, hT⟩; (first | (with_reducible have F := Lib.hid (F.out.keep hT)) | (have F := Lib.hid (F.out.drew.keep hT))); clear hT))
        go_wp2
        go_ret
        exact ⟨by rw [HV'.out]; rfl, F.out.t⟩
    · obtain ⟨a0, a1, a2⟩ := F.out.three 0 rfl
      obtain ⟨b0, b1, b2⟩ := F.out.three 1 rfl
      have X := idx2
      by_cases h : a.z = b.z
      · have HV' : Hid (o = lst a b 3) := Lib.hid (by rw [HV.out]; unfold lst; simp only [if_pos h])
        have h1 : (a.z == b.z) = true := beq_iff_eq.2 h
        clear HV h
        go_wp2_with fail
        go_region_held3 (fun w4 => (w4.cell? ⟨w.heap.size, 0, none⟩ = some (.int .i64 a.x) ∧ w4.cell? ⟨w.heap.size, 1, none⟩ = some (.int .i64 a.y) ∧ w4.cell? ⟨w.heap.size, 2, none⟩ = some (.int .i64 a.z)) ∧ w4.cell? ⟨w.heap.size + 1, 0, none⟩ = some (.int .i64 b.x) ∧ w4.cell? ⟨w.heap.size + 1, 1, none⟩ = some (.int .i64 b.y) ∧ w4.cell? ⟨w.heap.size + 1, 2, none⟩ = some (.int .i64 b.z)) (first | with_reducible exact SF.out _ F.out | with_reducible exact SF.out _ F.out.drew) (first
          | (go_at_call 93; (first | (with_reducible refine (PZ.out a _).mono ?_) | (with_reducible refine (PZ.out b _).mono ?_)); rintro e w4 ⟨rfl, hT⟩; (first | (with_reducible have F := Lib.hid (F.out.keep hT)) | (have F := Lib.hid (F.out.drew.keep hT))); clear hT))
        go_wp2
        go_roundw
        case rel => exact ⟨3, by omega, by go_num, HV', F⟩
        case measure => simp [intOf]
      · have HV' : Hid (o = decide (a.z < b.z)) := Lib.hid (by rw [HV.out]; unfold lst; simp only [if_neg h])
        have h1 : (a.z == b.z) = false := beq_eq_false_iff_ne.2 h
        clear HV h
        go_wp2_with fail
        go_region_held3 (fun w4 => (w4.cell? ⟨w.heap.size, 0, none⟩ = some (.int .i64 a.x) ∧ w4.cell? ⟨w.heap.size, 1, none⟩ = some (.int .i64 a.y) ∧ w4.cell? ⟨w.heap.size, 2, none⟩ = some (.int .i64 a.z)) ∧ w4.cell? ⟨w.heap.size + 1, 0, none⟩ = some (.int .i64 b.x) ∧ w4.cell? ⟨w.heap.size + 1, 1, none⟩ = some (.int .i64 b.y) ∧ w4.cell? ⟨w.heap.size + 1, 2, none⟩ = some (.int .i64 b.z)) (first | with_reducible exact SF.out _ F.out | with_reducible exact SF.out _ F.out.drew) (first
          | (go_at_call 93; (first | (with_reducible refine (PZ.out a _).mono ?_) | (with_reducible refine (PZ.out b _).mono ?_)); rintro e w4 ⟨rfl, hT⟩; (first | (with_reducible have F := Lib.hid (F.out.keep hT)) | (have F := Lib.hid (F.out.drew.keep hT))); clear hT))
        go_wp2
        go_ret
        exact ⟨by rw [HV'.out]; rfl, F.out.t⟩
    · go_wp2
      go_ret
      exact ⟨by rw [HV.out]; rfl, F.out.t⟩

end Go.Proofs.YtandlbacjfdkpaaGreatDoor
