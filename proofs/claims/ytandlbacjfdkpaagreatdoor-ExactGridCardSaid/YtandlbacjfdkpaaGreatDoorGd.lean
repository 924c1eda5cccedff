/- The walk of ExactGrid. -/
import Derived.Test.YtandlbacjfdkpaaGreatDoorSan2
import Derived.Test.YtandlbacjfdkpaaGreatDoorAg
import Derived.Test.YtandlbacjfdkpaaGreatDoorTri
namespace Go.Proofs.YtandlbacjfdkpaaGreatDoor
open Go Go.RowKit Dg

theorem gridOk (a : P3) (k : Int) (hk : 0 < k ∧ k ≤ 1073741824) : (gridI a k).Ok := by
  have key : ∀ x : Int, I64 (x % k) := fun x => by
    have h1 := Int.emod_nonneg x (b := k) (by omega)
    have h2 := Int.emod_lt_of_pos x (b := k) hk.1
    exact ⟨by omega, by omega⟩
  exact ⟨key _, key _, key _⟩

set_option maxHeartbeats 16000000 in
set_option maxRecDepth 100000 in
theorem gd_walk (a b c d : P3) (w : World) :
    Calls Tryz.prog 4 #[.agg #[.int .i64 a.x, .int .i64 a.y, .int .i64 a.z], .agg #[.int .i64 b.x, .int .i64 b.y, .int .i64 b.z], .agg #[.int .i64 c.x, .int .i64 c.y, .int .i64 c.z, .int .i64 d.x, .int .i64 d.y, .int .i64 d.z]] w fun e w' => e = .returned (.bool true) ∧ Tch [] w w' := by
  obtain ⟨ap, hap⟩ : ∃ u, u = gridI a 4 := ⟨_, rfl⟩
  have oa : ap.Ok := by rw [hap]; exact gridOk a 4 (by decide)
  have Ga : Hid (∀ w1, Calls Tryz.prog 11 #[.agg #[.int .i64 a.x, .int .i64 a.y, .int .i64 a.z], .int .i64 4] w1 fun e w' => e = .returned (.agg #[.int .i64 ap.x, .int .i64 ap.y, .int .i64 ap.z]) ∧ Tch [] w1 w') := Lib.hid (fun w1 => by rw [hap]; exact rGrid a 4 (by decide) w1)
  obtain ⟨bp, hbp⟩ : ∃ u, u = gridI b 4 := ⟨_, rfl⟩
  have ob : bp.Ok := by rw [hbp]; exact gridOk b 4 (by decide)
  have Gb : Hid (∀ w1, Calls Tryz.prog 11 #[.agg #[.int .i64 b.x, .int .i64 b.y, .int .i64 b.z], .int .i64 4] w1 fun e w' => e = .returned (.agg #[.int .i64 bp.x, .int .i64 bp.y, .int .i64 bp.z]) ∧ Tch [] w1 w') := Lib.hid (fun w1 => by rw [hbp]; exact rGrid b 4 (by decide) w1)
  obtain ⟨cp, hcp⟩ : ∃ u, u = gridI c 4 := ⟨_, rfl⟩
  have oc : cp.Ok := by rw [hcp]; exact gridOk c 4 (by decide)
  have Gc : Hid (∀ w1, Calls Tryz.prog 11 #[.agg #[.int .i64 c.x, .int .i64 c.y, .int .i64 c.z], .int .i64 4] w1 fun e w' => e = .returned (.agg #[.int .i64 cp.x, .int .i64 cp.y, .int .i64 cp.z]) ∧ Tch [] w1 w') := Lib.hid (fun w1 => by rw [hcp]; exact rGrid c 4 (by decide) w1)
  obtain ⟨dp, hdp⟩ : ∃ u, u = gridI d 4 := ⟨_, rfl⟩
  have od : dp.Ok := by rw [hdp]; exact gridOk d 4 (by decide)
  have Gd : Hid (∀ w1, Calls Tryz.prog 11 #[.agg #[.int .i64 d.x, .int .i64 d.y, .int .i64 d.z], .int .i64 4] w1 fun e w' => e = .returned (.agg #[.int .i64 dp.x, .int .i64 dp.y, .int .i64 dp.z]) ∧ Tch [] w1 w') := Lib.hid (fun w1 => by rw [hdp]; exact rGrid d 4 (by decide) w1)
  have C1 : Hid (∀ w1, Calls Tryz.prog 9 #[.agg #[.int .i64 ap.x, .int .i64 ap.y, .int .i64 ap.z], .agg #[.int .i64 bp.x, .int .i64 bp.y, .int .i64 bp.z], .agg #[.int .i64 cp.x, .int .i64 cp.y, .int .i64 cp.z], .agg #[.int .i64 dp.x, .int .i64 dp.y, .int .i64 dp.z]] w1 fun e w' => e = .returned (.bool true) ∧ Tch [] w1 w') := Lib.hid (fun w1 => by exact agrees ap bp cp dp oa ob oc od w1)
  have CS := Lib.hid (fun w1 => sanity w1)
  clear hap hbp hcp hdp oa ob oc od
  have F : Hid (Fr w (((w.alloc (.cells #[.int .i64 a.x, .int .i64 a.y, .int .i64 a.z] 22)).alloc (.cells #[.int .i64 b.x, .int .i64 b.y, .int .i64 b.z] 22)).alloc (.cells #[.int .i64 c.x, .int .i64 c.y, .int .i64 c.z, .int .i64 d.x, .int .i64 d.y, .int .i64 d.z] 23)) [(w.heap.size, .cells #[.int .i64 a.x, .int .i64 a.y, .int .i64 a.z] 22 (0, 0)), (w.heap.size + 1, .cells #[.int .i64 b.x, .int .i64 b.y, .int .i64 b.z] 22 (0, 0)), (w.heap.size + 1 + 1, .cells #[.int .i64 c.x, .int .i64 c.y, .int .i64 c.z, .int .i64 d.x, .int .i64 d.y, .int .i64 d.z] 23 (0, 0))]) := Lib.hid ((((Fr.nil w).add (.cells #[.int .i64 a.x, .int .i64 a.y, .int .i64 a.z] 22) (w.heap.size) rfl).add (.cells #[.int .i64 b.x, .int .i64 b.y, .int .i64 b.z] 22) (w.heap.size + 1) (by simp)).add (.cells #[.int .i64 c.x, .int .i64 c.y, .int .i64 c.z, .int .i64 d.x, .int .i64 d.y, .int .i64 d.z] 23) (w.heap.size + 1 + 1) (by simp))
  have SF := Lib.hid (fun (w9 : World) (h : Fr w w9 [(w.heap.size, .cells #[.int .i64 a.x, .int .i64 a.y, .int .i64 a.z] 22 (0, 0)), (w.heap.size + 1, .cells #[.int .i64 b.x, .int .i64 b.y, .int .i64 b.z] 22 (0, 0)), (w.heap.size + 1 + 1, .cells #[.int .i64 c.x, .int .i64 c.y, .int .i64 c.z, .int .i64 d.x, .int .i64 d.y, .int .i64 d.z] 23 (0, 0))]) => And.intro (h.three 0 rfl) (And.intro (h.three 1 rfl) (h.six 2 rfl)))
  go_enter Tryz.func4, Tryz.ntmps4
  go_wp2_with fail
  refine (CS.out _).mono ?_
  rintro e w1 ⟨rfl, hT⟩
  have F := Lib.hid (F.out.keep hT)
  clear hT CS
  go_upto_region 2 with (fail)
  go_region_held3 (fun w9 => (w9.cell? ⟨w.heap.size, 0, none⟩ = some (.int .i64 a.x) ∧ w9.cell? ⟨w.heap.size, 1, none⟩ = some (.int .i64 a.y) ∧ w9.cell? ⟨w.heap.size, 2, none⟩ = some (.int .i64 a.z)) ∧ (w9.cell? ⟨w.heap.size + 1, 0, none⟩ = some (.int .i64 b.x) ∧ w9.cell? ⟨w.heap.size + 1, 1, none⟩ = some (.int .i64 b.y) ∧ w9.cell? ⟨w.heap.size + 1, 2, none⟩ = some (.int .i64 b.z)) ∧ (w9.cell? ⟨w.heap.size + 1 + 1, 0, none⟩ = some (.int .i64 c.x) ∧ w9.cell? ⟨w.heap.size + 1 + 1, 1, none⟩ = some (.int .i64 c.y) ∧ w9.cell? ⟨w.heap.size + 1 + 1, 2, none⟩ = some (.int .i64 c.z) ∧ w9.cell? ⟨w.heap.size + 1 + 1, 3, none⟩ = some (.int .i64 d.x) ∧ w9.cell? ⟨w.heap.size + 1 + 1, 4, none⟩ = some (.int .i64 d.y) ∧ w9.cell? ⟨w.heap.size + 1 + 1, 5, none⟩ = some (.int .i64 d.z))) (first | with_reducible exact SF.out _ F.out | with_reducible exact SF.out _ F.out.drew) (first
    | (go_at_call 11; (first | (with_reducible refine (Ga.out _).mono ?_) | (with_reducible refine (Gb.out _).mono ?_) | (with_reducible refine (Gc.out _).mono ?_) | (with_reducible refine (Gd.out _).mono ?_)); rintro e w5 ⟨rfl, hT⟩; (first | (with_reducible have F := Lib.hid (F.out.keep hT)) | (have F := Lib.hid (F.out.drew.keep hT))); clear hT)
    | (go_at_call 9; (with_reducible refine (C1.out _).mono ?_); rintro e w5 ⟨rfl, hT⟩; (first | (with_reducible have F := Lib.hid (F.out.keep hT)) | (have F := Lib.hid (F.out.drew.keep hT))); clear hT)
    | fail)
  go_wp2
  go_ret
  exact ⟨rfl, F.out.t⟩

end Go.Proofs.YtandlbacjfdkpaaGreatDoor
