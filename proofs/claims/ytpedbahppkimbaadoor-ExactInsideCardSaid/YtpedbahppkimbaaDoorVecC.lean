/- Wide vectors in the program: cross, dot, wideNormal. -/
import Derived.Test.YtpedbahppkimbaaDoorVecB
namespace Go.Proofs.YtpedbahppkimbaaDoor
open Go Go.RowKit Dg

/-- The vector product. -/
def crsI (v u : P3) : P3 := ⟨v.y * u.z - v.z * u.y, v.z * u.x - v.x * u.z, v.x * u.y - v.y * u.x⟩
/-- The scalar product. -/
def dotI (v u : P3) : Int := v.x * u.x + v.y * u.y + v.z * u.z
/-- All components are less than 2^k. -/
structure P3.Sm (k : Nat) (p : P3) : Prop where
  x : Go.Proofs.YtpedbahppkimbaaDoor.Sm k p.x
  y : Go.Proofs.YtpedbahppkimbaaDoor.Sm k p.y
  z : Go.Proofs.YtpedbahppkimbaaDoor.Sm k p.z

set_option maxHeartbeats 2000000 in
set_option maxRecDepth 100000 in
theorem xwideCross (v u : P3) (hv : v.Sm 200) (hu : u.Sm 199) (w : World) :
    Calls Tryd.prog 36 #[.agg #[.bool (sgz v.x), .string (moz v.x), .bool (sgz v.y), .string (moz v.y), .bool (sgz v.z), .string (moz v.z)], .agg #[.bool (sgz u.x), .string (moz u.x), .bool (sgz u.y), .string (moz u.y), .bool (sgz u.z), .string (moz u.z)]] w fun e w' =>
      e = .returned (.agg (wst (crsI v u).x (crsI v u).y (crsI v u).z 3)) ∧ Tch [] w w' := by
  have M1 := Lib.hid (fun w1 => IMul (hv.y.mono (l := 400) (by omega)) (hu.z.mono (l := 400) (by omega)) w1)
  have M2 := Lib.hid (fun w1 => IMul (hv.z.mono (l := 400) (by omega)) (hu.y.mono (l := 400) (by omega)) w1)
  have M3 := Lib.hid (fun w1 => IMul (hv.z.mono (l := 400) (by omega)) (hu.x.mono (l := 400) (by omega)) w1)
  have M4 := Lib.hid (fun w1 => IMul (hv.x.mono (l := 400) (by omega)) (hu.z.mono (l := 400) (by omega)) w1)
  have M5 := Lib.hid (fun w1 => IMul (hv.x.mono (l := 400) (by omega)) (hu.y.mono (l := 400) (by omega)) w1)
  have M6 := Lib.hid (fun w1 => IMul (hv.y.mono (l := 400) (by omega)) (hu.x.mono (l := 400) (by omega)) w1)
  have S1 : Hid (∀ w1, Calls Tryd.prog 40 #[.agg #[.bool (sgz (v.y * u.z)), .string (moz (v.y * u.z))], .agg #[.bool (sgz (v.z * u.y)), .string (moz (v.z * u.y))]] w1 fun e w' => e = .returned (.agg #[.bool (sgz (crsI v u).x), .string (moz (crsI v u).x)]) ∧ Tch [] w1 w') := Lib.hid (fun w1 => ISub ((hv.y.mul hu.z).mono (l := 400) (by omega)) ((hv.z.mul hu.y).mono (l := 400) (by omega)) w1)
  have S2 : Hid (∀ w1, Calls Tryd.prog 40 #[.agg #[.bool (sgz (v.z * u.x)), .string (moz (v.z * u.x))], .agg #[.bool (sgz (v.x * u.z)), .string (moz (v.x * u.z))]] w1 fun e w' => e = .returned (.agg #[.bool (sgz (crsI v u).y), .string (moz (crsI v u).y)]) ∧ Tch [] w1 w') := Lib.hid (fun w1 => ISub ((hv.z.mul hu.x).mono (l := 400) (by omega)) ((hv.x.mul hu.z).mono (l := 400) (by omega)) w1)
  have S3 : Hid (∀ w1, Calls Tryd.prog 40 #[.agg #[.bool (sgz (v.x * u.y)), .string (moz (v.x * u.y))], .agg #[.bool (sgz (v.y * u.x)), .string (moz (v.y * u.x))]] w1 fun e w' => e = .returned (.agg #[.bool (sgz (crsI v u).z), .string (moz (crsI v u).z)]) ∧ Tch [] w1 w') := Lib.hid (fun w1 => ISub ((hv.x.mul hu.y).mono (l := 400) (by omega)) ((hv.y.mul hu.x).mono (l := 400) (by omega)) w1)
  have HB0 := Lib.hid (((((Bs.nil w).alloc (by simp) (.cells #[.bool (sgz v.x), .string (moz v.x), .bool (sgz v.y), .string (moz v.y), .bool (sgz v.z), .string (moz v.z)] 50)).alloc (by simp) (.cells #[.bool (sgz u.x), .string (moz u.x), .bool (sgz u.y), .string (moz u.y), .bool (sgz u.z), .string (moz u.z)] 50)).alloc (by simp) (.cells (wst (crsI v u).x (crsI v u).y (crsI v u).z 0) 50)).alloc (by simp) (.cells (wst (crsI v u).x (crsI v u).y (crsI v u).z 0) 50))
  have HT0 := Lib.hid (((((Tch.refl [] w).alloc (.cells #[.bool (sgz v.x), .string (moz v.x), .bool (sgz v.y), .string (moz v.y), .bool (sgz v.z), .string (moz v.z)] 50)).alloc (.cells #[.bool (sgz u.x), .string (moz u.x), .bool (sgz u.y), .string (moz u.y), .bool (sgz u.z), .string (moz u.z)] 50)).alloc (.cells (wst (crsI v u).x (crsI v u).y (crsI v u).z 0) 50)).alloc (.cells (wst (crsI v u).x (crsI v u).y (crsI v u).z 0) 50))
  clear hv hu
  go_enter Tryd.func36, Tryd.ntmps36
  go_wp2
  go_loopw [9] (fun i wr => ∃ k : Nat, k ≤ 3 ∧ i = .int .i64 (k : Int) ∧ Hid (Bs wr w.heap.size [.cells #[.bool (sgz v.x), .string (moz v.x), .bool (sgz v.y), .string (moz v.y), .bool (sgz v.z), .string (moz v.z)] 50 (0, 0), .cells #[.bool (sgz u.x), .string (moz u.x), .bool (sgz u.y), .string (moz u.y), .bool (sgz u.z), .string (moz u.z)] 50 (0, 0), .cells (wst (crsI v u).x (crsI v u).y (crsI v u).z 0) 50 (0, 0), .cells (wst (crsI v u).x (crsI v u).y (crsI v u).z k) 50 (0, 0)]) ∧ Hid (Tch [] w wr))
    (fun i _ => 3 - (intOf i).toNat)
  case atStart => exact ⟨0, by omega, rfl, HB0, HT0⟩
  case round =>
    obtain ⟨k, hk, rfl, hB, hT⟩ := hrel
    rcases (show k = 0 ∨ k = 1 ∨ k = 2 ∨ k = 3 by omega) with rfl | rfl | rfl | rfl
    · obtain ⟨a0, a1, a2, a3, a4, a5⟩ := hB.out.six 0 (b := w.heap.size) rfl rfl
      obtain ⟨b0, b1, b2, b3, b4, b5⟩ := hB.out.six 1 (b := w.heap.size + 1) rfl rfl
      have G := hB
      have T := hT
      have SF := Lib.hid (fun (w3 : World) (z : Array Value) (h : Bs w3 w.heap.size [.cells #[.bool (sgz v.x), .string (moz v.x), .bool (sgz v.y), .string (moz v.y), .bool (sgz v.z), .string (moz v.z)] 50 (0, 0), .cells #[.bool (sgz u.x), .string (moz u.x), .bool (sgz u.y), .string (moz u.y), .bool (sgz u.z), .string (moz u.z)] 50 (0, 0), .cells (wst (crsI v u).x (crsI v u).y (crsI v u).z 0) 50 (0, 0), .cells z 50 (0, 0)]) => And.intro (h.six 0 (b := w.heap.size) rfl rfl) (h.six 1 (b := w.heap.size + 1) rfl rfl))
      go_wp2_with fail
      go_region_held3 (fun w3 => (w3.cell? ⟨w.heap.size, 0, none⟩ = some (.bool (sgz v.x)) ∧ w3.cell? ⟨w.heap.size, 1, none⟩ = some (.string (moz v.x)) ∧ w3.cell? ⟨w.heap.size, 2, none⟩ = some (.bool (sgz v.y)) ∧ w3.cell? ⟨w.heap.size, 3, none⟩ = some (.string (moz v.y)) ∧ w3.cell? ⟨w.heap.size, 4, none⟩ = some (.bool (sgz v.z)) ∧ w3.cell? ⟨w.heap.size, 5, none⟩ = some (.string (moz v.z))) ∧ (w3.cell? ⟨w.heap.size + 1, 0, none⟩ = some (.bool (sgz u.x)) ∧ w3.cell? ⟨w.heap.size + 1, 1, none⟩ = some (.string (moz u.x)) ∧ w3.cell? ⟨w.heap.size + 1, 2, none⟩ = some (.bool (sgz u.y)) ∧ w3.cell? ⟨w.heap.size + 1, 3, none⟩ = some (.string (moz u.y)) ∧ w3.cell? ⟨w.heap.size + 1, 4, none⟩ = some (.bool (sgz u.z)) ∧ w3.cell? ⟨w.heap.size + 1, 5, none⟩ = some (.string (moz u.z)))) (first | with_reducible exact SF.out _ _ G.out | exact SF.out _ _ G.out.drew | exact SF.out _ _ ((G.out.set 3 0 (.bool (sgz (crsI v u).x)) rfl).set 3 1 (.string (moz (crsI v u).x)) rfl)) (first
        | (go_at_call 38; (first | (with_reducible refine (M1.out _).mono ?_) | (with_reducible refine (M2.out _).mono ?_)); rintro e w3 ⟨rfl, hT⟩; (first | (with_reducible have T := Lib.hid (T.out.trans hT (by simp)); have G := Lib.hid (G.out.keep hT)) | (have T := Lib.hid (T.out.drew.trans hT (by simp)); have G := Lib.hid (G.out.drew.keep hT))); clear hT)
        | (go_at_call 40; (with_reducible refine (S1.out _).mono ?_); rintro e w3 ⟨rfl, hT⟩; have T := Lib.hid (T.out.trans hT (by simp)); have G := Lib.hid (G.out.keep hT); clear hT; obtain ⟨v0, v1, v2, v3, v4, v5⟩ := G.out.six 3 (b := w.heap.size + 1 + 1 + 1) rfl rfl; obtain ⟨f0, f1, f2, f3, f4, f5⟩ := G.out.fro6 3 (b := w.heap.size + 1 + 1 + 1) rfl rfl))
      go_wp2
      go_roundw
      case rel => exact ⟨1, by omega, by go_num, Lib.hid ((G.out.set 3 0 (.bool (sgz (crsI v u).x)) rfl).set 3 1 (.string (moz (crsI v u).x)) rfl), Lib.hid ((T.out.setCell (.inr (by simp; omega)) _).setCell (.inr (by simp; omega)) _)⟩
      case measure => simp [intOf]
    · obtain ⟨a0, a1, a2, a3, a4, a5⟩ := hB.out.six 0 (b := w.heap.size) rfl rfl
      obtain ⟨b0, b1, b2, b3, b4, b5⟩ := hB.out.six 1 (b := w.heap.size + 1) rfl rfl
      have G := hB
      have T := hT
      have SF := Lib.hid (fun (w3 : World) (z : Array Value) (h : Bs w3 w.heap.size [.cells #[.bool (sgz v.x), .string (moz v.x), .bool (sgz v.y), .string (moz v.y), .bool (sgz v.z), .string (moz v.z)] 50 (0, 0), .cells #[.bool (sgz u.x), .string (moz u.x), .bool (sgz u.y), .string (moz u.y), .bool (sgz u.z), .string (moz u.z)] 50 (0, 0), .cells (wst (crsI v u).x (crsI v u).y (crsI v u).z 0) 50 (0, 0), .cells z 50 (0, 0)]) => And.intro (h.six 0 (b := w.heap.size) rfl rfl) (h.six 1 (b := w.heap.size + 1) rfl rfl))
      go_wp2_with fail
      go_region_held3 (fun w3 => (w3.cell? ⟨w.heap.size, 0, none⟩ = some (.bool (sgz v.x)) ∧ w3.cell? ⟨w.heap.size, 1, none⟩ = some (.string (moz v.x)) ∧ w3.cell? ⟨w.heap.size, 2, none⟩ = some (.bool (sgz v.y)) ∧ w3.cell? ⟨w.heap.size, 3, none⟩ = some (.string (moz v.y)) ∧ w3.cell? ⟨w.heap.size, 4, none⟩ = some (.bool (sgz v.z)) ∧ w3.cell? ⟨w.heap.size, 5, none⟩ = some (.string (moz v.z))) ∧ (w3.cell? ⟨w.heap.size + 1, 0, none⟩ = some (.bool (sgz u.x)) ∧ w3.cell? ⟨w.heap.size + 1, 1, none⟩ = some (.string (moz u.x)) ∧ w3.cell? ⟨w.heap.size + 1, 2, none⟩ = some (.bool (sgz u.y)) ∧ w3.cell? ⟨w.heap.size + 1, 3, none⟩ = some (.string (moz u.y)) ∧ w3.cell? ⟨w.heap.size + 1, 4, none⟩ = some (.bool (sgz u.z)) ∧ w3.cell? ⟨w.heap.size + 1, 5, none⟩ = some (.string (moz u.z)))) (first | with_reducible exact SF.out _ _ G.out | exact SF.out _ _ G.out.drew | exact SF.out _ _ ((G.out.set 3 2 (.bool (sgz (crsI v u).y)) rfl).set 3 3 (.string (moz (crsI v u).y)) rfl)) (first
        | (go_at_call 38; (first | (with_reducible refine (M3.out _).mono ?_) | (with_reducible refine (M4.out _).mono ?_)); rintro e w3 ⟨rfl, hT⟩; (first | (with_reducible have T := Lib.hid (T.out.trans hT (by simp)); have G := Lib.hid (G.out.keep hT)) | (have T := Lib.hid (T.out.drew.trans hT (by simp)); have G := Lib.hid (G.out.drew.keep hT))); clear hT)
        | (go_at_call 40; (with_reducible refine (S2.out _).mono ?_); rintro e w3 ⟨rfl, hT⟩; have T := Lib.hid (T.out.trans hT (by simp)); have G := Lib.hid (G.out.keep hT); clear hT; obtain ⟨v0, v1, v2, v3, v4, v5⟩ := G.out.six 3 (b := w.heap.size + 1 + 1 + 1) rfl rfl; obtain ⟨f0, f1, f2, f3, f4, f5⟩ := G.out.fro6 3 (b := w.heap.size + 1 + 1 + 1) rfl rfl))
      go_wp2
      go_roundw
      case rel => exact ⟨2, by omega, by go_num, Lib.hid ((G.out.set 3 2 (.bool (sgz (crsI v u).y)) rfl).set 3 3 (.string (moz (crsI v u).y)) rfl), Lib.hid ((T.out.setCell (.inr (by simp; omega)) _).setCell (.inr (by simp; omega)) _)⟩
      case measure => simp [intOf]
    · obtain ⟨a0, a1, a2, a3, a4, a5⟩ := hB.out.six 0 (b := w.heap.size) rfl rfl
      obtain ⟨b0, b1, b2, b3, b4, b5⟩ := hB.out.six 1 (b := w.heap.size + 1) rfl rfl
      have G := hB
      have T := hT
      have SF := Lib.hid (fun (w3 : World) (z : Array Value) (h : Bs w3 w.heap.size [.cells #[.bool (sgz v.x), .string (moz v.x), .bool (sgz v.y), .string (moz v.y), .bool (sgz v.z), .string (moz v.z)] 50 (0, 0), .cells #[.bool (sgz u.x), .string (moz u.x), .bool (sgz u.y), .string (moz u.y), .bool (sgz u.z), .string (moz u.z)] 50 (0, 0), .cells (wst (crsI v u).x (crsI v u).y (crsI v u).z 0) 50 (0, 0), .cells z 50 (0, 0)]) => And.intro (h.six 0 (b := w.heap.size) rfl rfl) (h.six 1 (b := w.heap.size + 1) rfl rfl))
      go_wp2_with fail
      go_region_held3 (fun w3 => (w3.cell? ⟨w.heap.size, 0, none⟩ = some (.bool (sgz v.x)) ∧ w3.cell? ⟨w.heap.size, 1, none⟩ = some (.string (moz v.x)) ∧ w3.cell? ⟨w.heap.size, 2, none⟩ = some (.bool (sgz v.y)) ∧ w3.cell? ⟨w.heap.size, 3, none⟩ = some (.string (moz v.y)) ∧ w3.cell? ⟨w.heap.size, 4, none⟩ = some (.bool (sgz v.z)) ∧ w3.cell? ⟨w.heap.size, 5, none⟩ = some (.string (moz v.z))) ∧ (w3.cell? ⟨w.heap.size + 1, 0, none⟩ = some (.bool (sgz u.x)) ∧ w3.cell? ⟨w.heap.size + 1, 1, none⟩ = some (.string (moz u.x)) ∧ w3.cell? ⟨w.heap.size + 1, 2, none⟩ = some (.bool (sgz u.y)) ∧ w3.cell? ⟨w.heap.size + 1, 3, none⟩ = some (.string (moz u.y)) ∧ w3.cell? ⟨w.heap.size + 1, 4, none⟩ = some (.bool (sgz u.z)) ∧ w3.cell? ⟨w.heap.size + 1, 5, none⟩ = some (.string (moz u.z)))) (first | with_reducible exact SF.out _ _ G.out | exact SF.out _ _ G.out.drew | exact SF.out _ _ ((G.out.set 3 4 (.bool (sgz (crsI v u).z)) rfl).set 3 5 (.string (moz (crsI v u).z)) rfl)) (first
        | (go_at_call 38; (first | (with_reducible refine (M5.out _).mono ?_) | (with_reducible refine (M6.out _).mono ?_)); rintro e w3 ⟨rfl, hT⟩; (first | (with_reducible have T := Lib.hid (T.out.trans hT (by simp)); have G := Lib.hid (G.out.keep hT)) | (have T := Lib.hid (T.out.drew.trans hT (by simp)); have G := Lib.hid (G.out.drew.keep hT))); clear hT)
        | (go_at_call 40; (with_reducible refine (S3.out _).mono ?_); rintro e w3 ⟨rfl, hT⟩; have T := Lib.hid (T.out.trans hT (by simp)); have G := Lib.hid (G.out.keep hT); clear hT; obtain ⟨v0, v1, v2, v3, v4, v5⟩ := G.out.six 3 (b := w.heap.size + 1 + 1 + 1) rfl rfl; obtain ⟨f0, f1, f2, f3, f4, f5⟩ := G.out.fro6 3 (b := w.heap.size + 1 + 1 + 1) rfl rfl))
      go_wp2
      go_roundw
      case rel => exact ⟨3, by omega, by go_num, Lib.hid ((G.out.set 3 4 (.bool (sgz (crsI v u).z)) rfl).set 3 5 (.string (moz (crsI v u).z)) rfl), Lib.hid ((T.out.setCell (.inr (by simp; omega)) _).setCell (.inr (by simp; omega)) _)⟩
      case measure => simp [intOf]
    · obtain ⟨v0, v1, v2, v3, v4, v5⟩ := hB.out.six 3 (b := w.heap.size + 1 + 1 + 1) rfl rfl
      obtain ⟨r0, r1, r2, r3, r4, r5⟩ := hB.out.six 2 (b := w.heap.size + 1 + 1) rfl rfl
      obtain ⟨f0, f1, f2, f3, f4, f5⟩ := hB.out.fro6 2 (b := w.heap.size + 1 + 1) rfl rfl
      go_wp2
      refine bodyPost_ret (v := .agg (wst (crsI v u).x (crsI v u).y (crsI v u).z 3)) (by simp [results, Tryd.results36, go_sem, r0, r1, r2, r3, r4, r5, wst]) rfl ⟨rfl, ?_⟩
      exact (((((hT.out.setCell (.inr (by simp; omega)) _).setCell (.inr (by simp; omega)) _).setCell (.inr (by simp; omega)) _).setCell (.inr (by simp; omega)) _).setCell (.inr (by simp; omega)) _).setCell (.inr (by simp; omega)) _

end Go.Proofs.YtpedbahppkimbaaDoor
