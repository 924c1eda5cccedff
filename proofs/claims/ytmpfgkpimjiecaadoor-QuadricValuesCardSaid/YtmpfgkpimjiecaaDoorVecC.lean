/- Wide vectors in the program: cross, dot, wideNormal. -/
import Derived.Test.YtmpfgkpimjiecaaDoorVecB
namespace Go.Proofs.YtmpfgkpimjiecaaDoor
open Go Go.RowKit Dg
/-- The vector product. -/
def crsI (v u : P3) : P3 := ⟨v.y * u.z - v.z * u.y, v.z * u.x - v.x * u.z, v.x * u.y - v.y * u.x⟩

/-- All components are less than 2^k. -/
structure P3.Sm (k : Nat) (p : P3) : Prop where
  x : Go.Proofs.YtmpfgkpimjiecaaDoor.Sm k p.x
  y : Go.Proofs.YtmpfgkpimjiecaaDoor.Sm k p.y
  z : Go.Proofs.YtmpfgkpimjiecaaDoor.Sm k p.z

set_option maxHeartbeats 2000000 in
set_option maxRecDepth 100000 in
theorem xwideCross (v u : P3) (hv : v.Sm 200) (hu : u.Sm 199) (w : World) :
    Calls Tryd.prog 84 #[.agg #[.bool (sgz v.x), .string (moz v.x), .bool (sgz v.y), .string (moz v.y), .bool (sgz v.z), .string (moz v.z)], .agg #[.bool (sgz u.x), .string (moz u.x), .bool (sgz u.y), .string (moz u.y), .bool (sgz u.z), .string (moz u.z)]] w fun e w' =>
      e = .returned (.agg (wst (crsI v u).x (crsI v u).y (crsI v u).z 3)) ∧ Tch [] w w' := by
  have M1 := Lib.hid (fun w1 => IMul (hv.y.mono (l := 400) (by omega)) (hu.z.mono (l := 400) (by omega)) w1)
  have M2 := Lib.hid (fun w1 => IMul (hv.z.mono (l := 400) (by omega)) (hu.y.mono (l := 400) (by omega)) w1)
  have M3 := Lib.hid (fun w1 => IMul (hv.z.mono (l := 400) (by omega)) (hu.x.mono (l := 400) (by omega)) w1)
  have M4 := Lib.hid (fun w1 => IMul (hv.x.mono (l := 400) (by omega)) (hu.z.mono (l := 400) (by omega)) w1)
  have M5 := Lib.hid (fun w1 => IMul (hv.x.mono (l := 400) (by omega)) (hu.y.mono (l := 400) (by omega)) w1)
  have M6 := Lib.hid (fun w1 => IMul (hv.y.mono (l := 400) (by omega)) (hu.x.mono (l := 400) (by omega)) w1)
  have S1 : Hid (∀ w1, Calls Tryd.prog 97 #[.agg #[.bool (sgz (v.y * u.z)), .string (moz (v.y * u.z))], .agg #[.bool (sgz (v.z * u.y)), .string (moz (v.z * u.y))]] w1 fun e w' => e = .returned (.agg #[.bool (sgz (crsI v u).x), .string (moz (crsI v u).x)]) ∧ Tch [] w1 w') := Lib.hid (fun w1 => ISub ((hv.y.mul hu.z).mono (l := 400) (by omega)) ((hv.z.mul hu.y).mono (l := 400) (by omega)) w1)
  have S2 : Hid (∀ w1, Calls Tryd.prog 97 #[.agg #[.bool (sgz (v.z * u.x)), .string (moz (v.z * u.x))], .agg #[.bool (sgz (v.x * u.z)), .string (moz (v.x * u.z))]] w1 fun e w' => e = .returned (.agg #[.bool (sgz (crsI v u).y), .string (moz (crsI v u).y)]) ∧ Tch [] w1 w') := Lib.hid (fun w1 => ISub ((hv.z.mul hu.x).mono (l := 400) (by omega)) ((hv.x.mul hu.z).mono (l := 400) (by omega)) w1)
  have S3 : Hid (∀ w1, Calls Tryd.prog 97 #[.agg #[.bool (sgz (v.x * u.y)), .string (moz (v.x * u.y))], .agg #[.bool (sgz (v.y * u.x)), .string (moz (v.y * u.x))]] w1 fun e w' => e = .returned (.agg #[.bool (sgz (crsI v u).z), .string (moz (crsI v u).z)]) ∧ Tch [] w1 w') := Lib.hid (fun w1 => ISub ((hv.x.mul hu.y).mono (l := 400) (by omega)) ((hv.y.mul hu.x).mono (l := 400) (by omega)) w1)
  have HB0 := Lib.hid (((((Bs.nil w).alloc (by simp) (.cells #[.bool (sgz v.x), .string (moz v.x), .bool (sgz v.y), .string (moz v.y), .bool (sgz v.z), .string (moz v.z)] 99)).alloc (by simp) (.cells #[.bool (sgz u.x), .string (moz u.x), .bool (sgz u.y), .string (moz u.y), .bool (sgz u.z), .string (moz u.z)] 99)).alloc (by simp) (.cells (wst (crsI v u).x (crsI v u).y (crsI v u).z 0) 99)).alloc (by simp) (.cells (wst (crsI v u).x (crsI v u).y (crsI v u).z 0) 99))
  have HT0 := Lib.hid (((((Tch.refl [] w).alloc (.cells #[.bool (sgz v.x), .string (moz v.x), .bool (sgz v.y), .string (moz v.y), .bool (sgz v.z), .string (moz v.z)] 99)).alloc (.cells #[.bool (sgz u.x), .string (moz u.x), .bool (sgz u.y), .string (moz u.y), .bool (sgz u.z), .string (moz u.z)] 99)).alloc (.cells (wst (crsI v u).x (crsI v u).y (crsI v u).z 0) 99)).alloc (.cells (wst (crsI v u).x (crsI v u).y (crsI v u).z 0) 99))
  clear hv hu
  go_enter Tryd.func84, Tryd.ntmps84
  go_wp2
  go_loopw [9] (fun i wr => ∃ k : Nat, k ≤ 3 ∧ i = .int .i64 (k : Int) ∧ Hid (Bs wr w.heap.size [.cells #[.bool (sgz v.x), .string (moz v.x), .bool (sgz v.y), .string (moz v.y), .bool (sgz v.z), .string (moz v.z)] 99 (0, 0), .cells #[.bool (sgz u.x), .string (moz u.x), .bool (sgz u.y), .string (moz u.y), .bool (sgz u.z), .string (moz u.z)] 99 (0, 0), .cells (wst (crsI v u).x (crsI v u).y (crsI v u).z 0) 99 (0, 0), .cells (wst (crsI v u).x (crsI v u).y (crsI v u).z k) 99 (0, 0)]) ∧ Hid (Tch [] w wr))
    (fun i _ => 3 - (intOf i).toNat)
  case atStart => exact ⟨0, by omega, rfl, HB0, HT0⟩
  case round =>
    obtain ⟨k, hk, rfl, hB, hT⟩ := hrel
    rcases (show k = 0 ∨ k = 1 ∨ k = 2 ∨ k = 3 by omega) with rfl | rfl | rfl | rfl
    · obtain ⟨a0, a1, a2, a3, a4, a5⟩ := hB.out.six 0 (b := w.heap.size) rfl rfl
      obtain ⟨b0, b1, b2, b3, b4, b5⟩ := hB.out.six 1 (b := w.heap.size + 1) rfl rfl
      have G := hB
      have T := hT
      have SF := Lib.hid (fun (w3 : World) (z : Array Value) (h : Bs w3 w.heap.size [.cells #[.bool (sgz v.x), .string (moz v.x), .bool (sgz v.y), .string (moz v.y), .bool (sgz v.z), .string (moz v.z)] 99 (0, 0), .cells #[.bool (sgz u.x), .string (moz u.x), .bool (sgz u.y), .string (moz u.y), .bool (sgz u.z), .string (moz u.z)] 99 (0, 0), .cells (wst (crsI v u).x (crsI v u).y (crsI v u).z 0) 99 (0, 0), .cells z 99 (0, 0)]) => And.intro (h.six 0 (b := w.heap.size) rfl rfl) (h.six 1 (b := w.heap.size + 1) rfl rfl))
      go_wp2_with fail
      go_region_held3 (fun w3 => (w3.cell? ⟨w.heap.size, 0, none⟩ = some (.bool (sgz v.x)) ∧ w3.cell? ⟨w.heap.size, 1, none⟩ = some (.string (moz v.x)) ∧ w3.cell? ⟨w.heap.size, 2, none⟩ = some (.bool (sgz v.y)) ∧ w3.cell? ⟨w.heap.size, 3, none⟩ = some (.string (moz v.y)) ∧ w3.cell? ⟨w.heap.size, 4, none⟩ = some (.bool (sgz v.z)) ∧ w3.cell? ⟨w.heap.size, 5, none⟩ = some (.string (moz v.z))) ∧ (w3.cell? ⟨w.heap.size + 1, 0, none⟩ = some (.bool (sgz u.x)) ∧ w3.cell? ⟨w.heap.size + 1, 1, none⟩ = some (.string (moz u.x)) ∧ w3.cell? ⟨w.heap.size + 1, 2, none⟩ = some (.bool (sgz u.y)) ∧ w3.cell? ⟨w.heap.size + 1, 3, none⟩ = some (.string (moz u.y)) ∧ w3.cell? ⟨w.heap.size + 1, 4, none⟩ = some (.bool (sgz u.z)) ∧ w3.cell? ⟨w.heap.size + 1, 5, none⟩ = some (.string (moz u.z)))) (first | with_reducible exact SF.out _ _ G.out | exact SF.out _ _ G.out.drew | exact SF.out _ _ ((G.out.set 3 0 (.bool (sgz (crsI v u).x)) rfl).set 3 1 (.string (moz (crsI v u).x)) rfl)) (first
        | (go_at_call 29; (first | (with_reducible refine (M1.out _).mono ?_) | (with_reducible refine (M2.out _).mono ?_)); rintro e w3 ⟨rfl, hT⟩; (first | (with_reducible have T := Lib.hid (T.out.trans hT (by simp)); have G := Lib.hid (G.out.keep hT)) | (have T := Lib.hid (T.out.drew.trans hT (by simp)); have G := Lib.hid (G.out.drew.keep hT))); clear hT)
        | (go_at_call 97; (with_reducible refine (S1.out _).mono ?_); rintro e w3 ⟨rfl, hT⟩; have T := Lib.hid (T.out.trans hT (by simp)); have G := Lib.hid (G.out.keep hT); clear hT; obtain ⟨v0, v1, v2, v3, v4, v5⟩ := G.out.six 3 (b := w.heap.size + 1 + 1 + 1) rfl rfl; obtain ⟨f0, f1, f2, f3, f4, f5⟩ := G.out.fro6 3 (b := w.heap.size + 1 + 1 + 1) rfl rfl))
      go_wp2
      go_roundw
      case rel => exact ⟨1, by omega, by go_num, Lib.hid ((G.out.set 3 0 (.bool (sgz (crsI v u).x)) rfl).set 3 1 (.string (moz (crsI v u).x)) rfl), Lib.hid ((T.out.setCell (.inr (by simp; omega)) _).setCell (.inr (by simp; omega)) _)⟩
      case measure => simp [intOf]
    · obtain ⟨a0, a1, a2, a3, a4, a5⟩ := hB.out.six 0 (b := w.heap.size) rfl rfl
      obtain ⟨b0, b1, b2, b3, b4, b5⟩ := hB.out.six 1 (b := w.heap.size + 1) rfl rfl
      have G := hB
      have T := hT
      have SF := Lib.hid (fun (w3 : World) (z : Array Value) (h : Bs w3 w.heap.size [.cells #[.bool (sgz v.x), .string (moz v.x), .bool (sgz v.y), .string (moz v.y), .bool (sgz v.z), .string (moz v.z)] 99 (0, 0), .cells #[.bool (sgz u.x), .string (moz u.x), .bool (sgz u.y), .string (moz u.y), .bool (sgz u.z), .string (moz u.z)] 99 (0, 0), .cells (wst (crsI v u).x (crsI v u).y (crsI v u).z 0) 99 (0, 0), .cells z 99 (0, 0)]) => And.intro (h.six 0 (b := w.heap.size) rfl rfl) (h.six 1 (b := w.heap.size + 1) rfl rfl))
      go_wp2_with fail
      go_region_held3 (fun w3 => (w3.cell? ⟨w.heap.size, 0, none⟩ = some (.bool (sgz v.x)) ∧ w3.cell? ⟨w.heap.size, 1, none⟩ = some (.string (moz v.x)) ∧ w3.cell? ⟨w.heap.size, 2, none⟩ = some (.bool (sgz v.y)) ∧ w3.cell? ⟨w.heap.size, 3, none⟩ = some (.string (moz v.y)) ∧ w3.cell? ⟨w.heap.size, 4, none⟩ = some (.bool (sgz v.z)) ∧ w3.cell? ⟨w.heap.size, 5, none⟩ = some (.string (moz v.z))) ∧ (w3.cell? ⟨w.heap.size + 1, 0, none⟩ = some (.bool (sgz u.x)) ∧ w3.cell? ⟨w.heap.size + 1, 1, none⟩ = some (.string (moz u.x)) ∧ w3.cell? ⟨w.heap.size + 1, 2, none⟩ = some (.bool (sgz u.y)) ∧ w3.cell? ⟨w.heap.size + 1, 3, none⟩ = some (.string (moz u.y)) ∧ w3.cell? ⟨w.heap.size + 1, 4, none⟩ = some (.bool (sgz u.z)) ∧ w3.cell? ⟨w.heap.size + 1, 5, none⟩ = some (.string (moz u.z)))) (first | with_reducible exact SF.out _ _ G.out | exact SF.out _ _ G.out.drew | exact SF.out _ _ ((G.out.set 3 2 (.bool (sgz (crsI v u).y)) rfl).set 3 3 (.string (moz (crsI v u).y)) rfl)) (first
        | (go_at_call 29; (first | (with_reducible refine (M3.out _).mono ?_) | (with_reducible refine (M4.out _).mono ?_)); rintro e w3 ⟨rfl, hT⟩; (first | (with_reducible have T := Lib.hid (T.out.trans hT (by simp)); have G := Lib.hid (G.out.keep hT)) | (have T := Lib.hid (T.out.drew.trans hT (by simp)); have G := Lib.hid (G.out.drew.keep hT))); clear hT)
        | (go_at_call 97; (with_reducible refine (S2.out _).mono ?_); rintro e w3 ⟨rfl, hT⟩; have T := Lib.hid (T.out.trans hT (by simp)); have G := Lib.hid (G.out.keep hT); clear hT; obtain ⟨v0, v1, v2, v3, v4, v5⟩ := G.out.six 3 (b := w.heap.size + 1 + 1 + 1) rfl rfl; obtain ⟨f0, f1, f2, f3, f4, f5⟩ := G.out.fro6 3 (b := w.heap.size + 1 + 1 + 1) rfl rfl))
      go_wp2
      go_roundw
      case rel => exact ⟨2, by omega, by go_num, Lib.hid ((G.out.set 3 2 (.bool (sgz (crsI v u).y)) rfl).set 3 3 (.string (moz (crsI v u).y)) rfl), Lib.hid ((T.out.setCell (.inr (by simp; omega)) _).setCell (.inr (by simp; omega)) _)⟩
      case measure => simp [intOf]
    · obtain ⟨a0, a1, a2, a3, a4, a5⟩ := hB.out.six 0 (b := w.heap.size) rfl rfl
      obtain ⟨b0, b1, b2, b3, b4, b5⟩ := hB.out.six 1 (b := w.heap.size + 1) rfl rfl
      have G := hB
      have T := hT
      have SF := Lib.hid (fun (w3 : World) (z : Array Value) (h : Bs w3 w.heap.size [.cells #[.bool (sgz v.x), .string (moz v.x), .bool (sgz v.y), .string (moz v.y), .bool (sgz v.z), .string (moz v.z)] 99 (0, 0), .cells #[.bool (sgz u.x), .string (moz u.x), .bool (sgz u.y), .string (moz u.y), .bool (sgz u.z), .string (moz u.z)] 99 (0, 0), .cells (wst (crsI v u).x (crsI v u).y (crsI v u).z 0) 99 (0, 0), .cells z 99 (0, 0)]) => And.intro (h.six 0 (b := w.heap.size) rfl rfl) (h.six 1 (b := w.heap.size + 1) rfl rfl))
      go_wp2_with fail
      go_region_held3 (fun w3 => (w3.cell? ⟨w.heap.size, 0, none⟩ = some (.bool (sgz v.x)) ∧ w3.cell? ⟨w.heap.size, 1, none⟩ = some (.string (moz v.x)) ∧ w3.cell? ⟨w.heap.size, 2, none⟩ = some (.bool (sgz v.y)) ∧ w3.cell? ⟨w.heap.size, 3, none⟩ = some (.string (moz v.y)) ∧ w3.cell? ⟨w.heap.size, 4, none⟩ = some (.bool (sgz v.z)) ∧ w3.cell? ⟨w.heap.size, 5, none⟩ = some (.string (moz v.z))) ∧ (w3.cell? ⟨w.heap.size + 1, 0, none⟩ = some (.bool (sgz u.x)) ∧ w3.cell? ⟨w.heap.size + 1, 1, none⟩ = some (.string (moz u.x)) ∧ w3.cell? ⟨w.heap.size + 1, 2, none⟩ = some (.bool (sgz u.y)) ∧ w3.cell? ⟨w.heap.size + 1, 3, none⟩ = some (.string (moz u.y)) ∧ w3.cell? ⟨w.heap.size + 1, 4, none⟩ = some (.bool (sgz u.z)) ∧ w3.cell? ⟨w.heap.size + 1, 5, none⟩ = some (.string (moz u.z)))) (first | with_reducible exact SF.out _ _ G.out | exact SF.out _ _ G.out.drew | exact SF.out _ _ ((G.out.set 3 4 (.bool (sgz (crsI v u).z)) rfl).set 3 5 (.string (moz (crsI v u).z)) rfl)) (first
        | (go_at_call 29; (first | (with_reducible refine (M5.out _).mono ?_) | (with_reducible refine (M6.out _).mono ?_)); rintro e w3 ⟨rfl, hT⟩; (first | (with_reducible have T := Lib.hid (T.out.trans hT (by simp)); have G := Lib.hid (G.out.keep hT)) | (have T := Lib.hid (T.out.drew.trans hT (by simp)); have G := Lib.hid (G.out.drew.keep hT))); clear hT)
        | (go_at_call 97; (with_reducible refine (S3.out _).mono ?_); rintro e w3 ⟨rfl, hT⟩; have T := Lib.hid (T.out.trans hT (by simp)); have G := Lib.hid (G.out.keep hT); clear hT; obtain ⟨v0, v1, v2, v3, v4, v5⟩ := G.out.six 3 (b := w.heap.size + 1 + 1 + 1) rfl rfl; obtain ⟨f0, f1, f2, f3, f4, f5⟩ := G.out.fro6 3 (b := w.heap.size + 1 + 1 + 1) rfl rfl))
      go_wp2
      go_roundw
      case rel => exact ⟨3, by omega, by go_num, Lib.hid ((G.out.set 3 4 (.bool (sgz (crsI v u).z)) rfl).set 3 5 (.string (moz (crsI v u).z)) rfl), Lib.hid ((T.out.setCell (.inr (by simp; omega)) _).setCell (.inr (by simp; omega)) _)⟩
      case measure => simp [intOf]
    · obtain ⟨v0, v1, v2, v3, v4, v5⟩ := hB.out.six 3 (b := w.heap.size + 1 + 1 + 1) rfl rfl
      obtain ⟨r0, r1, r2, r3, r4, r5⟩ := hB.out.six 2 (b := w.heap.size + 1 + 1) rfl rfl
      obtain ⟨f0, f1, f2, f3, f4, f5⟩ := hB.out.fro6 2 (b := w.heap.size + 1 + 1) rfl rfl
      go_wp2
      refine bodyPost_ret (v := .agg (wst (crsI v u).x (crsI v u).y (crsI v u).z 3)) (by simp [results, Tryd.results84, go_sem, r0, r1, r2, r3, r4, r5, wst]) rfl ⟨rfl, ?_⟩
      exact (((((hT.out.setCell (.inr (by simp; omega)) _).setCell (.inr (by simp; omega)) _).setCell (.inr (by simp; omega)) _).setCell (.inr (by simp; omega)) _).setCell (.inr (by simp; omega)) _).setCell (.inr (by simp; omega)) _

end Go.Proofs.YtmpfgkpimjiecaaDoor
namespace Go.Proofs.YtmpfgkpimjiecaaDoor
open Go Go.RowKit Dg
/-- The vector from a to b. -/
def difI (a b : P3) : P3 := ⟨b.x - a.x, b.y - a.y, b.z - a.z⟩

structure P3.Short (p : P3) : Prop where
  x : -1073741824 < p.x ∧ p.x < 1073741824
  y : -1073741824 < p.y ∧ p.y < 1073741824
  z : -1073741824 < p.z ∧ p.z < 1073741824

structure P3.Mid (p : P3) : Prop where
  x : -2305843009213693952 < p.x ∧ p.x < 2305843009213693952
  y : -2305843009213693952 < p.y ∧ p.y < 2305843009213693952
  z : -2305843009213693952 < p.z ∧ p.z < 2305843009213693952

theorem wrap64_in {x : Int} (h : -9223372036854775808 ≤ x ∧ x ≤ 9223372036854775807) : wrap64 x = x := by
  rw [← IntWalk.i64_left, IntKind.wrap_i64]; omega

theorem mids_short {a b : Int} (ha : I64 a) (hb : I64 b) (h : um (mids a b) < 536870912) : (-1073741824 < b - a ∧ b - a < 1073741824) ∧ wrap64 (b - a) = b - a := by
  have h' : um (IntKind.i64.wrap (IntKind.i64.wrap (b / 2 - a / 2) + 268435456)) < 536870912 := by rw [IntWalk.i64_left, IntWalk.i64_left]; exact h
  have s := short_diff ha hb h'
  exact ⟨⟨s.1, s.2.1⟩, by rw [← IntWalk.i64_left]; exact s.2.2⟩

theorem shrt_dif {a b : P3} (ha : a.Ok) (hb : b.Ok) (h : shrt a b = true) : dif a b = difI a b ∧ (difI a b).Short := by
  unfold shrt at h
  rw [decide_eq_true_eq, um_wrap] at h
  obtain ⟨h1, h2, h3⟩ := or3_lt (by omega : um (bits .or .i64 (bits .or .i64 (mids a.x b.x) (mids a.y b.y)) (mids a.z b.z)) < 536870912)
  have s1 := mids_short ha.x hb.x h1
  have s2 := mids_short ha.y hb.y h2
  have s3 := mids_short ha.z hb.z h3
  exact ⟨by unfold dif difI; rw [s1.2, s2.2, s3.2], ⟨s1.1, s2.1, s3.1⟩⟩

theorem prod_in {a b c d : Int} (ha : -1073741824 < a ∧ a < 1073741824) (hb : -1073741824 < b ∧ b < 1073741824) (hc : -1073741824 < c ∧ c < 1073741824) (hd : -1073741824 < d ∧ d < 1073741824) :
    wrap64 (wrap64 (a * b) - wrap64 (c * d)) = a * b - c * d := by
  have h1 := mul_bd30 ha hb
  have h2 := mul_bd30 hc hd
  rw [wrap64_in (x := a * b) (by omega), wrap64_in (x := c * d) (by omega), wrap64_in (by omega)]

theorem crs_crsI {v u : P3} (hv : v.Short) (hu : u.Short) : crs v u = crsI v u ∧ (crsI v u).Mid := by
  refine ⟨?_, ⟨crs_bd hv.y hu.z hv.z hu.y, crs_bd hv.z hu.x hv.x hu.z, crs_bd hv.x hu.y hv.y hu.x⟩⟩
  unfold crs crsI
  rw [prod_in hv.y hu.z hv.z hu.y, prod_in hv.z hu.x hv.x hu.z, prod_in hv.x hu.y hv.y hu.x]

theorem P3.Mid.ok {p : P3} (h : p.Mid) : p.Ok := ⟨by have := h.x; unfold I64; omega, by have := h.y; unfold I64; omega, by have := h.z; unfold I64; omega⟩

theorem difI_sm {a b : P3} (ha : a.Ok) (hb : b.Ok) : (difI a b).Sm 65 :=
  ⟨(Sm.i64 hb.x.1 hb.x.2).sub (Sm.i64 ha.x.1 ha.x.2), (Sm.i64 hb.y.1 hb.y.2).sub (Sm.i64 ha.y.1 ha.y.2), (Sm.i64 hb.z.1 hb.z.2).sub (Sm.i64 ha.z.1 ha.z.2)⟩

theorem crsI_sm {v u : P3} {k : Nat} (hv : v.Sm k) (hu : u.Sm k) : (crsI v u).Sm (k + k + 1) :=
  ⟨(hv.y.mul hu.z).sub (hv.z.mul hu.y), (hv.z.mul hu.x).sub (hv.x.mul hu.z), (hv.x.mul hu.y).sub (hv.y.mul hu.x)⟩

theorem P3.Sm.mono {k l : Nat} {p : P3} (h : p.Sm k) (hl : k ≤ l) : p.Sm l := ⟨Go.Proofs.YtmpfgkpimjiecaaDoor.Sm.mono h.x hl, Go.Proofs.YtmpfgkpimjiecaaDoor.Sm.mono h.y hl, Go.Proofs.YtmpfgkpimjiecaaDoor.Sm.mono h.z hl⟩

end Go.Proofs.YtmpfgkpimjiecaaDoor
