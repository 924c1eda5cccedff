/- The reference's wide vectors: minus, wide, wideProduct, scalar. -/
import Derived.Test.YtmpfgkpimjiecaaDoorRWv
import Derived.Test.YtmpfgkpimjiecaaDoorBoxN
import Derived.Test.YtmpfgkpimjiecaaDoorVecE
import Derived.Test.YtmpfgkpimjiecaaDoorVecC
import Derived.Test.YtmpfgkpimjiecaaDoorNrm
import Derived.Test.YtmpfgkpimjiecaaDoorVecA
import Derived.Test.YtmpfgkpimjiecaaDoorLin
namespace Go.Proofs.YtmpfgkpimjiecaaDoor
open Go Go.RowKit Dg
set_option maxHeartbeats 4000000 in
set_option maxRecDepth 100000 in
theorem rMinus {x y z u : Int} (hx : Sm 190 x) (hy : Sm 190 y) (hz : Sm 190 z) (hu : Sm 190 u) (w : World) :
    Calls Tryd.prog 95 #[(.agg #[.bool (sgz x), .string (moz x)]), (.agg #[.bool (sgz y), .string (moz y)]), (.agg #[.bool (sgz z), .string (moz z)]), (.agg #[.bool (sgz u), .string (moz u)])] w fun e w' => e = .returned (.agg #[.bool (sgz (x * y - z * u)), .string (moz (x * y - z * u))]) ∧ Tch [] w w' := by
  obtain ⟨m1, h1⟩ : ∃ m, m = x * y := ⟨_, rfl⟩
  obtain ⟨m2, h2⟩ : ∃ m, m = z * u := ⟨_, rfl⟩
  obtain ⟨d, hd⟩ : ∃ m, m = x * y - z * u := ⟨_, rfl⟩
  have s1 := hx.mul hy
  have s2 := hz.mul hu
  rw [← h1] at s1
  rw [← h2] at s2
  rw [← hd]
  have C1 : Hid (∀ w1, Calls Tryd.prog 15 #[(.agg #[.bool (sgz x), .string (moz x)]), (.agg #[.bool (sgz y), .string (moz y)])] w1 fun e w' => e = .returned (.agg #[.bool (sgz m1), .string (moz m1)]) ∧ Tch [] w1 w') := Lib.hid (fun w1 => by rw [h1]; exact JMul (hx.mono (by omega)) (hy.mono (by omega)) w1)
  have C2 : Hid (∀ w1, Calls Tryd.prog 15 #[(.agg #[.bool (sgz z), .string (moz z)]), (.agg #[.bool (sgz u), .string (moz u)])] w1 fun e w' => e = .returned (.agg #[.bool (sgz m2), .string (moz m2)]) ∧ Tch [] w1 w') := Lib.hid (fun w1 => by rw [h2]; exact JMul (hz.mono (by omega)) (hu.mono (by omega)) w1)
  have C3 : Hid (∀ w1, Calls Tryd.prog 57 #[(.agg #[.bool (sgz m1), .string (moz m1)]), (.agg #[.bool (sgz m2), .string (moz m2)])] w1 fun e w' => e = .returned (.agg #[.bool (sgz d), .string (moz d)]) ∧ Tch [] w1 w') := Lib.hid (fun w1 => by rw [hd, ← h1, ← h2]; exact JSub (s1.mono (by omega)) (s2.mono (by omega)) w1)
  clear h1 h2 hd s1 s2 hx hy hz hu
  have F : Hid (Fr w (((((w.alloc (.cells #[.bool (sgz x), .string (moz x)] 26)).alloc (.cells #[.bool (sgz y), .string (moz y)] 26)).alloc (.cells #[.bool (sgz z), .string (moz z)] 26)).alloc (.cells #[.bool (sgz u), .string (moz u)] 26)).alloc (.cells #[.bool false, .string ⟨#[]⟩] 26)) [(w.heap.size, .cells #[.bool (sgz x), .string (moz x)] 26 (0, 0)), (w.heap.size + 1, .cells #[.bool (sgz y), .string (moz y)] 26 (0, 0)), (w.heap.size + 1 + 1, .cells #[.bool (sgz z), .string (moz z)] 26 (0, 0)), (w.heap.size + 1 + 1 + 1, .cells #[.bool (sgz u), .string (moz u)] 26 (0, 0)), (w.heap.size + 1 + 1 + 1 + 1, .cells #[.bool false, .string ⟨#[]⟩] 26 (0, 0))]) := Lib.hid ((((((Fr.nil w).add (.cells #[.bool (sgz x), .string (moz x)] 26) (w.heap.size) rfl).add (.cells #[.bool (sgz y), .string (moz y)] 26) (w.heap.size + 1) (by simp)).add (.cells #[.bool (sgz z), .string (moz z)] 26) (w.heap.size + 1 + 1) (by simp)).add (.cells #[.bool (sgz u), .string (moz u)] 26) (w.heap.size + 1 + 1 + 1) (by simp)).add (.cells #[.bool false, .string ⟨#[]⟩] 26) (w.heap.size + 1 + 1 + 1 + 1) (by simp))
  have SR : ∀ w4, Fr w w4 [(w.heap.size, .cells #[.bool (sgz x), .string (moz x)] 26 (0, 0)), (w.heap.size + 1, .cells #[.bool (sgz y), .string (moz y)] 26 (0, 0)), (w.heap.size + 1 + 1, .cells #[.bool (sgz z), .string (moz z)] 26 (0, 0)), (w.heap.size + 1 + 1 + 1, .cells #[.bool (sgz u), .string (moz u)] 26 (0, 0))] → (w4.cell? ⟨w.heap.size, 0, none⟩ = some (.bool (sgz x)) ∧ w4.cell? ⟨w.heap.size, 1, none⟩ = some (.string (moz x))) ∧ (w4.cell? ⟨w.heap.size + 1, 0, none⟩ = some (.bool (sgz y)) ∧ w4.cell? ⟨w.heap.size + 1, 1, none⟩ = some (.string (moz y))) ∧ (w4.cell? ⟨w.heap.size + 1 + 1, 0, none⟩ = some (.bool (sgz z)) ∧ w4.cell? ⟨w.heap.size + 1 + 1, 1, none⟩ = some (.string (moz z))) ∧ (w4.cell? ⟨w.heap.size + 1 + 1 + 1, 0, none⟩ = some (.bool (sgz u)) ∧ w4.cell? ⟨w.heap.size + 1 + 1 + 1, 1, none⟩ = some (.string (moz u))) := fun w4 h => ⟨h.two 0 rfl, h.two 1 rfl, h.two 2 rfl, h.two 3 rfl⟩
  have SF := Lib.hid (fun (w4 : World) (h : Fr w w4 [(w.heap.size, .cells #[.bool (sgz x), .string (moz x)] 26 (0, 0)), (w.heap.size + 1, .cells #[.bool (sgz y), .string (moz y)] 26 (0, 0)), (w.heap.size + 1 + 1, .cells #[.bool (sgz z), .string (moz z)] 26 (0, 0)), (w.heap.size + 1 + 1 + 1, .cells #[.bool (sgz u), .string (moz u)] 26 (0, 0)), (w.heap.size + 1 + 1 + 1 + 1, .cells #[.bool false, .string ⟨#[]⟩] 26 (0, 0))]) => SR w4 (h.sub (l' := [(w.heap.size, .cells #[.bool (sgz x), .string (moz x)] 26 (0, 0)), (w.heap.size + 1, .cells #[.bool (sgz y), .string (moz y)] 26 (0, 0)), (w.heap.size + 1 + 1, .cells #[.bool (sgz z), .string (moz z)] 26 (0, 0)), (w.heap.size + 1 + 1 + 1, .cells #[.bool (sgz u), .string (moz u)] 26 (0, 0))]) (by intro q hq; simp only [List.mem_cons, List.not_mem_nil, or_false] at hq ⊢; rcases hq with rfl | rfl | rfl | rfl <;> simp)))
  have ST := Lib.hid (fun (w4 : World) (y0 y1 : Value) (h : Fr w w4 [(w.heap.size, .cells #[.bool (sgz x), .string (moz x)] 26 (0, 0)), (w.heap.size + 1, .cells #[.bool (sgz y), .string (moz y)] 26 (0, 0)), (w.heap.size + 1 + 1, .cells #[.bool (sgz z), .string (moz z)] 26 (0, 0)), (w.heap.size + 1 + 1 + 1, .cells #[.bool (sgz u), .string (moz u)] 26 (0, 0)), (w.heap.size + 1 + 1 + 1 + 1, .cells #[.bool false, .string ⟨#[]⟩] 26 (0, 0))]) => SR _ (((h.sub (l' := [(w.heap.size, .cells #[.bool (sgz x), .string (moz x)] 26 (0, 0)), (w.heap.size + 1, .cells #[.bool (sgz y), .string (moz y)] 26 (0, 0)), (w.heap.size + 1 + 1, .cells #[.bool (sgz z), .string (moz z)] 26 (0, 0)), (w.heap.size + 1 + 1 + 1, .cells #[.bool (sgz u), .string (moz u)] 26 (0, 0))]) (by intro q hq; simp only [List.mem_cons, List.not_mem_nil, or_false] at hq ⊢; rcases hq with rfl | rfl | rfl | rfl <;> simp)).away (p := ⟨w.heap.size + 1 + 1 + 1 + 1, 0, none⟩) (by intro q hq; simp only [List.mem_cons, List.not_mem_nil, or_false] at hq; rcases hq with rfl | rfl | rfl | rfl <;> simp <;> omega) (by simp; omega) y0).away (p := ⟨w.heap.size + 1 + 1 + 1 + 1, 1, none⟩) (by intro q hq; simp only [List.mem_cons, List.not_mem_nil, or_false] at hq; rcases hq with rfl | rfl | rfl | rfl <;> simp <;> omega) (by simp; omega) y1))
  clear SR
  go_enter Tryd.func95, Tryd.ntmps95
  go_wp2_with fail
  go_region_held3 (fun w4 => (w4.cell? ⟨w.heap.size, 0, none⟩ = some (.bool (sgz x)) ∧ w4.cell? ⟨w.heap.size, 1, none⟩ = some (.string (moz x))) ∧ (w4.cell? ⟨w.heap.size + 1, 0, none⟩ = some (.bool (sgz y)) ∧ w4.cell? ⟨w.heap.size + 1, 1, none⟩ = some (.string (moz y))) ∧ (w4.cell? ⟨w.heap.size + 1 + 1, 0, none⟩ = some (.bool (sgz z)) ∧ w4.cell? ⟨w.heap.size + 1 + 1, 1, none⟩ = some (.string (moz z))) ∧ (w4.cell? ⟨w.heap.size + 1 + 1 + 1, 0, none⟩ = some (.bool (sgz u)) ∧ w4.cell? ⟨w.heap.size + 1 + 1 + 1, 1, none⟩ = some (.string (moz u)))) (first | with_reducible exact SF.out _ F.out | with_reducible exact SF.out _ F.out.drew | with_reducible exact ST.out _ _ _ F.out) (first
    | (go_at_call 15; (first | (with_reducible refine (C1.out _).mono ?_) | (with_reducible refine (C2.out _).mono ?_)); rintro e w5 ⟨rfl, hT⟩; (first | (with_reducible have F := Lib.hid (F.out.keep hT)) | (have F := Lib.hid (F.out.drew.keep hT))); clear hT)
    | (go_at_call 57; (with_reducible refine (C3.out _).mono ?_); rintro e w5 ⟨rfl, hT⟩; (first | (with_reducible have F := Lib.hid (F.out.keep hT)) | (have F := Lib.hid (F.out.drew.keep hT))); clear hT; obtain ⟨r0, r1⟩ := F.out.two 4 rfl; obtain ⟨f0, f1⟩ := F.out.fro2 4 rfl)
    | fail)
  all_goals
    go_wp2
    refine bodyPost_ret (v := (.agg #[.bool (sgz d), .string (moz d)])) (by simp [results, Tryd.results95, go_sem, r0, r1]) rfl ⟨rfl, ?_⟩
    exact F.out.fin2 4 rfl _ _

set_option maxHeartbeats 8000000 in
set_option maxRecDepth 100000 in
theorem rwideV (a b : P3) (ha : a.Ok) (hb : b.Ok) (w : World) :
    Calls Tryd.prog 79 #[(.agg #[.int .i64 a.x, .int .i64 a.y, .int .i64 a.z]), (.agg #[.int .i64 b.x, .int .i64 b.y, .int .i64 b.z])] w fun e w' => e = .returned (.agg #[.bool (sgz (difI a b).x), .string (moz (difI a b).x), .bool (sgz (difI a b).y), .string (moz (difI a b).y), .bool (sgz (difI a b).z), .string (moz (difI a b).z)]) ∧ Tch [] w w' := by
  obtain ⟨d, hd⟩ : ∃ d, d = difI a b := ⟨_, rfl⟩
  rw [← hd]
  have A0 : Hid (∀ w1, Calls Tryd.prog 40 #[.int .i64 a.x] w1 fun e w' => e = .returned (.agg #[.bool (sgz a.x), .string (moz a.x)]) ∧ Tch [] w1 w') := Lib.hid (fun w1 => JFrom ha.x.1 ha.x.2 w1)
  have B0 : Hid (∀ w1, Calls Tryd.prog 40 #[.int .i64 b.x] w1 fun e w' => e = .returned (.agg #[.bool (sgz b.x), .string (moz b.x)]) ∧ Tch [] w1 w') := Lib.hid (fun w1 => JFrom hb.x.1 hb.x.2 w1)
  have D0 : Hid (∀ w1, Calls Tryd.prog 57 #[(.agg #[.bool (sgz b.x), .string (moz b.x)]), (.agg #[.bool (sgz a.x), .string (moz a.x)])] w1 fun e w' => e = .returned (.agg #[.bool (sgz d.x), .string (moz d.x)]) ∧ Tch [] w1 w') := Lib.hid (fun w1 => by rw [hd]; exact JSub ((Sm.i64 hb.x.1 hb.x.2).mono (by omega)) ((Sm.i64 ha.x.1 ha.x.2).mono (by omega)) w1)
  have A1 : Hid (∀ w1, Calls Tryd.prog 40 #[.int .i64 a.y] w1 fun e w' => e = .returned (.agg #[.bool (sgz a.y), .string (moz a.y)]) ∧ Tch [] w1 w') := Lib.hid (fun w1 => JFrom ha.y.1 ha.y.2 w1)
  have B1 : Hid (∀ w1, Calls Tryd.prog 40 #[.int .i64 b.y] w1 fun e w' => e = .returned (.agg #[.bool (sgz b.y), .string (moz b.y)]) ∧ Tch [] w1 w') := Lib.hid (fun w1 => JFrom hb.y.1 hb.y.2 w1)
  have D1 : Hid (∀ w1, Calls Tryd.prog 57 #[(.agg #[.bool (sgz b.y), .string (moz b.y)]), (.agg #[.bool (sgz a.y), .string (moz a.y)])] w1 fun e w' => e = .returned (.agg #[.bool (sgz d.y), .string (moz d.y)]) ∧ Tch [] w1 w') := Lib.hid (fun w1 => by rw [hd]; exact JSub ((Sm.i64 hb.y.1 hb.y.2).mono (by omega)) ((Sm.i64 ha.y.1 ha.y.2).mono (by omega)) w1)
  have A2 : Hid (∀ w1, Calls Tryd.prog 40 #[.int .i64 a.z] w1 fun e w' => e = .returned (.agg #[.bool (sgz a.z), .string (moz a.z)]) ∧ Tch [] w1 w') := Lib.hid (fun w1 => JFrom ha.z.1 ha.z.2 w1)
  have B2 : Hid (∀ w1, Calls Tryd.prog 40 #[.int .i64 b.z] w1 fun e w' => e = .returned (.agg #[.bool (sgz b.z), .string (moz b.z)]) ∧ Tch [] w1 w') := Lib.hid (fun w1 => JFrom hb.z.1 hb.z.2 w1)
  have D2 : Hid (∀ w1, Calls Tryd.prog 57 #[(.agg #[.bool (sgz b.z), .string (moz b.z)]), (.agg #[.bool (sgz a.z), .string (moz a.z)])] w1 fun e w' => e = .returned (.agg #[.bool (sgz d.z), .string (moz d.z)]) ∧ Tch [] w1 w') := Lib.hid (fun w1 => by rw [hd]; exact JSub ((Sm.i64 hb.z.1 hb.z.2).mono (by omega)) ((Sm.i64 ha.z.1 ha.z.2).mono (by omega)) w1)
  clear hd ha hb
  have F : Hid (Fr w (((w.alloc (.cells #[.int .i64 a.x, .int .i64 a.y, .int .i64 a.z] 23)).alloc (.cells #[.int .i64 b.x, .int .i64 b.y, .int .i64 b.z] 23)).alloc (.cells #[.bool false, .string ⟨#[]⟩, .bool false, .string ⟨#[]⟩, .bool false, .string ⟨#[]⟩] 64)) [(w.heap.size, .cells #[.int .i64 a.x, .int .i64 a.y, .int .i64 a.z] 23 (0, 0)), (w.heap.size + 1, .cells #[.int .i64 b.x, .int .i64 b.y, .int .i64 b.z] 23 (0, 0)), (w.heap.size + 1 + 1, .cells #[.bool false, .string ⟨#[]⟩, .bool false, .string ⟨#[]⟩, .bool false, .string ⟨#[]⟩] 64 (0, 0))]) := Lib.hid ((((Fr.nil w).add (.cells #[.int .i64 a.x, .int .i64 a.y, .int .i64 a.z] 23) (w.heap.size) rfl).add (.cells #[.int .i64 b.x, .int .i64 b.y, .int .i64 b.z] 23) (w.heap.size + 1) (by simp)).add (.cells #[.bool false, .string ⟨#[]⟩, .bool false, .string ⟨#[]⟩, .bool false, .string ⟨#[]⟩] 64) (w.heap.size + 1 + 1) (by simp))
  obtain ⟨W, hW⟩ : ∃ W, W = (((w.alloc (.cells #[.int .i64 a.x, .int .i64 a.y, .int .i64 a.z] 23)).alloc (.cells #[.int .i64 b.x, .int .i64 b.y, .int .i64 b.z] 23)).alloc (.cells #[.bool false, .string ⟨#[]⟩, .bool false, .string ⟨#[]⟩, .bool false, .string ⟨#[]⟩] 64)) := ⟨_, rfl⟩
  rw [← hW] at F
  have HW := Lib.hid hW
  clear hW
  go_enter Tryd.func79, Tryd.ntmps79
  go_upto_region 1 with (fail)
  rw [← HW.out]
  clear HW
  obtain ⟨l, G, SA0, SB0, SC0, RR0⟩ : ∃ l, Fr w W l ∧ (∀ w', Fr w w' l → w'.cell? ⟨w.heap.size, 0, none⟩ = some (.int .i64 a.x) ∧ w'.cell? ⟨w.heap.size + 1, 0, none⟩ = some (.int .i64 b.x)) ∧ (∀ w', Fr w w' l → w'.cell? ⟨w.heap.size, 1, none⟩ = some (.int .i64 a.y) ∧ w'.cell? ⟨w.heap.size + 1, 1, none⟩ = some (.int .i64 b.y)) ∧ (∀ w', Fr w w' l → w'.cell? ⟨w.heap.size, 2, none⟩ = some (.int .i64 a.z) ∧ w'.cell? ⟨w.heap.size + 1, 2, none⟩ = some (.int .i64 b.z)) ∧ (∀ w', Fr w w' l → Fr w w' [(w.heap.size + 1 + 1, .cells #[.bool false, .string ⟨#[]⟩, .bool false, .string ⟨#[]⟩, .bool false, .string ⟨#[]⟩] 64 (0, 0))]) :=
    ⟨_, F.out, fun w' h => ⟨h.cell 0 0 rfl rfl, h.cell 1 0 rfl rfl⟩, fun w' h => ⟨h.cell 0 1 rfl rfl, h.cell 1 1 rfl rfl⟩, fun w' h => ⟨h.cell 0 2 rfl rfl, h.cell 1 2 rfl rfl⟩, fun w' h => h.only 2 rfl⟩
  have F := Lib.hid G
  have SA0 := Lib.hid SA0
  have SA1 := Lib.hid SB0
  have SA2 := Lib.hid SC0
  have RR := Lib.hid RR0
  clear G SB0 SC0 RR0
  have SQ := Lib.hid (fun (w' : World) (h : Fr w w' (l)) => SA0.out w' h)
  go_cut [5] (fun s wx => MidC w (l) (.cells #[.bool (sgz d.x), .string (moz d.x)] 26 (0, 0)) s wx)
  case first =>
    go_region_held3 (fun w' => w'.cell? ⟨w.heap.size, 0, none⟩ = some (.int .i64 a.x) ∧ w'.cell? ⟨w.heap.size + 1, 0, none⟩ = some (.int .i64 b.x)) (first | with_reducible exact SQ.out _ F3.out | with_reducible exact SQ.out _ (F3.out.beside _) | with_reducible exact SQ.out _ (F3.out.box2 _ _ _) | with_reducible exact SQ.out _ (B3.out.set2 _ _) | with_reducible exact SQ.out _ F.out | with_reducible exact SQ.out _ F.out.drew | with_reducible exact SQ.out _ (F.out.drew.beside _) | with_reducible exact SQ.out _ (F.out.beside _).drew) (first
      | (go_at_call 40; (first | (with_reducible refine (A0.out _).mono ?_) | (with_reducible refine (B0.out _).mono ?_)); rintro e w5 ⟨rfl, hT⟩; (first | (with_reducible have B3 := Lib.hid (B3.out.keep hT); clear z0 z1 f0 f1; obtain ⟨⟨z0, z1⟩, ⟨f0, f1⟩⟩ := B3.out.two; have F3 := Lib.hid B3.out.f) | (with_reducible have F3 := Lib.hid (F3.out.keep hT)) | (with_reducible have B3 := Lib.hid (F3.out.boxed _ hT); obtain ⟨⟨z0, z1⟩, ⟨f0, f1⟩⟩ := B3.out.two; have F3 := Lib.hid B3.out.f) | (with_reducible have B3 := Lib.hid (F.out.boxedAt _ W.heap.size rfl (Tch.undrew hT)); obtain ⟨⟨z0, z1⟩, ⟨f0, f1⟩⟩ := B3.out.two; have F3 := Lib.hid B3.out.f) | (with_reducible have F3 := Lib.hid (F.out.keep (Tch.undrew hT)))); clear hT)
      | (go_at_call 57; (with_reducible refine (D0.out _).mono ?_); rintro e w5 ⟨rfl, hT⟩; (first | (with_reducible have B3 := Lib.hid (B3.out.keep hT); clear z0 z1 f0 f1; obtain ⟨⟨z0, z1⟩, ⟨f0, f1⟩⟩ := B3.out.two; have F3 := Lib.hid B3.out.f) | (with_reducible have F3 := Lib.hid (F3.out.keep hT)) | (with_reducible have B3 := Lib.hid (F3.out.boxed _ hT); obtain ⟨⟨z0, z1⟩, ⟨f0, f1⟩⟩ := B3.out.two; have F3 := Lib.hid B3.out.f) | (with_reducible have B3 := Lib.hid (F.out.boxedAt _ W.heap.size rfl (Tch.undrew hT)); obtain ⟨⟨z0, z1⟩, ⟨f0, f1⟩⟩ := B3.out.two; have F3 := Lib.hid B3.out.f) | (with_reducible have F3 := Lib.hid (F.out.keep (Tch.undrew hT)))); clear hT))
    all_goals (go_wp2_with fail; go_meet; (first | with_reducible exact F3.out.midC _ | with_reducible exact B3.out.midC2 _ _))
  case rest =>
  obtain ⟨g0, rfl, FB⟩ := hcut
  have F := Lib.hid FB.all
  clear FB SQ
  go_upto_region 2 with (fail)
  have SQ := Lib.hid (fun (w' : World) (h : Fr w w' (l ++ [(g0, .cells #[.bool (sgz d.x), .string (moz d.x)] 26 (0, 0))])) => SA1.out w' h.front)
  go_cut [6] (fun s wx => MidC w (l ++ [(g0, .cells #[.bool (sgz d.x), .string (moz d.x)] 26 (0, 0))]) (.cells #[.bool (sgz d.y), .string (moz d.y)] 26 (0, 0)) s wx)
  case first =>
    go_region_held3 (fun w' => w'.cell? ⟨w.heap.size, 1, none⟩ = some (.int .i64 a.y) ∧ w'.cell? ⟨w.heap.size + 1, 1, none⟩ = some (.int .i64 b.y)) (first | with_reducible exact SQ.out _ F3.out | with_reducible exact SQ.out _ (F3.out.beside _) | with_reducible exact SQ.out _ (F3.out.box2 _ _ _) | with_reducible exact SQ.out _ (B3.out.set2 _ _) | with_reducible exact SQ.out _ F.out | with_reducible exact SQ.out _ F.out.drew | with_reducible exact SQ.out _ (F.out.drew.beside _) | with_reducible exact SQ.out _ (F.out.beside _).drew) (first
      | (go_at_call 40; (first | (with_reducible refine (A1.out _).mono ?_) | (with_reducible refine (B1.out _).mono ?_)); rintro e w5 ⟨rfl, hT⟩; (first | (with_reducible have B3 := Lib.hid (B3.out.keep hT); clear z0 z1 f0 f1; obtain ⟨⟨z0, z1⟩, ⟨f0, f1⟩⟩ := B3.out.two; have F3 := Lib.hid B3.out.f) | (with_reducible have F3 := Lib.hid (F3.out.keep hT)) | (with_reducible have B3 := Lib.hid (F3.out.boxed _ hT); obtain ⟨⟨z0, z1⟩, ⟨f0, f1⟩⟩ := B3.out.two; have F3 := Lib.hid B3.out.f) | (with_reducible have B3 := Lib.hid (F.out.boxedAt _ wc.heap.size rfl (Tch.undrew hT)); obtain ⟨⟨z0, z1⟩, ⟨f0, f1⟩⟩ := B3.out.two; have F3 := Lib.hid B3.out.f) | (with_reducible have F3 := Lib.hid (F.out.keep (Tch.undrew hT)))); clear hT)
      | (go_at_call 57; (with_reducible refine (D1.out _).mono ?_); rintro e w5 ⟨rfl, hT⟩; (first | (with_reducible have B3 := Lib.hid (B3.out.keep hT); clear z0 z1 f0 f1; obtain ⟨⟨z0, z1⟩, ⟨f0, f1⟩⟩ := B3.out.two; have F3 := Lib.hid B3.out.f) | (with_reducible have F3 := Lib.hid (F3.out.keep hT)) | (with_reducible have B3 := Lib.hid (F3.out.boxed _ hT); obtain ⟨⟨z0, z1⟩, ⟨f0, f1⟩⟩ := B3.out.two; have F3 := Lib.hid B3.out.f) | (with_reducible have B3 := Lib.hid (F.out.boxedAt _ wc.heap.size rfl (Tch.undrew hT)); obtain ⟨⟨z0, z1⟩, ⟨f0, f1⟩⟩ := B3.out.two; have F3 := Lib.hid B3.out.f) | (with_reducible have F3 := Lib.hid (F.out.keep (Tch.undrew hT)))); clear hT))
    all_goals (go_wp2_with fail; go_meet; (first | with_reducible exact F3.out.midC _ | with_reducible exact B3.out.midC2 _ _))
  case rest =>
  obtain ⟨g1, rfl, FB⟩ := hcut
  have F := Lib.hid FB.all
  clear FB SQ
  go_upto_region 3 with (fail)
  have SQ := Lib.hid (fun (w' : World) (h : Fr w w' ((l ++ [(g0, .cells #[.bool (sgz d.x), .string (moz d.x)] 26 (0, 0))]) ++ [(g1, .cells #[.bool (sgz d.y), .string (moz d.y)] 26 (0, 0))])) => SA2.out w' h.front.front)
  go_cut [7] (fun s wx => MidC w ((l ++ [(g0, .cells #[.bool (sgz d.x), .string (moz d.x)] 26 (0, 0))]) ++ [(g1, .cells #[.bool (sgz d.y), .string (moz d.y)] 26 (0, 0))]) (.cells #[.bool (sgz d.z), .string (moz d.z)] 26 (0, 0)) s wx)
  case first =>
    go_region_held3 (fun w' => w'.cell? ⟨w.heap.size, 2, none⟩ = some (.int .i64 a.z) ∧ w'.cell? ⟨w.heap.size + 1, 2, none⟩ = some (.int .i64 b.z)) (first | with_reducible exact SQ.out _ F3.out | with_reducible exact SQ.out _ (F3.out.beside _) | with_reducible exact SQ.out _ (F3.out.box2 _ _ _) | with_reducible exact SQ.out _ (B3.out.set2 _ _) | with_reducible exact SQ.out _ F.out | with_reducible exact SQ.out _ F.out.drew | with_reducible exact SQ.out _ (F.out.drew.beside _) | with_reducible exact SQ.out _ (F.out.beside _).drew) (first
      | (go_at_call 40; (first | (with_reducible refine (A2.out _).mono ?_) | (with_reducible refine (B2.out _).mono ?_)); rintro e w5 ⟨rfl, hT⟩; (first | (with_reducible have B3 := Lib.hid (B3.out.keep hT); clear z0 z1 f0 f1; obtain ⟨⟨z0, z1⟩, ⟨f0, f1⟩⟩ := B3.out.two; have F3 := Lib.hid B3.out.f) | (with_reducible have F3 := Lib.hid (F3.out.keep hT)) | (with_reducible have B3 := Lib.hid (F3.out.boxed _ hT); obtain ⟨⟨z0, z1⟩, ⟨f0, f1⟩⟩ := B3.out.two; have F3 := Lib.hid B3.out.f) | (with_reducible have B3 := Lib.hid (F.out.boxedAt _ wc.heap.size rfl (Tch.undrew hT)); obtain ⟨⟨z0, z1⟩, ⟨f0, f1⟩⟩ := B3.out.two; have F3 := Lib.hid B3.out.f) | (with_reducible have F3 := Lib.hid (F.out.keep (Tch.undrew hT)))); clear hT)
      | (go_at_call 57; (with_reducible refine (D2.out _).mono ?_); rintro e w5 ⟨rfl, hT⟩; (first | (with_reducible have B3 := Lib.hid (B3.out.keep hT); clear z0 z1 f0 f1; obtain ⟨⟨z0, z1⟩, ⟨f0, f1⟩⟩ := B3.out.two; have F3 := Lib.hid B3.out.f) | (with_reducible have F3 := Lib.hid (F3.out.keep hT)) | (with_reducible have B3 := Lib.hid (F3.out.boxed _ hT); obtain ⟨⟨z0, z1⟩, ⟨f0, f1⟩⟩ := B3.out.two; have F3 := Lib.hid B3.out.f) | (with_reducible have B3 := Lib.hid (F.out.boxedAt _ wc.heap.size rfl (Tch.undrew hT)); obtain ⟨⟨z0, z1⟩, ⟨f0, f1⟩⟩ := B3.out.two; have F3 := Lib.hid B3.out.f) | (with_reducible have F3 := Lib.hid (F.out.keep (Tch.undrew hT)))); clear hT))
    all_goals (go_wp2_with fail; go_meet; (first | with_reducible exact F3.out.midC _ | with_reducible exact B3.out.midC2 _ _))
  case rest =>
  obtain ⟨g2, rfl, FB⟩ := hcut
  have F := Lib.hid FB.all
  clear FB SQ
  obtain ⟨x0, x1⟩ := F.out.front.front.ltwo
  obtain ⟨y0, y1⟩ := F.out.front.ltwo
  obtain ⟨z0, z1⟩ := F.out.ltwo
  obtain ⟨r0, r1, r2, r3, r4, r5⟩ := (RR.out _ F.out.front.front.front).six 0 rfl
  obtain ⟨f0, f1, f2, f3, f4, f5⟩ := (RR.out _ F.out.front.front.front).fro6 0 rfl
  have T := Lib.hid (fun (x y z p q r : Value) => (RR.out _ F.out.front.front.front).fin6 0 rfl x y z p q r)
  go_wp2
  refine bodyPost_ret (v := (.agg #[.bool (sgz d.x), .string (moz d.x), .bool (sgz d.y), .string (moz d.y), .bool (sgz d.z), .string (moz d.z)])) (by simp [results, Tryd.results79, go_sem, r0, r1, r2, r3, r4, r5]) rfl ⟨rfl, ?_⟩
  exact T.out _ _ _ _ _ _

set_option maxHeartbeats 8000000 in
set_option maxRecDepth 100000 in
theorem rwideProduct (v u : P3) (hv : v.Sm 190) (hu : u.Sm 190) (w : World) :
    Calls Tryd.prog 78 #[.agg #[.bool (sgz v.x), .string (moz v.x), .bool (sgz v.y), .string (moz v.y), .bool (sgz v.z), .string (moz v.z)], .agg #[.bool (sgz u.x), .string (moz u.x), .bool (sgz u.y), .string (moz u.y), .bool (sgz u.z), .string (moz u.z)]] w fun e w' => e = .returned (.agg #[.bool (sgz (crsI v u).x), .string (moz (crsI v u).x), .bool (sgz (crsI v u).y), .string (moz (crsI v u).y), .bool (sgz (crsI v u).z), .string (moz (crsI v u).z)]) ∧ Tch [] w w' := by
  obtain ⟨d, hd⟩ : ∃ d, d = crsI v u := ⟨_, rfl⟩
  rw [← hd]
  have C0 : Hid (∀ w1, Calls Tryd.prog 95 #[(.agg #[.bool (sgz v.y), .string (moz v.y)]), (.agg #[.bool (sgz u.z), .string (moz u.z)]), (.agg #[.bool (sgz v.z), .string (moz v.z)]), (.agg #[.bool (sgz u.y), .string (moz u.y)])] w1 fun e w' => e = .returned (.agg #[.bool (sgz d.x), .string (moz d.x)]) ∧ Tch [] w1 w') := Lib.hid (fun w1 => by rw [hd]; exact rMinus hv.y hu.z hv.z hu.y w1)
  have C1 : Hid (∀ w1, Calls Tryd.prog 95 #[(.agg #[.bool (sgz v.z), .string (moz v.z)]), (.agg #[.bool (sgz u.x), .string (moz u.x)]), (.agg #[.bool (sgz v.x), .string (moz v.x)]), (.agg #[.bool (sgz u.z), .string (moz u.z)])] w1 fun e w' => e = .returned (.agg #[.bool (sgz d.y), .string (moz d.y)]) ∧ Tch [] w1 w') := Lib.hid (fun w1 => by rw [hd]; exact rMinus hv.z hu.x hv.x hu.z w1)
  have C2 : Hid (∀ w1, Calls Tryd.prog 95 #[(.agg #[.bool (sgz v.x), .string (moz v.x)]), (.agg #[.bool (sgz u.y), .string (moz u.y)]), (.agg #[.bool (sgz v.y), .string (moz v.y)]), (.agg #[.bool (sgz u.x), .string (moz u.x)])] w1 fun e w' => e = .returned (.agg #[.bool (sgz d.z), .string (moz d.z)]) ∧ Tch [] w1 w') := Lib.hid (fun w1 => by rw [hd]; exact rMinus hv.x hu.y hv.y hu.x w1)
  clear hd hv hu
  have F : Hid (Fr w (((w.alloc (.cells #[.bool (sgz v.x), .string (moz v.x), .bool (sgz v.y), .string (moz v.y), .bool (sgz v.z), .string (moz v.z)] 64)).alloc (.cells #[.bool (sgz u.x), .string (moz u.x), .bool (sgz u.y), .string (moz u.y), .bool (sgz u.z), .string (moz u.z)] 64)).alloc (.cells #[.bool false, .string ⟨#[]⟩, .bool false, .string ⟨#[]⟩, .bool false, .string ⟨#[]⟩] 64)) [(w.heap.size, .cells #[.bool (sgz v.x), .string (moz v.x), .bool (sgz v.y), .string (moz v.y), .bool (sgz v.z), .string (moz v.z)] 64 (0, 0)), (w.heap.size + 1, .cells #[.bool (sgz u.x), .string (moz u.x), .bool (sgz u.y), .string (moz u.y), .bool (sgz u.z), .string (moz u.z)] 64 (0, 0)), (w.heap.size + 1 + 1, .cells #[.bool false, .string ⟨#[]⟩, .bool false, .string ⟨#[]⟩, .bool false, .string ⟨#[]⟩] 64 (0, 0))]) := Lib.hid ((((Fr.nil w).add (.cells #[.bool (sgz v.x), .string (moz v.x), .bool (sgz v.y), .string (moz v.y), .bool (sgz v.z), .string (moz v.z)] 64) (w.heap.size) rfl).add (.cells #[.bool (sgz u.x), .string (moz u.x), .bool (sgz u.y), .string (moz u.y), .bool (sgz u.z), .string (moz u.z)] 64) (w.heap.size + 1) (by simp)).add (.cells #[.bool false, .string ⟨#[]⟩, .bool false, .string ⟨#[]⟩, .bool false, .string ⟨#[]⟩] 64) (w.heap.size + 1 + 1) (by simp))
  have SR : ∀ w4, Fr w w4 [(w.heap.size, .cells #[.bool (sgz v.x), .string (moz v.x), .bool (sgz v.y), .string (moz v.y), .bool (sgz v.z), .string (moz v.z)] 64 (0, 0)), (w.heap.size + 1, .cells #[.bool (sgz u.x), .string (moz u.x), .bool (sgz u.y), .string (moz u.y), .bool (sgz u.z), .string (moz u.z)] 64 (0, 0))] → (w4.cell? ⟨w.heap.size, 0, none⟩ = some (.bool (sgz v.x)) ∧ w4.cell? ⟨w.heap.size, 1, none⟩ = some (.string (moz v.x)) ∧ w4.cell? ⟨w.heap.size, 2, none⟩ = some (.bool (sgz v.y)) ∧ w4.cell? ⟨w.heap.size, 3, none⟩ = some (.string (moz v.y)) ∧ w4.cell? ⟨w.heap.size, 4, none⟩ = some (.bool (sgz v.z)) ∧ w4.cell? ⟨w.heap.size, 5, none⟩ = some (.string (moz v.z))) ∧ (w4.cell? ⟨w.heap.size + 1, 0, none⟩ = some (.bool (sgz u.x)) ∧ w4.cell? ⟨w.heap.size + 1, 1, none⟩ = some (.string (moz u.x)) ∧ w4.cell? ⟨w.heap.size + 1, 2, none⟩ = some (.bool (sgz u.y)) ∧ w4.cell? ⟨w.heap.size + 1, 3, none⟩ = some (.string (moz u.y)) ∧ w4.cell? ⟨w.heap.size + 1, 4, none⟩ = some (.bool (sgz u.z)) ∧ w4.cell? ⟨w.heap.size + 1, 5, none⟩ = some (.string (moz u.z))) := fun w4 h => ⟨h.six 0 rfl, h.six 1 rfl⟩
  have SF := Lib.hid (fun (w4 : World) (h : Fr w w4 [(w.heap.size, .cells #[.bool (sgz v.x), .string (moz v.x), .bool (sgz v.y), .string (moz v.y), .bool (sgz v.z), .string (moz v.z)] 64 (0, 0)), (w.heap.size + 1, .cells #[.bool (sgz u.x), .string (moz u.x), .bool (sgz u.y), .string (moz u.y), .bool (sgz u.z), .string (moz u.z)] 64 (0, 0)), (w.heap.size + 1 + 1, .cells #[.bool false, .string ⟨#[]⟩, .bool false, .string ⟨#[]⟩, .bool false, .string ⟨#[]⟩] 64 (0, 0))]) => SR w4 (h.sub (l' := [(w.heap.size, .cells #[.bool (sgz v.x), .string (moz v.x), .bool (sgz v.y), .string (moz v.y), .bool (sgz v.z), .string (moz v.z)] 64 (0, 0)), (w.heap.size + 1, .cells #[.bool (sgz u.x), .string (moz u.x), .bool (sgz u.y), .string (moz u.y), .bool (sgz u.z), .string (moz u.z)] 64 (0, 0))]) (by intro q hq; simp only [List.mem_cons, List.not_mem_nil, or_false] at hq ⊢; rcases hq with rfl | rfl <;> simp)))
  have ST := Lib.hid (fun (w4 : World) (y0 y1 y2 y3 y4 y5 : Value) (h : Fr w w4 [(w.heap.size, .cells #[.bool (sgz v.x), .string (moz v.x), .bool (sgz v.y), .string (moz v.y), .bool (sgz v.z), .string (moz v.z)] 64 (0, 0)), (w.heap.size + 1, .cells #[.bool (sgz u.x), .string (moz u.x), .bool (sgz u.y), .string (moz u.y), .bool (sgz u.z), .string (moz u.z)] 64 (0, 0)), (w.heap.size + 1 + 1, .cells #[.bool false, .string ⟨#[]⟩, .bool false, .string ⟨#[]⟩, .bool false, .string ⟨#[]⟩] 64 (0, 0))]) => SR _ ((h.sub (l' := [(w.heap.size, .cells #[.bool (sgz v.x), .string (moz v.x), .bool (sgz v.y), .string (moz v.y), .bool (sgz v.z), .string (moz v.z)] 64 (0, 0)), (w.heap.size + 1, .cells #[.bool (sgz u.x), .string (moz u.x), .bool (sgz u.y), .string (moz u.y), .bool (sgz u.z), .string (moz u.z)] 64 (0, 0))]) (by intro q hq; simp only [List.mem_cons, List.not_mem_nil, or_false] at hq ⊢; rcases hq with rfl | rfl <;> simp)).away6 (b := w.heap.size + 1 + 1) (by intro q hq; simp only [List.mem_cons, List.not_mem_nil, or_false] at hq; rcases hq with rfl | rfl <;> simp <;> omega) (by omega) y0 y1 y2 y3 y4 y5))
  clear SR
  go_enter Tryd.func78, Tryd.ntmps78
  go_wp2_with fail
  go_region_held3 (fun w4 => (w4.cell? ⟨w.heap.size, 0, none⟩ = some (.bool (sgz v.x)) ∧ w4.cell? ⟨w.heap.size, 1, none⟩ = some (.string (moz v.x)) ∧ w4.cell? ⟨w.heap.size, 2, none⟩ = some (.bool (sgz v.y)) ∧ w4.cell? ⟨w.heap.size, 3, none⟩ = some (.string (moz v.y)) ∧ w4.cell? ⟨w.heap.size, 4, none⟩ = some (.bool (sgz v.z)) ∧ w4.cell? ⟨w.heap.size, 5, none⟩ = some (.string (moz v.z))) ∧ (w4.cell? ⟨w.heap.size + 1, 0, none⟩ = some (.bool (sgz u.x)) ∧ w4.cell? ⟨w.heap.size + 1, 1, none⟩ = some (.string (moz u.x)) ∧ w4.cell? ⟨w.heap.size + 1, 2, none⟩ = some (.bool (sgz u.y)) ∧ w4.cell? ⟨w.heap.size + 1, 3, none⟩ = some (.string (moz u.y)) ∧ w4.cell? ⟨w.heap.size + 1, 4, none⟩ = some (.bool (sgz u.z)) ∧ w4.cell? ⟨w.heap.size + 1, 5, none⟩ = some (.string (moz u.z)))) (first | with_reducible exact SF.out _ F.out | with_reducible exact SF.out _ F.out.drew | with_reducible exact ST.out _ _ _ _ _ _ _ F.out) (first
    | (go_at_call 95; (first | (with_reducible refine (C0.out _).mono ?_) | (with_reducible refine (C1.out _).mono ?_) | (with_reducible refine (C2.out _).mono ?_)); rintro e w5 ⟨rfl, hT⟩; (first | (with_reducible have F := Lib.hid (F.out.keep hT)) | (have F := Lib.hid (F.out.drew.keep hT))); clear hT; obtain ⟨r0, r1, r2, r3, r4, r5⟩ := F.out.six 2 rfl; obtain ⟨f0, f1, f2, f3, f4, f5⟩ := F.out.fro6 2 rfl)
    | fail)
  all_goals
    go_wp2
    refine bodyPost_ret (v := (.agg #[.bool (sgz d.x), .string (moz d.x), .bool (sgz d.y), .string (moz d.y), .bool (sgz d.z), .string (moz d.z)])) (by simp [results, Tryd.results78, go_sem, r0, r1, r2, r3, r4, r5]) rfl ⟨rfl, ?_⟩
    exact F.out.fin6 2 rfl _ _ _ _ _ _

end Go.Proofs.YtmpfgkpimjiecaaDoor
