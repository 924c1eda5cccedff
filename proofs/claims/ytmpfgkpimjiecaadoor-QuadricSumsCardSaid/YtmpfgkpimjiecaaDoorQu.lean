/- The reference: Of. -/
import Derived.Test.YtmpfgkpimjiecaaDoorQt
namespace Go.Proofs.YtmpfgkpimjiecaaDoor
open Go Go.RowKit Dg

theorem wp_store_row {P : Program} {op : Oper} {a : Act} {w : World} {K : Act → World → Prop} {Q : Exit → Act → World → Prop} (ty : TypeId) (x y : Operand) (ho : op.op = .store ty x y)
    (b : Nat) (hx : a.eval x = .pointer (some ⟨b, 0, none⟩)) (cs old : Array Value) (hy : a.eval y = .agg cs) (t : TypeId) (n : Nat) (hb : w.heap[b]? = some (.cells old t (0, 0))) (ho' : old.size = n) (hs : cs.size = n)
    (hi : (P.info? ty).map (·.size) = some n) (h1 : cs.all (·.oneCell') = true) (h : K (a.put op.dst undef) (w.setRow b cs)) : op.wp P a w K Q := by
  unfold Oper.wp execOp
  simp only [ho, hx, hy, Instr.storeAt, Instr.sureAddr, Sem.run_bind, Sem.run_pure, Result.andThen_ok, run_storeVar_row w b t ty old cs hb (by rw [hs]; exact hi) (by rw [ho', hs]) h1]
  exact h
/-- The coefficients as the reference makes them. -/
def roI (p : Nat → Int) (k : Nat) : Int := if facI k = facJ k then p (facI k) * p (facJ k) else 2 * (p (facI k) * p (facJ k))
theorem roI_eq (p : Nat → Int) (k : Nat) : sqI p k = roI p k := by unfold sqI roI; split <;> omega

set_option maxHeartbeats 8000000 in
set_option maxRecDepth 100000 in
theorem rOf (a b c : P3) (ha : a.Ok) (hb : b.Ok) (hc : c.Ok) (w : World) :
    Calls Tryd.prog 12 #[.agg #[.int .i64 a.x, .int .i64 a.y, .int .i64 a.z, .int .i64 b.x, .int .i64 b.y, .int .i64 b.z, .int .i64 c.x, .int .i64 c.y, .int .i64 c.z]] w fun e w' => e = .returned (.agg (QV (ofI a b c))) ∧ Tch [] w w' := by
  have c1 := fun w1 => rPlane a b c ha hb hc w1
  have hp := plI_sm ha hb hc
  rw [show QV (ofI a b c) = QV (roI (plI a b c)) from QV_eq fun k _ => roI_eq _ k]
  obtain ⟨p, ep⟩ : ∃ p, p = plI a b c := ⟨_, rfl⟩
  rw [← ep] at c1 hp ⊢
  have C1 : Hid (∀ w1, Calls Tryd.prog 31 #[.agg #[.int .i64 a.x, .int .i64 a.y, .int .i64 a.z, .int .i64 b.x, .int .i64 b.y, .int .i64 b.z, .int .i64 c.x, .int .i64 c.y, .int .i64 c.z]] w1 fun e w' => e = .returned (.agg #[.bool (sgz (p 0)), .string (moz (p 0)), .bool (sgz (p 1)), .string (moz (p 1)), .bool (sgz (p 2)), .string (moz (p 2)), .bool (sgz (p 3)), .string (moz (p 3))]) ∧ Tch [] w1 w') := Lib.hid c1
  have T2 := Lib.hid (fun w1 => rNum 2 (by decide) (by decide) w1)
  have s2 : Sm 3000 2 := Sm.i64 (x := 2) (by decide) (by decide) |>.mono (by omega)
  have er : QV (roI p) = #[.bool (sgz (p 0 * p 0)), .string (moz (p 0 * p 0)), .bool (sgz (2 * (p 0 * p 1))), .string (moz (2 * (p 0 * p 1))), .bool (sgz (2 * (p 0 * p 2))), .string (moz (2 * (p 0 * p 2))), .bool (sgz (2 * (p 0 * p 3))), .string (moz (2 * (p 0 * p 3))), .bool (sgz (p 1 * p 1)), .string (moz (p 1 * p 1)), .bool (sgz (2 * (p 1 * p 2))), .string (moz (2 * (p 1 * p 2))), .bool (sgz (2 * (p 1 * p 3))), .string (moz (2 * (p 1 * p 3))), .bool (sgz (p 2 * p 2)), .string (moz (p 2 * p 2)), .bool (sgz (2 * (p 2 * p 3))), .string (moz (2 * (p 2 * p 3))), .bool (sgz (p 3 * p 3)), .string (moz (p 3 * p 3))] := rfl
  rw [er]
  clear er c1 ep
  have u0 := fun w1 => rMul10 (x := p 0) (y := p 0) ((hp 0 (by omega)).mono (by omega)) ((hp 0 (by omega)).mono (by omega)) w1
  obtain ⟨m0, g0⟩ : ∃ m, m = p 0 * p 0 := ⟨_, rfl⟩
  rw [← g0] at u0 ⊢
  have M0 := Lib.hid u0
  clear u0 g0
  have u1 := fun w1 => rMul10 (x := p 0) (y := p 1) ((hp 0 (by omega)).mono (by omega)) ((hp 1 (by omega)).mono (by omega)) w1
  have v1 := fun w1 => rMul10 (x := 2) (y := p 0 * p 1) s2 (((hp 0 (by omega)).mul (hp 1 (by omega))).mono (by omega)) w1
  obtain ⟨h1, f1⟩ : ∃ m, m = p 0 * p 1 := ⟨_, rfl⟩
  rw [← f1] at u1 v1 ⊢
  obtain ⟨m1, g1⟩ : ∃ m, m = 2 * h1 := ⟨_, rfl⟩
  rw [← g1] at v1 ⊢
  have M1 := Lib.hid u1
  have N1 := Lib.hid v1
  clear u1 v1 f1 g1
  have u2 := fun w1 => rMul10 (x := p 0) (y := p 2) ((hp 0 (by omega)).mono (by omega)) ((hp 2 (by omega)).mono (by omega)) w1
  have v2 := fun w1 => rMul10 (x := 2) (y := p 0 * p 2) s2 (((hp 0 (by omega)).mul (hp 2 (by omega))).mono (by omega)) w1
  obtain ⟨h2, f2⟩ : ∃ m, m = p 0 * p 2 := ⟨_, rfl⟩
  rw [← f2] at u2 v2 ⊢
  obtain ⟨m2, g2⟩ : ∃ m, m = 2 * h2 := ⟨_, rfl⟩
  rw [← g2] at v2 ⊢
  have M2 := Lib.hid u2
  have N2 := Lib.hid v2
  clear u2 v2 f2 g2
  have u3 := fun w1 => rMul10 (x := p 0) (y := p 3) ((hp 0 (by omega)).mono (by omega)) ((hp 3 (by omega)).mono (by omega)) w1
  have v3 := fun w1 => rMul10 (x := 2) (y := p 0 * p 3) s2 (((hp 0 (by omega)).mul (hp 3 (by omega))).mono (by omega)) w1
  obtain ⟨h3, f3⟩ : ∃ m, m = p 0 * p 3 := ⟨_, rfl⟩
  rw [← f3] at u3 v3 ⊢
  obtain ⟨m3, g3⟩ : ∃ m, m = 2 * h3 := ⟨_, rfl⟩
  rw [← g3] at v3 ⊢
  have M3 := Lib.hid u3
  have N3 := Lib.hid v3
  clear u3 v3 f3 g3
  have u4 := fun w1 => rMul10 (x := p 1) (y := p 1) ((hp 1 (by omega)).mono (by omega)) ((hp 1 (by omega)).mono (by omega)) w1
  obtain ⟨m4, g4⟩ : ∃ m, m = p 1 * p 1 := ⟨_, rfl⟩
  rw [← g4] at u4 ⊢
  have M4 := Lib.hid u4
  clear u4 g4
  have u5 := fun w1 => rMul10 (x := p 1) (y := p 2) ((hp 1 (by omega)).mono (by omega)) ((hp 2 (by omega)).mono (by omega)) w1
  have v5 := fun w1 => rMul10 (x := 2) (y := p 1 * p 2) s2 (((hp 1 (by omega)).mul (hp 2 (by omega))).mono (by omega)) w1
  obtain ⟨h5, f5⟩ : ∃ m, m = p 1 * p 2 := ⟨_, rfl⟩
  rw [← f5] at u5 v5 ⊢
  obtain ⟨m5, g5⟩ : ∃ m, m = 2 * h5 := ⟨_, rfl⟩
  rw [← g5] at v5 ⊢
  have M5 := Lib.hid u5
  have N5 := Lib.hid v5
  clear u5 v5 f5 g5
  have u6 := fun w1 => rMul10 (x := p 1) (y := p 3) ((hp 1 (by omega)).mono (by omega)) ((hp 3 (by omega)).mono (by omega)) w1
  have v6 := fun w1 => rMul10 (x := 2) (y := p 1 * p 3) s2 (((hp 1 (by omega)).mul (hp 3 (by omega))).mono (by omega)) w1
  obtain ⟨h6, f6⟩ : ∃ m, m = p 1 * p 3 := ⟨_, rfl⟩
  rw [← f6] at u6 v6 ⊢
  obtain ⟨m6, g6⟩ : ∃ m, m = 2 * h6 := ⟨_, rfl⟩
  rw [← g6] at v6 ⊢
  have M6 := Lib.hid u6
  have N6 := Lib.hid v6
  clear u6 v6 f6 g6
  have u7 := fun w1 => rMul10 (x := p 2) (y := p 2) ((hp 2 (by omega)).mono (by omega)) ((hp 2 (by omega)).mono (by omega)) w1
  obtain ⟨m7, g7⟩ : ∃ m, m = p 2 * p 2 := ⟨_, rfl⟩
  rw [← g7] at u7 ⊢
  have M7 := Lib.hid u7
  clear u7 g7
  have u8 := fun w1 => rMul10 (x := p 2) (y := p 3) ((hp 2 (by omega)).mono (by omega)) ((hp 3 (by omega)).mono (by omega)) w1
  have v8 := fun w1 => rMul10 (x := 2) (y := p 2 * p 3) s2 (((hp 2 (by omega)).mul (hp 3 (by omega))).mono (by omega)) w1
  obtain ⟨h8, f8⟩ : ∃ m, m = p 2 * p 3 := ⟨_, rfl⟩
  rw [← f8] at u8 v8 ⊢
  obtain ⟨m8, g8⟩ : ∃ m, m = 2 * h8 := ⟨_, rfl⟩
  rw [← g8] at v8 ⊢
  have M8 := Lib.hid u8
  have N8 := Lib.hid v8
  clear u8 v8 f8 g8
  have u9 := fun w1 => rMul10 (x := p 3) (y := p 3) ((hp 3 (by omega)).mono (by omega)) ((hp 3 (by omega)).mono (by omega)) w1
  obtain ⟨m9, g9⟩ : ∃ m, m = p 3 * p 3 := ⟨_, rfl⟩
  rw [← g9] at u9 ⊢
  have M9 := Lib.hid u9
  clear u9 g9
  clear hp s2 ha hb hc
  have F : Hid (Fr w ((w.alloc (.cells #[.int .i64 a.x, .int .i64 a.y, .int .i64 a.z, .int .i64 b.x, .int .i64 b.y, .int .i64 b.z, .int .i64 c.x, .int .i64 c.y, .int .i64 c.z] 31)).alloc (.cells QZ 28)) [(w.heap.size, .cells #[.int .i64 a.x, .int .i64 a.y, .int .i64 a.z, .int .i64 b.x, .int .i64 b.y, .int .i64 b.z, .int .i64 c.x, .int .i64 c.y, .int .i64 c.z] 31 (0, 0)), (w.heap.size + 1, .cells QZ 28 (0, 0))]) := Lib.hid (((Fr.nil w).add (.cells #[.int .i64 a.x, .int .i64 a.y, .int .i64 a.z, .int .i64 b.x, .int .i64 b.y, .int .i64 b.z, .int .i64 c.x, .int .i64 c.y, .int .i64 c.z] 31) w.heap.size rfl).add (.cells QZ 28) (w.heap.size + 1) (by simp))
  obtain ⟨⟨a0, a1, a2⟩, ⟨a3, a4, a5⟩, a6, a7, a8⟩ := F.out.nine 0 rfl
  go_enter Tryd.func12, Tryd.ntmps12
  go_wp2_with fail
  refine (C1.out _).mono ?_
  rintro e w1 ⟨rfl, hT⟩
  have HN : Hid (w.heap.size + 2 ≤ w1.heap.size) := Lib.hid (by have := hT.size; simp at this; omega)
  have F : Hid (Fr w (w1.alloc (.cells #[.bool (sgz (p 0)), .string (moz (p 0)), .bool (sgz (p 1)), .string (moz (p 1)), .bool (sgz (p 2)), .string (moz (p 2)), .bool (sgz (p 3)), .string (moz (p 3))] 56)) [(w.heap.size, .cells #[.int .i64 a.x, .int .i64 a.y, .int .i64 a.z, .int .i64 b.x, .int .i64 b.y, .int .i64 b.z, .int .i64 c.x, .int .i64 c.y, .int .i64 c.z] 31 (0, 0)), (w.heap.size + 1, .cells QZ 28 (0, 0)), (w1.heap.size, .cells #[.bool (sgz (p 0)), .string (moz (p 0)), .bool (sgz (p 1)), .string (moz (p 1)), .bool (sgz (p 2)), .string (moz (p 2)), .bool (sgz (p 3)), .string (moz (p 3))] 56 (0, 0))]) := Lib.hid ((F.out.keep hT).add (.cells #[.bool (sgz (p 0)), .string (moz (p 0)), .bool (sgz (p 1)), .string (moz (p 1)), .bool (sgz (p 2)), .string (moz (p 2)), .bool (sgz (p 3)), .string (moz (p 3))] 56) w1.heap.size rfl)
  clear hT C1 a0 a1 a2 a3 a4 a5 a6 a7 a8
  go_wp2_with fail
  refine (T2.out _).mono ?_
  rintro e w2 ⟨rfl, hT⟩
  have HN2 : Hid (w1.heap.size + 1 ≤ w2.heap.size) := Lib.hid (by have := hT.size; simp at this; omega)
  have F : Hid (Fr w (w2.alloc (.cells #[.bool (sgz 2), .string (moz 2)] 26)) [(w.heap.size, .cells #[.int .i64 a.x, .int .i64 a.y, .int .i64 a.z, .int .i64 b.x, .int .i64 b.y, .int .i64 b.z, .int .i64 c.x, .int .i64 c.y, .int .i64 c.z] 31 (0, 0)), (w.heap.size + 1, .cells QZ 28 (0, 0)), (w1.heap.size, .cells #[.bool (sgz (p 0)), .string (moz (p 0)), .bool (sgz (p 1)), .string (moz (p 1)), .bool (sgz (p 2)), .string (moz (p 2)), .bool (sgz (p 3)), .string (moz (p 3))] 56 (0, 0)), (w2.heap.size, .cells #[.bool (sgz 2), .string (moz 2)] 26 (0, 0))]) := Lib.hid ((F.out.keep hT).add (.cells #[.bool (sgz 2), .string (moz 2)] 26) w2.heap.size rfl)
  clear hT T2
  have SA := Lib.hid (fun (w' : World) (v : Array Value) (h : Fr w w' [(w.heap.size, .cells #[.int .i64 a.x, .int .i64 a.y, .int .i64 a.z, .int .i64 b.x, .int .i64 b.y, .int .i64 b.z, .int .i64 c.x, .int .i64 c.y, .int .i64 c.z] 31 (0, 0)), (w.heap.size + 1, .cells v 28 (0, 0)), (w1.heap.size, .cells #[.bool (sgz (p 0)), .string (moz (p 0)), .bool (sgz (p 1)), .string (moz (p 1)), .bool (sgz (p 2)), .string (moz (p 2)), .bool (sgz (p 3)), .string (moz (p 3))] 56 (0, 0)), (w2.heap.size, .cells #[.bool (sgz 2), .string (moz 2)] 26 (0, 0))]) => (show w'.cell? ⟨w1.heap.size, 0, none⟩ = some (.bool (sgz (p 0))) ∧ w'.cell? ⟨w1.heap.size, 1, none⟩ = some (.string (moz (p 0))) ∧ w'.cell? ⟨w1.heap.size, 2, none⟩ = some (.bool (sgz (p 1))) ∧ w'.cell? ⟨w1.heap.size, 3, none⟩ = some (.string (moz (p 1))) ∧ w'.cell? ⟨w1.heap.size, 4, none⟩ = some (.bool (sgz (p 2))) ∧ w'.cell? ⟨w1.heap.size, 5, none⟩ = some (.string (moz (p 2))) ∧ w'.cell? ⟨w1.heap.size, 6, none⟩ = some (.bool (sgz (p 3))) ∧ w'.cell? ⟨w1.heap.size, 7, none⟩ = some (.string (moz (p 3))) ∧ w'.cell? ⟨w2.heap.size, 0, none⟩ = some (.bool (sgz 2)) ∧ w'.cell? ⟨w2.heap.size, 1, none⟩ = some (.string (moz 2)) from ⟨h.cell 2 0 rfl rfl, h.cell 2 1 rfl rfl, h.cell 2 2 rfl rfl, h.cell 2 3 rfl rfl, h.cell 2 4 rfl rfl, h.cell 2 5 rfl rfl, h.cell 2 6 rfl rfl, h.cell 2 7 rfl rfl, h.cell 3 0 rfl rfl, h.cell 3 1 rfl rfl⟩))
  go_upto_region 3 with (fail)
  generalize w2.alloc (.cells #[.bool (sgz 2), .string (moz 2)] 26) = W at F ⊢
  refine wp_region_noPanic ?_
  refine wp_region_held_drew (S := (fun w' => w'.cell? ⟨w1.heap.size, 0, none⟩ = some (.bool (sgz (p 0))) ∧ w'.cell? ⟨w1.heap.size, 1, none⟩ = some (.string (moz (p 0))) ∧ w'.cell? ⟨w1.heap.size, 2, none⟩ = some (.bool (sgz (p 1))) ∧ w'.cell? ⟨w1.heap.size, 3, none⟩ = some (.string (moz (p 1))) ∧ w'.cell? ⟨w1.heap.size, 4, none⟩ = some (.bool (sgz (p 2))) ∧ w'.cell? ⟨w1.heap.size, 5, none⟩ = some (.string (moz (p 2))) ∧ w'.cell? ⟨w1.heap.size, 6, none⟩ = some (.bool (sgz (p 3))) ∧ w'.cell? ⟨w1.heap.size, 7, none⟩ = some (.string (moz (p 3))) ∧ w'.cell? ⟨w2.heap.size, 0, none⟩ = some (.bool (sgz 2)) ∧ w'.cell? ⟨w2.heap.size, 1, none⟩ = some (.string (moz 2)))) (by kernel_rfl) (SA.out _ _ F.out.drew) (fun hHeld => ?_)
  refine takeAt (i := 0) (d := (some 8)) (v := (.pointer (some ⟨w1.heap.size, 0, none⟩))) rfl (by kernel_rfl) (by kernel_rfl) (by kernel_rfl) (by kernel_rfl) (fun _ _ _ h => h) (Or.inl ⟨by kernel_rfl, ?_⟩) (by assumption) ?_
  · intro w7 hSw
    try dsimp only at hSw
    go_simp
  simp only [Act.put, List.setIfInBounds_toArray, List.set_cons_zero, List.set_cons_succ]
  refine takeAt (i := 1) (d := (some 9)) (v := (.agg #[.bool (sgz (p 0)), .string (moz (p 0))])) rfl (by kernel_rfl) (by kernel_rfl) (by kernel_rfl) (by kernel_rfl) (fun _ _ _ h => h) (Or.inl ⟨by kernel_rfl, ?_⟩) (by assumption) ?_
  · intro w7 hSw
    try dsimp only at hSw
    go_simp
  simp only [Act.put, List.setIfInBounds_toArray, List.set_cons_zero, List.set_cons_succ]
  refine takeAt (i := 2) (d := (some 10)) (v := (.pointer (some ⟨w1.heap.size, 0, none⟩))) rfl (by kernel_rfl) (by kernel_rfl) (by kernel_rfl) (by kernel_rfl) (fun _ _ _ h => h) (Or.inl ⟨by kernel_rfl, ?_⟩) (by assumption) ?_
  · intro w7 hSw
    try dsimp only at hSw
    go_simp
  simp only [Act.put, List.setIfInBounds_toArray, List.set_cons_zero, List.set_cons_succ]
  refine takeAt (i := 3) (d := (some 11)) (v := (.agg #[.bool (sgz (p 0)), .string (moz (p 0))])) rfl (by kernel_rfl) (by kernel_rfl) (by kernel_rfl) (by kernel_rfl) (fun _ _ _ h => h) (Or.inl ⟨by kernel_rfl, ?_⟩) (by assumption) ?_
  · intro w7 hSw
    try dsimp only at hSw
    go_simp
  simp only [Act.put, List.setIfInBounds_toArray, List.set_cons_zero, List.set_cons_succ]
  refine takeAt (i := 5) (d := (some 13)) (v := (.agg #[.bool (sgz 2), .string (moz 2)])) rfl (by kernel_rfl) (by kernel_rfl) (by kernel_rfl) (by kernel_rfl) (fun _ _ _ h => h) (Or.inl ⟨by kernel_rfl, ?_⟩) (by assumption) ?_
  · intro w7 hSw
    try dsimp only at hSw
    go_simp
  simp only [Act.put, List.setIfInBounds_toArray, List.set_cons_zero, List.set_cons_succ]
  refine takeAt (i := 6) (d := (some 14)) (v := (.pointer (some ⟨w1.heap.size, 0, none⟩))) rfl (by kernel_rfl) (by kernel_rfl) (by kernel_rfl) (by kernel_rfl) (fun _ _ _ h => h) (Or.inl ⟨by kernel_rfl, ?_⟩) (by assumption) ?_
  · intro w7 hSw
    try dsimp only at hSw
    go_simp
  simp only [Act.put, List.setIfInBounds_toArray, List.set_cons_zero, List.set_cons_succ]
  refine takeAt (i := 7) (d := (some 15)) (v := (.agg #[.bool (sgz (p 0)), .string (moz (p 0))])) rfl (by kernel_rfl) (by kernel_rfl) (by kernel_rfl) (by kernel_rfl) (fun _ _ _ h => h) (Or.inl ⟨by kernel_rfl, ?_⟩) (by assumption) ?_
  · intro w7 hSw
    try dsimp only at hSw
    go_simp
  simp only [Act.put, List.setIfInBounds_toArray, List.set_cons_zero, List.set_cons_succ]
  refine takeAt (i := 8) (d := (some 16)) (v := (.pointer (some ⟨w1.heap.size, 2, none⟩))) rfl (by kernel_rfl) (by kernel_rfl) (by kernel_rfl) (by kernel_rfl) (fun _ _ _ h => h) (Or.inl ⟨by kernel_rfl, ?_⟩) (by assumption) ?_
  · intro w7 hSw
    try dsimp only at hSw
    go_simp
  simp only [Act.put, List.setIfInBounds_toArray, List.set_cons_zero, List.set_cons_succ]
  refine takeAt (i := 9) (d := (some 17)) (v := (.agg #[.bool (sgz (p 1)), .string (moz (p 1))])) rfl (by kernel_rfl) (by kernel_rfl) (by kernel_rfl) (by kernel_rfl) (fun _ _ _ h => h) (Or.inl ⟨by kernel_rfl, ?_⟩) (by assumption) ?_
  · intro w7 hSw
    try dsimp only at hSw
    go_simp
  simp only [Act.put, List.setIfInBounds_toArray, List.set_cons_zero, List.set_cons_succ]
  refine takeAt (i := 12) (d := (some 20)) (v := (.agg #[.bool (sgz 2), .string (moz 2)])) rfl (by kernel_rfl) (by kernel_rfl) (by kernel_rfl) (by kernel_rfl) (fun _ _ _ h => h) (Or.inl ⟨by kernel_rfl, ?_⟩) (by assumption) ?_
  · intro w7 hSw
    try dsimp only at hSw
    go_simp
  simp only [Act.put, List.setIfInBounds_toArray, List.set_cons_zero, List.set_cons_succ]
  refine takeAt (i := 13) (d := (some 21)) (v := (.pointer (some ⟨w1.heap.size, 0, none⟩))) rfl (by kernel_rfl) (by kernel_rfl) (by kernel_rfl) (by kernel_rfl) (fun _ _ _ h => h) (Or.inl ⟨by kernel_rfl, ?_⟩) (by assumption) ?_
  · intro w7 hSw
    try dsimp only at hSw
    go_simp
  simp only [Act.put, List.setIfInBounds_toArray, List.set_cons_zero, List.set_cons_succ]
  refine takeAt (i := 14) (d := (some 22)) (v := (.agg #[.bool (sgz (p 0)), .string (moz (p 0))])) rfl (by kernel_rfl) (by kernel_rfl) (by kernel_rfl) (by kernel_rfl) (fun _ _ _ h => h) (Or.inl ⟨by kernel_rfl, ?_⟩) (by assumption) ?_
  · intro w7 hSw
    try dsimp only at hSw
    go_simp
  simp only [Act.put, List.setIfInBounds_toArray, List.set_cons_zero, List.set_cons_succ]
  refine takeAt (i := 15) (d := (some 23)) (v := (.pointer (some ⟨w1.heap.size, 4, none⟩))) rfl (by kernel_rfl) (by kernel_rfl) (by kernel_rfl) (by kernel_rfl) (fun _ _ _ h => h) (Or.inl ⟨by kernel_rfl, ?_⟩) (by assumption) ?_
  · intro w7 hSw
    try dsimp only at hSw
    go_simp
  simp only [Act.put, List.setIfInBounds_toArray, List.set_cons_zero, List.set_cons_succ]
  refine takeAt (i := 16) (d := (some 24)) (v := (.agg #[.bool (sgz (p 2)), .string (moz (p 2))])) rfl (by kernel_rfl) (by kernel_rfl) (by kernel_rfl) (by kernel_rfl) (fun _ _ _ h => h) (Or.inl ⟨by kernel_rfl, ?_⟩) (by assumption) ?_
  · intro w7 hSw
    try dsimp only at hSw
    go_simp
  simp only [Act.put, List.setIfInBounds_toArray, List.set_cons_zero, List.set_cons_succ]
  refine takeAt (i := 19) (d := (some 27)) (v := (.agg #[.bool (sgz 2), .string (moz 2)])) rfl (by kernel_rfl) (by kernel_rfl) (by kernel_rfl) (by kernel_rfl) (fun _ _ _ h => h) (Or.inl ⟨by kernel_rfl, ?_⟩) (by assumption) ?_
  · intro w7 hSw
    try dsimp only at hSw
    go_simp
  simp only [Act.put, List.setIfInBounds_toArray, List.set_cons_zero, List.set_cons_succ]
  refine takeAt (i := 20) (d := (some 28)) (v := (.pointer (some ⟨w1.heap.size, 0, none⟩))) rfl (by kernel_rfl) (by kernel_rfl) (by kernel_rfl) (by kernel_rfl) (fun _ _ _ h => h) (Or.inl ⟨by kernel_rfl, ?_⟩) (by assumption) ?_
  · intro w7 hSw
    try dsimp only at hSw
    go_simp
  simp only [Act.put, List.setIfInBounds_toArray, List.set_cons_zero, List.set_cons_succ]
  refine takeAt (i := 21) (d := (some 29)) (v := (.agg #[.bool (sgz (p 0)), .string (moz (p 0))])) rfl (by kernel_rfl) (by kernel_rfl) (by kernel_rfl) (by kernel_rfl) (fun _ _ _ h => h) (Or.inl ⟨by kernel_rfl, ?_⟩) (by assumption) ?_
  · intro w7 hSw
    try dsimp only at hSw
    go_simp
  simp only [Act.put, List.setIfInBounds_toArray, List.set_cons_zero, List.set_cons_succ]
  refine takeAt (i := 22) (d := (some 30)) (v := (.pointer (some ⟨w1.heap.size, 6, none⟩))) rfl (by kernel_rfl) (by kernel_rfl) (by kernel_rfl) (by kernel_rfl) (fun _ _ _ h => h) (Or.inl ⟨by kernel_rfl, ?_⟩) (by assumption) ?_
  · intro w7 hSw
    try dsimp only at hSw
    go_simp
  simp only [Act.put, List.setIfInBounds_toArray, List.set_cons_zero, List.set_cons_succ]
  refine takeAt (i := 23) (d := (some 31)) (v := (.agg #[.bool (sgz (p 3)), .string (moz (p 3))])) rfl (by kernel_rfl) (by kernel_rfl) (by kernel_rfl) (by kernel_rfl) (fun _ _ _ h => h) (Or.inl ⟨by kernel_rfl, ?_⟩) (by assumption) ?_
  · intro w7 hSw
    try dsimp only at hSw
    go_simp
  simp only [Act.put, List.setIfInBounds_toArray, List.set_cons_zero, List.set_cons_succ]
  refine takeAt (i := 26) (d := (some 34)) (v := (.pointer (some ⟨w1.heap.size, 2, none⟩))) rfl (by kernel_rfl) (by kernel_rfl) (by kernel_rfl) (by kernel_rfl) (fun _ _ _ h => h) (Or.inl ⟨by kernel_rfl, ?_⟩) (by assumption) ?_
  · intro w7 hSw
    try dsimp only at hSw
    go_simp
  simp only [Act.put, List.setIfInBounds_toArray, List.set_cons_zero, List.set_cons_succ]
  refine takeAt (i := 27) (d := (some 35)) (v := (.agg #[.bool (sgz (p 1)), .string (moz (p 1))])) rfl (by kernel_rfl) (by kernel_rfl) (by kernel_rfl) (by kernel_rfl) (fun _ _ _ h => h) (Or.inl ⟨by kernel_rfl, ?_⟩) (by assumption) ?_
  · intro w7 hSw
    try dsimp only at hSw
    go_simp
  simp only [Act.put, List.setIfInBounds_toArray, List.set_cons_zero, List.set_cons_succ]
  refine takeAt (i := 28) (d := (some 36)) (v := (.pointer (some ⟨w1.heap.size, 2, none⟩))) rfl (by kernel_rfl) (by kernel_rfl) (by kernel_rfl) (by kernel_rfl) (fun _ _ _ h => h) (Or.inl ⟨by kernel_rfl, ?_⟩) (by assumption) ?_
  · intro w7 hSw
    try dsimp only at hSw
    go_simp
  simp only [Act.put, List.setIfInBounds_toArray, List.set_cons_zero, List.set_cons_succ]
  refine takeAt (i := 29) (d := (some 37)) (v := (.agg #[.bool (sgz (p 1)), .string (moz (p 1))])) rfl (by kernel_rfl) (by kernel_rfl) (by kernel_rfl) (by kernel_rfl) (fun _ _ _ h => h) (Or.inl ⟨by kernel_rfl, ?_⟩) (by assumption) ?_
  · intro w7 hSw
    try dsimp only at hSw
    go_simp
  simp only [Act.put, List.setIfInBounds_toArray, List.set_cons_zero, List.set_cons_succ]
  refine takeAt (i := 31) (d := (some 39)) (v := (.agg #[.bool (sgz 2), .string (moz 2)])) rfl (by kernel_rfl) (by kernel_rfl) (by kernel_rfl) (by kernel_rfl) (fun _ _ _ h => h) (Or.inl ⟨by kernel_rfl, ?_⟩) (by assumption) ?_
  · intro w7 hSw
    try dsimp only at hSw
    go_simp
  simp only [Act.put, List.setIfInBounds_toArray, List.set_cons_zero, List.set_cons_succ]
  refine takeAt (i := 32) (d := (some 40)) (v := (.pointer (some ⟨w1.heap.size, 2, none⟩))) rfl (by kernel_rfl) (by kernel_rfl) (by kernel_rfl) (by kernel_rfl) (fun _ _ _ h => h) (Or.inl ⟨by kernel_rfl, ?_⟩) (by assumption) ?_
  · intro w7 hSw
    try dsimp only at hSw
    go_simp
  simp only [Act.put, List.setIfInBounds_toArray, List.set_cons_zero, List.set_cons_succ]
  refine takeAt (i := 33) (d := (some 41)) (v := (.agg #[.bool (sgz (p 1)), .string (moz (p 1))])) rfl (by kernel_rfl) (by kernel_rfl) (by kernel_rfl) (by kernel_rfl) (fun _ _ _ h => h) (Or.inl ⟨by kernel_rfl, ?_⟩) (by assumption) ?_
  · intro w7 hSw
    try dsimp only at hSw
    go_simp
  simp only [Act.put, List.setIfInBounds_toArray, List.set_cons_zero, List.set_cons_succ]
  refine takeAt (i := 34) (d := (some 42)) (v := (.pointer (some ⟨w1.heap.size, 4, none⟩))) rfl (by kernel_rfl) (by kernel_rfl) (by kernel_rfl) (by kernel_rfl) (fun _ _ _ h => h) (Or.inl ⟨by kernel_rfl, ?_⟩) (by assumption) ?_
  · intro w7 hSw
    try dsimp only at hSw
    go_simp
  simp only [Act.put, List.setIfInBounds_toArray, List.set_cons_zero, List.set_cons_succ]
  refine takeAt (i := 35) (d := (some 43)) (v := (.agg #[.bool (sgz (p 2)), .string (moz (p 2))])) rfl (by kernel_rfl) (by kernel_rfl) (by kernel_rfl) (by kernel_rfl) (fun _ _ _ h => h) (Or.inl ⟨by kernel_rfl, ?_⟩) (by assumption) ?_
  · intro w7 hSw
    try dsimp only at hSw
    go_simp
  simp only [Act.put, List.setIfInBounds_toArray, List.set_cons_zero, List.set_cons_succ]
  refine takeAt (i := 38) (d := (some 46)) (v := (.agg #[.bool (sgz 2), .string (moz 2)])) rfl (by kernel_rfl) (by kernel_rfl) (by kernel_rfl) (by kernel_rfl) (fun _ _ _ h => h) (Or.inl ⟨by kernel_rfl, ?_⟩) (by assumption) ?_
  · intro w7 hSw
    try dsimp only at hSw
    go_simp
  simp only [Act.put, List.setIfInBounds_toArray, List.set_cons_zero, List.set_cons_succ]
  refine takeAt (i := 39) (d := (some 47)) (v := (.pointer (some ⟨w1.heap.size, 2, none⟩))) rfl (by kernel_rfl) (by kernel_rfl) (by kernel_rfl) (by kernel_rfl) (fun _ _ _ h => h) (Or.inl ⟨by kernel_rfl, ?_⟩) (by assumption) ?_
  · intro w7 hSw
    try dsimp only at hSw
    go_simp
  simp only [Act.put, List.setIfInBounds_toArray, List.set_cons_zero, List.set_cons_succ]
  refine takeAt (i := 40) (d := (some 48)) (v := (.agg #[.bool (sgz (p 1)), .string (moz (p 1))])) rfl (by kernel_rfl) (by kernel_rfl) (by kernel_rfl) (by kernel_rfl) (fun _ _ _ h => h) (Or.inl ⟨by kernel_rfl, ?_⟩) (by assumption) ?_
  · intro w7 hSw
    try dsimp only at hSw
    go_simp
  simp only [Act.put, List.setIfInBounds_toArray, List.set_cons_zero, List.set_cons_succ]
  refine takeAt (i := 41) (d := (some 49)) (v := (.pointer (some ⟨w1.heap.size, 6, none⟩))) rfl (by kernel_rfl) (by kernel_rfl) (by kernel_rfl) (by kernel_rfl) (fun _ _ _ h => h) (Or.inl ⟨by kernel_rfl, ?_⟩) (by assumption) ?_
  · intro w7 hSw
    try dsimp only at hSw
    go_simp
  simp only [Act.put, List.setIfInBounds_toArray, List.set_cons_zero, List.set_cons_succ]
  refine takeAt (i := 42) (d := (some 50)) (v := (.agg #[.bool (sgz (p 3)), .string (moz (p 3))])) rfl (by kernel_rfl) (by kernel_rfl) (by kernel_rfl) (by kernel_rfl) (fun _ _ _ h => h) (Or.inl ⟨by kernel_rfl, ?_⟩) (by assumption) ?_
  · intro w7 hSw
    try dsimp only at hSw
    go_simp
  simp only [Act.put, List.setIfInBounds_toArray, List.set_cons_zero, List.set_cons_succ]
  refine takeAt (i := 45) (d := (some 53)) (v := (.pointer (some ⟨w1.heap.size, 4, none⟩))) rfl (by kernel_rfl) (by kernel_rfl) (by kernel_rfl) (by kernel_rfl) (fun _ _ _ h => h) (Or.inl ⟨by kernel_rfl, ?_⟩) (by assumption) ?_
  · intro w7 hSw
    try dsimp only at hSw
    go_simp
  simp only [Act.put, List.setIfInBounds_toArray, List.set_cons_zero, List.set_cons_succ]
  refine takeAt (i := 46) (d := (some 54)) (v := (.agg #[.bool (sgz (p 2)), .string (moz (p 2))])) rfl (by kernel_rfl) (by kernel_rfl) (by kernel_rfl) (by kernel_rfl) (fun _ _ _ h => h) (Or.inl ⟨by kernel_rfl, ?_⟩) (by assumption) ?_
  · intro w7 hSw
    try dsimp only at hSw
    go_simp
  simp only [Act.put, List.setIfInBounds_toArray, List.set_cons_zero, List.set_cons_succ]
  refine takeAt (i := 47) (d := (some 55)) (v := (.pointer (some ⟨w1.heap.size, 4, none⟩))) rfl (by kernel_rfl) (by kernel_rfl) (by kernel_rfl) (by kernel_rfl) (fun _ _ _ h => h) (Or.inl ⟨by kernel_rfl, ?_⟩) (by assumption) ?_
  · intro w7 hSw
    try dsimp only at hSw
    go_simp
  simp only [Act.put, List.setIfInBounds_toArray, List.set_cons_zero, List.set_cons_succ]
  refine takeAt (i := 48) (d := (some 56)) (v := (.agg #[.bool (sgz (p 2)), .string (moz (p 2))])) rfl (by kernel_rfl) (by kernel_rfl) (by kernel_rfl) (by kernel_rfl) (fun _ _ _ h => h) (Or.inl ⟨by kernel_rfl, ?_⟩) (by assumption) ?_
  · intro w7 hSw
    try dsimp only at hSw
    go_simp
  simp only [Act.put, List.setIfInBounds_toArray, List.set_cons_zero, List.set_cons_succ]
  refine takeAt (i := 50) (d := (some 58)) (v := (.agg #[.bool (sgz 2), .string (moz 2)])) rfl (by kernel_rfl) (by kernel_rfl) (by kernel_rfl) (by kernel_rfl) (fun _ _ _ h => h) (Or.inl ⟨by kernel_rfl, ?_⟩) (by assumption) ?_
  · intro w7 hSw
    try dsimp only at hSw
    go_simp
  simp only [Act.put, List.setIfInBounds_toArray, List.set_cons_zero, List.set_cons_succ]
  refine takeAt (i := 51) (d := (some 59)) (v := (.pointer (some ⟨w1.heap.size, 4, none⟩))) rfl (by kernel_rfl) (by kernel_rfl) (by kernel_rfl) (by kernel_rfl) (fun _ _ _ h => h) (Or.inl ⟨by kernel_rfl, ?_⟩) (by assumption) ?_
  · intro w7 hSw
    try dsimp only at hSw
    go_simp
  simp only [Act.put, List.setIfInBounds_toArray, List.set_cons_zero, List.set_cons_succ]
  refine takeAt (i := 52) (d := (some 60)) (v := (.agg #[.bool (sgz (p 2)), .string (moz (p 2))])) rfl (by kernel_rfl) (by kernel_rfl) (by kernel_rfl) (by kernel_rfl) (fun _ _ _ h => h) (Or.inl ⟨by kernel_rfl, ?_⟩) (by assumption) ?_
  · intro w7 hSw
    try dsimp only at hSw
    go_simp
  simp only [Act.put, List.setIfInBounds_toArray, List.set_cons_zero, List.set_cons_succ]
  refine takeAt (i := 53) (d := (some 61)) (v := (.pointer (some ⟨w1.heap.size, 6, none⟩))) rfl (by kernel_rfl) (by kernel_rfl) (by kernel_rfl) (by kernel_rfl) (fun _ _ _ h => h) (Or.inl ⟨by kernel_rfl, ?_⟩) (by assumption) ?_
  · intro w7 hSw
    try dsimp only at hSw
    go_simp
  simp only [Act.put, List.setIfInBounds_toArray, List.set_cons_zero, List.set_cons_succ]
  refine takeAt (i := 54) (d := (some 62)) (v := (.agg #[.bool (sgz (p 3)), .string (moz (p 3))])) rfl (by kernel_rfl) (by kernel_rfl) (by kernel_rfl) (by kernel_rfl) (fun _ _ _ h => h) (Or.inl ⟨by kernel_rfl, ?_⟩) (by assumption) ?_
  · intro w7 hSw
    try dsimp only at hSw
    go_simp
  simp only [Act.put, List.setIfInBounds_toArray, List.set_cons_zero, List.set_cons_succ]
  refine takeAt (i := 57) (d := (some 65)) (v := (.pointer (some ⟨w1.heap.size, 6, none⟩))) rfl (by kernel_rfl) (by kernel_rfl) (by kernel_rfl) (by kernel_rfl) (fun _ _ _ h => h) (Or.inl ⟨by kernel_rfl, ?_⟩) (by assumption) ?_
  · intro w7 hSw
    try dsimp only at hSw
    go_simp
  simp only [Act.put, List.setIfInBounds_toArray, List.set_cons_zero, List.set_cons_succ]
  refine takeAt (i := 58) (d := (some 66)) (v := (.agg #[.bool (sgz (p 3)), .string (moz (p 3))])) rfl (by kernel_rfl) (by kernel_rfl) (by kernel_rfl) (by kernel_rfl) (fun _ _ _ h => h) (Or.inl ⟨by kernel_rfl, ?_⟩) (by assumption) ?_
  · intro w7 hSw
    try dsimp only at hSw
    go_simp
  simp only [Act.put, List.setIfInBounds_toArray, List.set_cons_zero, List.set_cons_succ]
  refine takeAt (i := 59) (d := (some 67)) (v := (.pointer (some ⟨w1.heap.size, 6, none⟩))) rfl (by kernel_rfl) (by kernel_rfl) (by kernel_rfl) (by kernel_rfl) (fun _ _ _ h => h) (Or.inl ⟨by kernel_rfl, ?_⟩) (by assumption) ?_
  · intro w7 hSw
    try dsimp only at hSw
    go_simp
  simp only [Act.put, List.setIfInBounds_toArray, List.set_cons_zero, List.set_cons_succ]
  refine takeAt (i := 60) (d := (some 68)) (v := (.agg #[.bool (sgz (p 3)), .string (moz (p 3))])) rfl (by kernel_rfl) (by kernel_rfl) (by kernel_rfl) (by kernel_rfl) (fun _ _ _ h => h) (Or.inl ⟨by kernel_rfl, ?_⟩) (by assumption) ?_
  · intro w7 hSw
    try dsimp only at hSw
    go_simp
  simp only [Act.put, List.setIfInBounds_toArray, List.set_cons_zero, List.set_cons_succ]
  refine wpAnyH_ready (rs := [4]) (by kernel_rfl) (by simp) ?_
  refine AllReadyH.cons rfl (fun K hK => ?_) AllReadyH.nil
  go_simp
  refine (M0.out _).mono ?_
  rintro e w6 ⟨rfl, hT⟩
  have F := Lib.hid (F.out.drew.keep hT)
  clear hT
  go_wp2_with fail
  refine hK.out _ _ (SA.out _ _ F.out) (fun hHeld => ?_)
  clear hK K
  refine wpAnyH_ready (rs := [10]) (by kernel_rfl) (by simp) ?_
  refine AllReadyH.cons rfl (fun K hK => ?_) AllReadyH.nil
  go_simp
  refine (M1.out _).mono ?_
  rintro e w6 ⟨rfl, hT⟩
  have F := Lib.hid (F.out.keep hT)
  clear hT
  go_wp2_with fail
  refine hK.out _ _ (SA.out _ _ F.out) (fun hHeld => ?_)
  clear hK K
  refine wpAnyH_ready (rs := [11]) (by kernel_rfl) (by simp) ?_
  refine AllReadyH.cons rfl (fun K hK => ?_) AllReadyH.nil
  go_simp
  refine (N1.out _).mono ?_
  rintro e w6 ⟨rfl, hT⟩
  have F := Lib.hid (F.out.keep hT)
  clear hT
  go_wp2_with fail
  refine hK.out _ _ (SA.out _ _ F.out) (fun hHeld => ?_)
  clear hK K
  refine wpAnyH_ready (rs := [17]) (by kernel_rfl) (by simp) ?_
  refine AllReadyH.cons rfl (fun K hK => ?_) AllReadyH.nil
  go_simp
  refine (M2.out _).mono ?_
  rintro e w6 ⟨rfl, hT⟩
  have F := Lib.hid (F.out.keep hT)
  clear hT
  go_wp2_with fail
  refine hK.out _ _ (SA.out _ _ F.out) (fun hHeld => ?_)
  clear hK K
  refine wpAnyH_ready (rs := [18]) (by kernel_rfl) (by simp) ?_
  refine AllReadyH.cons rfl (fun K hK => ?_) AllReadyH.nil
  go_simp
  refine (N2.out _).mono ?_
  rintro e w6 ⟨rfl, hT⟩
  have F := Lib.hid (F.out.keep hT)
  clear hT
  go_wp2_with fail
  refine hK.out _ _ (SA.out _ _ F.out) (fun hHeld => ?_)
  clear hK K
  refine wpAnyH_ready (rs := [24]) (by kernel_rfl) (by simp) ?_
  refine AllReadyH.cons rfl (fun K hK => ?_) AllReadyH.nil
  go_simp
  refine (M3.out _).mono ?_
  rintro e w6 ⟨rfl, hT⟩
  have F := Lib.hid (F.out.keep hT)
  clear hT
  go_wp2_with fail
  refine hK.out _ _ (SA.out _ _ F.out) (fun hHeld => ?_)
  clear hK K
  refine wpAnyH_ready (rs := [25]) (by kernel_rfl) (by simp) ?_
  refine AllReadyH.cons rfl (fun K hK => ?_) AllReadyH.nil
  go_simp
  refine (N3.out _).mono ?_
  rintro e w6 ⟨rfl, hT⟩
  have F := Lib.hid (F.out.keep hT)
  clear hT
  go_wp2_with fail
  refine hK.out _ _ (SA.out _ _ F.out) (fun hHeld => ?_)
  clear hK K
  refine wpAnyH_ready (rs := [30]) (by kernel_rfl) (by simp) ?_
  refine AllReadyH.cons rfl (fun K hK => ?_) AllReadyH.nil
  go_simp
  refine (M4.out _).mono ?_
  rintro e w6 ⟨rfl, hT⟩
  have F := Lib.hid (F.out.keep hT)
  clear hT
  go_wp2_with fail
  refine hK.out _ _ (SA.out _ _ F.out) (fun hHeld => ?_)
  clear hK K
  refine wpAnyH_ready (rs := [36]) (by kernel_rfl) (by simp) ?_
  refine AllReadyH.cons rfl (fun K hK => ?_) AllReadyH.nil
  go_simp
  refine (M5.out _).mono ?_
  rintro e w6 ⟨rfl, hT⟩
  have F := Lib.hid (F.out.keep hT)
  clear hT
  go_wp2_with fail
  refine hK.out _ _ (SA.out _ _ F.out) (fun hHeld => ?_)
  clear hK K
  refine wpAnyH_ready (rs := [37]) (by kernel_rfl) (by simp) ?_
  refine AllReadyH.cons rfl (fun K hK => ?_) AllReadyH.nil
  go_simp
  refine (N5.out _).mono ?_
  rintro e w6 ⟨rfl, hT⟩
  have F := Lib.hid (F.out.keep hT)
  clear hT
  go_wp2_with fail
  refine hK.out _ _ (SA.out _ _ F.out) (fun hHeld => ?_)
  clear hK K
  refine wpAnyH_ready (rs := [43]) (by kernel_rfl) (by simp) ?_
  refine AllReadyH.cons rfl (fun K hK => ?_) AllReadyH.nil
  go_simp
  refine (M6.out _).mono ?_
  rintro e w6 ⟨rfl, hT⟩
  have F := Lib.hid (F.out.keep hT)
  clear hT
  go_wp2_with fail
  refine hK.out _ _ (SA.out _ _ F.out) (fun hHeld => ?_)
  clear hK K
  refine wpAnyH_ready (rs := [44]) (by kernel_rfl) (by simp) ?_
  refine AllReadyH.cons rfl (fun K hK => ?_) AllReadyH.nil
  go_simp
  refine (N6.out _).mono ?_
  rintro e w6 ⟨rfl, hT⟩
  have F := Lib.hid (F.out.keep hT)
  clear hT
  go_wp2_with fail
  refine hK.out _ _ (SA.out _ _ F.out) (fun hHeld => ?_)
  clear hK K
  refine wpAnyH_ready (rs := [49]) (by kernel_rfl) (by simp) ?_
  refine AllReadyH.cons rfl (fun K hK => ?_) AllReadyH.nil
  go_simp
  refine (M7.out _).mono ?_
  rintro e w6 ⟨rfl, hT⟩
  have F := Lib.hid (F.out.keep hT)
  clear hT
  go_wp2_with fail
  refine hK.out _ _ (SA.out _ _ F.out) (fun hHeld => ?_)
  clear hK K
  refine wpAnyH_ready (rs := [55]) (by kernel_rfl) (by simp) ?_
  refine AllReadyH.cons rfl (fun K hK => ?_) AllReadyH.nil
  go_simp
  refine (M8.out _).mono ?_
  rintro e w6 ⟨rfl, hT⟩
  have F := Lib.hid (F.out.keep hT)
  clear hT
  go_wp2_with fail
  refine hK.out _ _ (SA.out _ _ F.out) (fun hHeld => ?_)
  clear hK K
  refine wpAnyH_ready (rs := [56]) (by kernel_rfl) (by simp) ?_
  refine AllReadyH.cons rfl (fun K hK => ?_) AllReadyH.nil
  go_simp
  refine (N8.out _).mono ?_
  rintro e w6 ⟨rfl, hT⟩
  have F := Lib.hid (F.out.keep hT)
  clear hT
  go_wp2_with fail
  refine hK.out _ _ (SA.out _ _ F.out) (fun hHeld => ?_)
  clear hK K
  refine wpAnyH_ready (rs := [61]) (by kernel_rfl) (by simp) ?_
  refine AllReadyH.cons rfl (fun K hK => ?_) AllReadyH.nil
  go_simp
  refine (M9.out _).mono ?_
  rintro e w6 ⟨rfl, hT⟩
  have F := Lib.hid (F.out.keep hT)
  clear hT
  go_wp2_with fail
  refine hK.out _ _ (SA.out _ _ F.out) (fun hHeld => ?_)
  clear hK K
  refine takeAt (i := 62) (d := (some 70)) (v := (.agg #[.bool (sgz m0), .string (moz m0), .bool (sgz m1), .string (moz m1), .bool (sgz m2), .string (moz m2), .bool (sgz m3), .string (moz m3), .bool (sgz m4), .string (moz m4), .bool (sgz m5), .string (moz m5), .bool (sgz m6), .string (moz m6), .bool (sgz m7), .string (moz m7), .bool (sgz m8), .string (moz m8), .bool (sgz m9), .string (moz m9)])) rfl (by kernel_rfl) (by kernel_rfl) (by kernel_rfl) (by kernel_rfl) (fun _ _ _ h => h) (Or.inl ⟨by kernel_rfl, ?_⟩) (by assumption) ?_
  · intro w7 hSw
    try dsimp only at hSw
    go_simp
  simp only [Act.put, List.setIfInBounds_toArray, List.set_cons_zero, List.set_cons_succ]
  refine wpAnyH_ready (rs := [63]) (by kernel_rfl) (by simp) ?_
  refine AllReadyH.cons rfl (fun K hK => ?_) AllReadyH.nil
  rw [if_pos (by kernel_rfl)]
  refine wp_store_row 28 _ _ rfl (w.heap.size + 1) rfl _ _ rfl _ 20 (F.out.at 1 rfl) QZ_size rfl infoQ (by simp [Value.oneCell']) ?_
  have F := Lib.hid (Fr.setR (l1 := [(w.heap.size, .cells #[.int .i64 a.x, .int .i64 a.y, .int .i64 a.z, .int .i64 b.x, .int .i64 b.y, .int .i64 b.z, .int .i64 c.x, .int .i64 c.y, .int .i64 c.z] 31 (0, 0))]) (l2 := [(w1.heap.size, .cells #[.bool (sgz (p 0)), .string (moz (p 0)), .bool (sgz (p 1)), .string (moz (p 1)), .bool (sgz (p 2)), .string (moz (p 2)), .bool (sgz (p 3)), .string (moz (p 3))] 56 (0, 0)), (w2.heap.size, .cells #[.bool (sgz 2), .string (moz 2)] 26 (0, 0))]) F.out (by have h1 := HN.out; have h2 := HN2.out; simp; omega) #[.bool (sgz m0), .string (moz m0), .bool (sgz m1), .string (moz m1), .bool (sgz m2), .string (moz m2), .bool (sgz m3), .string (moz m3), .bool (sgz m4), .string (moz m4), .bool (sgz m5), .string (moz m5), .bool (sgz m6), .string (moz m6), .bool (sgz m7), .string (moz m7), .bool (sgz m8), .string (moz m8), .bool (sgz m9), .string (moz m9)])
  refine hK.out _ _ (SA.out _ _ F.out) (fun hHeld => ?_)
  clear hK K
  refine wpAnyH_done (by kernel_rfl) ?_ _
  refine NoPanic.normal ?_
  simp only [Act.put]
  have h0 := F.out.at 1 rfl
  go_wp2
  refine bodyPost_ret (v := .agg #[.bool (sgz m0), .string (moz m0), .bool (sgz m1), .string (moz m1), .bool (sgz m2), .string (moz m2), .bool (sgz m3), .string (moz m3), .bool (sgz m4), .string (moz m4), .bool (sgz m5), .string (moz m5), .bool (sgz m6), .string (moz m6), .bool (sgz m7), .string (moz m7), .bool (sgz m8), .string (moz m8), .bool (sgz m9), .string (moz m9)]) (results_row Tryd.results12 rfl h0 rfl Tryd.underlying28 rfl infoQ) rfl ⟨rfl, F.out.t⟩

end Go.Proofs.YtmpfgkpimjiecaaDoor
