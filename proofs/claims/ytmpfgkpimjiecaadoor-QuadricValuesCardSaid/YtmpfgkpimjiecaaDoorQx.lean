/- The walk of QuadricValues. -/
import Derived.Test.YtmpfgkpimjiecaaDoorQw
namespace Go.Proofs.YtmpfgkpimjiecaaDoor
open Go Go.RowKit Dg

theorem idxT0 (x0 x1 x2 x3 x4 x5 x6 x7 x8 : Value) (w : World) : (Instr.index 30 (.agg #[x0, x1, x2, x3, x4, x5, x6, x7, x8]) (.int .i64 0)).run Tryd.prog w = .ok (.agg #[x0, x1, x2]) w := by kernel_rfl
theorem idxT1 (x0 x1 x2 x3 x4 x5 x6 x7 x8 : Value) (w : World) : (Instr.index 30 (.agg #[x0, x1, x2, x3, x4, x5, x6, x7, x8]) (.int .i64 1)).run Tryd.prog w = .ok (.agg #[x3, x4, x5]) w := by kernel_rfl
theorem idxT2 (x0 x1 x2 x3 x4 x5 x6 x7 x8 : Value) (w : World) : (Instr.index 30 (.agg #[x0, x1, x2, x3, x4, x5, x6, x7, x8]) (.int .i64 2)).run Tryd.prog w = .ok (.agg #[x6, x7, x8]) w := by kernel_rfl
theorem rv_at (a b c v : P3) (h : rvI (plI a b c) v = 0) : atI (ofI a b c) v = 0 := by
  have := at_sq (plI a b c) v
  rw [h] at this
  exact this
attribute [local go_sem ↓] eqlQ eqlQZ eqlN

set_option maxHeartbeats 8000000 in
set_option maxRecDepth 100000 in
theorem qval_walk (a b c v : P3) (ha : a.Ok) (hb : b.Ok) (hc : c.Ok) (hv : v.Ok) (w : World) (hF : FacOk w) :
    Calls Tryd.prog 4 #[.agg #[.int .i64 a.x, .int .i64 a.y, .int .i64 a.z, .int .i64 b.x, .int .i64 b.y, .int .i64 b.z, .int .i64 c.x, .int .i64 c.y, .int .i64 c.z], .agg #[.int .i64 v.x, .int .i64 v.y, .int .i64 v.z]] w fun e w' => e = .returned (.bool true) ∧ Tch [] w w' := by
  have c0 := fun (w1 : World) (h : FacOk w1) => sanity w1 h
  have c1 := fun (w1 : World) (h : FacOk w1) => Of a b c ha hb hc w1 h
  have c2 := fun (w1 : World) => rValue a b c v ha hb hc hv w1
  have hq := fun k hk => (ofI_sm ha hb hc k hk).mono (l := 1000) (by omega)
  have a0 := fun (w1 : World) (h : FacOk w1) => At (ofI a b c) a hq ha w1 h
  have a1 := fun (w1 : World) (h : FacOk w1) => At (ofI a b c) b hq hb w1 h
  have a2 := fun (w1 : World) (h : FacOk w1) => At (ofI a b c) c hq hc w1 h
  have a3 := fun (w1 : World) (h : FacOk w1) => At (ofI a b c) v hq hv w1 h
  have sy := rvI_sm (plI_sm ha hb hc) hv
  have m0 := fun (w1 : World) => LMul (sy.mono (l := 3000) (by omega)) (sy.mono (l := 3000) (by omega)) w1
  rw [rv_at a b c a (rv_a a b c), sgz_nul, moz_nul] at a0
  rw [rv_at a b c b (rv_b a b c), sgz_nul, moz_nul] at a1
  rw [rv_at a b c c (rv_c a b c), sgz_nul, moz_nul] at a2
  rw [show atI (ofI a b c) v = rvI (plI a b c) v * rvI (plI a b c) v from at_sq (plI a b c) v] at a3
  obtain ⟨y, ey⟩ : ∃ y, y = rvI (plI a b c) v := ⟨_, rfl⟩
  rw [← ey] at a3 m0 c2
  obtain ⟨m, em⟩ : ∃ m, m = y * y := ⟨_, rfl⟩
  rw [← em] at a3 m0
  obtain ⟨u, eu⟩ : ∃ u, u = ofI a b c := ⟨_, rfl⟩
  rw [← eu] at c1 a0 a1 a2 a3
  have C0 := Lib.hid c0
  have C1 := Lib.hid c1
  have C2 := Lib.hid c2
  have A0 := Lib.hid a0
  have A1 := Lib.hid a1
  have A2 := Lib.hid a2
  have A3 := Lib.hid a3
  have M := Lib.hid m0
  have HF := Lib.hid hF
  clear c0 c1 c2 a0 a1 a2 a3 m0 sy hq ey em eu hF ha hb hc hv
  have F : Hid (Fr w ((w.alloc (.cells #[.int .i64 a.x, .int .i64 a.y, .int .i64 a.z, .int .i64 b.x, .int .i64 b.y, .int .i64 b.z, .int .i64 c.x, .int .i64 c.y, .int .i64 c.z] 30)).alloc (.cells #[.int .i64 v.x, .int .i64 v.y, .int .i64 v.z] 23)) [(w.heap.size, .cells #[.int .i64 a.x, .int .i64 a.y, .int .i64 a.z, .int .i64 b.x, .int .i64 b.y, .int .i64 b.z, .int .i64 c.x, .int .i64 c.y, .int .i64 c.z] 30 (0, 0)), (w.heap.size + 1, .cells #[.int .i64 v.x, .int .i64 v.y, .int .i64 v.z] 23 (0, 0))]) := Lib.hid (((Fr.nil w).add (.cells #[.int .i64 a.x, .int .i64 a.y, .int .i64 a.z, .int .i64 b.x, .int .i64 b.y, .int .i64 b.z, .int .i64 c.x, .int .i64 c.y, .int .i64 c.z] 30) (w.heap.size) rfl).add (.cells #[.int .i64 v.x, .int .i64 v.y, .int .i64 v.z] 23) (w.heap.size + 1) (by simp))
  go_enter Tryd.func4, Tryd.ntmps4
  go_wp2_with fail
  refine (C0.out _ (HF.out.tch F.out.t)).mono ?_
  rintro e w1 ⟨rfl, hT⟩
  have F := Lib.hid (F.out.keep hT)
  clear hT C0
  obtain ⟨⟨p0, p1, p2⟩, ⟨p3, p4, p5⟩, p6, p7, p8⟩ := F.out.nine 0 rfl
  go_wp2_with fail
  refine (C1.out _ (HF.out.tch F.out.t)).mono ?_
  rintro e w2 ⟨rfl, hT⟩
  have HN : Hid (w.heap.size + 2 ≤ w2.heap.size) := Lib.hid (by have := (Array.getElem?_eq_some_iff.1 ((F.out.keep hT).at 1 rfl)).1; omega)
  have F : Hid (Fr w (w2.alloc (.cells QZ 28)) [(w.heap.size, .cells #[.int .i64 a.x, .int .i64 a.y, .int .i64 a.z, .int .i64 b.x, .int .i64 b.y, .int .i64 b.z, .int .i64 c.x, .int .i64 c.y, .int .i64 c.z] 30 (0, 0)), (w.heap.size + 1, .cells #[.int .i64 v.x, .int .i64 v.y, .int .i64 v.z] 23 (0, 0)), (w2.heap.size, .cells QZ 28 (0, 0))]) := Lib.hid ((F.out.keep hT).add (.cells QZ 28) w2.heap.size rfl)
  clear hT C1 p0 p1 p2 p3 p4 p5 p6 p7 p8
  go_upto_region 3 with (first | (refine wpList_store_row rfl 28 _ _ rfl w2.heap.size rfl _ _ rfl _ 20 (F.out.at 2 rfl) QZ_size (QV_size _) infoQ (QV_one _) ?_; simp only [Act.put]; have F := Lib.hid (Fr.setR (l1 := [(w.heap.size, .cells #[.int .i64 a.x, .int .i64 a.y, .int .i64 a.z, .int .i64 b.x, .int .i64 b.y, .int .i64 b.z, .int .i64 c.x, .int .i64 c.y, .int .i64 c.z] 30 (0, 0)), (w.heap.size + 1, .cells #[.int .i64 v.x, .int .i64 v.y, .int .i64 v.z] 23 (0, 0))]) (l2 := []) F.out (by have := HN.out; simp; omega) (QV u))))
  have F : Hid (Fr w ((w2.alloc (.cells #[.bool false, .string ⟨#[]⟩, .bool false, .string ⟨#[]⟩, .bool false, .string ⟨#[]⟩, .bool false, .string ⟨#[]⟩, .bool false, .string ⟨#[]⟩, .bool false, .string ⟨#[]⟩, .bool false, .string ⟨#[]⟩, .bool false, .string ⟨#[]⟩, .bool false, .string ⟨#[]⟩, .bool false, .string ⟨#[]⟩] 28)).setRow w2.heap.size (QV u)) [(w.heap.size, .cells #[.int .i64 a.x, .int .i64 a.y, .int .i64 a.z, .int .i64 b.x, .int .i64 b.y, .int .i64 b.z, .int .i64 c.x, .int .i64 c.y, .int .i64 c.z] 30 (0, 0)), (w.heap.size + 1, .cells #[.int .i64 v.x, .int .i64 v.y, .int .i64 v.z] 23 (0, 0)), (w2.heap.size, .cells (QV u) 28 (0, 0))]) := F
  generalize (w2.alloc (.cells #[.bool false, .string ⟨#[]⟩, .bool false, .string ⟨#[]⟩, .bool false, .string ⟨#[]⟩, .bool false, .string ⟨#[]⟩, .bool false, .string ⟨#[]⟩, .bool false, .string ⟨#[]⟩, .bool false, .string ⟨#[]⟩, .bool false, .string ⟨#[]⟩, .bool false, .string ⟨#[]⟩, .bool false, .string ⟨#[]⟩] 28)).setRow w2.heap.size (QV u) = V at F ⊢
  obtain ⟨⟨p0, p1, p2⟩, ⟨p3, p4, p5⟩, p6, p7, p8⟩ := F.out.nine 0 rfl
  obtain ⟨q0, q1, q2⟩ := F.out.three 1 rfl
  go_wp2_with fail
  refine (C2.out _).mono ?_
  rintro e w3 ⟨rfl, hT⟩
  have F : Hid (Fr w (w3.alloc (.cells #[.bool (sgz y), .string (moz y)] 26)) [(w.heap.size, .cells #[.int .i64 a.x, .int .i64 a.y, .int .i64 a.z, .int .i64 b.x, .int .i64 b.y, .int .i64 b.z, .int .i64 c.x, .int .i64 c.y, .int .i64 c.z] 30 (0, 0)), (w.heap.size + 1, .cells #[.int .i64 v.x, .int .i64 v.y, .int .i64 v.z] 23 (0, 0)), (w2.heap.size, .cells (QV u) 28 (0, 0)), (w3.heap.size, .cells #[.bool (sgz y), .string (moz y)] 26 (0, 0))]) := Lib.hid ((F.out.keep hT).add (.cells #[.bool (sgz y), .string (moz y)] 26) w3.heap.size rfl)
  clear hT C2 p0 p1 p2 p3 p4 p5 p6 p7 p8 q0 q1 q2
  obtain ⟨⟨p0, p1, p2⟩, ⟨p3, p4, p5⟩, p6, p7, p8⟩ := F.out.nine 0 rfl
  go_wp2
  clear p0 p1 p2 p3 p4 p5 p6 p7 p8
  go_loopw [17] (fun i wr => ∃ k : Nat, k ≤ 3 ∧ i = .int .i64 (k : Int) ∧ Hid (Fr w wr [(w.heap.size, .cells #[.int .i64 a.x, .int .i64 a.y, .int .i64 a.z, .int .i64 b.x, .int .i64 b.y, .int .i64 b.z, .int .i64 c.x, .int .i64 c.y, .int .i64 c.z] 30 (0, 0)), (w.heap.size + 1, .cells #[.int .i64 v.x, .int .i64 v.y, .int .i64 v.z] 23 (0, 0)), (w2.heap.size, .cells (QV u) 28 (0, 0)), (w3.heap.size, .cells #[.bool (sgz y), .string (moz y)] 26 (0, 0))]))
    (fun i _ => 3 - (intOf i).toNat)
  case atStart => exact ⟨0, by omega, rfl, F⟩
  case round =>
    clear F
    obtain ⟨k, hk, rfl, F⟩ := hrel
    rcases (show k = 0 ∨ k = 1 ∨ k = 2 ∨ k = 3 by omega) with rfl | rfl | rfl | rfl
    · have X := idxT0 (.int .i64 a.x) (.int .i64 a.y) (.int .i64 a.z) (.int .i64 b.x) (.int .i64 b.y) (.int .i64 b.z) (.int .i64 c.x) (.int .i64 c.y) (.int .i64 c.z)
      have F := Lib.hid (F.out.beside (.cells #[.int .i64 a.x, .int .i64 a.y, .int .i64 a.z] 23))
      go_wp2_with (first | (first | (refine wpList_load_row rfl 28 _ rfl w2.heap.size rfl _ _ _ 20 (F.out.at 2 rfl) (QV_size u) Tryd.underlying28 rfl infoQ ?_; simp only [Act.put, List.setIfInBounds_toArray, List.set_cons_zero, List.set_cons_succ])))
      refine (A0.out _ (HF.out.tch F.out.t)).mono ?_
      rintro e w4 ⟨rfl, hT⟩
      have F := Lib.hid (F.out.keep hT)
      clear hT
      go_wp2
      go_roundw
      case rel => exact ⟨1, by omega, by go_num, F⟩
      case measure => simp [intOf]
    · have X := idxT1 (.int .i64 a.x) (.int .i64 a.y) (.int .i64 a.z) (.int .i64 b.x) (.int .i64 b.y) (.int .i64 b.z) (.int .i64 c.x) (.int .i64 c.y) (.int .i64 c.z)
      have F := Lib.hid (F.out.beside (.cells #[.int .i64 b.x, .int .i64 b.y, .int .i64 b.z] 23))
      go_wp2_with (first | (first | (refine wpList_load_row rfl 28 _ rfl w2.heap.size rfl _ _ _ 20 (F.out.at 2 rfl) (QV_size u) Tryd.underlying28 rfl infoQ ?_; simp only [Act.put, List.setIfInBounds_toArray, List.set_cons_zero, List.set_cons_succ])))
      refine (A1.out _ (HF.out.tch F.out.t)).mono ?_
      rintro e w4 ⟨rfl, hT⟩
      have F := Lib.hid (F.out.keep hT)
      clear hT
      go_wp2
      go_roundw
      case rel => exact ⟨2, by omega, by go_num, F⟩
      case measure => simp [intOf]
    · have X := idxT2 (.int .i64 a.x) (.int .i64 a.y) (.int .i64 a.z) (.int .i64 b.x) (.int .i64 b.y) (.int .i64 b.z) (.int .i64 c.x) (.int .i64 c.y) (.int .i64 c.z)
      have F := Lib.hid (F.out.beside (.cells #[.int .i64 c.x, .int .i64 c.y, .int .i64 c.z] 23))
      go_wp2_with (first | (first | (refine wpList_load_row rfl 28 _ rfl w2.heap.size rfl _ _ _ 20 (F.out.at 2 rfl) (QV_size u) Tryd.underlying28 rfl infoQ ?_; simp only [Act.put, List.setIfInBounds_toArray, List.set_cons_zero, List.set_cons_succ])))
      refine (A2.out _ (HF.out.tch F.out.t)).mono ?_
      rintro e w4 ⟨rfl, hT⟩
      have F := Lib.hid (F.out.keep hT)
      clear hT
      go_wp2
      go_roundw
      case rel => exact ⟨3, by omega, by go_num, F⟩
      case measure => simp [intOf]
    · go_upto_region 10 with (fail)
      have SA := Lib.hid (fun (w' : World) (h : Fr w w' [(w.heap.size, .cells #[.int .i64 a.x, .int .i64 a.y, .int .i64 a.z, .int .i64 b.x, .int .i64 b.y, .int .i64 b.z, .int .i64 c.x, .int .i64 c.y, .int .i64 c.z] 30 (0, 0)), (w.heap.size + 1, .cells #[.int .i64 v.x, .int .i64 v.y, .int .i64 v.z] 23 (0, 0)), (w2.heap.size, .cells (QV u) 28 (0, 0)), (w3.heap.size, .cells #[.bool (sgz y), .string (moz y)] 26 (0, 0))]) => (show w'.heap[w2.heap.size]? = some (.cells (QV u) 28 (0, 0)) ∧ (w'.cell? ⟨w.heap.size + 1, 0, none⟩ = some (.int .i64 v.x) ∧ w'.cell? ⟨w.heap.size + 1, 1, none⟩ = some (.int .i64 v.y) ∧ w'.cell? ⟨w.heap.size + 1, 2, none⟩ = some (.int .i64 v.z)) ∧ w'.cell? ⟨w3.heap.size, 0, none⟩ = some (.bool (sgz y)) ∧ w'.cell? ⟨w3.heap.size, 1, none⟩ = some (.string (moz y)) from ⟨h.at 2 rfl, h.three 1 rfl, h.two 3 rfl⟩))
      refine wp_region_noPanic ?_
      refine wp_region_held_drew (S := (fun w' => w'.heap[w2.heap.size]? = some (.cells (QV u) 28 (0, 0)) ∧ (w'.cell? ⟨w.heap.size + 1, 0, none⟩ = some (.int .i64 v.x) ∧ w'.cell? ⟨w.heap.size + 1, 1, none⟩ = some (.int .i64 v.y) ∧ w'.cell? ⟨w.heap.size + 1, 2, none⟩ = some (.int .i64 v.z)) ∧ w'.cell? ⟨w3.heap.size, 0, none⟩ = some (.bool (sgz y)) ∧ w'.cell? ⟨w3.heap.size, 1, none⟩ = some (.string (moz y)))) (by kernel_rfl) (SA.out _ F.out.drew) (fun hHeld => ?_)
      refine takeAt (i := 0) (d := (some 26)) (v := (.bool true)) rfl (by kernel_rfl) (by kernel_rfl) (by kernel_rfl) (by kernel_rfl) (fun _ _ _ h => h) (Or.inl ⟨by kernel_rfl, ?_⟩) (by assumption) ?_
      · intro w7 hSw
        try dsimp only at hSw
        go_simp
      simp only [Act.put, List.setIfInBounds_toArray, List.set_cons_zero, List.set_cons_succ]
      refine takeAt (i := 1) (d := (some 27)) (v := (.bool true)) rfl (by kernel_rfl) (by kernel_rfl) (by kernel_rfl) (by kernel_rfl) (fun _ _ _ h => h) (Or.inl ⟨by kernel_rfl, ?_⟩) (by assumption) ?_
      · intro w7 hSw
        try dsimp only at hSw
        go_simp
      simp only [Act.put, List.setIfInBounds_toArray, List.set_cons_zero, List.set_cons_succ]
      refine takeAt (i := 2) (d := (some 28)) (v := (.agg (QV u))) rfl (by kernel_rfl) (by kernel_rfl) (by kernel_rfl) (by kernel_rfl) (fun _ _ _ h => h) (yieldsIf_row (by kernel_rfl) 28 _ rfl (w2.heap.size) rfl _ _ _ 20 (fun w h => h.1) (QV_size u) Tryd.underlying28 rfl infoQ) (by assumption) ?_
      simp only [Act.put, List.setIfInBounds_toArray, List.set_cons_zero, List.set_cons_succ]
      refine takeAt (i := 3) (d := (some 29)) (v := (.agg #[.int .i64 v.x, .int .i64 v.y, .int .i64 v.z])) rfl (by kernel_rfl) (by kernel_rfl) (by kernel_rfl) (by kernel_rfl) (fun _ _ _ h => h) (Or.inl ⟨by kernel_rfl, ?_⟩) (by assumption) ?_
      · intro w7 hSw
        try dsimp only at hSw
        go_simp
      simp only [Act.put, List.setIfInBounds_toArray, List.set_cons_zero, List.set_cons_succ]
      refine takeAt (i := 5) (d := (some 31)) (v := (.agg #[.bool (sgz y), .string (moz y)])) rfl (by kernel_rfl) (by kernel_rfl) (by kernel_rfl) (by kernel_rfl) (fun _ _ _ h => h) (Or.inl ⟨by kernel_rfl, ?_⟩) (by assumption) ?_
      · intro w7 hSw
        try dsimp only at hSw
        go_simp
      simp only [Act.put, List.setIfInBounds_toArray, List.set_cons_zero, List.set_cons_succ]
      refine takeAt (i := 6) (d := (some 32)) (v := (.agg #[.bool (sgz y), .string (moz y)])) rfl (by kernel_rfl) (by kernel_rfl) (by kernel_rfl) (by kernel_rfl) (fun _ _ _ h => h) (Or.inl ⟨by kernel_rfl, ?_⟩) (by assumption) ?_
      · intro w7 hSw
        try dsimp only at hSw
        go_simp
      simp only [Act.put, List.setIfInBounds_toArray, List.set_cons_zero, List.set_cons_succ]
      refine wpAnyH_ready (rs := [4]) (by kernel_rfl) (by simp) ?_
      refine AllReadyH.cons rfl (fun K hK => ?_) AllReadyH.nil
      go_simp
      refine (A3.out _ (HF.out.tch F.out.t.drew)).mono ?_
      rintro e w6 ⟨rfl, hT⟩
      have F := Lib.hid (F.out.drew.keep hT)
      clear hT
      go_wp2_with fail
      refine hK.out _ _ (SA.out _ F.out) (fun hHeld => ?_)
      clear hK K
      refine wpAnyH_ready (rs := [7]) (by kernel_rfl) (by simp) ?_
      refine AllReadyH.cons rfl (fun K hK => ?_) AllReadyH.nil
      go_simp
      refine (M.out _).mono ?_
      rintro e w6 ⟨rfl, hT⟩
      have F := Lib.hid (F.out.keep hT)
      clear hT
      go_wp2_with fail
      refine hK.out _ _ (SA.out _ F.out) (fun hHeld => ?_)
      clear hK K
      refine takeAt (i := 8) (d := (some 34)) (v := (.bool true)) rfl (by kernel_rfl) (by kernel_rfl) (by kernel_rfl) (by kernel_rfl) (fun _ _ _ h => h) (Or.inl ⟨by kernel_rfl, ?_⟩) (by assumption) ?_
      · intro w7 hSw
        try dsimp only at hSw
        go_simp
      simp only [Act.put, List.setIfInBounds_toArray, List.set_cons_zero, List.set_cons_succ]
      refine takeAt (i := 9) (d := (some 35)) (v := (.bool true)) rfl (by kernel_rfl) (by kernel_rfl) (by kernel_rfl) (by kernel_rfl) (fun _ _ _ h => h) (Or.inl ⟨by kernel_rfl, ?_⟩) (by assumption) ?_
      · intro w7 hSw
        try dsimp only at hSw
        go_simp
      simp only [Act.put, List.setIfInBounds_toArray, List.set_cons_zero, List.set_cons_succ]
      refine takeAt (i := 10) (d := (some 4)) (v := (.bool true)) rfl (by kernel_rfl) (by kernel_rfl) (by kernel_rfl) (by kernel_rfl) (fun _ _ _ h => h) (Or.inl ⟨by kernel_rfl, ?_⟩) (by assumption) ?_
      · intro w7 hSw
        try dsimp only at hSw
        go_simp
      simp only [Act.put, List.setIfInBounds_toArray, List.set_cons_zero, List.set_cons_succ]
      refine wpAnyH_done (by kernel_rfl) ?_ _
      refine NoPanic.normal ?_
      go_wp2
      go_ret
      exact ⟨rfl, F.out.t⟩

end Go.Proofs.YtmpfgkpimjiecaaDoor
