/- The walk of QuadricOf. -/
import Derived.Test.YtmpfgkpimjiecaaDoorQu
namespace Go.Proofs.YtmpfgkpimjiecaaDoor
open Go Go.RowKit Dg

theorem plI_rot (a b c : P3) (i : Nat) (hi : i < 4) : plI a b c i = plI b c a i := by
  rcases (show i = 0 ∨ i = 1 ∨ i = 2 ∨ i = 3 by omega) with rfl | rfl | rfl | rfl <;> simp only [plI, dI, nrmI, crsI, difI] <;> grind
theorem plI_swap (a b c : P3) (i : Nat) (hi : i < 4) : plI b a c i = -plI a b c i := by
  rcases (show i = 0 ∨ i = 1 ∨ i = 2 ∨ i = 3 by omega) with rfl | rfl | rfl | rfl <;> simp only [plI, dI, nrmI, crsI, difI] <;> grind
theorem plI_flat (a b : P3) (i : Nat) (hi : i < 4) : plI a a b i = 0 := by
  rcases (show i = 0 ∨ i = 1 ∨ i = 2 ∨ i = 3 by omega) with rfl | rfl | rfl | rfl <;> simp only [plI, dI, nrmI, crsI, difI] <;> grind
theorem sqI_congr {p q : Nat → Int} (h : ∀ i, i < 4 → p i = q i) (k : Nat) (hk : k < 10) : sqI p k = sqI q k := by
  unfold sqI
  rw [h _ (fac_lt k hk).1, h _ (fac_lt k hk).2]
theorem sqI_neg {p q : Nat → Int} (h : ∀ i, i < 4 → p i = -q i) (k : Nat) (hk : k < 10) : sqI p k = sqI q k := by
  unfold sqI
  rw [h _ (fac_lt k hk).1, h _ (fac_lt k hk).2, Int.neg_mul_neg]
theorem of_rot (a b c : P3) : sameQ (ofI a b c) (ofI b c a) = true := (sameQ_iff _ _).2 fun k hk => sqI_congr (plI_rot a b c) k hk
theorem of_swap (a b c : P3) : sameQ (ofI a b c) (ofI b a c) = true := (sameQ_iff _ _).2 fun k hk => (sqI_neg (plI_swap a b c) k hk).symm
theorem of_flat (a b : P3) : sameQ (ofI a a b) (fun _ => 0) = true := (sameQ_iff _ _).2 fun k hk => by
  have h : ∀ i, i < 4 → plI a a b i = (fun _ => (0 : Int)) i := plI_flat a b
  have := sqI_congr h k hk
  show sqI (plI a a b) k = 0
  rw [this]
  unfold sqI
  split <;> rfl

attribute [local go_sem ↓] eqlQ eqlQZ

set_option maxHeartbeats 8000000 in
set_option maxRecDepth 100000 in
theorem qof_walk (a b c : P3) (ha : a.Ok) (hb : b.Ok) (hc : c.Ok) (w : World) (hF : FacOk w) :
    Calls Tryd.prog 3 #[.agg #[.int .i64 a.x, .int .i64 a.y, .int .i64 a.z], .agg #[.int .i64 b.x, .int .i64 b.y, .int .i64 b.z], .agg #[.int .i64 c.x, .int .i64 c.y, .int .i64 c.z]] w fun e w' => e = .returned (.bool true) ∧ Tch [] w w' := by
  have c0 := fun (w1 : World) (h : FacOk w1) => sanity w1 h
  have c1 := fun (w1 : World) (h : FacOk w1) => Of a b c ha hb hc w1 h
  have r1 := fun (w1 : World) => rOf a b c ha hb hc w1
  have c2 := fun (w1 : World) (h : FacOk w1) => Of b c a hb hc ha w1 h
  have c3 := fun (w1 : World) (h : FacOk w1) => Of b a c hb ha hc w1 h
  have c4 := fun (w1 : World) (h : FacOk w1) => Of a a b ha ha hb w1 h
  have s1 := sameQ_refl (ofI a b c)
  have s2 := of_rot a b c
  have s3 := of_swap a b c
  have s4 := of_flat a b
  obtain ⟨u, eu⟩ : ∃ u, u = ofI a b c := ⟨_, rfl⟩
  obtain ⟨u2, e2⟩ : ∃ u, u = ofI b c a := ⟨_, rfl⟩
  obtain ⟨u3, e3⟩ : ∃ u, u = ofI b a c := ⟨_, rfl⟩
  obtain ⟨u4, e4⟩ : ∃ u, u = ofI a a b := ⟨_, rfl⟩
  rw [← eu] at c1 r1 s1 s2 s3
  rw [← e2] at c2 s2
  rw [← e3] at c3 s3
  rw [← e4] at c4 s4
  have C0 := Lib.hid c0
  have C1 := Lib.hid c1
  have R1 := Lib.hid r1
  have C2 := Lib.hid c2
  have C3 := Lib.hid c3
  have C4 := Lib.hid c4
  have HF := Lib.hid hF
  clear c0 c1 r1 c2 c3 c4 eu e2 e3 e4 hF ha hb hc
  have F : Hid (Fr w (((w.alloc (.cells #[.int .i64 a.x, .int .i64 a.y, .int .i64 a.z] 23)).alloc (.cells #[.int .i64 b.x, .int .i64 b.y, .int .i64 b.z] 23)).alloc (.cells #[.int .i64 c.x, .int .i64 c.y, .int .i64 c.z] 23)) [(w.heap.size, .cells #[.int .i64 a.x, .int .i64 a.y, .int .i64 a.z] 23 (0, 0)), (w.heap.size + 1, .cells #[.int .i64 b.x, .int .i64 b.y, .int .i64 b.z] 23 (0, 0)), (w.heap.size + 1 + 1, .cells #[.int .i64 c.x, .int .i64 c.y, .int .i64 c.z] 23 (0, 0))]) := Lib.hid ((((Fr.nil w).add (.cells #[.int .i64 a.x, .int .i64 a.y, .int .i64 a.z] 23) (w.heap.size) rfl).add (.cells #[.int .i64 b.x, .int .i64 b.y, .int .i64 b.z] 23) (w.heap.size + 1) (by simp)).add (.cells #[.int .i64 c.x, .int .i64 c.y, .int .i64 c.z] 23) (w.heap.size + 1 + 1) (by simp))
  go_enter Tryd.func3, Tryd.ntmps3
  go_wp2_with fail
  refine (C0.out _ (HF.out.tch F.out.t)).mono ?_
  rintro e w1 ⟨rfl, hT⟩
  have F := Lib.hid (F.out.keep hT)
  clear hT C0
  obtain ⟨a0, a1, a2⟩ := F.out.three 0 rfl
  obtain ⟨b0, b1, b2⟩ := F.out.three 1 rfl
  obtain ⟨d0, d1, d2⟩ := F.out.three 2 rfl
  go_wp2_with fail
  refine (C1.out _ (HF.out.tch F.out.t)).mono ?_
  rintro e w2 ⟨rfl, hT⟩
  have HN : Hid (w.heap.size + 3 ≤ w2.heap.size) := Lib.hid (by have := (Array.getElem?_eq_some_iff.1 ((F.out.keep hT).at 2 rfl)).1; omega)
  have F : Hid (Fr w (w2.alloc (.cells QZ 28)) [(w.heap.size, .cells #[.int .i64 a.x, .int .i64 a.y, .int .i64 a.z] 23 (0, 0)), (w.heap.size + 1, .cells #[.int .i64 b.x, .int .i64 b.y, .int .i64 b.z] 23 (0, 0)), (w.heap.size + 1 + 1, .cells #[.int .i64 c.x, .int .i64 c.y, .int .i64 c.z] 23 (0, 0)), (w2.heap.size, .cells QZ 28 (0, 0))]) := Lib.hid ((F.out.keep hT).add (.cells QZ 28) w2.heap.size rfl)
  clear hT C1 a0 a1 a2 b0 b1 b2 d0 d1 d2
  go_upto_region 3 with (first | ((refine wpList_store_row rfl 28 _ _ rfl w2.heap.size rfl _ _ rfl _ 20 (F.out.at 3 rfl) QZ_size (QV_size _) infoQ (QV_one _) ?_; simp only [Act.put]); have F := Lib.hid (Fr.setR (l1 := [(w.heap.size, .cells #[.int .i64 a.x, .int .i64 a.y, .int .i64 a.z] 23 (0, 0)), (w.heap.size + 1, .cells #[.int .i64 b.x, .int .i64 b.y, .int .i64 b.z] 23 (0, 0)), (w.heap.size + 1 + 1, .cells #[.int .i64 c.x, .int .i64 c.y, .int .i64 c.z] 23 (0, 0))]) (l2 := []) F.out (by have := HN.out; simp; omega) (QV u))))
  have F : Hid (Fr w ((w2.alloc (.cells #[.bool false, .string ⟨#[]⟩, .bool false, .string ⟨#[]⟩, .bool false, .string ⟨#[]⟩, .bool false, .string ⟨#[]⟩, .bool false, .string ⟨#[]⟩, .bool false, .string ⟨#[]⟩, .bool false, .string ⟨#[]⟩, .bool false, .string ⟨#[]⟩, .bool false, .string ⟨#[]⟩, .bool false, .string ⟨#[]⟩] 28)).setRow w2.heap.size (QV u)) [(w.heap.size, .cells #[.int .i64 a.x, .int .i64 a.y, .int .i64 a.z] 23 (0, 0)), (w.heap.size + 1, .cells #[.int .i64 b.x, .int .i64 b.y, .int .i64 b.z] 23 (0, 0)), (w.heap.size + 1 + 1, .cells #[.int .i64 c.x, .int .i64 c.y, .int .i64 c.z] 23 (0, 0)), (w2.heap.size, .cells (QV u) 28 (0, 0))]) := F
  generalize (w2.alloc (.cells #[.bool false, .string ⟨#[]⟩, .bool false, .string ⟨#[]⟩, .bool false, .string ⟨#[]⟩, .bool false, .string ⟨#[]⟩, .bool false, .string ⟨#[]⟩, .bool false, .string ⟨#[]⟩, .bool false, .string ⟨#[]⟩, .bool false, .string ⟨#[]⟩, .bool false, .string ⟨#[]⟩, .bool false, .string ⟨#[]⟩] 28)).setRow w2.heap.size (QV u) = W at F ⊢
  have SA := Lib.hid (fun (w' : World) (h : Fr w w' [(w.heap.size, .cells #[.int .i64 a.x, .int .i64 a.y, .int .i64 a.z] 23 (0, 0)), (w.heap.size + 1, .cells #[.int .i64 b.x, .int .i64 b.y, .int .i64 b.z] 23 (0, 0)), (w.heap.size + 1 + 1, .cells #[.int .i64 c.x, .int .i64 c.y, .int .i64 c.z] 23 (0, 0)), (w2.heap.size, .cells (QV u) 28 (0, 0))]) => (show w'.heap[w2.heap.size]? = some (.cells (QV u) 28 (0, 0)) ∧ w'.cell? ⟨w.heap.size, 0, none⟩ = some (.int .i64 a.x) ∧ w'.cell? ⟨w.heap.size, 1, none⟩ = some (.int .i64 a.y) ∧ w'.cell? ⟨w.heap.size, 2, none⟩ = some (.int .i64 a.z) ∧ w'.cell? ⟨w.heap.size + 1, 0, none⟩ = some (.int .i64 b.x) ∧ w'.cell? ⟨w.heap.size + 1, 1, none⟩ = some (.int .i64 b.y) ∧ w'.cell? ⟨w.heap.size + 1, 2, none⟩ = some (.int .i64 b.z) ∧ w'.cell? ⟨w.heap.size + 1 + 1, 0, none⟩ = some (.int .i64 c.x) ∧ w'.cell? ⟨w.heap.size + 1 + 1, 1, none⟩ = some (.int .i64 c.y) ∧ w'.cell? ⟨w.heap.size + 1 + 1, 2, none⟩ = some (.int .i64 c.z) from ⟨h.at 3 rfl, h.cell 0 0 rfl rfl, h.cell 0 1 rfl rfl, h.cell 0 2 rfl rfl, h.cell 1 0 rfl rfl, h.cell 1 1 rfl rfl, h.cell 1 2 rfl rfl, h.cell 2 0 rfl rfl, h.cell 2 1 rfl rfl, h.cell 2 2 rfl rfl⟩))
  refine wp_region_noPanic ?_
  refine wp_region_held_drew (S := (fun w' => w'.heap[w2.heap.size]? = some (.cells (QV u) 28 (0, 0)) ∧ w'.cell? ⟨w.heap.size, 0, none⟩ = some (.int .i64 a.x) ∧ w'.cell? ⟨w.heap.size, 1, none⟩ = some (.int .i64 a.y) ∧ w'.cell? ⟨w.heap.size, 2, none⟩ = some (.int .i64 a.z) ∧ w'.cell? ⟨w.heap.size + 1, 0, none⟩ = some (.int .i64 b.x) ∧ w'.cell? ⟨w.heap.size + 1, 1, none⟩ = some (.int .i64 b.y) ∧ w'.cell? ⟨w.heap.size + 1, 2, none⟩ = some (.int .i64 b.z) ∧ w'.cell? ⟨w.heap.size + 1 + 1, 0, none⟩ = some (.int .i64 c.x) ∧ w'.cell? ⟨w.heap.size + 1 + 1, 1, none⟩ = some (.int .i64 c.y) ∧ w'.cell? ⟨w.heap.size + 1 + 1, 2, none⟩ = some (.int .i64 c.z))) (by kernel_rfl) (SA.out _ F.out.drew) (fun hHeld => ?_)
  refine takeAt (i := 0) (d := (some 15)) (v := (.bool true)) rfl (by kernel_rfl) (by kernel_rfl) (by kernel_rfl) (by kernel_rfl) (fun _ _ _ h => h) (Or.inl ⟨by kernel_rfl, ?_⟩) (by assumption) ?_
  · intro w7 hSw
    try dsimp only at hSw
    go_simp
  simp only [Act.put, List.setIfInBounds_toArray, List.set_cons_zero, List.set_cons_succ]
  refine takeAt (i := 1) (d := (some 16)) (v := (.bool true)) rfl (by kernel_rfl) (by kernel_rfl) (by kernel_rfl) (by kernel_rfl) (fun _ _ _ h => h) (Or.inl ⟨by kernel_rfl, ?_⟩) (by assumption) ?_
  · intro w7 hSw
    try dsimp only at hSw
    go_simp
  simp only [Act.put, List.setIfInBounds_toArray, List.set_cons_zero, List.set_cons_succ]
  refine takeAt (i := 2) (d := (some 17)) (v := (.agg (QV u))) rfl (by kernel_rfl) (by kernel_rfl) (by kernel_rfl) (by kernel_rfl) (fun _ _ _ h => h) (yieldsIf_row (by kernel_rfl) 28 _ rfl (w2.heap.size) rfl _ _ _ 20 (fun w h => h.1) (QV_size u) Tryd.underlying28 rfl infoQ) (by assumption) ?_
  simp only [Act.put, List.setIfInBounds_toArray, List.set_cons_zero, List.set_cons_succ]
  refine takeAt (i := 3) (d := (some 18)) (v := (.agg #[.int .i64 a.x, .int .i64 a.y, .int .i64 a.z])) rfl (by kernel_rfl) (by kernel_rfl) (by kernel_rfl) (by kernel_rfl) (fun _ _ _ h => h) (Or.inl ⟨by kernel_rfl, ?_⟩) (by assumption) ?_
  · intro w7 hSw
    try dsimp only at hSw
    go_simp
  simp only [Act.put, List.setIfInBounds_toArray, List.set_cons_zero, List.set_cons_succ]
  refine takeAt (i := 4) (d := (some 19)) (v := (.agg #[.int .i64 b.x, .int .i64 b.y, .int .i64 b.z])) rfl (by kernel_rfl) (by kernel_rfl) (by kernel_rfl) (by kernel_rfl) (fun _ _ _ h => h) (Or.inl ⟨by kernel_rfl, ?_⟩) (by assumption) ?_
  · intro w7 hSw
    try dsimp only at hSw
    go_simp
  simp only [Act.put, List.setIfInBounds_toArray, List.set_cons_zero, List.set_cons_succ]
  refine takeAt (i := 5) (d := (some 20)) (v := (.agg #[.int .i64 c.x, .int .i64 c.y, .int .i64 c.z])) rfl (by kernel_rfl) (by kernel_rfl) (by kernel_rfl) (by kernel_rfl) (fun _ _ _ h => h) (Or.inl ⟨by kernel_rfl, ?_⟩) (by assumption) ?_
  · intro w7 hSw
    try dsimp only at hSw
    go_simp
  simp only [Act.put, List.setIfInBounds_toArray, List.set_cons_zero, List.set_cons_succ]
  refine takeAt (i := 6) (d := (some 21)) (v := (.agg #[.int .i64 a.x, .int .i64 a.y, .int .i64 a.z, .int .i64 b.x, .int .i64 b.y, .int .i64 b.z, .int .i64 c.x, .int .i64 c.y, .int .i64 c.z])) rfl (by kernel_rfl) (by kernel_rfl) (by kernel_rfl) (by kernel_rfl) (fun _ _ _ h => h) (Or.inl ⟨by kernel_rfl, ?_⟩) (by assumption) ?_
  · intro w7 hSw
    try dsimp only at hSw
    go_simp
  simp only [Act.put, List.setIfInBounds_toArray, List.set_cons_zero, List.set_cons_succ]
  refine wpAnyH_ready (rs := [7]) (by kernel_rfl) (by simp) ?_
  refine AllReadyH.cons rfl (fun K hK => ?_) AllReadyH.nil
  go_simp
  refine (R1.out _).mono ?_
  rintro e w6 ⟨rfl, hT⟩
  have F := Lib.hid (F.out.drew.keep hT)
  clear hT
  go_wp2_with fail
  refine hK.out _ _ (SA.out _ F.out) (fun hHeld => ?_)
  clear hK K
  refine takeAt (i := 8) (d := (some 23)) (v := (.bool true)) rfl (by kernel_rfl) (by kernel_rfl) (by kernel_rfl) (by kernel_rfl) (fun _ _ _ h => h) (Or.inl ⟨by kernel_rfl, ?_⟩) (by assumption) ?_
  · intro w7 hSw
    try dsimp only at hSw
    go_simp
  simp only [Act.put, List.setIfInBounds_toArray, List.set_cons_zero, List.set_cons_succ]
  refine takeAt (i := 9) (d := (some 24)) (v := (.bool true)) rfl (by kernel_rfl) (by kernel_rfl) (by kernel_rfl) (by kernel_rfl) (fun _ _ _ h => h) (Or.inl ⟨by kernel_rfl, ?_⟩) (by assumption) ?_
  · intro w7 hSw
    try dsimp only at hSw
    go_simp
  simp only [Act.put, List.setIfInBounds_toArray, List.set_cons_zero, List.set_cons_succ]
  refine takeAt (i := 10) (d := (some 25)) (v := (.bool true)) rfl (by kernel_rfl) (by kernel_rfl) (by kernel_rfl) (by kernel_rfl) (fun _ _ _ h => h) (Or.inl ⟨by kernel_rfl, ?_⟩) (by assumption) ?_
  · intro w7 hSw
    try dsimp only at hSw
    go_simp
  simp only [Act.put, List.setIfInBounds_toArray, List.set_cons_zero, List.set_cons_succ]
  refine takeAt (i := 11) (d := (some 26)) (v := (.agg (QV u))) rfl (by kernel_rfl) (by kernel_rfl) (by kernel_rfl) (by kernel_rfl) (fun _ _ _ h => h) (yieldsIf_row (by kernel_rfl) 28 _ rfl (w2.heap.size) rfl _ _ _ 20 (fun w h => h.1) (QV_size u) Tryd.underlying28 rfl infoQ) (by assumption) ?_
  simp only [Act.put, List.setIfInBounds_toArray, List.set_cons_zero, List.set_cons_succ]
  refine takeAt (i := 12) (d := (some 27)) (v := (.agg #[.int .i64 b.x, .int .i64 b.y, .int .i64 b.z])) rfl (by kernel_rfl) (by kernel_rfl) (by kernel_rfl) (by kernel_rfl) (fun _ _ _ h => h) (Or.inl ⟨by kernel_rfl, ?_⟩) (by assumption) ?_
  · intro w7 hSw
    try dsimp only at hSw
    go_simp
  simp only [Act.put, List.setIfInBounds_toArray, List.set_cons_zero, List.set_cons_succ]
  refine takeAt (i := 13) (d := (some 28)) (v := (.agg #[.int .i64 c.x, .int .i64 c.y, .int .i64 c.z])) rfl (by kernel_rfl) (by kernel_rfl) (by kernel_rfl) (by kernel_rfl) (fun _ _ _ h => h) (Or.inl ⟨by kernel_rfl, ?_⟩) (by assumption) ?_
  · intro w7 hSw
    try dsimp only at hSw
    go_simp
  simp only [Act.put, List.setIfInBounds_toArray, List.set_cons_zero, List.set_cons_succ]
  refine takeAt (i := 14) (d := (some 29)) (v := (.agg #[.int .i64 a.x, .int .i64 a.y, .int .i64 a.z])) rfl (by kernel_rfl) (by kernel_rfl) (by kernel_rfl) (by kernel_rfl) (fun _ _ _ h => h) (Or.inl ⟨by kernel_rfl, ?_⟩) (by assumption) ?_
  · intro w7 hSw
    try dsimp only at hSw
    go_simp
  simp only [Act.put, List.setIfInBounds_toArray, List.set_cons_zero, List.set_cons_succ]
  refine takeAt (i := 15) (d := (some 30)) (v := (.agg #[.int .i64 b.x, .int .i64 b.y, .int .i64 b.z, .int .i64 c.x, .int .i64 c.y, .int .i64 c.z, .int .i64 a.x, .int .i64 a.y, .int .i64 a.z])) rfl (by kernel_rfl) (by kernel_rfl) (by kernel_rfl) (by kernel_rfl) (fun _ _ _ h => h) (Or.inl ⟨by kernel_rfl, ?_⟩) (by assumption) ?_
  · intro w7 hSw
    try dsimp only at hSw
    go_simp
  simp only [Act.put, List.setIfInBounds_toArray, List.set_cons_zero, List.set_cons_succ]
  refine wpAnyH_ready (rs := [16]) (by kernel_rfl) (by simp) ?_
  refine AllReadyH.cons rfl (fun K hK => ?_) AllReadyH.nil
  go_simp
  refine (C2.out _ (HF.out.tch F.out.t)).mono ?_
  rintro e w6 ⟨rfl, hT⟩
  have F := Lib.hid (F.out.keep hT)
  clear hT
  go_wp2_with fail
  refine hK.out _ _ (SA.out _ F.out) (fun hHeld => ?_)
  clear hK K
  refine takeAt (i := 17) (d := (some 32)) (v := (.bool true)) rfl (by kernel_rfl) (by kernel_rfl) (by kernel_rfl) (by kernel_rfl) (fun _ _ _ h => h) (Or.inl ⟨by kernel_rfl, ?_⟩) (by assumption) ?_
  · intro w7 hSw
    try dsimp only at hSw
    go_simp
  simp only [Act.put, List.setIfInBounds_toArray, List.set_cons_zero, List.set_cons_succ]
  refine takeAt (i := 18) (d := (some 33)) (v := (.bool true)) rfl (by kernel_rfl) (by kernel_rfl) (by kernel_rfl) (by kernel_rfl) (fun _ _ _ h => h) (Or.inl ⟨by kernel_rfl, ?_⟩) (by assumption) ?_
  · intro w7 hSw
    try dsimp only at hSw
    go_simp
  simp only [Act.put, List.setIfInBounds_toArray, List.set_cons_zero, List.set_cons_succ]
  refine takeAt (i := 19) (d := (some 34)) (v := (.bool true)) rfl (by kernel_rfl) (by kernel_rfl) (by kernel_rfl) (by kernel_rfl) (fun _ _ _ h => h) (Or.inl ⟨by kernel_rfl, ?_⟩) (by assumption) ?_
  · intro w7 hSw
    try dsimp only at hSw
    go_simp
  simp only [Act.put, List.setIfInBounds_toArray, List.set_cons_zero, List.set_cons_succ]
  refine takeAt (i := 20) (d := (some 35)) (v := (.agg (QV u))) rfl (by kernel_rfl) (by kernel_rfl) (by kernel_rfl) (by kernel_rfl) (fun _ _ _ h => h) (yieldsIf_row (by kernel_rfl) 28 _ rfl (w2.heap.size) rfl _ _ _ 20 (fun w h => h.1) (QV_size u) Tryd.underlying28 rfl infoQ) (by assumption) ?_
  simp only [Act.put, List.setIfInBounds_toArray, List.set_cons_zero, List.set_cons_succ]
  refine takeAt (i := 21) (d := (some 36)) (v := (.agg #[.int .i64 b.x, .int .i64 b.y, .int .i64 b.z])) rfl (by kernel_rfl) (by kernel_rfl) (by kernel_rfl) (by kernel_rfl) (fun _ _ _ h => h) (Or.inl ⟨by kernel_rfl, ?_⟩) (by assumption) ?_
  · intro w7 hSw
    try dsimp only at hSw
    go_simp
  simp only [Act.put, List.setIfInBounds_toArray, List.set_cons_zero, List.set_cons_succ]
  refine takeAt (i := 22) (d := (some 37)) (v := (.agg #[.int .i64 a.x, .int .i64 a.y, .int .i64 a.z])) rfl (by kernel_rfl) (by kernel_rfl) (by kernel_rfl) (by kernel_rfl) (fun _ _ _ h => h) (Or.inl ⟨by kernel_rfl, ?_⟩) (by assumption) ?_
  · intro w7 hSw
    try dsimp only at hSw
    go_simp
  simp only [Act.put, List.setIfInBounds_toArray, List.set_cons_zero, List.set_cons_succ]
  refine takeAt (i := 23) (d := (some 38)) (v := (.agg #[.int .i64 c.x, .int .i64 c.y, .int .i64 c.z])) rfl (by kernel_rfl) (by kernel_rfl) (by kernel_rfl) (by kernel_rfl) (fun _ _ _ h => h) (Or.inl ⟨by kernel_rfl, ?_⟩) (by assumption) ?_
  · intro w7 hSw
    try dsimp only at hSw
    go_simp
  simp only [Act.put, List.setIfInBounds_toArray, List.set_cons_zero, List.set_cons_succ]
  refine takeAt (i := 24) (d := (some 39)) (v := (.agg #[.int .i64 b.x, .int .i64 b.y, .int .i64 b.z, .int .i64 a.x, .int .i64 a.y, .int .i64 a.z, .int .i64 c.x, .int .i64 c.y, .int .i64 c.z])) rfl (by kernel_rfl) (by kernel_rfl) (by kernel_rfl) (by kernel_rfl) (fun _ _ _ h => h) (Or.inl ⟨by kernel_rfl, ?_⟩) (by assumption) ?_
  · intro w7 hSw
    try dsimp only at hSw
    go_simp
  simp only [Act.put, List.setIfInBounds_toArray, List.set_cons_zero, List.set_cons_succ]
  refine wpAnyH_ready (rs := [25]) (by kernel_rfl) (by simp) ?_
  refine AllReadyH.cons rfl (fun K hK => ?_) AllReadyH.nil
  go_simp
  refine (C3.out _ (HF.out.tch F.out.t)).mono ?_
  rintro e w6 ⟨rfl, hT⟩
  have F := Lib.hid (F.out.keep hT)
  clear hT
  go_wp2_with fail
  refine hK.out _ _ (SA.out _ F.out) (fun hHeld => ?_)
  clear hK K
  refine takeAt (i := 26) (d := (some 41)) (v := (.bool true)) rfl (by kernel_rfl) (by kernel_rfl) (by kernel_rfl) (by kernel_rfl) (fun _ _ _ h => h) (Or.inl ⟨by kernel_rfl, ?_⟩) (by assumption) ?_
  · intro w7 hSw
    try dsimp only at hSw
    go_simp
  simp only [Act.put, List.setIfInBounds_toArray, List.set_cons_zero, List.set_cons_succ]
  refine takeAt (i := 27) (d := (some 42)) (v := (.bool true)) rfl (by kernel_rfl) (by kernel_rfl) (by kernel_rfl) (by kernel_rfl) (fun _ _ _ h => h) (Or.inl ⟨by kernel_rfl, ?_⟩) (by assumption) ?_
  · intro w7 hSw
    try dsimp only at hSw
    go_simp
  simp only [Act.put, List.setIfInBounds_toArray, List.set_cons_zero, List.set_cons_succ]
  refine takeAt (i := 28) (d := (some 43)) (v := (.bool true)) rfl (by kernel_rfl) (by kernel_rfl) (by kernel_rfl) (by kernel_rfl) (fun _ _ _ h => h) (Or.inl ⟨by kernel_rfl, ?_⟩) (by assumption) ?_
  · intro w7 hSw
    try dsimp only at hSw
    go_simp
  simp only [Act.put, List.setIfInBounds_toArray, List.set_cons_zero, List.set_cons_succ]
  refine takeAt (i := 29) (d := (some 44)) (v := (.agg #[.int .i64 a.x, .int .i64 a.y, .int .i64 a.z])) rfl (by kernel_rfl) (by kernel_rfl) (by kernel_rfl) (by kernel_rfl) (fun _ _ _ h => h) (Or.inl ⟨by kernel_rfl, ?_⟩) (by assumption) ?_
  · intro w7 hSw
    try dsimp only at hSw
    go_simp
  simp only [Act.put, List.setIfInBounds_toArray, List.set_cons_zero, List.set_cons_succ]
  refine takeAt (i := 30) (d := (some 45)) (v := (.agg #[.int .i64 a.x, .int .i64 a.y, .int .i64 a.z])) rfl (by kernel_rfl) (by kernel_rfl) (by kernel_rfl) (by kernel_rfl) (fun _ _ _ h => h) (Or.inl ⟨by kernel_rfl, ?_⟩) (by assumption) ?_
  · intro w7 hSw
    try dsimp only at hSw
    go_simp
  simp only [Act.put, List.setIfInBounds_toArray, List.set_cons_zero, List.set_cons_succ]
  refine takeAt (i := 31) (d := (some 46)) (v := (.agg #[.int .i64 b.x, .int .i64 b.y, .int .i64 b.z])) rfl (by kernel_rfl) (by kernel_rfl) (by kernel_rfl) (by kernel_rfl) (fun _ _ _ h => h) (Or.inl ⟨by kernel_rfl, ?_⟩) (by assumption) ?_
  · intro w7 hSw
    try dsimp only at hSw
    go_simp
  simp only [Act.put, List.setIfInBounds_toArray, List.set_cons_zero, List.set_cons_succ]
  refine takeAt (i := 32) (d := (some 47)) (v := (.agg #[.int .i64 a.x, .int .i64 a.y, .int .i64 a.z, .int .i64 a.x, .int .i64 a.y, .int .i64 a.z, .int .i64 b.x, .int .i64 b.y, .int .i64 b.z])) rfl (by kernel_rfl) (by kernel_rfl) (by kernel_rfl) (by kernel_rfl) (fun _ _ _ h => h) (Or.inl ⟨by kernel_rfl, ?_⟩) (by assumption) ?_
  · intro w7 hSw
    try dsimp only at hSw
    go_simp
  simp only [Act.put, List.setIfInBounds_toArray, List.set_cons_zero, List.set_cons_succ]
  refine takeAt (i := 34) (d := (some 49)) (v := (.agg #[.bool false, .string ⟨#[]⟩, .bool false, .string ⟨#[]⟩, .bool false, .string ⟨#[]⟩, .bool false, .string ⟨#[]⟩, .bool false, .string ⟨#[]⟩, .bool false, .string ⟨#[]⟩, .bool false, .string ⟨#[]⟩, .bool false, .string ⟨#[]⟩, .bool false, .string ⟨#[]⟩, .bool false, .string ⟨#[]⟩])) rfl (by kernel_rfl) (by kernel_rfl) (by kernel_rfl) (by kernel_rfl) (fun _ _ _ h => h) (Or.inl ⟨by kernel_rfl, ?_⟩) (by assumption) ?_
  · intro w7 hSw
    try dsimp only at hSw
    go_simp
  simp only [Act.put, List.setIfInBounds_toArray, List.set_cons_zero, List.set_cons_succ]
  refine wpAnyH_ready (rs := [33]) (by kernel_rfl) (by simp) ?_
  refine AllReadyH.cons rfl (fun K hK => ?_) AllReadyH.nil
  go_simp
  refine (C4.out _ (HF.out.tch F.out.t)).mono ?_
  rintro e w6 ⟨rfl, hT⟩
  have F := Lib.hid (F.out.keep hT)
  clear hT
  go_wp2_with fail
  refine hK.out _ _ (SA.out _ F.out) (fun hHeld => ?_)
  clear hK K
  refine takeAt (i := 35) (d := (some 50)) (v := (.bool true)) rfl (by kernel_rfl) (by kernel_rfl) (by kernel_rfl) (by kernel_rfl) (fun _ _ _ h => h) (Or.inl ⟨by kernel_rfl, ?_⟩) (by assumption) ?_
  · intro w7 hSw
    try dsimp only at hSw
    go_simp
  simp only [Act.put, List.setIfInBounds_toArray, List.set_cons_zero, List.set_cons_succ]
  refine takeAt (i := 36) (d := (some 51)) (v := (.bool true)) rfl (by kernel_rfl) (by kernel_rfl) (by kernel_rfl) (by kernel_rfl) (fun _ _ _ h => h) (Or.inl ⟨by kernel_rfl, ?_⟩) (by assumption) ?_
  · intro w7 hSw
    try dsimp only at hSw
    go_simp
  simp only [Act.put, List.setIfInBounds_toArray, List.set_cons_zero, List.set_cons_succ]
  refine takeAt (i := 37) (d := (some 6)) (v := (.bool true)) rfl (by kernel_rfl) (by kernel_rfl) (by kernel_rfl) (by kernel_rfl) (fun _ _ _ h => h) (Or.inl ⟨by kernel_rfl, ?_⟩) (by assumption) ?_
  · intro w7 hSw
    try dsimp only at hSw
    go_simp
  simp only [Act.put, List.setIfInBounds_toArray, List.set_cons_zero, List.set_cons_succ]
  refine wpAnyH_done (by kernel_rfl) ?_ _
  refine NoPanic.normal ?_
  go_wp2
  go_ret
  exact ⟨rfl, F.out.t⟩

end Go.Proofs.YtmpfgkpimjiecaaDoor
