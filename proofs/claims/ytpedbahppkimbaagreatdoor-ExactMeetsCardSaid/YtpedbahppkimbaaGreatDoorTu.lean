/- The reference's Turned. -/
import Derived.Test.YtpedbahppkimbaaGreatDoorRm
import Derived.Test.YtpedbahppkimbaaGreatDoorTri
import Derived.StillTailTactics
namespace Go.Proofs.YtpedbahppkimbaaGreatDoor
open Go Go.RowKit Dg

theorem takeAt {P : Program} {ops : Array Oper} {Q : Exit → Act → World → Prop} {md : Region.Mode} {S : World → Prop} {i : Nat} {oi : Oper} {d : Option Nat} {v : Value} {fuel : Nat} {listed : Array Bool} {a : Act} {w : World} (hi : ops[i]? = some oi) (hd : oi.dst = d)
    (hs : Region.noSelect ops = true) (hf : Region.free md ops listed i = true) (hr : (Region.ready md ops listed).contains i = true)
    (hQ : ∀ c a w, Q (.panic c) (a.put oi.dst v) w → Q (.panic c) a w) (hy : YieldsIf P ops S oi v a) (hS : S w)
    (h : wpAnyH P md ops Q S fuel (listed.setIfInBounds i true) (a.put d v) w) : wpAnyH P md ops Q S (fuel + 1) listed a w := by
  subst hd; exact wpAnyH_take hi hs hf hr hQ hy hS h

/-- A triangle with its corners in another order. -/
def trnI (a b c : P3) (k : Int) : T3 := if k = 0 then ⟨a, b, c⟩ else if k = 1 then ⟨b, c, a⟩ else if k = 2 then ⟨c, a, b⟩ else if k = 3 then ⟨b, a, c⟩ else if k = 4 then ⟨c, b, a⟩ else ⟨a, c, b⟩
theorem trn_prm (a b c : P3) (k : Int) : Prm a b c (trnI a b c k).a (trnI a b c k).b (trnI a b c k).c := by
  unfold trnI
  split
  · exact .abc
  split
  · exact .bca
  split
  · exact .cab
  split
  · exact .bac
  split
  · exact .cba
  · exact .acb

set_option maxHeartbeats 16000000 in
set_option maxRecDepth 100000 in
theorem rTurned (a b c : P3) (n : Int) (w : World) :
    Calls Tryz.prog 17 #[.agg #[.int .i64 a.x, .int .i64 a.y, .int .i64 a.z, .int .i64 b.x, .int .i64 b.y, .int .i64 b.z, .int .i64 c.x, .int .i64 c.y, .int .i64 c.z], .int .i64 n] w fun e w' => e = .returned (.agg #[.int .i64 (trnI a b c (n % 6)).a.x, .int .i64 (trnI a b c (n % 6)).a.y, .int .i64 (trnI a b c (n % 6)).a.z, .int .i64 (trnI a b c (n % 6)).b.x, .int .i64 (trnI a b c (n % 6)).b.y, .int .i64 (trnI a b c (n % 6)).b.z, .int .i64 (trnI a b c (n % 6)).c.x, .int .i64 (trnI a b c (n % 6)).c.y, .int .i64 (trnI a b c (n % 6)).c.z]) ∧ Tch [] w w' := by
  have K6 : n % 6 = 0 ∨ n % 6 = 1 ∨ n % 6 = 2 ∨ n % 6 = 3 ∨ n % 6 = 4 ∨ n % 6 = 5 := by omega
  have CM := fun w1 => rmod n 6 (by decide) w1
  obtain ⟨k, hk⟩ : ∃ k, k = n % 6 := ⟨_, rfl⟩
  rw [← hk] at K6 CM ⊢
  clear hk
  have C1 := Lib.hid CM
  clear CM
  have F : Hid (Fr w ((w.alloc (.cells #[.int .i64 a.x, .int .i64 a.y, .int .i64 a.z, .int .i64 b.x, .int .i64 b.y, .int .i64 b.z, .int .i64 c.x, .int .i64 c.y, .int .i64 c.z] 33)).alloc (.cells #[.int .i64 0, .int .i64 0, .int .i64 0, .int .i64 0, .int .i64 0, .int .i64 0, .int .i64 0, .int .i64 0, .int .i64 0] 33)) [(w.heap.size, .cells #[.int .i64 a.x, .int .i64 a.y, .int .i64 a.z, .int .i64 b.x, .int .i64 b.y, .int .i64 b.z, .int .i64 c.x, .int .i64 c.y, .int .i64 c.z] 33 (0, 0)), (w.heap.size + 1, .cells #[.int .i64 0, .int .i64 0, .int .i64 0, .int .i64 0, .int .i64 0, .int .i64 0, .int .i64 0, .int .i64 0, .int .i64 0] 33 (0, 0))]) := Lib.hid (((Fr.nil w).add (.cells #[.int .i64 a.x, .int .i64 a.y, .int .i64 a.z, .int .i64 b.x, .int .i64 b.y, .int .i64 b.z, .int .i64 c.x, .int .i64 c.y, .int .i64 c.z] 33) (w.heap.size) rfl).add (.cells #[.int .i64 0, .int .i64 0, .int .i64 0, .int .i64 0, .int .i64 0, .int .i64 0, .int .i64 0, .int .i64 0, .int .i64 0] 33) (w.heap.size + 1) (by simp))
  rcases K6 with rfl | rfl | rfl | rfl | rfl | rfl
  · have HV : Hid (trnI a b c 0 = ⟨a, b, c⟩) := Lib.hid (by unfold trnI; simp)
    rw [HV.out]
    clear HV
    dsimp only
    go_enter Tryz.func17, Tryz.ntmps17
    go_wp2_with fail
    refine (C1.out _).mono ?_
    rintro e w1 ⟨rfl, hT⟩
    have F := Lib.hid (F.out.keep hT)
    clear hT
    have A1 : IntKind.i64.wrap 1 = 1 := by decide
    have A2 : IntKind.i64.wrap 2 = 2 := by decide
    have B0 : Int.tmod 0 3 = 0 := by decide
    have B1 : Int.tmod 1 3 = 1 := by decide
    have B2 : Int.tmod 2 3 = 2 := by decide
    obtain ⟨⟨a0, a1, a2⟩, ⟨a3, a4, a5⟩, a6, a7, a8⟩ := F.out.nine 0 rfl
    have SF := Lib.hid (fun (w4 : World) (h : Fr w w4 [(w.heap.size, .cells #[.int .i64 a.x, .int .i64 a.y, .int .i64 a.z, .int .i64 b.x, .int .i64 b.y, .int .i64 b.z, .int .i64 c.x, .int .i64 c.y, .int .i64 c.z] 33 (0, 0)), (w.heap.size + 1, .cells #[.int .i64 0, .int .i64 0, .int .i64 0, .int .i64 0, .int .i64 0, .int .i64 0, .int .i64 0, .int .i64 0, .int .i64 0] 33 (0, 0))]) => h.nine 0 rfl)
    go_upto_region 2 with (fail)
    refine wp_region_noPanic ?_
    refine wp_region_held_drew (S := (fun w4 => (w4.cell? ⟨w.heap.size, 0, none⟩ = some (.int .i64 a.x) ∧ w4.cell? ⟨w.heap.size, 1, none⟩ = some (.int .i64 a.y) ∧ w4.cell? ⟨w.heap.size, 2, none⟩ = some (.int .i64 a.z)) ∧ (w4.cell? ⟨w.heap.size, 3, none⟩ = some (.int .i64 b.x) ∧ w4.cell? ⟨w.heap.size, 4, none⟩ = some (.int .i64 b.y) ∧ w4.cell? ⟨w.heap.size, 5, none⟩ = some (.int .i64 b.z)) ∧ w4.cell? ⟨w.heap.size, 6, none⟩ = some (.int .i64 c.x) ∧ w4.cell? ⟨w.heap.size, 7, none⟩ = some (.int .i64 c.y) ∧ w4.cell? ⟨w.heap.size, 8, none⟩ = some (.int .i64 c.z))) (by kernel_rfl) (SF.out _ F.out.drew) (fun hHeld => ?_)
    refine takeAt (i := 0) (d := (some 9)) (v := (.int .i64 0)) rfl (by kernel_rfl) (by kernel_rfl) (by kernel_rfl) (by kernel_rfl) (fun _ _ _ h => h) (Or.inl ⟨by kernel_rfl, ?_⟩) (by assumption) ?_
    · intro w7 hSw
      try dsimp only at hSw
      go_simp
    simp only [Act.put, List.setIfInBounds_toArray, List.set_cons_zero, List.set_cons_succ]
    refine takeAt (i := 1) (d := (some 10)) (v := (.int .i64 0)) rfl (by kernel_rfl) (by kernel_rfl) (by kernel_rfl) (by kernel_rfl) (fun _ _ _ h => h) (Or.inl ⟨by kernel_rfl, ?_⟩) (by assumption) ?_
    · intro w7 hSw
      try dsimp only at hSw
      go_simp
    simp only [Act.put, List.setIfInBounds_toArray, List.set_cons_zero, List.set_cons_succ]
    refine takeAt (i := 2) (d := (some 11)) (v := (.pointer (some ⟨w.heap.size, 0, none⟩))) rfl (by kernel_rfl) (by kernel_rfl) (by kernel_rfl) (by kernel_rfl) (fun _ _ _ h => h) (Or.inl ⟨by kernel_rfl, ?_⟩) (by assumption) ?_
    · intro w7 hSw
      try dsimp only at hSw
      go_simp
    simp only [Act.put, List.setIfInBounds_toArray, List.set_cons_zero, List.set_cons_succ]
    refine takeAt (i := 3) (d := (some 12)) (v := (.agg #[.int .i64 a.x, .int .i64 a.y, .int .i64 a.z])) rfl (by kernel_rfl) (by kernel_rfl) (by kernel_rfl) (by kernel_rfl) (fun _ _ _ h => h) (Or.inl ⟨by kernel_rfl, ?_⟩) (by assumption) ?_
    · intro w7 hSw
      try dsimp only at hSw
      go_simp
    simp only [Act.put, List.setIfInBounds_toArray, List.set_cons_zero, List.set_cons_succ]
    refine takeAt (i := 4) (d := (some 13)) (v := (.int .i64 0)) rfl (by kernel_rfl) (by kernel_rfl) (by kernel_rfl) (by kernel_rfl) (fun _ _ _ h => h) (Or.inl ⟨by kernel_rfl, ?_⟩) (by assumption) ?_
    · intro w7 hSw
      try dsimp only at hSw
      go_simp
    simp only [Act.put, List.setIfInBounds_toArray, List.set_cons_zero, List.set_cons_succ]
    refine takeAt (i := 5) (d := (some 14)) (v := (.int .i64 1)) rfl (by kernel_rfl) (by kernel_rfl) (by kernel_rfl) (by kernel_rfl) (fun _ _ _ h => h) (Or.inl ⟨by kernel_rfl, ?_⟩) (by assumption) ?_
    · intro w7 hSw
      try dsimp only at hSw
      go_simp
    simp only [Act.put, List.setIfInBounds_toArray, List.set_cons_zero, List.set_cons_succ]
    refine takeAt (i := 6) (d := (some 15)) (v := (.int .i64 1)) rfl (by kernel_rfl) (by kernel_rfl) (by kernel_rfl) (by kernel_rfl) (fun _ _ _ h => h) (Or.inl ⟨by kernel_rfl, ?_⟩) (by assumption) ?_
    · intro w7 hSw
      try dsimp only at hSw
      go_simp
    simp only [Act.put, List.setIfInBounds_toArray, List.set_cons_zero, List.set_cons_succ]
    refine takeAt (i := 7) (d := (some 16)) (v := (.pointer (some ⟨w.heap.size, 3, none⟩))) rfl (by kernel_rfl) (by kernel_rfl) (by kernel_rfl) (by kernel_rfl) (fun _ _ _ h => h) (Or.inl ⟨by kernel_rfl, ?_⟩) (by assumption) ?_
    · intro w7 hSw
      try dsimp only at hSw
      go_simp
    simp only [Act.put, List.setIfInBounds_toArray, List.set_cons_zero, List.set_cons_succ]
    refine takeAt (i := 8) (d := (some 17)) (v := (.agg #[.int .i64 b.x, .int .i64 b.y, .int .i64 b.z])) rfl (by kernel_rfl) (by kernel_rfl) (by kernel_rfl) (by kernel_rfl) (fun _ _ _ h => h) (Or.inl ⟨by kernel_rfl, ?_⟩) (by assumption) ?_
    · intro w7 hSw
      try dsimp only at hSw
      go_simp
    simp only [Act.put, List.setIfInBounds_toArray, List.set_cons_zero, List.set_cons_succ]
    refine takeAt (i := 9) (d := (some 18)) (v := (.int .i64 0)) rfl (by kernel_rfl) (by kernel_rfl) (by kernel_rfl) (by kernel_rfl) (fun _ _ _ h => h) (Or.inl ⟨by kernel_rfl, ?_⟩) (by assumption) ?_
    · intro w7 hSw
      try dsimp only at hSw
      go_simp
    simp only [Act.put, List.setIfInBounds_toArray, List.set_cons_zero, List.set_cons_succ]
    refine takeAt (i := 10) (d := (some 19)) (v := (.int .i64 2)) rfl (by kernel_rfl) (by kernel_rfl) (by kernel_rfl) (by kernel_rfl) (fun _ _ _ h => h) (Or.inl ⟨by kernel_rfl, ?_⟩) (by assumption) ?_
    · intro w7 hSw
      try dsimp only at hSw
      go_simp
    simp only [Act.put, List.setIfInBounds_toArray, List.set_cons_zero, List.set_cons_succ]
    refine takeAt (i := 11) (d := (some 20)) (v := (.int .i64 2)) rfl (by kernel_rfl) (by kernel_rfl) (by kernel_rfl) (by kernel_rfl) (fun _ _ _ h => h) (Or.inl ⟨by kernel_rfl, ?_⟩) (by assumption) ?_
    · intro w7 hSw
      try dsimp only at hSw
      go_simp
    simp only [Act.put, List.setIfInBounds_toArray, List.set_cons_zero, List.set_cons_succ]
    refine takeAt (i := 12) (d := (some 21)) (v := (.pointer (some ⟨w.heap.size, 6, none⟩))) rfl (by kernel_rfl) (by kernel_rfl) (by kernel_rfl) (by kernel_rfl) (fun _ _ _ h => h) (Or.inl ⟨by kernel_rfl, ?_⟩) (by assumption) ?_
    · intro w7 hSw
      try dsimp only at hSw
      go_simp
    simp only [Act.put, List.setIfInBounds_toArray, List.set_cons_zero, List.set_cons_succ]
    refine takeAt (i := 13) (d := (some 22)) (v := (.agg #[.int .i64 c.x, .int .i64 c.y, .int .i64 c.z])) rfl (by kernel_rfl) (by kernel_rfl) (by kernel_rfl) (by kernel_rfl) (fun _ _ _ h => h) (Or.inl ⟨by kernel_rfl, ?_⟩) (by assumption) ?_
    · intro w7 hSw
      try dsimp only at hSw
      go_simp
    simp only [Act.put, List.setIfInBounds_toArray, List.set_cons_zero, List.set_cons_succ]
    refine takeAt (i := 14) (d := (some 23)) (v := (.agg #[.int .i64 a.x, .int .i64 a.y, .int .i64 a.z, .int .i64 b.x, .int .i64 b.y, .int .i64 b.z, .int .i64 c.x, .int .i64 c.y, .int .i64 c.z])) rfl (by kernel_rfl) (by kernel_rfl) (by kernel_rfl) (by kernel_rfl) (fun _ _ _ h => h) (Or.inl ⟨by kernel_rfl, ?_⟩) (by assumption) ?_
    · intro w7 hSw
      try dsimp only at hSw
      go_simp
    simp only [Act.put, List.setIfInBounds_toArray, List.set_cons_zero, List.set_cons_succ]
    refine wpAnyH_ready (rs := [15]) (by kernel_rfl) (by simp) ?_
    refine AllReadyH.cons rfl (fun K hK => ?_) AllReadyH.nil
    go_simp
    refine hK.out _ _ (SF.out _ (F.out.beside _).drew) (fun hHeld => ?_)
    clear hK K
    have FB := Lib.hid (F.out.boxedAt (.cells #[.int .i64 0, .int .i64 0, .int .i64 0, .int .i64 0, .int .i64 0, .int .i64 0, .int .i64 0, .int .i64 0, .int .i64 0] 33) w1.heap.size rfl (Tch.refl [] _).drew)
    obtain ⟨V, hV⟩ : ∃ V, V = (w1.alloc (.cells #[.int .i64 0, .int .i64 0, .int .i64 0, .int .i64 0, .int .i64 0, .int .i64 0, .int .i64 0, .int .i64 0, .int .i64 0] 33)).drew := ⟨_, rfl⟩
    rw [← hV] at FB ⊢ hHeld
    clear hV
    obtain ⟨⟨y0, y1, y2, y3, y4, y5, y6, y7, y8⟩, ⟨g0, g1, g2, g3, g4, g5, g6, g7, g8⟩⟩ := FB.out.nine
    refine wpAnyH_ready (rs := [16]) (by kernel_rfl) (by simp) ?_
    refine AllReadyH.cons rfl (fun K hK => ?_) AllReadyH.nil
    go_simp
    refine hK.out _ _ (SF.out _ (FB.out.put9 (.int .i64 a.x) (.int .i64 a.y) (.int .i64 a.z) (.int .i64 b.x) (.int .i64 b.y) (.int .i64 b.z) (.int .i64 c.x) (.int .i64 c.y) (.int .i64 c.z)).f) (fun hHeld2 => ?_)
    clear hK K hHeld2
    refine wpAnyH_done (by kernel_rfl) ?_ _
    refine NoPanic.normal ?_
    have F := Lib.hid (FB.out.put9 (.int .i64 a.x) (.int .i64 a.y) (.int .i64 a.z) (.int .i64 b.x) (.int .i64 b.y) (.int .i64 b.z) (.int .i64 c.x) (.int .i64 c.y) (.int .i64 c.z)).all
    clear FB y0 y1 y2 y3 y4 y5 y6 y7 y8 g0 g1 g2 g3 g4 g5 g6 g7 g8 hHeld a0 a1 a2 a3 a4 a5 a6 a7 a8 A1 A2 B0 B1 B2
    obtain ⟨V2, hV2⟩ : ∃ V2, V2 = (((((((((V.setCell ⟨w1.heap.size, 0, none⟩ (.int .i64 a.x)).setCell ⟨w1.heap.size, 1, none⟩ (.int .i64 a.y)).setCell ⟨w1.heap.size, 2, none⟩ (.int .i64 a.z)).setCell ⟨w1.heap.size, 3, none⟩ (.int .i64 b.x)).setCell ⟨w1.heap.size, 4, none⟩ (.int .i64 b.y)).setCell ⟨w1.heap.size, 5, none⟩ (.int .i64 b.z)).setCell ⟨w1.heap.size, 6, none⟩ (.int .i64 c.x)).setCell ⟨w1.heap.size, 7, none⟩ (.int .i64 c.y)).setCell ⟨w1.heap.size, 8, none⟩ (.int .i64 c.z)) := ⟨_, rfl⟩
    rw [← hV2] at F ⊢
    clear hV2
    obtain ⟨⟨x0, x1, x2⟩, ⟨x3, x4, x5⟩, x6, x7, x8⟩ := F.out.nine 2 rfl
    obtain ⟨⟨r0, r1, r2⟩, ⟨r3, r4, r5⟩, r6, r7, r8⟩ := F.out.nine 1 rfl
    obtain ⟨f0, f1, f2, f3, f4, f5, f6, f7, f8⟩ := F.out.fro9 1 rfl
    go_wp2
    refine bodyPost_ret (v := (.agg #[.int .i64 a.x, .int .i64 a.y, .int .i64 a.z, .int .i64 b.x, .int .i64 b.y, .int .i64 b.z, .int .i64 c.x, .int .i64 c.y, .int .i64 c.z])) (by simp [results, Tryz.results17, go_sem, r0, r1, r2, r3, r4, r5, r6, r7, r8]) rfl ⟨rfl, ?_⟩
    exact F.out.fin9 1 rfl _ _ _ _ _ _ _ _ _
  · have HV : Hid (trnI a b c 1 = ⟨b, c, a⟩) := Lib.hid (by unfold trnI; simp)
    rw [HV.out]
    clear HV
    dsimp only
    go_enter Tryz.func17, Tryz.ntmps17
    go_wp2_with fail
    refine (C1.out _).mono ?_
    rintro e w1 ⟨rfl, hT⟩
    have F := Lib.hid (F.out.keep hT)
    clear hT
    have A1 : IntKind.i64.wrap 2 = 2 := by decide
    have A2 : IntKind.i64.wrap 3 = 3 := by decide
    have B0 : Int.tmod 1 3 = 1 := by decide
    have B1 : Int.tmod 2 3 = 2 := by decide
    have B2 : Int.tmod 3 3 = 0 := by decide
    obtain ⟨⟨a0, a1, a2⟩, ⟨a3, a4, a5⟩, a6, a7, a8⟩ := F.out.nine 0 rfl
    have SF := Lib.hid (fun (w4 : World) (h : Fr w w4 [(w.heap.size, .cells #[.int .i64 a.x, .int .i64 a.y, .int .i64 a.z, .int .i64 b.x, .int .i64 b.y, .int .i64 b.z, .int .i64 c.x, .int .i64 c.y, .int .i64 c.z] 33 (0, 0)), (w.heap.size + 1, .cells #[.int .i64 0, .int .i64 0, .int .i64 0, .int .i64 0, .int .i64 0, .int .i64 0, .int .i64 0, .int .i64 0, .int .i64 0] 33 (0, 0))]) => h.nine 0 rfl)
    go_upto_region 2 with (fail)
    refine wp_region_noPanic ?_
    refine wp_region_held_drew (S := (fun w4 => (w4.cell? ⟨w.heap.size, 0, none⟩ = some (.int .i64 a.x) ∧ w4.cell? ⟨w.heap.size, 1, none⟩ = some (.int .i64 a.y) ∧ w4.cell? ⟨w.heap.size, 2, none⟩ = some (.int .i64 a.z)) ∧ (w4.cell? ⟨w.heap.size, 3, none⟩ = some (.int .i64 b.x) ∧ w4.cell? ⟨w.heap.size, 4, none⟩ = some (.int .i64 b.y) ∧ w4.cell? ⟨w.heap.size, 5, none⟩ = some (.int .i64 b.z)) ∧ w4.cell? ⟨w.heap.size, 6, none⟩ = some (.int .i64 c.x) ∧ w4.cell? ⟨w.heap.size, 7, none⟩ = some (.int .i64 c.y) ∧ w4.cell? ⟨w.heap.size, 8, none⟩ = some (.int .i64 c.z))) (by kernel_rfl) (SF.out _ F.out.drew) (fun hHeld => ?_)
    refine takeAt (i := 0) (d := (some 9)) (v := (.int .i64 1)) rfl (by kernel_rfl) (by kernel_rfl) (by kernel_rfl) (by kernel_rfl) (fun _ _ _ h => h) (Or.inl ⟨by kernel_rfl, ?_⟩) (by assumption) ?_
    · intro w7 hSw
      try dsimp only at hSw
      go_simp
    simp only [Act.put, List.setIfInBounds_toArray, List.set_cons_zero, List.set_cons_succ]
    refine takeAt (i := 1) (d := (some 10)) (v := (.int .i64 1)) rfl (by kernel_rfl) (by kernel_rfl) (by kernel_rfl) (by kernel_rfl) (fun _ _ _ h => h) (Or.inl ⟨by kernel_rfl, ?_⟩) (by assumption) ?_
    · intro w7 hSw
      try dsimp only at hSw
      go_simp
    simp only [Act.put, List.setIfInBounds_toArray, List.set_cons_zero, List.set_cons_succ]
    refine takeAt (i := 2) (d := (some 11)) (v := (.pointer (some ⟨w.heap.size, 3, none⟩))) rfl (by kernel_rfl) (by kernel_rfl) (by kernel_rfl) (by kernel_rfl) (fun _ _ _ h => h) (Or.inl ⟨by kernel_rfl, ?_⟩) (by assumption) ?_
    · intro w7 hSw
      try dsimp only at hSw
      go_simp
    simp only [Act.put, List.setIfInBounds_toArray, List.set_cons_zero, List.set_cons_succ]
    refine takeAt (i := 3) (d := (some 12)) (v := (.agg #[.int .i64 b.x, .int .i64 b.y, .int .i64 b.z])) rfl (by kernel_rfl) (by kernel_rfl) (by kernel_rfl) (by kernel_rfl) (fun _ _ _ h => h) (Or.inl ⟨by kernel_rfl, ?_⟩) (by assumption) ?_
    · intro w7 hSw
      try dsimp only at hSw
      go_simp
    simp only [Act.put, List.setIfInBounds_toArray, List.set_cons_zero, List.set_cons_succ]
    refine takeAt (i := 4) (d := (some 13)) (v := (.int .i64 1)) rfl (by kernel_rfl) (by kernel_rfl) (by kernel_rfl) (by kernel_rfl) (fun _ _ _ h => h) (Or.inl ⟨by kernel_rfl, ?_⟩) (by assumption) ?_
    · intro w7 hSw
      try dsimp only at hSw
      go_simp
    simp only [Act.put, List.setIfInBounds_toArray, List.set_cons_zero, List.set_cons_succ]
    refine takeAt (i := 5) (d := (some 14)) (v := (.int .i64 2)) rfl (by kernel_rfl) (by kernel_rfl) (by kernel_rfl) (by kernel_rfl) (fun _ _ _ h => h) (Or.inl ⟨by kernel_rfl, ?_⟩) (by assumption) ?_
    · intro w7 hSw
      try dsimp only at hSw
      go_simp
    simp only [Act.put, List.setIfInBounds_toArray, List.set_cons_zero, List.set_cons_succ]
    refine takeAt (i := 6) (d := (some 15)) (v := (.int .i64 2)) rfl (by kernel_rfl) (by kernel_rfl) (by kernel_rfl) (by kernel_rfl) (fun _ _ _ h => h) (Or.inl ⟨by kernel_rfl, ?_⟩) (by assumption) ?_
    · intro w7 hSw
      try dsimp only at hSw
      go_simp
    simp only [Act.put, List.setIfInBounds_toArray, List.set_cons_zero, List.set_cons_succ]
    refine takeAt (i := 7) (d := (some 16)) (v := (.pointer (some ⟨w.heap.size, 6, none⟩))) rfl (by kernel_rfl) (by kernel_rfl) (by kernel_rfl) (by kernel_rfl) (fun _ _ _ h => h) (Or.inl ⟨by kernel_rfl, ?_⟩) (by assumption) ?_
    · intro w7 hSw
      try dsimp only at hSw
      go_simp
    simp only [Act.put, List.setIfInBounds_toArray, List.set_cons_zero, List.set_cons_succ]
    refine takeAt (i := 8) (d := (some 17)) (v := (.agg #[.int .i64 c.x, .int .i64 c.y, .int .i64 c.z])) rfl (by kernel_rfl) (by kernel_rfl) (by kernel_rfl) (by kernel_rfl) (fun _ _ _ h => h) (Or.inl ⟨by kernel_rfl, ?_⟩) (by assumption) ?_
    · intro w7 hSw
      try dsimp only at hSw
      go_simp
    simp only [Act.put, List.setIfInBounds_toArray, List.set_cons_zero, List.set_cons_succ]
    refine takeAt (i := 9) (d := (some 18)) (v := (.int .i64 1)) rfl (by kernel_rfl) (by kernel_rfl) (by kernel_rfl) (by kernel_rfl) (fun _ _ _ h => h) (Or.inl ⟨by kernel_rfl, ?_⟩) (by assumption) ?_
    · intro w7 hSw
      try dsimp only at hSw
      go_simp
    simp only [Act.put, List.setIfInBounds_toArray, List.set_cons_zero, List.set_cons_succ]
    refine takeAt (i := 10) (d := (some 19)) (v := (.int .i64 3)) rfl (by kernel_rfl) (by kernel_rfl) (by kernel_rfl) (by kernel_rfl) (fun _ _ _ h => h) (Or.inl ⟨by kernel_rfl, ?_⟩) (by assumption) ?_
    · intro w7 hSw
      try dsimp only at hSw
      go_simp
    simp only [Act.put, List.setIfInBounds_toArray, List.set_cons_zero, List.set_cons_succ]
    refine takeAt (i := 11) (d := (some 20)) (v := (.int .i64 0)) rfl (by kernel_rfl) (by kernel_rfl) (by kernel_rfl) (by kernel_rfl) (fun _ _ _ h => h) (Or.inl ⟨by kernel_rfl, ?_⟩) (by assumption) ?_
    · intro w7 hSw
      try dsimp only at hSw
      go_simp
    simp only [Act.put, List.setIfInBounds_toArray, List.set_cons_zero, List.set_cons_succ]
    refine takeAt (i := 12) (d := (some 21)) (v := (.pointer (some ⟨w.heap.size, 0, none⟩))) rfl (by kernel_rfl) (by kernel_rfl) (by kernel_rfl) (by kernel_rfl) (fun _ _ _ h => h) (Or.inl ⟨by kernel_rfl, ?_⟩) (by assumption) ?_
    · intro w7 hSw
      try dsimp only at hSw
      go_simp
    simp only [Act.put, List.setIfInBounds_toArray, List.set_cons_zero, List.set_cons_succ]
    refine takeAt (i := 13) (d := (some 22)) (v := (.agg #[.int .i64 a.x, .int .i64 a.y, .int .i64 a.z])) rfl (by kernel_rfl) (by kernel_rfl) (by kernel_rfl) (by kernel_rfl) (fun _ _ _ h => h) (Or.inl ⟨by kernel_rfl, ?_⟩) (by assumption) ?_
    · intro w7 hSw
      try dsimp only at hSw
      go_simp
    simp only [Act.put, List.setIfInBounds_toArray, List.set_cons_zero, List.set_cons_succ]
    refine takeAt (i := 14) (d := (some 23)) (v := (.agg #[.int .i64 b.x, .int .i64 b.y, .int .i64 b.z, .int .i64 c.x, .int .i64 c.y, .int .i64 c.z, .int .i64 a.x, .int .i64 a.y, .int .i64 a.z])) rfl (by kernel_rfl) (by kernel_rfl) (by kernel_rfl) (by kernel_rfl) (fun _ _ _ h => h) (Or.inl ⟨by kernel_rfl, ?_⟩) (by assumption) ?_
    · intro w7 hSw
      try dsimp only at hSw
      go_simp
    simp only [Act.put, List.setIfInBounds_toArray, List.set_cons_zero, List.set_cons_succ]
    refine wpAnyH_ready (rs := [15]) (by kernel_rfl) (by simp) ?_
    refine AllReadyH.cons rfl (fun K hK => ?_) AllReadyH.nil
    go_simp
    refine hK.out _ _ (SF.out _ (F.out.beside _).drew) (fun hHeld => ?_)
    clear hK K
    have FB := Lib.hid (F.out.boxedAt (.cells #[.int .i64 0, .int .i64 0, .int .i64 0, .int .i64 0, .int .i64 0, .int .i64 0, .int .i64 0, .int .i64 0, .int .i64 0] 33) w1.heap.size rfl (Tch.refl [] _).drew)
    obtain ⟨V, hV⟩ : ∃ V, V = (w1.alloc (.cells #[.int .i64 0, .int .i64 0, .int .i64 0, .int .i64 0, .int .i64 0, .int .i64 0, .int .i64 0, .int .i64 0, .int .i64 0] 33)).drew := ⟨_, rfl⟩
    rw [← hV] at FB ⊢ hHeld
    clear hV
    obtain ⟨⟨y0, y1, y2, y3, y4, y5, y6, y7, y8⟩, ⟨g0, g1, g2, g3, g4, g5, g6, g7, g8⟩⟩ := FB.out.nine
    refine wpAnyH_ready (rs := [16]) (by kernel_rfl) (by simp) ?_
    refine AllReadyH.cons rfl (fun K hK => ?_) AllReadyH.nil
    go_simp
    refine hK.out _ _ (SF.out _ (FB.out.put9 (.int .i64 b.x) (.int .i64 b.y) (.int .i64 b.z) (.int .i64 c.x) (.int .i64 c.y) (.int .i64 c.z) (.int .i64 a.x) (.int .i64 a.y) (.int .i64 a.z)).f) (fun hHeld2 => ?_)
    clear hK K hHeld2
    refine wpAnyH_done (by kernel_rfl) ?_ _
    refine NoPanic.normal ?_
    have F := Lib.hid (FB.out.put9 (.int .i64 b.x) (.int .i64 b.y) (.int .i64 b.z) (.int .i64 c.x) (.int .i64 c.y) (.int .i64 c.z) (.int .i64 a.x) (.int .i64 a.y) (.int .i64 a.z)).all
    clear FB y0 y1 y2 y3 y4 y5 y6 y7 y8 g0 g1 g2 g3 g4 g5 g6 g7 g8 hHeld a0 a1 a2 a3 a4 a5 a6 a7 a8 A1 A2 B0 B1 B2
    obtain ⟨V2, hV2⟩ : ∃ V2, V2 = (((((((((V.setCell ⟨w1.heap.size, 0, none⟩ (.int .i64 b.x)).setCell ⟨w1.heap.size, 1, none⟩ (.int .i64 b.y)).setCell ⟨w1.heap.size, 2, none⟩ (.int .i64 b.z)).setCell ⟨w1.heap.size, 3, none⟩ (.int .i64 c.x)).setCell ⟨w1.heap.size, 4, none⟩ (.int .i64 c.y)).setCell ⟨w1.heap.size, 5, none⟩ (.int .i64 c.z)).setCell ⟨w1.heap.size, 6, none⟩ (.int .i64 a.x)).setCell ⟨w1.heap.size, 7, none⟩ (.int .i64 a.y)).setCell ⟨w1.heap.size, 8, none⟩ (.int .i64 a.z)) := ⟨_, rfl⟩
    rw [← hV2] at F ⊢
    clear hV2
    obtain ⟨⟨x0, x1, x2⟩, ⟨x3, x4, x5⟩, x6, x7, x8⟩ := F.out.nine 2 rfl
    obtain ⟨⟨r0, r1, r2⟩, ⟨r3, r4, r5⟩, r6, r7, r8⟩ := F.out.nine 1 rfl
    obtain ⟨f0, f1, f2, f3, f4, f5, f6, f7, f8⟩ := F.out.fro9 1 rfl
    go_wp2
    refine bodyPost_ret (v := (.agg #[.int .i64 b.x, .int .i64 b.y, .int .i64 b.z, .int .i64 c.x, .int .i64 c.y, .int .i64 c.z, .int .i64 a.x, .int .i64 a.y, .int .i64 a.z])) (by simp [results, Tryz.results17, go_sem, r0, r1, r2, r3, r4, r5, r6, r7, r8]) rfl ⟨rfl, ?_⟩
    exact F.out.fin9 1 rfl _ _ _ _ _ _ _ _ _
  · have HV : Hid (trnI a b c 2 = ⟨c, a, b⟩) := Lib.hid (by unfold trnI; simp)
    rw [HV.out]
    clear HV
    dsimp only
    go_enter Tryz.func17, Tryz.ntmps17
    go_wp2_with fail
    refine (C1.out _).mono ?_
    rintro e w1 ⟨rfl, hT⟩
    have F := Lib.hid (F.out.keep hT)
    clear hT
    have A1 : IntKind.i64.wrap 3 = 3 := by decide
    have A2 : IntKind.i64.wrap 4 = 4 := by decide
    have B0 : Int.tmod 2 3 = 2 := by decide
    have B1 : Int.tmod 3 3 = 0 := by decide
    have B2 : Int.tmod 4 3 = 1 := by decide
    obtain ⟨⟨a0, a1, a2⟩, ⟨a3, a4, a5⟩, a6, a7, a8⟩ := F.out.nine 0 rfl
    have SF := Lib.hid (fun (w4 : World) (h : Fr w w4 [(w.heap.size, .cells #[.int .i64 a.x, .int .i64 a.y, .int .i64 a.z, .int .i64 b.x, .int .i64 b.y, .int .i64 b.z, .int .i64 c.x, .int .i64 c.y, .int .i64 c.z] 33 (0, 0)), (w.heap.size + 1, .cells #[.int .i64 0, .int .i64 0, .int .i64 0, .int .i64 0, .int .i64 0, .int .i64 0, .int .i64 0, .int .i64 0, .int .i64 0] 33 (0, 0))]) => h.nine 0 rfl)
    go_upto_region 2 with (fail)
    refine wp_region_noPanic ?_
    refine wp_region_held_drew (S := (fun w4 => (w4.cell? ⟨w.heap.size, 0, none⟩ = some (.int .i64 a.x) ∧ w4.cell? ⟨w.heap.size, 1, none⟩ = some (.int .i64 a.y) ∧ w4.cell? ⟨w.heap.size, 2, none⟩ = some (.int .i64 a.z)) ∧ (w4.cell? ⟨w.heap.size, 3, none⟩ = some (.int .i64 b.x) ∧ w4.cell? ⟨w.heap.size, 4, none⟩ = some (.int .i64 b.y) ∧ w4.cell? ⟨w.heap.size, 5, none⟩ = some (.int .i64 b.z)) ∧ w4.cell? ⟨w.heap.size, 6, none⟩ = some (.int .i64 c.x) ∧ w4.cell? ⟨w.heap.size, 7, none⟩ = some (.int .i64 c.y) ∧ w4.cell? ⟨w.heap.size, 8, none⟩ = some (.int .i64 c.z))) (by kernel_rfl) (SF.out _ F.out.drew) (fun hHeld => ?_)
    refine takeAt (i := 0) (d := (some 9)) (v := (.int .i64 2)) rfl (by kernel_rfl) (by kernel_rfl) (by kernel_rfl) (by kernel_rfl) (fun _ _ _ h => h) (Or.inl ⟨by kernel_rfl, ?_⟩) (by assumption) ?_
    · intro w7 hSw
      try dsimp only at hSw
      go_simp
    simp only [Act.put, List.setIfInBounds_toArray, List.set_cons_zero, List.set_cons_succ]
    refine takeAt (i := 1) (d := (some 10)) (v := (.int .i64 2)) rfl (by kernel_rfl) (by kernel_rfl) (by kernel_rfl) (by kernel_rfl) (fun _ _ _ h => h) (Or.inl ⟨by kernel_rfl, ?_⟩) (by assumption) ?_
    · intro w7 hSw
      try dsimp only at hSw
      go_simp
    simp only [Act.put, List.setIfInBounds_toArray, List.set_cons_zero, List.set_cons_succ]
    refine takeAt (i := 2) (d := (some 11)) (v := (.pointer (some ⟨w.heap.size, 6, none⟩))) rfl (by kernel_rfl) (by kernel_rfl) (by kernel_rfl) (by kernel_rfl) (fun _ _ _ h => h) (Or.inl ⟨by kernel_rfl, ?_⟩) (by assumption) ?_
    · intro w7 hSw
      try dsimp only at hSw
      go_simp
    simp only [Act.put, List.setIfInBounds_toArray, List.set_cons_zero, List.set_cons_succ]
    refine takeAt (i := 3) (d := (some 12)) (v := (.agg #[.int .i64 c.x, .int .i64 c.y, .int .i64 c.z])) rfl (by kernel_rfl) (by kernel_rfl) (by kernel_rfl) (by kernel_rfl) (fun _ _ _ h => h) (Or.inl ⟨by kernel_rfl, ?_⟩) (by assumption) ?_
    · intro w7 hSw
      try dsimp only at hSw
      go_simp
    simp only [Act.put, List.setIfInBounds_toArray, List.set_cons_zero, List.set_cons_succ]
    refine takeAt (i := 4) (d := (some 13)) (v := (.int .i64 2)) rfl (by kernel_rfl) (by kernel_rfl) (by kernel_rfl) (by kernel_rfl) (fun _ _ _ h => h) (Or.inl ⟨by kernel_rfl, ?_⟩) (by assumption) ?_
    · intro w7 hSw
      try dsimp only at hSw
      go_simp
    simp only [Act.put, List.setIfInBounds_toArray, List.set_cons_zero, List.set_cons_succ]
    refine takeAt (i := 5) (d := (some 14)) (v := (.int .i64 3)) rfl (by kernel_rfl) (by kernel_rfl) (by kernel_rfl) (by kernel_rfl) (fun _ _ _ h => h) (Or.inl ⟨by kernel_rfl, ?_⟩) (by assumption) ?_
    · intro w7 hSw
      try dsimp only at hSw
      go_simp
    simp only [Act.put, List.setIfInBounds_toArray, List.set_cons_zero, List.set_cons_succ]
    refine takeAt (i := 6) (d := (some 15)) (v := (.int .i64 0)) rfl (by kernel_rfl) (by kernel_rfl) (by kernel_rfl) (by kernel_rfl) (fun _ _ _ h => h) (Or.inl ⟨by kernel_rfl, ?_⟩) (by assumption) ?_
    · intro w7 hSw
      try dsimp only at hSw
      go_simp
    simp only [Act.put, List.setIfInBounds_toArray, List.set_cons_zero, List.set_cons_succ]
    refine takeAt (i := 7) (d := (some 16)) (v := (.pointer (some ⟨w.heap.size, 0, none⟩))) rfl (by kernel_rfl) (by kernel_rfl) (by kernel_rfl) (by kernel_rfl) (fun _ _ _ h => h) (Or.inl ⟨by kernel_rfl, ?_⟩) (by assumption) ?_
    · intro w7 hSw
      try dsimp only at hSw
      go_simp
    simp only [Act.put, List.setIfInBounds_toArray, List.set_cons_zero, List.set_cons_succ]
    refine takeAt (i := 8) (d := (some 17)) (v := (.agg #[.int .i64 a.x, .int .i64 a.y, .int .i64 a.z])) rfl (by kernel_rfl) (by kernel_rfl) (by kernel_rfl) (by kernel_rfl) (fun _ _ _ h => h) (Or.inl ⟨by kernel_rfl, ?_⟩) (by assumption) ?_
    · intro w7 hSw
      try dsimp only at hSw
      go_simp
    simp only [Act.put, List.setIfInBounds_toArray, List.set_cons_zero, List.set_cons_succ]
    refine takeAt (i := 9) (d := (some 18)) (v := (.int .i64 2)) rfl (by kernel_rfl) (by kernel_rfl) (by kernel_rfl) (by kernel_rfl) (fun _ _ _ h => h) (Or.inl ⟨by kernel_rfl, ?_⟩) (by assumption) ?_
    · intro w7 hSw
      try dsimp only at hSw
      go_simp
    simp only [Act.put, List.setIfInBounds_toArray, List.set_cons_zero, List.set_cons_succ]
    refine takeAt (i := 10) (d := (some 19)) (v := (.int .i64 4)) rfl (by kernel_rfl) (by kernel_rfl) (by kernel_rfl) (by kernel_rfl) (fun _ _ _ h => h) (Or.inl ⟨by kernel_rfl, ?_⟩) (by assumption) ?_
    · intro w7 hSw
      try dsimp only at hSw
      go_simp
    simp only [Act.put, List.setIfInBounds_toArray, List.set_cons_zero, List.set_cons_succ]
    refine takeAt (i := 11) (d := (some 20)) (v := (.int .i64 1)) rfl (by kernel_rfl) (by kernel_rfl) (by kernel_rfl) (by kernel_rfl) (fun _ _ _ h => h) (Or.inl ⟨by kernel_rfl, ?_⟩) (by assumption) ?_
    · intro w7 hSw
      try dsimp only at hSw
      go_simp
    simp only [Act.put, List.setIfInBounds_toArray, List.set_cons_zero, List.set_cons_succ]
    refine takeAt (i := 12) (d := (some 21)) (v := (.pointer (some ⟨w.heap.size, 3, none⟩))) rfl (by kernel_rfl) (by kernel_rfl) (by kernel_rfl) (by kernel_rfl) (fun _ _ _ h => h) (Or.inl ⟨by kernel_rfl, ?_⟩) (by assumption) ?_
    · intro w7 hSw
      try dsimp only at hSw
      go_simp
    simp only [Act.put, List.setIfInBounds_toArray, List.set_cons_zero, List.set_cons_succ]
    refine takeAt (i := 13) (d := (some 22)) (v := (.agg #[.int .i64 b.x, .int .i64 b.y, .int .i64 b.z])) rfl (by kernel_rfl) (by kernel_rfl) (by kernel_rfl) (by kernel_rfl) (fun _ _ _ h => h) (Or.inl ⟨by kernel_rfl, ?_⟩) (by assumption) ?_
    · intro w7 hSw
      try dsimp only at hSw
      go_simp
    simp only [Act.put, List.setIfInBounds_toArray, List.set_cons_zero, List.set_cons_succ]
    refine takeAt (i := 14) (d := (some 23)) (v := (.agg #[.int .i64 c.x, .int .i64 c.y, .int .i64 c.z, .int .i64 a.x, .int .i64 a.y, .int .i64 a.z, .int .i64 b.x, .int .i64 b.y, .int .i64 b.z])) rfl (by kernel_rfl) (by kernel_rfl) (by kernel_rfl) (by kernel_rfl) (fun _ _ _ h => h) (Or.inl ⟨by kernel_rfl, ?_⟩) (by assumption) ?_
    · intro w7 hSw
      try dsimp only at hSw
      go_simp
    simp only [Act.put, List.setIfInBounds_toArray, List.set_cons_zero, List.set_cons_succ]
    refine wpAnyH_ready (rs := [15]) (by kernel_rfl) (by simp) ?_
    refine AllReadyH.cons rfl (fun K hK => ?_) AllReadyH.nil
    go_simp
    refine hK.out _ _ (SF.out _ (F.out.beside _).drew) (fun hHeld => ?_)
    clear hK K
    have FB := Lib.hid (F.out.boxedAt (.cells #[.int .i64 0, .int .i64 0, .int .i64 0, .int .i64 0, .int .i64 0, .int .i64 0, .int .i64 0, .int .i64 0, .int .i64 0] 33) w1.heap.size rfl (Tch.refl [] _).drew)
    obtain ⟨V, hV⟩ : ∃ V, V = (w1.alloc (.cells #[.int .i64 0, .int .i64 0, .int .i64 0, .int .i64 0, .int .i64 0, .int .i64 0, .int .i64 0, .int .i64 0, .int .i64 0] 33)).drew := ⟨_, rfl⟩
    rw [← hV] at FB ⊢ hHeld
    clear hV
    obtain ⟨⟨y0, y1, y2, y3, y4, y5, y6, y7, y8⟩, ⟨g0, g1, g2, g3, g4, g5, g6, g7, g8⟩⟩ := FB.out.nine
    refine wpAnyH_ready (rs := [16]) (by kernel_rfl) (by simp) ?_
    refine AllReadyH.cons rfl (fun K hK => ?_) AllReadyH.nil
    go_simp
    refine hK.out _ _ (SF.out _ (FB.out.put9 (.int .i64 c.x) (.int .i64 c.y) (.int .i64 c.z) (.int .i64 a.x) (.int .i64 a.y) (.int .i64 a.z) (.int .i64 b.x) (.int .i64 b.y) (.int .i64 b.z)).f) (fun hHeld2 => ?_)
    clear hK K hHeld2
    refine wpAnyH_done (by kernel_rfl) ?_ _
    refine NoPanic.normal ?_
    have F := Lib.hid (FB.out.put9 (.int .i64 c.x) (.int .i64 c.y) (.int .i64 c.z) (.int .i64 a.x) (.int .i64 a.y) (.int .i64 a.z) (.int .i64 b.x) (.int .i64 b.y) (.int .i64 b.z)).all
    clear FB y0 y1 y2 y3 y4 y5 y6 y7 y8 g0 g1 g2 g3 g4 g5 g6 g7 g8 hHeld a0 a1 a2 a3 a4 a5 a6 a7 a8 A1 A2 B0 B1 B2
    obtain ⟨V2, hV2⟩ : ∃ V2, V2 = (((((((((V.setCell ⟨w1.heap.size, 0, none⟩ (.int .i64 c.x)).setCell ⟨w1.heap.size, 1, none⟩ (.int .i64 c.y)).setCell ⟨w1.heap.size, 2, none⟩ (.int .i64 c.z)).setCell ⟨w1.heap.size, 3, none⟩ (.int .i64 a.x)).setCell ⟨w1.heap.size, 4, none⟩ (.int .i64 a.y)).setCell ⟨w1.heap.size, 5, none⟩ (.int .i64 a.z)).setCell ⟨w1.heap.size, 6, none⟩ (.int .i64 b.x)).setCell ⟨w1.heap.size, 7, none⟩ (.int .i64 b.y)).setCell ⟨w1.heap.size, 8, none⟩ (.int .i64 b.z)) := ⟨_, rfl⟩
    rw [← hV2] at F ⊢
    clear hV2
    obtain ⟨⟨x0, x1, x2⟩, ⟨x3, x4, x5⟩, x6, x7, x8⟩ := F.out.nine 2 rfl
    obtain ⟨⟨r0, r1, r2⟩, ⟨r3, r4, r5⟩, r6, r7, r8⟩ := F.out.nine 1 rfl
    obtain ⟨f0, f1, f2, f3, f4, f5, f6, f7, f8⟩ := F.out.fro9 1 rfl
    go_wp2
    refine bodyPost_ret (v := (.agg #[.int .i64 c.x, .int .i64 c.y, .int .i64 c.z, .int .i64 a.x, .int .i64 a.y, .int .i64 a.z, .int .i64 b.x, .int .i64 b.y, .int .i64 b.z])) (by simp [results, Tryz.results17, go_sem, r0, r1, r2, r3, r4, r5, r6, r7, r8]) rfl ⟨rfl, ?_⟩
    exact F.out.fin9 1 rfl _ _ _ _ _ _ _ _ _
  · have HV : Hid (trnI a b c 3 = ⟨b, a, c⟩) := Lib.hid (by unfold trnI; simp)
    rw [HV.out]
    clear HV
    dsimp only
    go_enter Tryz.func17, Tryz.ntmps17
    go_wp2_with fail
    refine (C1.out _).mono ?_
    rintro e w1 ⟨rfl, hT⟩
    have F := Lib.hid (F.out.keep hT)
    clear hT
    have A1 : IntKind.i64.wrap 4 = 4 := by decide
    have A2 : IntKind.i64.wrap 5 = 5 := by decide
    have B0 : Int.tmod 3 3 = 0 := by decide
    have B1 : Int.tmod 4 3 = 1 := by decide
    have B2 : Int.tmod 5 3 = 2 := by decide
    obtain ⟨⟨a0, a1, a2⟩, ⟨a3, a4, a5⟩, a6, a7, a8⟩ := F.out.nine 0 rfl
    have SF := Lib.hid (fun (w4 : World) (h : Fr w w4 [(w.heap.size, .cells #[.int .i64 a.x, .int .i64 a.y, .int .i64 a.z, .int .i64 b.x, .int .i64 b.y, .int .i64 b.z, .int .i64 c.x, .int .i64 c.y, .int .i64 c.z] 33 (0, 0)), (w.heap.size + 1, .cells #[.int .i64 0, .int .i64 0, .int .i64 0, .int .i64 0, .int .i64 0, .int .i64 0, .int .i64 0, .int .i64 0, .int .i64 0] 33 (0, 0))]) => h.nine 0 rfl)
    go_upto_region 2 with (fail)
    refine wp_region_noPanic ?_
    refine wp_region_held_drew (S := (fun w4 => (w4.cell? ⟨w.heap.size, 0, none⟩ = some (.int .i64 a.x) ∧ w4.cell? ⟨w.heap.size, 1, none⟩ = some (.int .i64 a.y) ∧ w4.cell? ⟨w.heap.size, 2, none⟩ = some (.int .i64 a.z)) ∧ (w4.cell? ⟨w.heap.size, 3, none⟩ = some (.int .i64 b.x) ∧ w4.cell? ⟨w.heap.size, 4, none⟩ = some (.int .i64 b.y) ∧ w4.cell? ⟨w.heap.size, 5, none⟩ = some (.int .i64 b.z)) ∧ w4.cell? ⟨w.heap.size, 6, none⟩ = some (.int .i64 c.x) ∧ w4.cell? ⟨w.heap.size, 7, none⟩ = some (.int .i64 c.y) ∧ w4.cell? ⟨w.heap.size, 8, none⟩ = some (.int .i64 c.z))) (by kernel_rfl) (SF.out _ F.out.drew) (fun hHeld => ?_)
    refine takeAt (i := 0) (d := (some 9)) (v := (.int .i64 3)) rfl (by kernel_rfl) (by kernel_rfl) (by kernel_rfl) (by kernel_rfl) (fun _ _ _ h => h) (Or.inl ⟨by kernel_rfl, ?_⟩) (by assumption) ?_
    · intro w7 hSw
      try dsimp only at hSw
      go_simp
    simp only [Act.put, List.setIfInBounds_toArray, List.set_cons_zero, List.set_cons_succ]
    refine takeAt (i := 1) (d := (some 10)) (v := (.int .i64 0)) rfl (by kernel_rfl) (by kernel_rfl) (by kernel_rfl) (by kernel_rfl) (fun _ _ _ h => h) (Or.inl ⟨by kernel_rfl, ?_⟩) (by assumption) ?_
    · intro w7 hSw
      try dsimp only at hSw
      go_simp
    simp only [Act.put, List.setIfInBounds_toArray, List.set_cons_zero, List.set_cons_succ]
    refine takeAt (i := 2) (d := (some 11)) (v := (.pointer (some ⟨w.heap.size, 0, none⟩))) rfl (by kernel_rfl) (by kernel_rfl) (by kernel_rfl) (by kernel_rfl) (fun _ _ _ h => h) (Or.inl ⟨by kernel_rfl, ?_⟩) (by assumption) ?_
    · intro w7 hSw
      try dsimp only at hSw
      go_simp
    simp only [Act.put, List.setIfInBounds_toArray, List.set_cons_zero, List.set_cons_succ]
    refine takeAt (i := 3) (d := (some 12)) (v := (.agg #[.int .i64 a.x, .int .i64 a.y, .int .i64 a.z])) rfl (by kernel_rfl) (by kernel_rfl) (by kernel_rfl) (by kernel_rfl) (fun _ _ _ h => h) (Or.inl ⟨by kernel_rfl, ?_⟩) (by assumption) ?_
    · intro w7 hSw
      try dsimp only at hSw
      go_simp
    simp only [Act.put, List.setIfInBounds_toArray, List.set_cons_zero, List.set_cons_succ]
    refine takeAt (i := 4) (d := (some 13)) (v := (.int .i64 3)) rfl (by kernel_rfl) (by kernel_rfl) (by kernel_rfl) (by kernel_rfl) (fun _ _ _ h => h) (Or.inl ⟨by kernel_rfl, ?_⟩) (by assumption) ?_
    · intro w7 hSw
      try dsimp only at hSw
      go_simp
    simp only [Act.put, List.setIfInBounds_toArray, List.set_cons_zero, List.set_cons_succ]
    refine takeAt (i := 5) (d := (some 14)) (v := (.int .i64 4)) rfl (by kernel_rfl) (by kernel_rfl) (by kernel_rfl) (by kernel_rfl) (fun _ _ _ h => h) (Or.inl ⟨by kernel_rfl, ?_⟩) (by assumption) ?_
    · intro w7 hSw
      try dsimp only at hSw
      go_simp
    simp only [Act.put, List.setIfInBounds_toArray, List.set_cons_zero, List.set_cons_succ]
    refine takeAt (i := 6) (d := (some 15)) (v := (.int .i64 1)) rfl (by kernel_rfl) (by kernel_rfl) (by kernel_rfl) (by kernel_rfl) (fun _ _ _ h => h) (Or.inl ⟨by kernel_rfl, ?_⟩) (by assumption) ?_
    · intro w7 hSw
      try dsimp only at hSw
      go_simp
    simp only [Act.put, List.setIfInBounds_toArray, List.set_cons_zero, List.set_cons_succ]
    refine takeAt (i := 7) (d := (some 16)) (v := (.pointer (some ⟨w.heap.size, 3, none⟩))) rfl (by kernel_rfl) (by kernel_rfl) (by kernel_rfl) (by kernel_rfl) (fun _ _ _ h => h) (Or.inl ⟨by kernel_rfl, ?_⟩) (by assumption) ?_
    · intro w7 hSw
      try dsimp only at hSw
      go_simp
    simp only [Act.put, List.setIfInBounds_toArray, List.set_cons_zero, List.set_cons_succ]
    refine takeAt (i := 8) (d := (some 17)) (v := (.agg #[.int .i64 b.x, .int .i64 b.y, .int .i64 b.z])) rfl (by kernel_rfl) (by kernel_rfl) (by kernel_rfl) (by kernel_rfl) (fun _ _ _ h => h) (Or.inl ⟨by kernel_rfl, ?_⟩) (by assumption) ?_
    · intro w7 hSw
      try dsimp only at hSw
      go_simp
    simp only [Act.put, List.setIfInBounds_toArray, List.set_cons_zero, List.set_cons_succ]
    refine takeAt (i := 9) (d := (some 18)) (v := (.int .i64 3)) rfl (by kernel_rfl) (by kernel_rfl) (by kernel_rfl) (by kernel_rfl) (fun _ _ _ h => h) (Or.inl ⟨by kernel_rfl, ?_⟩) (by assumption) ?_
    · intro w7 hSw
      try dsimp only at hSw
      go_simp
    simp only [Act.put, List.setIfInBounds_toArray, List.set_cons_zero, List.set_cons_succ]
    refine takeAt (i := 10) (d := (some 19)) (v := (.int .i64 5)) rfl (by kernel_rfl) (by kernel_rfl) (by kernel_rfl) (by kernel_rfl) (fun _ _ _ h => h) (Or.inl ⟨by kernel_rfl, ?_⟩) (by assumption) ?_
    · intro w7 hSw
      try dsimp only at hSw
      go_simp
    simp only [Act.put, List.setIfInBounds_toArray, List.set_cons_zero, List.set_cons_succ]
    refine takeAt (i := 11) (d := (some 20)) (v := (.int .i64 2)) rfl (by kernel_rfl) (by kernel_rfl) (by kernel_rfl) (by kernel_rfl) (fun _ _ _ h => h) (Or.inl ⟨by kernel_rfl, ?_⟩) (by assumption) ?_
    · intro w7 hSw
      try dsimp only at hSw
      go_simp
    simp only [Act.put, List.setIfInBounds_toArray, List.set_cons_zero, List.set_cons_succ]
    refine takeAt (i := 12) (d := (some 21)) (v := (.pointer (some ⟨w.heap.size, 6, none⟩))) rfl (by kernel_rfl) (by kernel_rfl) (by kernel_rfl) (by kernel_rfl) (fun _ _ _ h => h) (Or.inl ⟨by kernel_rfl, ?_⟩) (by assumption) ?_
    · intro w7 hSw
      try dsimp only at hSw
      go_simp
    simp only [Act.put, List.setIfInBounds_toArray, List.set_cons_zero, List.set_cons_succ]
    refine takeAt (i := 13) (d := (some 22)) (v := (.agg #[.int .i64 c.x, .int .i64 c.y, .int .i64 c.z])) rfl (by kernel_rfl) (by kernel_rfl) (by kernel_rfl) (by kernel_rfl) (fun _ _ _ h => h) (Or.inl ⟨by kernel_rfl, ?_⟩) (by assumption) ?_
    · intro w7 hSw
      try dsimp only at hSw
      go_simp
    simp only [Act.put, List.setIfInBounds_toArray, List.set_cons_zero, List.set_cons_succ]
    refine takeAt (i := 14) (d := (some 23)) (v := (.agg #[.int .i64 a.x, .int .i64 a.y, .int .i64 a.z, .int .i64 b.x, .int .i64 b.y, .int .i64 b.z, .int .i64 c.x, .int .i64 c.y, .int .i64 c.z])) rfl (by kernel_rfl) (by kernel_rfl) (by kernel_rfl) (by kernel_rfl) (fun _ _ _ h => h) (Or.inl ⟨by kernel_rfl, ?_⟩) (by assumption) ?_
    · intro w7 hSw
      try dsimp only at hSw
      go_simp
    simp only [Act.put, List.setIfInBounds_toArray, List.set_cons_zero, List.set_cons_succ]
    refine wpAnyH_ready (rs := [15]) (by kernel_rfl) (by simp) ?_
    refine AllReadyH.cons rfl (fun K hK => ?_) AllReadyH.nil
    go_simp
    refine hK.out _ _ (SF.out _ (F.out.beside _).drew) (fun hHeld => ?_)
    clear hK K
    have FB := Lib.hid (F.out.boxedAt (.cells #[.int .i64 0, .int .i64 0, .int .i64 0, .int .i64 0, .int .i64 0, .int .i64 0, .int .i64 0, .int .i64 0, .int .i64 0] 33) w1.heap.size rfl (Tch.refl [] _).drew)
    obtain ⟨V, hV⟩ : ∃ V, V = (w1.alloc (.cells #[.int .i64 0, .int .i64 0, .int .i64 0, .int .i64 0, .int .i64 0, .int .i64 0, .int .i64 0, .int .i64 0, .int .i64 0] 33)).drew := ⟨_, rfl⟩
    rw [← hV] at FB ⊢ hHeld
    clear hV
    obtain ⟨⟨y0, y1, y2, y3, y4, y5, y6, y7, y8⟩, ⟨g0, g1, g2, g3, g4, g5, g6, g7, g8⟩⟩ := FB.out.nine
    refine wpAnyH_ready (rs := [16]) (by kernel_rfl) (by simp) ?_
    refine AllReadyH.cons rfl (fun K hK => ?_) AllReadyH.nil
    go_simp
    refine hK.out _ _ (SF.out _ (FB.out.put9 (.int .i64 a.x) (.int .i64 a.y) (.int .i64 a.z) (.int .i64 b.x) (.int .i64 b.y) (.int .i64 b.z) (.int .i64 c.x) (.int .i64 c.y) (.int .i64 c.z)).f) (fun hHeld2 => ?_)
    clear hK K hHeld2
    refine wpAnyH_done (by kernel_rfl) ?_ _
    refine NoPanic.normal ?_
    have F := Lib.hid (FB.out.put9 (.int .i64 a.x) (.int .i64 a.y) (.int .i64 a.z) (.int .i64 b.x) (.int .i64 b.y) (.int .i64 b.z) (.int .i64 c.x) (.int .i64 c.y) (.int .i64 c.z)).all
    clear FB y0 y1 y2 y3 y4 y5 y6 y7 y8 g0 g1 g2 g3 g4 g5 g6 g7 g8 hHeld a0 a1 a2 a3 a4 a5 a6 a7 a8 A1 A2 B0 B1 B2
    obtain ⟨V2, hV2⟩ : ∃ V2, V2 = (((((((((V.setCell ⟨w1.heap.size, 0, none⟩ (.int .i64 a.x)).setCell ⟨w1.heap.size, 1, none⟩ (.int .i64 a.y)).setCell ⟨w1.heap.size, 2, none⟩ (.int .i64 a.z)).setCell ⟨w1.heap.size, 3, none⟩ (.int .i64 b.x)).setCell ⟨w1.heap.size, 4, none⟩ (.int .i64 b.y)).setCell ⟨w1.heap.size, 5, none⟩ (.int .i64 b.z)).setCell ⟨w1.heap.size, 6, none⟩ (.int .i64 c.x)).setCell ⟨w1.heap.size, 7, none⟩ (.int .i64 c.y)).setCell ⟨w1.heap.size, 8, none⟩ (.int .i64 c.z)) := ⟨_, rfl⟩
    rw [← hV2] at F ⊢
    clear hV2
    obtain ⟨⟨x0, x1, x2⟩, ⟨x3, x4, x5⟩, x6, x7, x8⟩ := F.out.nine 2 rfl
    obtain ⟨⟨r0, r1, r2⟩, ⟨r3, r4, r5⟩, r6, r7, r8⟩ := F.out.nine 1 rfl
    obtain ⟨f0, f1, f2, f3, f4, f5, f6, f7, f8⟩ := F.out.fro9 1 rfl
    go_wp2
    refine bodyPost_ret (v := (.agg #[.int .i64 b.x, .int .i64 b.y, .int .i64 b.z, .int .i64 a.x, .int .i64 a.y, .int .i64 a.z, .int .i64 c.x, .int .i64 c.y, .int .i64 c.z])) (by simp [results, Tryz.results17, go_sem, r0, r1, r2, r3, r4, r5, r6, r7, r8]) rfl ⟨rfl, ?_⟩
    exact F.out.fin9 1 rfl _ _ _ _ _ _ _ _ _
  · have HV : Hid (trnI a b c 4 = ⟨c, b, a⟩) := Lib.hid (by unfold trnI; simp)
    rw [HV.out]
    clear HV
    dsimp only
    go_enter Tryz.func17, Tryz.ntmps17
    go_wp2_with fail
    refine (C1.out _).mono ?_
    rintro e w1 ⟨rfl, hT⟩
    have F := Lib.hid (F.out.keep hT)
    clear hT
    have A1 : IntKind.i64.wrap 5 = 5 := by decide
    have A2 : IntKind.i64.wrap 6 = 6 := by decide
    have B0 : Int.tmod 4 3 = 1 := by decide
    have B1 : Int.tmod 5 3 = 2 := by decide
    have B2 : Int.tmod 6 3 = 0 := by decide
    obtain ⟨⟨a0, a1, a2⟩, ⟨a3, a4, a5⟩, a6, a7, a8⟩ := F.out.nine 0 rfl
    have SF := Lib.hid (fun (w4 : World) (h : Fr w w4 [(w.heap.size, .cells #[.int .i64 a.x, .int .i64 a.y, .int .i64 a.z, .int .i64 b.x, .int .i64 b.y, .int .i64 b.z, .int .i64 c.x, .int .i64 c.y, .int .i64 c.z] 33 (0, 0)), (w.heap.size + 1, .cells #[.int .i64 0, .int .i64 0, .int .i64 0, .int .i64 0, .int .i64 0, .int .i64 0, .int .i64 0, .int .i64 0, .int .i64 0] 33 (0, 0))]) => h.nine 0 rfl)
    go_upto_region 2 with (fail)
    refine wp_region_noPanic ?_
    refine wp_region_held_drew (S := (fun w4 => (w4.cell? ⟨w.heap.size, 0, none⟩ = some (.int .i64 a.x) ∧ w4.cell? ⟨w.heap.size, 1, none⟩ = some (.int .i64 a.y) ∧ w4.cell? ⟨w.heap.size, 2, none⟩ = some (.int .i64 a.z)) ∧ (w4.cell? ⟨w.heap.size, 3, none⟩ = some (.int .i64 b.x) ∧ w4.cell? ⟨w.heap.size, 4, none⟩ = some (.int .i64 b.y) ∧ w4.cell? ⟨w.heap.size, 5, none⟩ = some (.int .i64 b.z)) ∧ w4.cell? ⟨w.heap.size, 6, none⟩ = some (.int .i64 c.x) ∧ w4.cell? ⟨w.heap.size, 7, none⟩ = some (.int .i64 c.y) ∧ w4.cell? ⟨w.heap.size, 8, none⟩ = some (.int .i64 c.z))) (by kernel_rfl) (SF.out _ F.out.drew) (fun hHeld => ?_)
    refine takeAt (i := 0) (d := (some 9)) (v := (.int .i64 4)) rfl (by kernel_rfl) (by kernel_rfl) (by kernel_rfl) (by kernel_rfl) (fun _ _ _ h => h) (Or.inl ⟨by kernel_rfl, ?_⟩) (by assumption) ?_
    · intro w7 hSw
      try dsimp only at hSw
      go_simp
    simp only [Act.put, List.setIfInBounds_toArray, List.set_cons_zero, List.set_cons_succ]
    refine takeAt (i := 1) (d := (some 10)) (v := (.int .i64 1)) rfl (by kernel_rfl) (by kernel_rfl) (by kernel_rfl) (by kernel_rfl) (fun _ _ _ h => h) (Or.inl ⟨by kernel_rfl, ?_⟩) (by assumption) ?_
    · intro w7 hSw
      try dsimp only at hSw
      go_simp
    simp only [Act.put, List.setIfInBounds_toArray, List.set_cons_zero, List.set_cons_succ]
    refine takeAt (i := 2) (d := (some 11)) (v := (.pointer (some ⟨w.heap.size, 3, none⟩))) rfl (by kernel_rfl) (by kernel_rfl) (by kernel_rfl) (by kernel_rfl) (fun _ _ _ h => h) (Or.inl ⟨by kernel_rfl, ?_⟩) (by assumption) ?_
    · intro w7 hSw
      try dsimp only at hSw
      go_simp
    simp only [Act.put, List.setIfInBounds_toArray, List.set_cons_zero, List.set_cons_succ]
    refine takeAt (i := 3) (d := (some 12)) (v := (.agg #[.int .i64 b.x, .int .i64 b.y, .int .i64 b.z])) rfl (by kernel_rfl) (by kernel_rfl) (by kernel_rfl) (by kernel_rfl) (fun _ _ _ h => h) (Or.inl ⟨by kernel_rfl, ?_⟩) (by assumption) ?_
    · intro w7 hSw
      try dsimp only at hSw
      go_simp
    simp only [Act.put, List.setIfInBounds_toArray, List.set_cons_zero, List.set_cons_succ]
    refine takeAt (i := 4) (d := (some 13)) (v := (.int .i64 4)) rfl (by kernel_rfl) (by kernel_rfl) (by kernel_rfl) (by kernel_rfl) (fun _ _ _ h => h) (Or.inl ⟨by kernel_rfl, ?_⟩) (by assumption) ?_
    · intro w7 hSw
      try dsimp only at hSw
      go_simp
    simp only [Act.put, List.setIfInBounds_toArray, List.set_cons_zero, List.set_cons_succ]
    refine takeAt (i := 5) (d := (some 14)) (v := (.int .i64 5)) rfl (by kernel_rfl) (by kernel_rfl) (by kernel_rfl) (by kernel_rfl) (fun _ _ _ h => h) (Or.inl ⟨by kernel_rfl, ?_⟩) (by assumption) ?_
    · intro w7 hSw
      try dsimp only at hSw
      go_simp
    simp only [Act.put, List.setIfInBounds_toArray, List.set_cons_zero, List.set_cons_succ]
    refine takeAt (i := 6) (d := (some 15)) (v := (.int .i64 2)) rfl (by kernel_rfl) (by kernel_rfl) (by kernel_rfl) (by kernel_rfl) (fun _ _ _ h => h) (Or.inl ⟨by kernel_rfl, ?_⟩) (by assumption) ?_
    · intro w7 hSw
      try dsimp only at hSw
      go_simp
    simp only [Act.put, List.setIfInBounds_toArray, List.set_cons_zero, List.set_cons_succ]
    refine takeAt (i := 7) (d := (some 16)) (v := (.pointer (some ⟨w.heap.size, 6, none⟩))) rfl (by kernel_rfl) (by kernel_rfl) (by kernel_rfl) (by kernel_rfl) (fun _ _ _ h => h) (Or.inl ⟨by kernel_rfl, ?_⟩) (by assumption) ?_
    · intro w7 hSw
      try dsimp only at hSw
      go_simp
    simp only [Act.put, List.setIfInBounds_toArray, List.set_cons_zero, List.set_cons_succ]
    refine takeAt (i := 8) (d := (some 17)) (v := (.agg #[.int .i64 c.x, .int .i64 c.y, .int .i64 c.z])) rfl (by kernel_rfl) (by kernel_rfl) (by kernel_rfl) (by kernel_rfl) (fun _ _ _ h => h) (Or.inl ⟨by kernel_rfl, ?_⟩) (by assumption) ?_
    · intro w7 hSw
      try dsimp only at hSw
      go_simp
    simp only [Act.put, List.setIfInBounds_toArray, List.set_cons_zero, List.set_cons_succ]
    refine takeAt (i := 9) (d := (some 18)) (v := (.int .i64 4)) rfl (by kernel_rfl) (by kernel_rfl) (by kernel_rfl) (by kernel_rfl) (fun _ _ _ h => h) (Or.inl ⟨by kernel_rfl, ?_⟩) (by assumption) ?_
    · intro w7 hSw
      try dsimp only at hSw
      go_simp
    simp only [Act.put, List.setIfInBounds_toArray, List.set_cons_zero, List.set_cons_succ]
    refine takeAt (i := 10) (d := (some 19)) (v := (.int .i64 6)) rfl (by kernel_rfl) (by kernel_rfl) (by kernel_rfl) (by kernel_rfl) (fun _ _ _ h => h) (Or.inl ⟨by kernel_rfl, ?_⟩) (by assumption) ?_
    · intro w7 hSw
      try dsimp only at hSw
      go_simp
    simp only [Act.put, List.setIfInBounds_toArray, List.set_cons_zero, List.set_cons_succ]
    refine takeAt (i := 11) (d := (some 20)) (v := (.int .i64 0)) rfl (by kernel_rfl) (by kernel_rfl) (by kernel_rfl) (by kernel_rfl) (fun _ _ _ h => h) (Or.inl ⟨by kernel_rfl, ?_⟩) (by assumption) ?_
    · intro w7 hSw
      try dsimp only at hSw
      go_simp
    simp only [Act.put, List.setIfInBounds_toArray, List.set_cons_zero, List.set_cons_succ]
    refine takeAt (i := 12) (d := (some 21)) (v := (.pointer (some ⟨w.heap.size, 0, none⟩))) rfl (by kernel_rfl) (by kernel_rfl) (by kernel_rfl) (by kernel_rfl) (fun _ _ _ h => h) (Or.inl ⟨by kernel_rfl, ?_⟩) (by assumption) ?_
    · intro w7 hSw
      try dsimp only at hSw
      go_simp
    simp only [Act.put, List.setIfInBounds_toArray, List.set_cons_zero, List.set_cons_succ]
    refine takeAt (i := 13) (d := (some 22)) (v := (.agg #[.int .i64 a.x, .int .i64 a.y, .int .i64 a.z])) rfl (by kernel_rfl) (by kernel_rfl) (by kernel_rfl) (by kernel_rfl) (fun _ _ _ h => h) (Or.inl ⟨by kernel_rfl, ?_⟩) (by assumption) ?_
    · intro w7 hSw
      try dsimp only at hSw
      go_simp
    simp only [Act.put, List.setIfInBounds_toArray, List.set_cons_zero, List.set_cons_succ]
    refine takeAt (i := 14) (d := (some 23)) (v := (.agg #[.int .i64 b.x, .int .i64 b.y, .int .i64 b.z, .int .i64 c.x, .int .i64 c.y, .int .i64 c.z, .int .i64 a.x, .int .i64 a.y, .int .i64 a.z])) rfl (by kernel_rfl) (by kernel_rfl) (by kernel_rfl) (by kernel_rfl) (fun _ _ _ h => h) (Or.inl ⟨by kernel_rfl, ?_⟩) (by assumption) ?_
    · intro w7 hSw
      try dsimp only at hSw
      go_simp
    simp only [Act.put, List.setIfInBounds_toArray, List.set_cons_zero, List.set_cons_succ]
    refine wpAnyH_ready (rs := [15]) (by kernel_rfl) (by simp) ?_
    refine AllReadyH.cons rfl (fun K hK => ?_) AllReadyH.nil
    go_simp
    refine hK.out _ _ (SF.out _ (F.out.beside _).drew) (fun hHeld => ?_)
    clear hK K
    have FB := Lib.hid (F.out.boxedAt (.cells #[.int .i64 0, .int .i64 0, .int .i64 0, .int .i64 0, .int .i64 0, .int .i64 0, .int .i64 0, .int .i64 0, .int .i64 0] 33) w1.heap.size rfl (Tch.refl [] _).drew)
    obtain ⟨V, hV⟩ : ∃ V, V = (w1.alloc (.cells #[.int .i64 0, .int .i64 0, .int .i64 0, .int .i64 0, .int .i64 0, .int .i64 0, .int .i64 0, .int .i64 0, .int .i64 0] 33)).drew := ⟨_, rfl⟩
    rw [← hV] at FB ⊢ hHeld
    clear hV
    obtain ⟨⟨y0, y1, y2, y3, y4, y5, y6, y7, y8⟩, ⟨g0, g1, g2, g3, g4, g5, g6, g7, g8⟩⟩ := FB.out.nine
    refine wpAnyH_ready (rs := [16]) (by kernel_rfl) (by simp) ?_
    refine AllReadyH.cons rfl (fun K hK => ?_) AllReadyH.nil
    go_simp
    refine hK.out _ _ (SF.out _ (FB.out.put9 (.int .i64 b.x) (.int .i64 b.y) (.int .i64 b.z) (.int .i64 c.x) (.int .i64 c.y) (.int .i64 c.z) (.int .i64 a.x) (.int .i64 a.y) (.int .i64 a.z)).f) (fun hHeld2 => ?_)
    clear hK K hHeld2
    refine wpAnyH_done (by kernel_rfl) ?_ _
    refine NoPanic.normal ?_
    have F := Lib.hid (FB.out.put9 (.int .i64 b.x) (.int .i64 b.y) (.int .i64 b.z) (.int .i64 c.x) (.int .i64 c.y) (.int .i64 c.z) (.int .i64 a.x) (.int .i64 a.y) (.int .i64 a.z)).all
    clear FB y0 y1 y2 y3 y4 y5 y6 y7 y8 g0 g1 g2 g3 g4 g5 g6 g7 g8 hHeld a0 a1 a2 a3 a4 a5 a6 a7 a8 A1 A2 B0 B1 B2
    obtain ⟨V2, hV2⟩ : ∃ V2, V2 = (((((((((V.setCell ⟨w1.heap.size, 0, none⟩ (.int .i64 b.x)).setCell ⟨w1.heap.size, 1, none⟩ (.int .i64 b.y)).setCell ⟨w1.heap.size, 2, none⟩ (.int .i64 b.z)).setCell ⟨w1.heap.size, 3, none⟩ (.int .i64 c.x)).setCell ⟨w1.heap.size, 4, none⟩ (.int .i64 c.y)).setCell ⟨w1.heap.size, 5, none⟩ (.int .i64 c.z)).setCell ⟨w1.heap.size, 6, none⟩ (.int .i64 a.x)).setCell ⟨w1.heap.size, 7, none⟩ (.int .i64 a.y)).setCell ⟨w1.heap.size, 8, none⟩ (.int .i64 a.z)) := ⟨_, rfl⟩
    rw [← hV2] at F ⊢
    clear hV2
    obtain ⟨⟨x0, x1, x2⟩, ⟨x3, x4, x5⟩, x6, x7, x8⟩ := F.out.nine 2 rfl
    obtain ⟨⟨r0, r1, r2⟩, ⟨r3, r4, r5⟩, r6, r7, r8⟩ := F.out.nine 1 rfl
    obtain ⟨f0, f1, f2, f3, f4, f5, f6, f7, f8⟩ := F.out.fro9 1 rfl
    go_wp2
    refine bodyPost_ret (v := (.agg #[.int .i64 c.x, .int .i64 c.y, .int .i64 c.z, .int .i64 b.x, .int .i64 b.y, .int .i64 b.z, .int .i64 a.x, .int .i64 a.y, .int .i64 a.z])) (by simp [results, Tryz.results17, go_sem, r0, r1, r2, r3, r4, r5, r6, r7, r8]) rfl ⟨rfl, ?_⟩
    exact F.out.fin9 1 rfl _ _ _ _ _ _ _ _ _
  · have HV : Hid (trnI a b c 5 = ⟨a, c, b⟩) := Lib.hid (by unfold trnI; simp)
    rw [HV.out]
    clear HV
    dsimp only
    go_enter Tryz.func17, Tryz.ntmps17
    go_wp2_with fail
    refine (C1.out _).mono ?_
    rintro e w1 ⟨rfl, hT⟩
    have F := Lib.hid (F.out.keep hT)
    clear hT
    have A1 : IntKind.i64.wrap 6 = 6 := by decide
    have A2 : IntKind.i64.wrap 7 = 7 := by decide
    have B0 : Int.tmod 5 3 = 2 := by decide
    have B1 : Int.tmod 6 3 = 0 := by decide
    have B2 : Int.tmod 7 3 = 1 := by decide
    obtain ⟨⟨a0, a1, a2⟩, ⟨a3, a4, a5⟩, a6, a7, a8⟩ := F.out.nine 0 rfl
    have SF := Lib.hid (fun (w4 : World) (h : Fr w w4 [(w.heap.size, .cells #[.int .i64 a.x, .int .i64 a.y, .int .i64 a.z, .int .i64 b.x, .int .i64 b.y, .int .i64 b.z, .int .i64 c.x, .int .i64 c.y, .int .i64 c.z] 33 (0, 0)), (w.heap.size + 1, .cells #[.int .i64 0, .int .i64 0, .int .i64 0, .int .i64 0, .int .i64 0, .int .i64 0, .int .i64 0, .int .i64 0, .int .i64 0] 33 (0, 0))]) => h.nine 0 rfl)
    go_upto_region 2 with (fail)
    refine wp_region_noPanic ?_
    refine wp_region_held_drew (S := (fun w4 => (w4.cell? ⟨w.heap.size, 0, none⟩ = some (.int .i64 a.x) ∧ w4.cell? ⟨w.heap.size, 1, none⟩ = some (.int .i64 a.y) ∧ w4.cell? ⟨w.heap.size, 2, none⟩ = some (.int .i64 a.z)) ∧ (w4.cell? ⟨w.heap.size, 3, none⟩ = some (.int .i64 b.x) ∧ w4.cell? ⟨w.heap.size, 4, none⟩ = some (.int .i64 b.y) ∧ w4.cell? ⟨w.heap.size, 5, none⟩ = some (.int .i64 b.z)) ∧ w4.cell? ⟨w.heap.size, 6, none⟩ = some (.int .i64 c.x) ∧ w4.cell? ⟨w.heap.size, 7, none⟩ = some (.int .i64 c.y) ∧ w4.cell? ⟨w.heap.size, 8, none⟩ = some (.int .i64 c.z))) (by kernel_rfl) (SF.out _ F.out.drew) (fun hHeld => ?_)
    refine takeAt (i := 0) (d := (some 9)) (v := (.int .i64 5)) rfl (by kernel_rfl) (by kernel_rfl) (by kernel_rfl) (by kernel_rfl) (fun _ _ _ h => h) (Or.inl ⟨by kernel_rfl, ?_⟩) (by assumption) ?_
    · intro w7 hSw
      try dsimp only at hSw
      go_simp
    simp only [Act.put, List.setIfInBounds_toArray, List.set_cons_zero, List.set_cons_succ]
    refine takeAt (i := 1) (d := (some 10)) (v := (.int .i64 2)) rfl (by kernel_rfl) (by kernel_rfl) (by kernel_rfl) (by kernel_rfl) (fun _ _ _ h => h) (Or.inl ⟨by kernel_rfl, ?_⟩) (by assumption) ?_
    · intro w7 hSw
      try dsimp only at hSw
      go_simp
    simp only [Act.put, List.setIfInBounds_toArray, List.set_cons_zero, List.set_cons_succ]
    refine takeAt (i := 2) (d := (some 11)) (v := (.pointer (some ⟨w.heap.size, 6, none⟩))) rfl (by kernel_rfl) (by kernel_rfl) (by kernel_rfl) (by kernel_rfl) (fun _ _ _ h => h) (Or.inl ⟨by kernel_rfl, ?_⟩) (by assumption) ?_
    · intro w7 hSw
      try dsimp only at hSw
      go_simp
    simp only [Act.put, List.setIfInBounds_toArray, List.set_cons_zero, List.set_cons_succ]
    refine takeAt (i := 3) (d := (some 12)) (v := (.agg #[.int .i64 c.x, .int .i64 c.y, .int .i64 c.z])) rfl (by kernel_rfl) (by kernel_rfl) (by kernel_rfl) (by kernel_rfl) (fun _ _ _ h => h) (Or.inl ⟨by kernel_rfl, ?_⟩) (by assumption) ?_
    · intro w7 hSw
      try dsimp only at hSw
      go_simp
    simp only [Act.put, List.setIfInBounds_toArray, List.set_cons_zero, List.set_cons_succ]
    refine takeAt (i := 4) (d := (some 13)) (v := (.int .i64 5)) rfl (by kernel_rfl) (by kernel_rfl) (by kernel_rfl) (by kernel_rfl) (fun _ _ _ h => h) (Or.inl ⟨by kernel_rfl, ?_⟩) (by assumption) ?_
    · intro w7 hSw
      try dsimp only at hSw
      go_simp
    simp only [Act.put, List.setIfInBounds_toArray, List.set_cons_zero, List.set_cons_succ]
    refine takeAt (i := 5) (d := (some 14)) (v := (.int .i64 6)) rfl (by kernel_rfl) (by kernel_rfl) (by kernel_rfl) (by kernel_rfl) (fun _ _ _ h => h) (Or.inl ⟨by kernel_rfl, ?_⟩) (by assumption) ?_
    · intro w7 hSw
      try dsimp only at hSw
      go_simp
    simp only [Act.put, List.setIfInBounds_toArray, List.set_cons_zero, List.set_cons_succ]
    refine takeAt (i := 6) (d := (some 15)) (v := (.int .i64 0)) rfl (by kernel_rfl) (by kernel_rfl) (by kernel_rfl) (by kernel_rfl) (fun _ _ _ h => h) (Or.inl ⟨by kernel_rfl, ?_⟩) (by assumption) ?_
    · intro w7 hSw
      try dsimp only at hSw
      go_simp
    simp only [Act.put, List.setIfInBounds_toArray, List.set_cons_zero, List.set_cons_succ]
    refine takeAt (i := 7) (d := (some 16)) (v := (.pointer (some ⟨w.heap.size, 0, none⟩))) rfl (by kernel_rfl) (by kernel_rfl) (by kernel_rfl) (by kernel_rfl) (fun _ _ _ h => h) (Or.inl ⟨by kernel_rfl, ?_⟩) (by assumption) ?_
    · intro w7 hSw
      try dsimp only at hSw
      go_simp
    simp only [Act.put, List.setIfInBounds_toArray, List.set_cons_zero, List.set_cons_succ]
    refine takeAt (i := 8) (d := (some 17)) (v := (.agg #[.int .i64 a.x, .int .i64 a.y, .int .i64 a.z])) rfl (by kernel_rfl) (by kernel_rfl) (by kernel_rfl) (by kernel_rfl) (fun _ _ _ h => h) (Or.inl ⟨by kernel_rfl, ?_⟩) (by assumption) ?_
    · intro w7 hSw
      try dsimp only at hSw
      go_simp
    simp only [Act.put, List.setIfInBounds_toArray, List.set_cons_zero, List.set_cons_succ]
    refine takeAt (i := 9) (d := (some 18)) (v := (.int .i64 5)) rfl (by kernel_rfl) (by kernel_rfl) (by kernel_rfl) (by kernel_rfl) (fun _ _ _ h => h) (Or.inl ⟨by kernel_rfl, ?_⟩) (by assumption) ?_
    · intro w7 hSw
      try dsimp only at hSw
      go_simp
    simp only [Act.put, List.setIfInBounds_toArray, List.set_cons_zero, List.set_cons_succ]
    refine takeAt (i := 10) (d := (some 19)) (v := (.int .i64 7)) rfl (by kernel_rfl) (by kernel_rfl) (by kernel_rfl) (by kernel_rfl) (fun _ _ _ h => h) (Or.inl ⟨by kernel_rfl, ?_⟩) (by assumption) ?_
    · intro w7 hSw
      try dsimp only at hSw
      go_simp
    simp only [Act.put, List.setIfInBounds_toArray, List.set_cons_zero, List.set_cons_succ]
    refine takeAt (i := 11) (d := (some 20)) (v := (.int .i64 1)) rfl (by kernel_rfl) (by kernel_rfl) (by kernel_rfl) (by kernel_rfl) (fun _ _ _ h => h) (Or.inl ⟨by kernel_rfl, ?_⟩) (by assumption) ?_
    · intro w7 hSw
      try dsimp only at hSw
      go_simp
    simp only [Act.put, List.setIfInBounds_toArray, List.set_cons_zero, List.set_cons_succ]
    refine takeAt (i := 12) (d := (some 21)) (v := (.pointer (some ⟨w.heap.size, 3, none⟩))) rfl (by kernel_rfl) (by kernel_rfl) (by kernel_rfl) (by kernel_rfl) (fun _ _ _ h => h) (Or.inl ⟨by kernel_rfl, ?_⟩) (by assumption) ?_
    · intro w7 hSw
      try dsimp only at hSw
      go_simp
    simp only [Act.put, List.setIfInBounds_toArray, List.set_cons_zero, List.set_cons_succ]
    refine takeAt (i := 13) (d := (some 22)) (v := (.agg #[.int .i64 b.x, .int .i64 b.y, .int .i64 b.z])) rfl (by kernel_rfl) (by kernel_rfl) (by kernel_rfl) (by kernel_rfl) (fun _ _ _ h => h) (Or.inl ⟨by kernel_rfl, ?_⟩) (by assumption) ?_
    · intro w7 hSw
      try dsimp only at hSw
      go_simp
    simp only [Act.put, List.setIfInBounds_toArray, List.set_cons_zero, List.set_cons_succ]
    refine takeAt (i := 14) (d := (some 23)) (v := (.agg #[.int .i64 c.x, .int .i64 c.y, .int .i64 c.z, .int .i64 a.x, .int .i64 a.y, .int .i64 a.z, .int .i64 b.x, .int .i64 b.y, .int .i64 b.z])) rfl (by kernel_rfl) (by kernel_rfl) (by kernel_rfl) (by kernel_rfl) (fun _ _ _ h => h) (Or.inl ⟨by kernel_rfl, ?_⟩) (by assumption) ?_
    · intro w7 hSw
      try dsimp only at hSw
      go_simp
    simp only [Act.put, List.setIfInBounds_toArray, List.set_cons_zero, List.set_cons_succ]
    refine wpAnyH_ready (rs := [15]) (by kernel_rfl) (by simp) ?_
    refine AllReadyH.cons rfl (fun K hK => ?_) AllReadyH.nil
    go_simp
    refine hK.out _ _ (SF.out _ (F.out.beside _).drew) (fun hHeld => ?_)
    clear hK K
    have FB := Lib.hid (F.out.boxedAt (.cells #[.int .i64 0, .int .i64 0, .int .i64 0, .int .i64 0, .int .i64 0, .int .i64 0, .int .i64 0, .int .i64 0, .int .i64 0] 33) w1.heap.size rfl (Tch.refl [] _).drew)
    obtain ⟨V, hV⟩ : ∃ V, V = (w1.alloc (.cells #[.int .i64 0, .int .i64 0, .int .i64 0, .int .i64 0, .int .i64 0, .int .i64 0, .int .i64 0, .int .i64 0, .int .i64 0] 33)).drew := ⟨_, rfl⟩
    rw [← hV] at FB ⊢ hHeld
    clear hV
    obtain ⟨⟨y0, y1, y2, y3, y4, y5, y6, y7, y8⟩, ⟨g0, g1, g2, g3, g4, g5, g6, g7, g8⟩⟩ := FB.out.nine
    refine wpAnyH_ready (rs := [16]) (by kernel_rfl) (by simp) ?_
    refine AllReadyH.cons rfl (fun K hK => ?_) AllReadyH.nil
    go_simp
    refine hK.out _ _ (SF.out _ (FB.out.put9 (.int .i64 c.x) (.int .i64 c.y) (.int .i64 c.z) (.int .i64 a.x) (.int .i64 a.y) (.int .i64 a.z) (.int .i64 b.x) (.int .i64 b.y) (.int .i64 b.z)).f) (fun hHeld2 => ?_)
    clear hK K hHeld2
    refine wpAnyH_done (by kernel_rfl) ?_ _
    refine NoPanic.normal ?_
    have F := Lib.hid (FB.out.put9 (.int .i64 c.x) (.int .i64 c.y) (.int .i64 c.z) (.int .i64 a.x) (.int .i64 a.y) (.int .i64 a.z) (.int .i64 b.x) (.int .i64 b.y) (.int .i64 b.z)).all
    clear FB y0 y1 y2 y3 y4 y5 y6 y7 y8 g0 g1 g2 g3 g4 g5 g6 g7 g8 hHeld a0 a1 a2 a3 a4 a5 a6 a7 a8 A1 A2 B0 B1 B2
    obtain ⟨V2, hV2⟩ : ∃ V2, V2 = (((((((((V.setCell ⟨w1.heap.size, 0, none⟩ (.int .i64 c.x)).setCell ⟨w1.heap.size, 1, none⟩ (.int .i64 c.y)).setCell ⟨w1.heap.size, 2, none⟩ (.int .i64 c.z)).setCell ⟨w1.heap.size, 3, none⟩ (.int .i64 a.x)).setCell ⟨w1.heap.size, 4, none⟩ (.int .i64 a.y)).setCell ⟨w1.heap.size, 5, none⟩ (.int .i64 a.z)).setCell ⟨w1.heap.size, 6, none⟩ (.int .i64 b.x)).setCell ⟨w1.heap.size, 7, none⟩ (.int .i64 b.y)).setCell ⟨w1.heap.size, 8, none⟩ (.int .i64 b.z)) := ⟨_, rfl⟩
    rw [← hV2] at F ⊢
    clear hV2
    obtain ⟨⟨x0, x1, x2⟩, ⟨x3, x4, x5⟩, x6, x7, x8⟩ := F.out.nine 2 rfl
    obtain ⟨⟨r0, r1, r2⟩, ⟨r3, r4, r5⟩, r6, r7, r8⟩ := F.out.nine 1 rfl
    obtain ⟨f0, f1, f2, f3, f4, f5, f6, f7, f8⟩ := F.out.fro9 1 rfl
    go_wp2
    refine bodyPost_ret (v := (.agg #[.int .i64 a.x, .int .i64 a.y, .int .i64 a.z, .int .i64 c.x, .int .i64 c.y, .int .i64 c.z, .int .i64 b.x, .int .i64 b.y, .int .i64 b.z])) (by simp [results, Tryz.results17, go_sem, r0, r1, r2, r3, r4, r5, r6, r7, r8]) rfl ⟨rfl, ?_⟩
    exact F.out.fin9 1 rfl _ _ _ _ _ _ _ _ _

end Go.Proofs.YtpedbahppkimbaaGreatDoor
