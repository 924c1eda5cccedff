/- The reference: Sum. -/
import Derived.Test.YtmpfgkpimjiecaaDoorQw
import Derived.Test.YtmpfgkpimjiecaaDoorRj
namespace Go.Proofs.YtmpfgkpimjiecaaDoor
open Go Go.RowKit Dg

attribute [local go_sem ↓] eqlQ eqlQZ eqlN

set_option maxHeartbeats 4000000 in
set_option maxRecDepth 100000 in
theorem rSum (p q : Nat → Int) (hp : ∀ k, k < 10 → Sm 2900 (p k)) (hq : ∀ k, k < 10 → Sm 2900 (q k)) (w : World) :
    Calls Tryd.prog 20 #[.agg (QV p), .agg (QV q)] w fun e w' => e = .returned (.agg (QV fun k => p k + q k)) ∧ Tch [] w w' := by
  have c1 := fun (k : Nat) (hk : k < 10) (w1 : World) => rAdd10 ((hp k hk).mono (l := 3000) (by omega)) ((hq k hk).mono (l := 3000) (by omega)) w1
  obtain ⟨s, es⟩ : ∃ s : Nat → Int, s = fun k => p k + q k := ⟨_, rfl⟩
  rw [← es]
  have hs : ∀ k, p k + q k = s k := fun k => by rw [es]
  have c2 : ∀ (k : Nat) (hk : k < 10) (w1 : World), Calls Tryd.prog 34 #[.agg #[.bool (sgz (p k)), .string (moz (p k))], .agg #[.bool (sgz (q k)), .string (moz (q k))]] w1 fun e w' => e = .returned (.agg #[.bool (sgz (s k)), .string (moz (s k))]) ∧ Tch [] w1 w' := fun k hk w1 => by
    have := c1 k hk w1
    rw [hs k] at this
    exact this
  have C := Lib.hid c2
  clear c1 c2 hs es hp hq
  have F0 : Hid (Fr w ((((w.alloc (.cells (QV p) 28)).alloc (.cells (QV q) 28)).alloc (.cells QZ 28)).alloc (.cells (qst s 0) 28)) [(w.heap.size, .cells (QV p) 28 (0, 0)), (w.heap.size + 1, .cells (QV q) 28 (0, 0)), (w.heap.size + 1 + 1, .cells QZ 28 (0, 0)), (w.heap.size + 1 + 1 + 1, .cells (qst s 0) 28 (0, 0))]) := Lib.hid (((((Fr.nil w).add (.cells (QV p) 28) (w.heap.size) rfl).add (.cells (QV q) 28) (w.heap.size + 1) (by simp)).add (.cells QZ 28) (w.heap.size + 1 + 1) (by simp)).add (.cells (qst s 0) 28) (w.heap.size + 1 + 1 + 1) (by simp))
  go_enter Tryd.func20, Tryd.ntmps20
  go_wp2
  go_loopw [6] (fun i wr => ∃ k : Nat, k ≤ 10 ∧ i = .int .i64 (k : Int) ∧ Hid (Fr w wr [(w.heap.size, .cells (QV p) 28 (0, 0)), (w.heap.size + 1, .cells (QV q) 28 (0, 0)), (w.heap.size + 1 + 1, .cells QZ 28 (0, 0)), (w.heap.size + 1 + 1 + 1, .cells (qst s k) 28 (0, 0))]))
    (fun i _ => 10 - (intOf i).toNat)
  case atStart => exact ⟨0, by omega, rfl, F0⟩
  case round =>
    clear F0
    obtain ⟨k, hk, rfl, F⟩ := hrel
    rcases (show k = 10 ∨ k < 10 by omega) with rfl | hk
    · have F : Hid (Fr w wr [(w.heap.size, .cells (QV p) 28 (0, 0)), (w.heap.size + 1, .cells (QV q) 28 (0, 0)), (w.heap.size + 1 + 1, .cells QZ 28 (0, 0)), (w.heap.size + 1 + 1 + 1, .cells (QV s) 28 (0, 0))]) := F
      go_wp2_with (first | (refine wpList_load_row rfl 28 _ rfl (w.heap.size + 1 + 1 + 1) rfl _ _ _ 20 (F.out.at 3 rfl) (QV_size s) Tryd.underlying28 rfl infoQ ?_; simp only [Act.put, List.setIfInBounds_toArray, List.set_cons_zero, List.set_cons_succ]) | (refine wpList_store_row rfl 28 _ _ rfl (w.heap.size + 1 + 1) rfl _ _ rfl _ 20 (F.out.at 2 rfl) QZ_size (QV_size s) infoQ (QV_one s) ?_; simp only [Act.put]))
      have F := Lib.hid (Fr.setR (l1 := [(w.heap.size, .cells (QV p) 28 (0, 0)), (w.heap.size + 1, .cells (QV q) 28 (0, 0))]) (l2 := [(w.heap.size + 1 + 1 + 1, .cells (QV s) 28 (0, 0))]) F.out (by simp; omega) (QV s))
      have h0 := F.out.at 2 rfl
      refine bodyPost_ret (v := .agg (QV s)) (results_row Tryd.results20 rfl h0 (QV_size s) Tryd.underlying28 rfl infoQ) rfl ⟨rfl, F.out.t⟩
    · have ik : (0 : Int) ≤ k := by omega
      have ik2 : (k : Int) < 10 := by omega
      go_upto_region 5 with (fail)
      refine wp_region_pass (by kernel_rfl) 21 [(2, .pointer (some ⟨w.heap.size, 0, none⟩)), (3, .pointer (some ⟨w.heap.size + 1, 0, none⟩)), (5, .pointer (some ⟨w.heap.size + 1 + 1 + 1, 0, none⟩)), (6, .int .i64 (k : Int))] [.is (.int .i64 (k : Int)), .is (.int .i64 (k : Int)), .is (.pointer (some ⟨w.heap.size, k * 2, none⟩)), .is (.agg #[.bool (sgz (p k)), .string (moz (p k))]), .is (.int .i64 (k : Int)), .is (.pointer (some ⟨w.heap.size + 1, k * 2, none⟩)), .is (.agg #[.bool (sgz (q k)), .string (moz (q k))]), .is (.agg #[.bool (sgz (s k)), .string (moz (s k))]), .is (.pointer (some ⟨w.heap.size + 1 + 1 + 1, k * 2, none⟩)), .none] #[true, true, true, true, true, true, true, true, true, false] 1 (fun b => [(11, .int .i64 (k : Int)), (12, .int .i64 (k : Int)), (13, .pointer (some ⟨w.heap.size, k * 2, none⟩)), (14, .agg #[.bool (sgz (p k)), .string (moz (p k))]), (15, .int .i64 (k : Int)), (16, .pointer (some ⟨w.heap.size + 1, k * 2, none⟩)), (17, .agg #[.bool (sgz (q k)), .string (moz (q k))]), (18, .agg #[.bool (sgz (s k)), .string (moz (s k))]), (19, .pointer (some ⟨w.heap.size + 1 + 1 + 1, k * 2, none⟩))]) (by kernel_rfl) rfl (List.forall_mem_cons.2 ⟨rfl, (List.forall_mem_cons.2 ⟨rfl, (List.forall_mem_cons.2 ⟨rfl, (List.forall_mem_cons.2 ⟨rfl, (fun _ h => by cases h)⟩)⟩)⟩)⟩) (fun b => by kernel_rfl) (fun A hok HN hold => ?pass) (fun b wx hT hB => ?rest)
      case pass =>
        refine lt_cases (n := 9) (fun _ _ _ h => absurd h (by decide)) ?_
        refine lt_cases (n := 8) (fun listed a w' hp hJ hr => ?_) ?_
        · have F := Lib.hid (F.out.drew.keep hJ.t)
          have e5 := hJ.old 5 (v := .pointer (some ⟨w.heap.size + 1 + 1 + 1, 0, none⟩)) (by kernel_rfl) (hold (5, .pointer (some ⟨w.heap.size + 1 + 1 + 1, 0, none⟩)) (by simp))
          have f5 := eval_getD e5
          have e11 := hJ.val hr 0 11 (v := .int .i64 (k : Int)) (by kernel_rfl) (by kernel_rfl) rfl
          have f11 := eval_getD e11
          refine J_step rfl (wanted_none rfl _) (fun K hK => ?_)
          go_simp
          exact hK.out _ _ (hJ.isV hok HN hp hr rfl rfl (Tch.refl [] _))
        refine lt_cases (n := 7) (fun listed a w' hp hJ hr => ?_) ?_
        · have F := Lib.hid (F.out.drew.keep hJ.t)
          have e14 := hJ.val hr 3 14 (v := .agg #[.bool (sgz (p k)), .string (moz (p k))]) (by kernel_rfl) (by kernel_rfl) rfl
          have f14 := eval_getD e14
          have e17 := hJ.val hr 6 17 (v := .agg #[.bool (sgz (q k)), .string (moz (q k))]) (by kernel_rfl) (by kernel_rfl) rfl
          have f17 := eval_getD e17
          refine J_step rfl (wanted_none rfl _) (fun K hK => ?_)
          go_simp
          refine (C.out k hk _).mono ?_
          rintro e w6 ⟨rfl, hT⟩
          exact hK.out _ _ (hJ.isV hok HN hp hr rfl rfl hT)
        refine lt_cases (n := 6) (fun listed a w' hp hJ hr => ?_) ?_
        · have F := Lib.hid (F.out.drew.keep hJ.t)
          have e16 := hJ.val hr 5 16 (v := .pointer (some ⟨w.heap.size + 1, k * 2, none⟩)) (by kernel_rfl) (by kernel_rfl) rfl
          have f16 := eval_getD e16
          have c0 := F.out.cell 1 (k * 2) rfl (QV_cell q k hk).1
          have c1 := F.out.cell 1 (k * 2 + 1) rfl (QV_cell q k hk).2
          refine J_step rfl (wanted_none rfl _) (fun K hK => ?_)
          go_simp
          exact hK.out _ _ (hJ.isV hok HN hp hr rfl rfl (Tch.refl [] _))
        refine lt_cases (n := 5) (fun listed a w' hp hJ hr => ?_) ?_
        · have F := Lib.hid (F.out.drew.keep hJ.t)
          have e3 := hJ.old 3 (v := .pointer (some ⟨w.heap.size + 1, 0, none⟩)) (by kernel_rfl) (hold (3, .pointer (some ⟨w.heap.size + 1, 0, none⟩)) (by simp))
          have f3 := eval_getD e3
          have e15 := hJ.val hr 4 15 (v := .int .i64 (k : Int)) (by kernel_rfl) (by kernel_rfl) rfl
          have f15 := eval_getD e15
          refine J_step rfl (wanted_none rfl _) (fun K hK => ?_)
          go_simp
          exact hK.out _ _ (hJ.isV hok HN hp hr rfl rfl (Tch.refl [] _))
        refine lt_cases (n := 4) (fun listed a w' hp hJ hr => ?_) ?_
        · have F := Lib.hid (F.out.drew.keep hJ.t)
          have e6 := hJ.old 6 (v := .int .i64 (k : Int)) (by kernel_rfl) (hold (6, .int .i64 (k : Int)) (by simp))
          have f6 := eval_getD e6
          refine J_step rfl (wanted_none rfl _) (fun K hK => ?_)
          go_simp
          exact hK.out _ _ (hJ.isV hok HN hp hr rfl rfl (Tch.refl [] _))
        refine lt_cases (n := 3) (fun listed a w' hp hJ hr => ?_) ?_
        · have F := Lib.hid (F.out.drew.keep hJ.t)
          have e13 := hJ.val hr 2 13 (v := .pointer (some ⟨w.heap.size, k * 2, none⟩)) (by kernel_rfl) (by kernel_rfl) rfl
          have f13 := eval_getD e13
          have c0 := F.out.cell 0 (k * 2) rfl (QV_cell p k hk).1
          have c1 := F.out.cell 0 (k * 2 + 1) rfl (QV_cell p k hk).2
          refine J_step rfl (wanted_none rfl _) (fun K hK => ?_)
          go_simp
          exact hK.out _ _ (hJ.isV hok HN hp hr rfl rfl (Tch.refl [] _))
        refine lt_cases (n := 2) (fun listed a w' hp hJ hr => ?_) ?_
        · have F := Lib.hid (F.out.drew.keep hJ.t)
          have e2 := hJ.old 2 (v := .pointer (some ⟨w.heap.size, 0, none⟩)) (by kernel_rfl) (hold (2, .pointer (some ⟨w.heap.size, 0, none⟩)) (by simp))
          have f2 := eval_getD e2
          have e12 := hJ.val hr 1 12 (v := .int .i64 (k : Int)) (by kernel_rfl) (by kernel_rfl) rfl
          have f12 := eval_getD e12
          refine J_step rfl (wanted_none rfl _) (fun K hK => ?_)
          go_simp
          exact hK.out _ _ (hJ.isV hok HN hp hr rfl rfl (Tch.refl [] _))
        refine lt_cases (n := 1) (fun listed a w' hp hJ hr => ?_) ?_
        · have F := Lib.hid (F.out.drew.keep hJ.t)
          have e6 := hJ.old 6 (v := .int .i64 (k : Int)) (by kernel_rfl) (hold (6, .int .i64 (k : Int)) (by simp))
          have f6 := eval_getD e6
          refine J_step rfl (wanted_none rfl _) (fun K hK => ?_)
          go_simp
          exact hK.out _ _ (hJ.isV hok HN hp hr rfl rfl (Tch.refl [] _))
        refine lt_cases (n := 0) (fun listed a w' hp hJ hr => ?_) ?_
        · have F := Lib.hid (F.out.drew.keep hJ.t)
          have e6 := hJ.old 6 (v := .int .i64 (k : Int)) (by kernel_rfl) (hold (6, .int .i64 (k : Int)) (by simp))
          have f6 := eval_getD e6
          refine J_step rfl (wanted_none rfl _) (fun K hK => ?_)
          go_simp
          exact hK.out _ _ (hJ.isV hok HN hp hr rfl rfl (Tch.refl [] _))
        exact lt_none
      case rest =>
        have F := Lib.hid (F.out.drew.keep hT)
        simp only [putAll, List.foldl, Act.put, List.setIfInBounds_toArray, List.set_cons_zero, List.set_cons_succ]
        have c0 := F.out.cell 3 (k * 2) rfl (qst_old s k hk).1
        have c1 := F.out.cell 3 (k * 2 + 1) rfl (qst_old s k hk).2
        have g0 := F.out.frozen 3 (k * 2) rfl
        have g1 := F.out.frozen 3 (k * 2 + 1) rfl
        refine wpAny_ready (rs := [9]) (by kernel_rfl) (by simp) ?_
        refine AllReady.cons rfl (fun K hK0 => ?_) AllReady.nil
        have hK := Lib.hid hK0
        clear hK0
        go_simp
        refine hK.out _ _ ?_
        clear hK K
        refine wpAny_end (by kernel_rfl) ?_
        go_wp2
        go_roundw
        case rel =>
          have h := ((Fr.setC (l1 := [(w.heap.size, .cells (QV p) 28 (0, 0)), (w.heap.size + 1, .cells (QV q) 28 (0, 0)), (w.heap.size + 1 + 1, .cells QZ 28 (0, 0))]) (l2 := []) F.out (by simp; omega) (k * 2) (.bool (sgz (s k)))).setC (l1 := [(w.heap.size, .cells (QV p) 28 (0, 0)), (w.heap.size + 1, .cells (QV q) 28 (0, 0)), (w.heap.size + 1 + 1, .cells QZ 28 (0, 0))]) (l2 := []) (by simp; omega) (k * 2 + 1) (.string (moz (s k))))
          rw [qst_step s k hk] at h
          exact ⟨k + 1, by omega, by go_num, Lib.hid h⟩
        case measure => simp [intOf]; omega

end Go.Proofs.YtmpfgkpimjiecaaDoor
