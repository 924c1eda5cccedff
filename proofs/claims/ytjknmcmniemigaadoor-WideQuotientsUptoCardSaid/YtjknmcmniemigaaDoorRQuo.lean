/- lithophaneref01.Quo. -/
import Derived.Test.YtjknmcmniemigaaDoorOver
import Derived.Test.YtjknmcmniemigaaDoorRWide
namespace Go.Proofs.YtjknmcmniemigaaDoor
open Go.RowKit Dg

theorem zval_zero (b : Bool) (n : Nat) : zval b n = 0 ↔ n = 0 := by have := natAbs_zval b n; omega

set_option maxHeartbeats 8000000 in
set_option maxRecDepth 100000 in
theorem rQuo {na nb : Bool} {sa sc : ByteArray} {x y : Int} (hx : Rep 1000 na sa x) (hy : Rep 1000 nb sc y) (w : World) :
    Calls Tryd.prog 58 #[.agg #[.bool na, .string sa], .agg #[.bool nb, .string sc]] w fun e w' => e = .returned (zquoV x y) ∧ Tch [] w w' := by
  obtain ⟨X, hX⟩ : ∃ X, X = digs 65536 (bv (sb sa)) := ⟨_, rfl⟩
  obtain ⟨Y, hY⟩ : ∃ Y, Y = digs 65536 (bv (sb sc)) := ⟨_, rfl⟩
  have c1 := fun w1 => rdigits na sa w1 (by have := hx.size; omega)
  have c2 := fun w1 => rdigits nb sc w1 (by have := hy.size; omega)
  rw [← hX] at c1
  rw [← hY] at c2
  have C1 := Lib.hid c1
  have C2 := Lib.hid c2
  have HXo : Hid (Ok 65536 X) := Lib.hid (by rw [hX]; exact digs_ok (by decide) _)
  have HYo : Hid (Ok 65536 Y) := Lib.hid (by rw [hY]; exact digs_ok (by decide) _)
  have HYt : Hid (Trim Y) := Lib.hid (by rw [hY]; exact digs_trim (by decide) _)
  have HXl : Hid (X.length ≤ 1000) := Lib.hid (by rw [hX]; exact Nat.le_trans (digs_len_size sa) hx.size)
  have HYl : Hid (Y.length ≤ 1000) := Lib.hid (by rw [hY]; exact Nat.le_trans (digs_len_size sc) hy.size)
  have HXv : Hid (dg 65536 X = bv (sb sa)) := Lib.hid (by rw [hX, dg_digs (by decide)])
  have HYv : Hid (dg 65536 Y = bv (sb sc)) := Lib.hid (by rw [hY, dg_digs (by decide)])
  have F0 := (((((Fr.nil w).add (.cells #[.bool na, .string sa] 27) (w.heap.size) rfl).add (.cells #[.bool nb, .string sc] 27) (w.heap.size + 1) (by simp)).add (.cells #[.bool false, .string ⟨#[]⟩] 27) (w.heap.size + 1 + 1) (by simp)).add (.cells #[.bool false, .string ⟨#[]⟩] 27) (w.heap.size + 1 + 1 + 1) (by simp))
  obtain ⟨w0, l, hw0, G0, SF0, RB0⟩ : ∃ w0 l, w0 = ((((w.alloc (.cells #[.bool na, .string sa] 27)).alloc (.cells #[.bool nb, .string sc] 27)).alloc (.cells #[.bool false, .string ⟨#[]⟩] 27)).alloc (.cells #[.bool false, .string ⟨#[]⟩] 27)) ∧ Fr w w0 l ∧ (∀ w3, Fr w w3 l → w3.cell? ⟨w.heap.size, 0, none⟩ = some (.bool na) ∧ w3.cell? ⟨w.heap.size, 1, none⟩ = some (.string sa) ∧ w3.cell? ⟨w.heap.size + 1, 0, none⟩ = some (.bool nb) ∧ w3.cell? ⟨w.heap.size + 1, 1, none⟩ = some (.string sc)) ∧ (∀ w3, Fr w w3 l → Fr w w3 [(w.heap.size + 1 + 1, .cells #[.bool false, .string ⟨#[]⟩] 27 (0, 0)), (w.heap.size + 1 + 1 + 1, .cells #[.bool false, .string ⟨#[]⟩] 27 (0, 0))]) :=
    ⟨_, _, rfl, F0, fun w3 F => ⟨F.cell 0 0 rfl rfl, F.cell 0 1 rfl rfl, F.cell 1 0 rfl rfl, F.cell 1 1 rfl rfl⟩,
      fun w3 F => ⟨fun p hp => F.row p (by simp only [List.mem_cons, List.not_mem_nil, or_false] at hp; rcases hp with rfl | rfl <;> simp), fun p hp => F.new p (by simp only [List.mem_cons, List.not_mem_nil, or_false] at hp; rcases hp with rfl | rfl <;> simp), F.t⟩⟩
  have ST2 : Hid (∀ (w3 : World) u v, (w3.cell? ⟨w.heap.size, 0, none⟩ = some (.bool na) ∧ w3.cell? ⟨w.heap.size, 1, none⟩ = some (.string sa) ∧ w3.cell? ⟨w.heap.size + 1, 0, none⟩ = some (.bool nb) ∧ w3.cell? ⟨w.heap.size + 1, 1, none⟩ = some (.string sc)) → ((w3.setCell ⟨w.heap.size + 1 + 1, 0, none⟩ u).setCell ⟨w.heap.size + 1 + 1, 1, none⟩ v).cell? ⟨w.heap.size, 0, none⟩ = some (.bool na) ∧ ((w3.setCell ⟨w.heap.size + 1 + 1, 0, none⟩ u).setCell ⟨w.heap.size + 1 + 1, 1, none⟩ v).cell? ⟨w.heap.size, 1, none⟩ = some (.string sa) ∧ ((w3.setCell ⟨w.heap.size + 1 + 1, 0, none⟩ u).setCell ⟨w.heap.size + 1 + 1, 1, none⟩ v).cell? ⟨w.heap.size + 1, 0, none⟩ = some (.bool nb) ∧ ((w3.setCell ⟨w.heap.size + 1 + 1, 0, none⟩ u).setCell ⟨w.heap.size + 1 + 1, 1, none⟩ v).cell? ⟨w.heap.size + 1, 1, none⟩ = some (.string sc)) := Lib.hid (fun w3 u v ⟨h0, h1, h2, h3⟩ => ⟨by rw [World.cell?_setCell_other _ _ _ _ (by simp), World.cell?_setCell_other _ _ _ _ (by simp)]; exact h0, by rw [World.cell?_setCell_other _ _ _ _ (by simp), World.cell?_setCell_other _ _ _ _ (by simp)]; exact h1, by rw [World.cell?_setCell_other _ _ _ _ (by simp), World.cell?_setCell_other _ _ _ _ (by simp)]; exact h2, by rw [World.cell?_setCell_other _ _ _ _ (by simp), World.cell?_setCell_other _ _ _ _ (by simp)]; exact h3⟩)
  have ST3 : Hid (∀ (w3 : World) u v, (w3.cell? ⟨w.heap.size, 0, none⟩ = some (.bool na) ∧ w3.cell? ⟨w.heap.size, 1, none⟩ = some (.string sa) ∧ w3.cell? ⟨w.heap.size + 1, 0, none⟩ = some (.bool nb) ∧ w3.cell? ⟨w.heap.size + 1, 1, none⟩ = some (.string sc)) → ((w3.setCell ⟨w.heap.size + 1 + 1 + 1, 0, none⟩ u).setCell ⟨w.heap.size + 1 + 1 + 1, 1, none⟩ v).cell? ⟨w.heap.size, 0, none⟩ = some (.bool na) ∧ ((w3.setCell ⟨w.heap.size + 1 + 1 + 1, 0, none⟩ u).setCell ⟨w.heap.size + 1 + 1 + 1, 1, none⟩ v).cell? ⟨w.heap.size, 1, none⟩ = some (.string sa) ∧ ((w3.setCell ⟨w.heap.size + 1 + 1 + 1, 0, none⟩ u).setCell ⟨w.heap.size + 1 + 1 + 1, 1, none⟩ v).cell? ⟨w.heap.size + 1, 0, none⟩ = some (.bool nb) ∧ ((w3.setCell ⟨w.heap.size + 1 + 1 + 1, 0, none⟩ u).setCell ⟨w.heap.size + 1 + 1 + 1, 1, none⟩ v).cell? ⟨w.heap.size + 1, 1, none⟩ = some (.string sc)) := Lib.hid (fun w3 u v ⟨h0, h1, h2, h3⟩ => ⟨by rw [World.cell?_setCell_other _ _ _ _ (by simp), World.cell?_setCell_other _ _ _ _ (by simp)]; exact h0, by rw [World.cell?_setCell_other _ _ _ _ (by simp), World.cell?_setCell_other _ _ _ _ (by simp)]; exact h1, by rw [World.cell?_setCell_other _ _ _ _ (by simp), World.cell?_setCell_other _ _ _ _ (by simp)]; exact h2, by rw [World.cell?_setCell_other _ _ _ _ (by simp), World.cell?_setCell_other _ _ _ _ (by simp)]; exact h3⟩)
  have F1 := Lib.hid G0
  have SF := Lib.hid SF0
  have RB := Lib.hid RB0
  have HW := Lib.hid hw0
  clear F0 G0 SF0 RB0 hw0 hX hY c1 c2
  by_cases h0 : y = 0
  · have hb0 : bv (sb sc) = 0 := (zval_zero nb _).1 (by rw [hy.val, h0])
    have hYn : Y = [] := by
      have h1 := HYv.out
      rw [hb0] at h1
      have h2 := digs_dg (b := 65536) (by decide) HYo.out HYt.out
      rw [h1, digs_zero] at h2
      exact h2.symm
    have HV : Hid (zquoV x y = .tuple #[.agg #[.bool false, .string ⟨#[]⟩], .agg #[.bool false, .string ⟨#[]⟩], .bool false]) := Lib.hid (by unfold zquoV; rw [if_pos h0])
    subst hYn
    clear hx hy h0 hb0
    go_enter Tryd.func58, Tryd.ntmps58
    go_wp2_with fail
    rw [← HW.out]
    refine (C2.out _).mono ?_
    rintro e w3 ⟨⟨v2, rfl, hR2⟩, hT⟩
    obtain ⟨A2, k2, rfl, _⟩ := Rd.of_row hR2 (Nat.le_refl _)
    have F3 := Lib.hid (F1.out.keep hT)
    obtain ⟨r0, r1⟩ := (RB.out _ F3.out).two 0 rfl
    obtain ⟨t0, t1⟩ := (RB.out _ F3.out).fro2 0 rfl
    obtain ⟨r2, r3⟩ := (RB.out _ F3.out).two 1 rfl
    obtain ⟨t2, t3⟩ := (RB.out _ F3.out).fro2 1 rfl
    clear hT hR2
    go_wp2
    refine bodyPost_ret (v := .tuple #[.agg #[.bool false, .string ⟨#[]⟩], .agg #[.bool false, .string ⟨#[]⟩], .bool false]) (by simp [results, Tryd.results58, go_sem, r0, r1, r2, r3]) rfl ⟨by rw [HV.out], ?_⟩
    exact (((RB.out _ F3.out).fin2 0 rfl _ _).setCell (.inr (by simp; omega)) _).setCell (.inr (by simp; omega)) _
  · have hb0 : bv (sb sc) ≠ 0 := fun h => h0 (by rw [← hy.val, (zval_zero nb _).2 h])
    have HY0 : Hid (0 < dg 65536 Y) := Lib.hid (by rw [HYv.out]; omega)
    have hYl : 0 < Y.length := by
      rcases Nat.eq_zero_or_pos Y.length with h | h
      · have h1 := HYv.out
        rw [List.eq_nil_of_length_eq_zero h] at h1
        exact absurd h1.symm hb0
      · exact h
    have hYb : ((Y.length : Int) == 0) = false := beq_eq_false_iff_ne.2 (by omega)
    obtain ⟨bq, sq, eq⟩ : ∃ b s, wz (x.tdiv y) = .agg #[.bool b, .string s] := ⟨_, _, wz_mo _⟩
    obtain ⟨br, sr, er⟩ : ∃ b s, wz (x.tmod y) = .agg #[.bool b, .string s] := ⟨_, _, wz_mo _⟩
    have HV : Hid (zquoV x y = .tuple #[.agg #[.bool bq, .string sq], .agg #[.bool br, .string sr], .bool true]) := Lib.hid (by unfold zquoV; rw [if_neg h0, eq, er])
    have HQ : Hid (wv (!(na == nb)) (dg 65536 X / dg 65536 Y) = .agg #[.bool bq, .string sq]) := Lib.hid (by rw [HXv.out, HYv.out, wv_wz, div_sign, hx.val, hy.val, eq])
    have HR : Hid (wv na (dg 65536 X % dg 65536 Y) = .agg #[.bool br, .string sr]) := Lib.hid (by rw [HXv.out, HYv.out, wv_wz, mod_sign na nb, hx.val, hy.val, er])
    have HQl : Hid ((digs 65536 (dg 65536 X / dg 65536 Y)).length ≤ 1000000) := Lib.hid (by
      have h1 := digs_len_mono (Nat.div_le_self (dg 65536 X) (dg 65536 Y))
      have h2 := digs_length_le (b := 65536) (by decide) (dg_lt HXo.out)
      have := HXl.out; omega)
    have HRl : Hid ((digs 65536 (dg 65536 X % dg 65536 Y)).length ≤ 1000000) := Lib.hid (by
      have h1 := digs_len_mono (Nat.mod_le (dg 65536 X) (dg 65536 Y))
      have h2 := digs_length_le (b := 65536) (by decide) (dg_lt HXo.out)
      have := HXl.out; omega)
    clear hx hy h0 hb0 eq er
    go_enter Tryd.func58, Tryd.ntmps58
    go_wp2_with fail
    rw [← HW.out]
    refine (C2.out _).mono ?_
    rintro e w3 ⟨⟨v2, rfl, hR2⟩, hT⟩
    obtain ⟨A2, k2, rfl, hD2⟩ := Rd.of_row hR2 (Nat.le_refl _)
    have F3 := Lib.hid (F1.out.keep hT)
    have HD2 := Lib.hid hD2
    obtain ⟨a0, a1, a2, a3⟩ := SF.out _ F3.out
    clear hT hR2 hD2
    go_wp2_with fail
    refine (C1.out _).mono ?_
    rintro e w4 ⟨⟨v1, rfl, hR1⟩, hT⟩
    obtain ⟨A1, k1, rfl, hD1⟩ := Rd.of_row hR1 (Nat.le_refl _)
    have F3 := Lib.hid (F3.out.keep hT)
    have HD1 := Lib.hid hD1
    have HD2 := Lib.hid (HD2.out.up (HD2.out.kept hT (by simp)) hT.size)
    clear hT hR1 hD1 a0 a1 a2 a3
    go_wp2_with fail
    refine (rover A1 A2 k1 k2 X Y _ HD1.out HD2.out HXo.out HYo.out HYt.out HY0.out (by have := HXl.out; omega) (by have := HYl.out; omega)).mono ?_
    rintro e w5 ⟨⟨v3, v4, rfl, hR3, hR4⟩, hT⟩
    have F3 := Lib.hid (F3.out.keep hT)
    have CW1 := Lib.hid (fun w' (t : Tch [] w5 w') => rwide (!(na == nb)) (dg 65536 X / dg 65536 Y) v3 w' (hR3.kept t) HQl.out)
    have CW2 := Lib.hid (fun w' (t : Tch [] w5 w') => rwide na (dg 65536 X % dg 65536 Y) v4 w' (hR4.kept t) HRl.out)
    rw [HQ.out] at CW1
    rw [HR.out] at CW2
    have HT := Lib.hid ((Tch.refl [] w5).drew)
    clear hT hR3 hR4
    go_wp2_with fail
    go_region_held3 (fun w3 => w3.cell? ⟨w.heap.size, 0, none⟩ = some (.bool na) ∧ w3.cell? ⟨w.heap.size, 1, none⟩ = some (.string sa) ∧ w3.cell? ⟨w.heap.size + 1, 0, none⟩ = some (.bool nb) ∧ w3.cell? ⟨w.heap.size + 1, 1, none⟩ = some (.string sc)) (first | with_reducible exact SF.out _ F4.out | with_reducible exact SF.out _ F3.out.drew | with_reducible exact ST2.out _ _ _ (by assumption) | with_reducible exact ST3.out _ _ _ (by assumption)) (first
      | (go_at_call 49; (first | (with_reducible refine (CW1.out _ HT.out).mono ?_) | (with_reducible refine (CW2.out _ HT.out).mono ?_)); rintro e w6 ⟨rfl, hT⟩; (first | (with_reducible have F4 := Lib.hid (F4.out.keep hT)) | (with_reducible have F4 := Lib.hid (F3.out.drew.keep hT))); have HT := Lib.hid (HT.out.trans hT (by simp)); (try clear r0 r1 r2 r3 t0 t1 t2 t3); obtain ⟨r0, r1⟩ := (RB.out _ F4.out).two 0 rfl; obtain ⟨t0, t1⟩ := (RB.out _ F4.out).fro2 0 rfl; obtain ⟨r2, r3⟩ := (RB.out _ F4.out).two 1 rfl; obtain ⟨t2, t3⟩ := (RB.out _ F4.out).fro2 1 rfl; clear hT))
    all_goals go_wp2
    all_goals refine bodyPost_ret (v := .tuple #[.agg #[.bool bq, .string sq], .agg #[.bool br, .string sr], .bool true]) (by simp [results, Tryd.results58, go_sem, r0, r1, r2, r3]) rfl ⟨by rw [HV.out], ?_⟩
    all_goals first
      | exact (((RB.out _ F4.out).fin2 0 rfl _ _).setCell (.inr (by simp; omega)) _).setCell (.inr (by simp; omega)) _
      | exact (((RB.out _ F4.out).fin2 1 rfl _ _).setCell (.inr (by simp; omega)) _).setCell (.inr (by simp; omega)) _

end Go.Proofs.YtjknmcmniemigaaDoor
