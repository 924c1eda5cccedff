/- lithophaneref01.Add. -/
import Derived.Test.YtgbdfpapnpjhcaaDoorRef
import Derived.Test.YtgbdfpapnpjhcaaDoorPlus
import Derived.Deep.RegionHeld3
namespace Go.Proofs.YtgbdfpapnpjhcaaDoor
open Go.RowKit Dg

theorem digs_len_le {p q : Nat} (h : q ≤ p) : (digs 65536 q).length ≤ (digs 65536 p).length := by
  have h1 := dg_lt (b := 65536) (digs_ok (by decide) p)
  rw [dg_digs (by decide)] at h1
  exact digs_length_le (by decide) (by omega)

theorem zval_same (b : Bool) (p q : Nat) : zval b (p + q) = zval b p + zval b q := by
  unfold zval; cases b <;> simp <;> omega

theorem zval_less (b c : Bool) (p q : Nat) (hn : (b == c) = false) (h : q ≤ p) : zval b (p - q) = zval b p + zval c q := by
  unfold zval; cases b <;> cases c <;> simp at hn ⊢ <;> omega

theorem zval_more (b c : Bool) (p q : Nat) (hn : (b == c) = false) (h : p ≤ q) : zval c (q - p) = zval b p + zval c q := by
  unfold zval; cases b <;> cases c <;> simp at hn ⊢ <;> omega

set_option maxHeartbeats 4000000 in
set_option maxRecDepth 100000 in
theorem rAddEq {na nb : Bool} {sa sc : ByteArray} {x y : Int} (hx : Rep 1000 na sa x) (hy : Rep 1000 nb sc y) (hb : (na == nb) = true) (w : World) :
    Calls Tryd.prog 24 #[.agg #[.bool na, .string sa], .agg #[.bool nb, .string sc]] w fun e w' => e = .returned (wz (x + y)) ∧ Tch [] w w' := by
  have hV : wv na (bv (sb sa) + bv (sb sc)) = wz (x + y) := by
    have h1 : na = nb := by simpa using hb
    subst h1
    rw [wv_wz, zval_same, hx.val, hy.val]
  obtain ⟨X, hX⟩ : ∃ X, X = digs 65536 (bv (sb sa)) := ⟨_, rfl⟩
  obtain ⟨Y, hY⟩ : ∃ Y, Y = digs 65536 (bv (sb sc)) := ⟨_, rfl⟩
  have c1 := fun w1 => rdigits na sa w1 (by have := hx.size; omega)
  have c2 := fun w1 => rdigits nb sc w1 (by have := hy.size; omega)
  rw [← hX] at c1
  rw [← hY] at c2
  have C1 := Lib.hid c1
  have C2 := Lib.hid c2
  have HXo : Hid (Ok 65536 X) := Lib.hid (by rw [hX]; exact digs_ok (by decide) _)
  have HYo : Hid (Ok 65536 Y) := Lib.hid (by rw [hY]; exact digs_ok (by decide) _)
  have HXt : Hid (Trim X) := Lib.hid (by rw [hX]; exact digs_trim (by decide) _)
  have HYt : Hid (Trim Y) := Lib.hid (by rw [hY]; exact digs_trim (by decide) _)
  have HXl : Hid (X.length ≤ 1000) := Lib.hid (by rw [hX]; exact Nat.le_trans (digs_len_size sa) hx.size)
  have HYl : Hid (Y.length ≤ 1000) := Lib.hid (by rw [hY]; exact Nat.le_trans (digs_len_size sc) hy.size)
  have eX : dg 65536 X = bv (sb sa) := by rw [hX, dg_digs (by decide)]
  have eY : dg 65536 Y = bv (sb sc) := by rw [hY, dg_digs (by decide)]
  rw [← eX, ← eY] at hV
  obtain ⟨br, sr, er⟩ : ∃ b s, wz (x + y) = .agg #[.bool b, .string s] := ⟨_, _, wz_mo _⟩
  rw [er] at hV
  have HV := Lib.hid hV
  have ER := Lib.hid er
  have F0 := (((Fr.nil w).add (.cells #[.bool na, .string sa] 47) w.heap.size rfl).add (.cells #[.bool nb, .string sc] 47) (w.heap.size + 1) (by simp)).add (.cells #[.bool false, .string ⟨#[]⟩] 47) (w.heap.size + 1 + 1) (by simp)
  obtain ⟨w0, l, hw0, G0, SF0, ST0, RB0⟩ : ∃ w0 l, w0 = (((w.alloc (.cells #[.bool na, .string sa] 47)).alloc (.cells #[.bool nb, .string sc] 47)).alloc (.cells #[.bool false, .string ⟨#[]⟩] 47)) ∧ Fr w w0 l ∧
      (∀ w3, Fr w w3 l → w3.cell? ⟨w.heap.size, 0, none⟩ = some (.bool na) ∧ w3.cell? ⟨w.heap.size, 1, none⟩ = some (.string sa) ∧ w3.cell? ⟨w.heap.size + 1, 0, none⟩ = some (.bool nb) ∧ w3.cell? ⟨w.heap.size + 1, 1, none⟩ = some (.string sc)) ∧
      (∀ w3, Fr w w3 l → ∀ u v, ((w3.setCell ⟨w.heap.size + 1 + 1, 0, none⟩ u).setCell ⟨w.heap.size + 1 + 1, 1, none⟩ v).cell? ⟨w.heap.size, 0, none⟩ = some (.bool na) ∧ ((w3.setCell ⟨w.heap.size + 1 + 1, 0, none⟩ u).setCell ⟨w.heap.size + 1 + 1, 1, none⟩ v).cell? ⟨w.heap.size, 1, none⟩ = some (.string sa) ∧ ((w3.setCell ⟨w.heap.size + 1 + 1, 0, none⟩ u).setCell ⟨w.heap.size + 1 + 1, 1, none⟩ v).cell? ⟨w.heap.size + 1, 0, none⟩ = some (.bool nb) ∧ ((w3.setCell ⟨w.heap.size + 1 + 1, 0, none⟩ u).setCell ⟨w.heap.size + 1 + 1, 1, none⟩ v).cell? ⟨w.heap.size + 1, 1, none⟩ = some (.string sc)) ∧
      (∀ w3, Fr w w3 l → Fr w w3 [(w.heap.size + 1 + 1, .cells #[.bool false, .string ⟨#[]⟩] 47 (0, 0))]) :=
    ⟨_, _, rfl, F0, fun w3 F => ⟨F.cell 0 0 rfl rfl, F.cell 0 1 rfl rfl, F.cell 1 0 rfl rfl, F.cell 1 1 rfl rfl⟩,
      fun w3 F u v => ⟨by rw [World.cell?_setCell_other _ _ _ _ (by simp), World.cell?_setCell_other _ _ _ _ (by simp)]; exact F.cell 0 0 rfl rfl, by rw [World.cell?_setCell_other _ _ _ _ (by simp), World.cell?_setCell_other _ _ _ _ (by simp)]; exact F.cell 0 1 rfl rfl, by rw [World.cell?_setCell_other _ _ _ _ (by simp), World.cell?_setCell_other _ _ _ _ (by simp)]; exact F.cell 1 0 rfl rfl, by rw [World.cell?_setCell_other _ _ _ _ (by simp), World.cell?_setCell_other _ _ _ _ (by simp)]; exact F.cell 1 1 rfl rfl⟩,
      fun w3 F => ⟨fun p hp => F.row p (by rw [List.mem_singleton] at hp; subst hp; simp), fun p hp => F.new p (by rw [List.mem_singleton] at hp; subst hp; simp), F.t⟩⟩
  have F1 := Lib.hid G0
  have SF := Lib.hid SF0
  have RB := Lib.hid RB0
  have ST := Lib.hid ST0
  have HW := Lib.hid hw0
  clear F0 G0 SF0 ST0 RB0 hw0 hX hY c1 c2 hV er eX eY hx hy
  go_enter Tryd.func24, Tryd.ntmps24
  go_wp2_with fail
  refine (C1.out _).mono ?_
  rintro e w3 ⟨⟨v1, rfl, hR1⟩, hT⟩
  rw [← HW.out] at hT hR1
  have F3 := Lib.hid (F1.out.keep hT)
  obtain ⟨A1, k1, rfl, hD1⟩ := Rd.of_row hR1 (Nat.le_refl _)
  have HD1 := Lib.hid hD1
  clear hT hR1 hD1
  obtain ⟨a0, a1, b0, b1⟩ := SF.out _ F3.out
  go_wp2_with fail
  refine (C2.out _).mono ?_
  rintro e w4 ⟨⟨v2, rfl, hR2⟩, hT⟩
  have F4 := Lib.hid (F3.out.keep hT)
  obtain ⟨A2, k2, rfl, hD2⟩ := Rd.of_row hR2 (Nat.le_refl _)
  have HD2 := Lib.hid hD2
  have HD3 := Lib.hid (HD1.out.up (HD1.out.kept hT (by simp)) hT.size)
  clear hT hR2 hD2 a0 a1 b0 b1 F3 HD1
  obtain ⟨a0, a1, b0, b1⟩ := SF.out _ F4.out
  have HD2d : Hid (Rd w4.drew.heap.size w4.drew A2 Y) := Lib.hid (HD2.out.up (HD2.out.kept (Tch.refl [] w4).drew (by simp)) (Nat.le_refl _))
  have HD3d : Hid (Rd w4.drew.heap.size w4.drew A1 X) := Lib.hid (HD3.out.up (HD3.out.kept (Tch.refl [] w4).drew (by simp)) (Nat.le_refl _))
  go_wp2
  go_region_held3 (fun w3 => w3.cell? ⟨w.heap.size, 0, none⟩ = some (.bool na) ∧ w3.cell? ⟨w.heap.size, 1, none⟩ = some (.string sa) ∧ w3.cell? ⟨w.heap.size + 1, 0, none⟩ = some (.bool nb) ∧ w3.cell? ⟨w.heap.size + 1, 1, none⟩ = some (.string sc)) (first | with_reducible exact SF.out _ F5.out | exact SF.out _ F4.out | exact SF.out _ F4.out.drew | exact ST.out _ F5.out _ _) (first
    | (go_at_call 45; refine (rplus A1 A2 k1 k2 X Y _ HD3d.out HD2d.out HXo.out HYo.out (by have := HXl.out; omega) (by have := HYl.out; omega)).mono ?_; rintro e w5 ⟨⟨v3, rfl, zs, hR3, hO3, hl3, hd3⟩, hT⟩; have F5 := Lib.hid (F4.out.drew.keep hT); have HR3 := Lib.hid hR3; have HO3 := Lib.hid hO3; have HL3 : Hid (zs.length ≤ 200001) := Lib.hid (by have := HXl.out; have := HYl.out; omega); have HD5 := Lib.hid hd3; clear hT hR3 hO3 hl3 hd3)
    | (go_at_call 42; refine (rwideAny na zs v3 _ HR3.out HO3.out (by have := HL3.out; omega)).mono ?_; rw [HD5.out]; rw [HV.out]; rintro e w6 ⟨rfl, hT⟩; have F5 := Lib.hid (F5.out.keep hT); obtain ⟨r0, r1⟩ := (RB.out _ F5.out).two 0 rfl; obtain ⟨t0, t1⟩ := (RB.out _ F5.out).fro2 0 rfl; clear hT))
  go_wp2
  refine bodyPost_ret (v := .agg #[.bool br, .string sr]) (by simp [results, Tryd.results24, go_sem, r0, r1]) rfl ⟨by rw [ER.out], ?_⟩
  exact (RB.out _ F5.out).fin2 0 rfl _ _

set_option maxHeartbeats 4000000 in
set_option maxRecDepth 100000 in
theorem rAddGe {na nb : Bool} {sa sc : ByteArray} {x y : Int} (hx : Rep 1000 na sa x) (hy : Rep 1000 nb sc y) (hb : (na == nb) = false) (hle : bv (sb sc) ≤ bv (sb sa)) (w : World) :
    Calls Tryd.prog 24 #[.agg #[.bool na, .string sa], .agg #[.bool nb, .string sc]] w fun e w' => e = .returned (wz (x + y)) ∧ Tch [] w w' := by
  have hV : wv na (bv (sb sa) - bv (sb sc)) = wz (x + y) := by rw [wv_wz, zval_less na nb _ _ hb hle, hx.val, hy.val]
  obtain ⟨X, hX⟩ : ∃ X, X = digs 65536 (bv (sb sa)) := ⟨_, rfl⟩
  obtain ⟨Y, hY⟩ : ∃ Y, Y = digs 65536 (bv (sb sc)) := ⟨_, rfl⟩
  have c1 := fun w1 => rdigits na sa w1 (by have := hx.size; omega)
  have c2 := fun w1 => rdigits nb sc w1 (by have := hy.size; omega)
  rw [← hX] at c1
  rw [← hY] at c2
  have C1 := Lib.hid c1
  have C2 := Lib.hid c2
  have HXo : Hid (Ok 65536 X) := Lib.hid (by rw [hX]; exact digs_ok (by decide) _)
  have HYo : Hid (Ok 65536 Y) := Lib.hid (by rw [hY]; exact digs_ok (by decide) _)
  have HXt : Hid (Trim X) := Lib.hid (by rw [hX]; exact digs_trim (by decide) _)
  have HYt : Hid (Trim Y) := Lib.hid (by rw [hY]; exact digs_trim (by decide) _)
  have HXl : Hid (X.length ≤ 1000) := Lib.hid (by rw [hX]; exact Nat.le_trans (digs_len_size sa) hx.size)
  have HYl : Hid (Y.length ≤ 1000) := Lib.hid (by rw [hY]; exact Nat.le_trans (digs_len_size sc) hy.size)
  have eX : dg 65536 X = bv (sb sa) := by rw [hX, dg_digs (by decide)]
  have eY : dg 65536 Y = bv (sb sc) := by rw [hY, dg_digs (by decide)]
  rw [← eX, ← eY] at hV
  obtain ⟨br, sr, er⟩ : ∃ b s, wz (x + y) = .agg #[.bool b, .string s] := ⟨_, _, wz_mo _⟩
  rw [er] at hV
  have HV := Lib.hid hV
  have ER := Lib.hid er
  have F0 := (((Fr.nil w).add (.cells #[.bool na, .string sa] 47) w.heap.size rfl).add (.cells #[.bool nb, .string sc] 47) (w.heap.size + 1) (by simp)).add (.cells #[.bool false, .string ⟨#[]⟩] 47) (w.heap.size + 1 + 1) (by simp)
  obtain ⟨w0, l, hw0, G0, SF0, ST0, RB0⟩ : ∃ w0 l, w0 = (((w.alloc (.cells #[.bool na, .string sa] 47)).alloc (.cells #[.bool nb, .string sc] 47)).alloc (.cells #[.bool false, .string ⟨#[]⟩] 47)) ∧ Fr w w0 l ∧
      (∀ w3, Fr w w3 l → w3.cell? ⟨w.heap.size, 0, none⟩ = some (.bool na) ∧ w3.cell? ⟨w.heap.size, 1, none⟩ = some (.string sa) ∧ w3.cell? ⟨w.heap.size + 1, 0, none⟩ = some (.bool nb) ∧ w3.cell? ⟨w.heap.size + 1, 1, none⟩ = some (.string sc)) ∧
      (∀ w3, Fr w w3 l → ∀ u v, ((w3.setCell ⟨w.heap.size + 1 + 1, 0, none⟩ u).setCell ⟨w.heap.size + 1 + 1, 1, none⟩ v).cell? ⟨w.heap.size, 0, none⟩ = some (.bool na) ∧ ((w3.setCell ⟨w.heap.size + 1 + 1, 0, none⟩ u).setCell ⟨w.heap.size + 1 + 1, 1, none⟩ v).cell? ⟨w.heap.size, 1, none⟩ = some (.string sa) ∧ ((w3.setCell ⟨w.heap.size + 1 + 1, 0, none⟩ u).setCell ⟨w.heap.size + 1 + 1, 1, none⟩ v).cell? ⟨w.heap.size + 1, 0, none⟩ = some (.bool nb) ∧ ((w3.setCell ⟨w.heap.size + 1 + 1, 0, none⟩ u).setCell ⟨w.heap.size + 1 + 1, 1, none⟩ v).cell? ⟨w.heap.size + 1, 1, none⟩ = some (.string sc)) ∧
      (∀ w3, Fr w w3 l → Fr w w3 [(w.heap.size + 1 + 1, .cells #[.bool false, .string ⟨#[]⟩] 47 (0, 0))]) :=
    ⟨_, _, rfl, F0, fun w3 F => ⟨F.cell 0 0 rfl rfl, F.cell 0 1 rfl rfl, F.cell 1 0 rfl rfl, F.cell 1 1 rfl rfl⟩,
      fun w3 F u v => ⟨by rw [World.cell?_setCell_other _ _ _ _ (by simp), World.cell?_setCell_other _ _ _ _ (by simp)]; exact F.cell 0 0 rfl rfl, by rw [World.cell?_setCell_other _ _ _ _ (by simp), World.cell?_setCell_other _ _ _ _ (by simp)]; exact F.cell 0 1 rfl rfl, by rw [World.cell?_setCell_other _ _ _ _ (by simp), World.cell?_setCell_other _ _ _ _ (by simp)]; exact F.cell 1 0 rfl rfl, by rw [World.cell?_setCell_other _ _ _ _ (by simp), World.cell?_setCell_other _ _ _ _ (by simp)]; exact F.cell 1 1 rfl rfl⟩,
      fun w3 F => ⟨fun p hp => F.row p (by rw [List.mem_singleton] at hp; subst hp; simp), fun p hp => F.new p (by rw [List.mem_singleton] at hp; subst hp; simp), F.t⟩⟩
  have F1 := Lib.hid G0
  have SF := Lib.hid SF0
  have RB := Lib.hid RB0
  have ST := Lib.hid ST0
  have HW := Lib.hid hw0
  have HLe : Hid (dg 65536 Y ≤ dg 65536 X) := Lib.hid (by rw [eX, eY]; exact hle)
  have HLen : Hid (Y.length ≤ X.length) := Lib.hid (by rw [hX, hY]; exact digs_len_le hle)
  have HPl : Hid ((digs 65536 (dg 65536 X - dg 65536 Y)).length ≤ 1000000) := Lib.hid (by
    have h1 := digs_len_le (show dg 65536 X - dg 65536 Y ≤ bv (sb sa) by rw [eX]; omega)
    rw [← hX] at h1
    have := HXl.out; omega)
  clear hle
  clear F0 G0 SF0 ST0 RB0 hw0 hX hY c1 c2 hV er eX eY hx hy
  go_enter Tryd.func24, Tryd.ntmps24
  go_wp2_with fail
  refine (C1.out _).mono ?_
  rintro e w3 ⟨⟨v1, rfl, hR1⟩, hT⟩
  rw [← HW.out] at hT hR1
  have F3 := Lib.hid (F1.out.keep hT)
  obtain ⟨A1, k1, rfl, hD1⟩ := Rd.of_row hR1 (Nat.le_refl _)
  have HD1 := Lib.hid hD1
  clear hT hR1 hD1
  obtain ⟨a0, a1, b0, b1⟩ := SF.out _ F3.out
  go_wp2_with fail
  refine (C2.out _).mono ?_
  rintro e w4 ⟨⟨v2, rfl, hR2⟩, hT⟩
  have F4 := Lib.hid (F3.out.keep hT)
  obtain ⟨A2, k2, rfl, hD2⟩ := Rd.of_row hR2 (Nat.le_refl _)
  have HD2 := Lib.hid hD2
  have HD3 := Lib.hid (HD1.out.up (HD1.out.kept hT (by simp)) hT.size)
  clear hT hR2 hD2 a0 a1 b0 b1 F3 HD1
  obtain ⟨a0, a1, b0, b1⟩ := SF.out _ F4.out
  obtain ⟨z, hz⟩ : ∃ z, z = cmpI (dg 65536 X : Int) (dg 65536 Y : Int) := ⟨_, rfl⟩
  have c3 := fun w1 (p : Rd w1.heap.size w1 A1 X) (q : Rd w1.heap.size w1 A2 Y) => rcompare A1 A2 k1 k2 X Y w1 p q HXo.out HYo.out HXt.out HYt.out (by have := HXl.out; omega)
  rw [← hz] at c3
  have C3 := Lib.hid c3
  have hz0 := show ¬ z < 0 by rw [hz]; have := HLe.out; unfold cmpI; split <;> first | omega | (split <;> omega)
  clear c3 hz
  go_wp2_with fail
  refine (C3.out _ HD3.out HD2.out).mono ?_
  rintro e w8 ⟨rfl, hT⟩
  have HD2 := Lib.hid (HD2.out.up (HD2.out.kept hT (by simp)) hT.size)
  have HD3 := Lib.hid (HD3.out.up (HD3.out.kept hT (by simp)) hT.size)
  have F4 := Lib.hid (F4.out.keep hT)
  clear hT a0 a1 b0 b1
  obtain ⟨a0, a1, b0, b1⟩ := SF.out _ F4.out
  go_wp2
  have HD2d : Hid (Rd w8.drew.heap.size w8.drew A2 Y) := Lib.hid (HD2.out.up (HD2.out.kept (Tch.refl [] w8).drew (by simp)) (Nat.le_refl _))
  have HD3d : Hid (Rd w8.drew.heap.size w8.drew A1 X) := Lib.hid (HD3.out.up (HD3.out.kept (Tch.refl [] w8).drew (by simp)) (Nat.le_refl _))
  go_region_held3 (fun w3 => w3.cell? ⟨w.heap.size, 0, none⟩ = some (.bool na) ∧ w3.cell? ⟨w.heap.size, 1, none⟩ = some (.string sa) ∧ w3.cell? ⟨w.heap.size + 1, 0, none⟩ = some (.bool nb) ∧ w3.cell? ⟨w.heap.size + 1, 1, none⟩ = some (.string sc)) (first | with_reducible exact SF.out _ F5.out | exact SF.out _ F4.out | exact SF.out _ F4.out.drew | exact ST.out _ F5.out _ _) (first
    | (go_at_call 47; refine (rminus A1 A2 k1 k2 X Y _ HD3d.out HD2d.out HXo.out HYo.out (by have := HXl.out; have := HYl.out; omega) HLen.out HLe.out).mono ?_; rintro e w5 ⟨⟨v3, rfl, hR3⟩, hT⟩; have F5 := Lib.hid (F4.out.drew.keep hT); have HR3 := Lib.hid hR3; clear hT hR3)
    | (go_at_call 42; refine (rwide na (dg 65536 X - dg 65536 Y) v3 _ HR3.out HPl.out).mono ?_; rw [HV.out]; rintro e w6 ⟨rfl, hT⟩; have F5 := Lib.hid (F5.out.keep hT); obtain ⟨r0, r1⟩ := (RB.out _ F5.out).two 0 rfl; obtain ⟨t0, t1⟩ := (RB.out _ F5.out).fro2 0 rfl; clear hT))
  go_wp2
  refine bodyPost_ret (v := .agg #[.bool br, .string sr]) (by simp [results, Tryd.results24, go_sem, r0, r1]) rfl ⟨by rw [ER.out], ?_⟩
  exact (RB.out _ F5.out).fin2 0 rfl _ _

set_option maxHeartbeats 4000000 in
set_option maxRecDepth 100000 in
theorem rAddLt {na nb : Bool} {sa sc : ByteArray} {x y : Int} (hx : Rep 1000 na sa x) (hy : Rep 1000 nb sc y) (hb : (na == nb) = false) (hle : bv (sb sa) < bv (sb sc)) (w : World) :
    Calls Tryd.prog 24 #[.agg #[.bool na, .string sa], .agg #[.bool nb, .string sc]] w fun e w' => e = .returned (wz (x + y)) ∧ Tch [] w w' := by
  have hV : wv nb (bv (sb sc) - bv (sb sa)) = wz (x + y) := by rw [wv_wz, zval_more na nb _ _ hb (Nat.le_of_lt hle), hx.val, hy.val]
  obtain ⟨X, hX⟩ : ∃ X, X = digs 65536 (bv (sb sa)) := ⟨_, rfl⟩
  obtain ⟨Y, hY⟩ : ∃ Y, Y = digs 65536 (bv (sb sc)) := ⟨_, rfl⟩
  have c1 := fun w1 => rdigits na sa w1 (by have := hx.size; omega)
  have c2 := fun w1 => rdigits nb sc w1 (by have := hy.size; omega)
  rw [← hX] at c1
  rw [← hY] at c2
  have C1 := Lib.hid c1
  have C2 := Lib.hid c2
  have HXo : Hid (Ok 65536 X) := Lib.hid (by rw [hX]; exact digs_ok (by decide) _)
  have HYo : Hid (Ok 65536 Y) := Lib.hid (by rw [hY]; exact digs_ok (by decide) _)
  have HXt : Hid (Trim X) := Lib.hid (by rw [hX]; exact digs_trim (by decide) _)
  have HYt : Hid (Trim Y) := Lib.hid (by rw [hY]; exact digs_trim (by decide) _)
  have HXl : Hid (X.length ≤ 1000) := Lib.hid (by rw [hX]; exact Nat.le_trans (digs_len_size sa) hx.size)
  have HYl : Hid (Y.length ≤ 1000) := Lib.hid (by rw [hY]; exact Nat.le_trans (digs_len_size sc) hy.size)
  have eX : dg 65536 X = bv (sb sa) := by rw [hX, dg_digs (by decide)]
  have eY : dg 65536 Y = bv (sb sc) := by rw [hY, dg_digs (by decide)]
  rw [← eX, ← eY] at hV
  obtain ⟨br, sr, er⟩ : ∃ b s, wz (x + y) = .agg #[.bool b, .string s] := ⟨_, _, wz_mo _⟩
  rw [er] at hV
  have HV := Lib.hid hV
  have ER := Lib.hid er
  have F0 := (((Fr.nil w).add (.cells #[.bool na, .string sa] 47) w.heap.size rfl).add (.cells #[.bool nb, .string sc] 47) (w.heap.size + 1) (by simp)).add (.cells #[.bool false, .string ⟨#[]⟩] 47) (w.heap.size + 1 + 1) (by simp)
  obtain ⟨w0, l, hw0, G0, SF0, ST0, RB0⟩ : ∃ w0 l, w0 = (((w.alloc (.cells #[.bool na, .string sa] 47)).alloc (.cells #[.bool nb, .string sc] 47)).alloc (.cells #[.bool false, .string ⟨#[]⟩] 47)) ∧ Fr w w0 l ∧
      (∀ w3, Fr w w3 l → w3.cell? ⟨w.heap.size, 0, none⟩ = some (.bool na) ∧ w3.cell? ⟨w.heap.size, 1, none⟩ = some (.string sa) ∧ w3.cell? ⟨w.heap.size + 1, 0, none⟩ = some (.bool nb) ∧ w3.cell? ⟨w.heap.size + 1, 1, none⟩ = some (.string sc)) ∧
      (∀ w3, Fr w w3 l → ∀ u v, ((w3.setCell ⟨w.heap.size + 1 + 1, 0, none⟩ u).setCell ⟨w.heap.size + 1 + 1, 1, none⟩ v).cell? ⟨w.heap.size, 0, none⟩ = some (.bool na) ∧ ((w3.setCell ⟨w.heap.size + 1 + 1, 0, none⟩ u).setCell ⟨w.heap.size + 1 + 1, 1, none⟩ v).cell? ⟨w.heap.size, 1, none⟩ = some (.string sa) ∧ ((w3.setCell ⟨w.heap.size + 1 + 1, 0, none⟩ u).setCell ⟨w.heap.size + 1 + 1, 1, none⟩ v).cell? ⟨w.heap.size + 1, 0, none⟩ = some (.bool nb) ∧ ((w3.setCell ⟨w.heap.size + 1 + 1, 0, none⟩ u).setCell ⟨w.heap.size + 1 + 1, 1, none⟩ v).cell? ⟨w.heap.size + 1, 1, none⟩ = some (.string sc)) ∧
      (∀ w3, Fr w w3 l → Fr w w3 [(w.heap.size + 1 + 1, .cells #[.bool false, .string ⟨#[]⟩] 47 (0, 0))]) :=
    ⟨_, _, rfl, F0, fun w3 F => ⟨F.cell 0 0 rfl rfl, F.cell 0 1 rfl rfl, F.cell 1 0 rfl rfl, F.cell 1 1 rfl rfl⟩,
      fun w3 F u v => ⟨by rw [World.cell?_setCell_other _ _ _ _ (by simp), World.cell?_setCell_other _ _ _ _ (by simp)]; exact F.cell 0 0 rfl rfl, by rw [World.cell?_setCell_other _ _ _ _ (by simp), World.cell?_setCell_other _ _ _ _ (by simp)]; exact F.cell 0 1 rfl rfl, by rw [World.cell?_setCell_other _ _ _ _ (by simp), World.cell?_setCell_other _ _ _ _ (by simp)]; exact F.cell 1 0 rfl rfl, by rw [World.cell?_setCell_other _ _ _ _ (by simp), World.cell?_setCell_other _ _ _ _ (by simp)]; exact F.cell 1 1 rfl rfl⟩,
      fun w3 F => ⟨fun p hp => F.row p (by rw [List.mem_singleton] at hp; subst hp; simp), fun p hp => F.new p (by rw [List.mem_singleton] at hp; subst hp; simp), F.t⟩⟩
  have F1 := Lib.hid G0
  have SF := Lib.hid SF0
  have RB := Lib.hid RB0
  have ST := Lib.hid ST0
  have HW := Lib.hid hw0
  have HLt : Hid (dg 65536 X < dg 65536 Y) := Lib.hid (by rw [eX, eY]; exact hle)
  have HLe : Hid (dg 65536 X ≤ dg 65536 Y) := Lib.hid (Nat.le_of_lt HLt.out)
  have HLen : Hid (X.length ≤ Y.length) := Lib.hid (by rw [hX, hY]; exact digs_len_le (Nat.le_of_lt hle))
  have HPl : Hid ((digs 65536 (dg 65536 Y - dg 65536 X)).length ≤ 1000000) := Lib.hid (by
    have h1 := digs_len_le (show dg 65536 Y - dg 65536 X ≤ bv (sb sc) by rw [eY]; omega)
    rw [← hY] at h1
    have := HYl.out; omega)
  clear hle
  clear F0 G0 SF0 ST0 RB0 hw0 hX hY c1 c2 hV er eX eY hx hy
  go_enter Tryd.func24, Tryd.ntmps24
  go_wp2_with fail
  refine (C1.out _).mono ?_
  rintro e w3 ⟨⟨v1, rfl, hR1⟩, hT⟩
  rw [← HW.out] at hT hR1
  have F3 := Lib.hid (F1.out.keep hT)
  obtain ⟨A1, k1, rfl, hD1⟩ := Rd.of_row hR1 (Nat.le_refl _)
  have HD1 := Lib.hid hD1
  clear hT hR1 hD1
  obtain ⟨a0, a1, b0, b1⟩ := SF.out _ F3.out
  go_wp2_with fail
  refine (C2.out _).mono ?_
  rintro e w4 ⟨⟨v2, rfl, hR2⟩, hT⟩
  have F4 := Lib.hid (F3.out.keep hT)
  obtain ⟨A2, k2, rfl, hD2⟩ := Rd.of_row hR2 (Nat.le_refl _)
  have HD2 := Lib.hid hD2
  have HD3 := Lib.hid (HD1.out.up (HD1.out.kept hT (by simp)) hT.size)
  clear hT hR2 hD2 a0 a1 b0 b1 F3 HD1
  obtain ⟨a0, a1, b0, b1⟩ := SF.out _ F4.out
  obtain ⟨z, hz⟩ : ∃ z, z = cmpI (dg 65536 X : Int) (dg 65536 Y : Int) := ⟨_, rfl⟩
  have c3 := fun w1 (p : Rd w1.heap.size w1 A1 X) (q : Rd w1.heap.size w1 A2 Y) => rcompare A1 A2 k1 k2 X Y w1 p q HXo.out HYo.out HXt.out HYt.out (by have := HXl.out; omega)
  rw [← hz] at c3
  have C3 := Lib.hid c3
  have hz0 := show z < 0 by rw [hz]; have := HLt.out; unfold cmpI; split <;> first | omega | (split <;> omega)
  clear c3 hz
  go_wp2_with fail
  refine (C3.out _ HD3.out HD2.out).mono ?_
  rintro e w8 ⟨rfl, hT⟩
  have HD2 := Lib.hid (HD2.out.up (HD2.out.kept hT (by simp)) hT.size)
  have HD3 := Lib.hid (HD3.out.up (HD3.out.kept hT (by simp)) hT.size)
  have F4 := Lib.hid (F4.out.keep hT)
  clear hT a0 a1 b0 b1
  obtain ⟨a0, a1, b0, b1⟩ := SF.out _ F4.out
  go_wp2
  have HD2d : Hid (Rd w8.drew.heap.size w8.drew A2 Y) := Lib.hid (HD2.out.up (HD2.out.kept (Tch.refl [] w8).drew (by simp)) (Nat.le_refl _))
  have HD3d : Hid (Rd w8.drew.heap.size w8.drew A1 X) := Lib.hid (HD3.out.up (HD3.out.kept (Tch.refl [] w8).drew (by simp)) (Nat.le_refl _))
  go_region_held3 (fun w3 => w3.cell? ⟨w.heap.size, 0, none⟩ = some (.bool na) ∧ w3.cell? ⟨w.heap.size, 1, none⟩ = some (.string sa) ∧ w3.cell? ⟨w.heap.size + 1, 0, none⟩ = some (.bool nb) ∧ w3.cell? ⟨w.heap.size + 1, 1, none⟩ = some (.string sc)) (first | with_reducible exact SF.out _ F5.out | exact SF.out _ F4.out | exact SF.out _ F4.out.drew | exact ST.out _ F5.out _ _) (first
    | (go_at_call 47; refine (rminus A2 A1 k2 k1 Y X _ HD2d.out HD3d.out HYo.out HXo.out (by have := HXl.out; have := HYl.out; omega) HLen.out HLe.out).mono ?_; rintro e w5 ⟨⟨v3, rfl, hR3⟩, hT⟩; have F5 := Lib.hid (F4.out.drew.keep hT); have HR3 := Lib.hid hR3; clear hT hR3)
    | (go_at_call 42; refine (rwide nb (dg 65536 Y - dg 65536 X) v3 _ HR3.out HPl.out).mono ?_; rw [HV.out]; rintro e w6 ⟨rfl, hT⟩; have F5 := Lib.hid (F5.out.keep hT); obtain ⟨r0, r1⟩ := (RB.out _ F5.out).two 0 rfl; obtain ⟨t0, t1⟩ := (RB.out _ F5.out).fro2 0 rfl; clear hT))
  go_wp2
  refine bodyPost_ret (v := .agg #[.bool br, .string sr]) (by simp [results, Tryd.results24, go_sem, r0, r1]) rfl ⟨by rw [ER.out], ?_⟩
  exact (RB.out _ F5.out).fin2 0 rfl _ _

theorem rAdd {na nb : Bool} {sa sc : ByteArray} {x y : Int} (hx : Rep 1000 na sa x) (hy : Rep 1000 nb sc y) (w : World) :
    Calls Tryd.prog 24 #[.agg #[.bool na, .string sa], .agg #[.bool nb, .string sc]] w fun e w' => e = .returned (wz (x + y)) ∧ Tch [] w w' := by
  cases hb : (na == nb) with
  | true => exact rAddEq hx hy hb w
  | false =>
    by_cases hle : bv (sb sc) ≤ bv (sb sa)
    · exact rAddGe hx hy hb hle w
    · exact rAddLt hx hy hb (by omega) w

end Go.Proofs.YtgbdfpapnpjhcaaDoor

/- lithophaneref01.Sign, lithophaneref01.Neg. -/
namespace Go.Proofs.YtgbdfpapnpjhcaaDoor
open Go.RowKit Dg

set_option maxHeartbeats 4000000 in
set_option maxRecDepth 100000 in
theorem rNeg {na : Bool} {sa : ByteArray} {x : Int} (hx : Rep 1000 na sa x) (w : World) :
    Calls Tryd.prog 25 #[.agg #[.bool na, .string sa]] w fun e w' => e = .returned (wz (-x)) ∧ Tch [] w w' := by
  have hV : wv (!na) (bv (sb sa)) = wz (-x) := by rw [wv_wz, zval_not, hx.val]
  have C1 := Lib.hid (fun w1 => rdigits na sa w1 (by have := hx.size; omega))
  have HPl : Hid ((digs 65536 (bv (sb sa))).length ≤ 1000000) := Lib.hid (by have h1 := digs_len_size sa; have := hx.size; omega)
  obtain ⟨br, sr, er⟩ : ∃ b s, wz (-x) = .agg #[.bool b, .string s] := ⟨_, _, wz_mo _⟩
  rw [er] at hV
  have HV := Lib.hid hV
  have ER := Lib.hid er
  have F0 := ((Fr.nil w).add (.cells #[.bool na, .string sa] 47) w.heap.size rfl).add (.cells #[.bool false, .string ⟨#[]⟩] 47) (w.heap.size + 1) (by simp)
  obtain ⟨w0, l, hw0, G0, SF0, ST0, RB0⟩ : ∃ w0 l, w0 = ((w.alloc (.cells #[.bool na, .string sa] 47)).alloc (.cells #[.bool false, .string ⟨#[]⟩] 47)) ∧ Fr w w0 l ∧
      (∀ w3, Fr w w3 l → w3.cell? ⟨w.heap.size, 0, none⟩ = some (.bool na) ∧ w3.cell? ⟨w.heap.size, 1, none⟩ = some (.string sa)) ∧
      (∀ w3, Fr w w3 l → ∀ u v, ((w3.setCell ⟨w.heap.size + 1, 0, none⟩ u).setCell ⟨w.heap.size + 1, 1, none⟩ v).cell? ⟨w.heap.size, 0, none⟩ = some (.bool na) ∧ ((w3.setCell ⟨w.heap.size + 1, 0, none⟩ u).setCell ⟨w.heap.size + 1, 1, none⟩ v).cell? ⟨w.heap.size, 1, none⟩ = some (.string sa)) ∧
      (∀ w3, Fr w w3 l → Fr w w3 [(w.heap.size + 1, .cells #[.bool false, .string ⟨#[]⟩] 47 (0, 0))]) :=
    ⟨_, _, rfl, F0, fun w3 F => ⟨F.cell 0 0 rfl rfl, F.cell 0 1 rfl rfl⟩,
      fun w3 F u v => ⟨by rw [World.cell?_setCell_other _ _ _ _ (by simp), World.cell?_setCell_other _ _ _ _ (by simp)]; exact F.cell 0 0 rfl rfl, by rw [World.cell?_setCell_other _ _ _ _ (by simp), World.cell?_setCell_other _ _ _ _ (by simp)]; exact F.cell 0 1 rfl rfl⟩,
      fun w3 F => ⟨fun p hp => F.row p (by rw [List.mem_singleton] at hp; subst hp; simp), fun p hp => F.new p (by rw [List.mem_singleton] at hp; subst hp; simp), F.t⟩⟩
  have F1 := Lib.hid G0
  have SF := Lib.hid SF0
  have RB := Lib.hid RB0
  have ST := Lib.hid ST0
  have HW := Lib.hid hw0
  clear F0 G0 SF0 ST0 RB0 hw0 hV er hx
  go_enter Tryd.func25, Tryd.ntmps25
  go_wp2_with fail
  rw [← HW.out]
  go_region_held3 (fun w3 => w3.cell? ⟨w.heap.size, 0, none⟩ = some (.bool na) ∧ w3.cell? ⟨w.heap.size, 1, none⟩ = some (.string sa)) (first | with_reducible exact SF.out _ F3.out | exact SF.out _ F1.out | exact SF.out _ F1.out.drew | exact ST.out _ F3.out _ _) (first
    | (go_at_call 44; refine (C1.out _).mono ?_; rintro e w3 ⟨⟨v1, rfl, hR1⟩, hT⟩; have F3 := Lib.hid (F1.out.drew.keep hT); have HR1 := Lib.hid hR1; clear hT hR1)
    | (go_at_call 42; refine (rwide (!na) (bv (sb sa)) v1 _ HR1.out HPl.out).mono ?_; rw [HV.out]; rintro e w6 ⟨rfl, hT⟩; have F3 := Lib.hid (F3.out.keep hT); obtain ⟨r0, r1⟩ := (RB.out _ F3.out).two 0 rfl; obtain ⟨t0, t1⟩ := (RB.out _ F3.out).fro2 0 rfl; clear hT))
  go_wp2
  refine bodyPost_ret (v := .agg #[.bool br, .string sr]) (by simp [results, Tryd.results25, go_sem, r0, r1]) rfl ⟨by rw [ER.out], ?_⟩
  exact (RB.out _ F3.out).fin2 0 rfl _ _

end Go.Proofs.YtgbdfpapnpjhcaaDoor

/- lithophaneref01.Sub. -/
namespace Go.Proofs.YtgbdfpapnpjhcaaDoor
open Go.RowKit Dg

set_option maxHeartbeats 4000000 in
set_option maxRecDepth 100000 in
theorem rSub {na nb : Bool} {sa sc : ByteArray} {x y : Int} (hx : Rep 1000 na sa x) (hy : Rep 1000 nb sc y) (w : World) :
    Calls Tryd.prog 22 #[.agg #[.bool na, .string sa], .agg #[.bool nb, .string sc]] w fun e w' => e = .returned (wz (x - y)) ∧ Tch [] w w' := by
  obtain ⟨bn, sn, en⟩ : ∃ b s, wz (-y) = .agg #[.bool b, .string s] := ⟨_, _, wz_mo _⟩
  have rn : Rep 1000 bn sn (-y) := Rep.of_wz en (by rw [Int.natAbs_neg]; exact hy.lt)
  obtain ⟨br, sr, er⟩ : ∃ b s, wz (x - y) = .agg #[.bool b, .string s] := ⟨_, _, wz_mo _⟩
  have c1 := fun w1 => rNeg hy w1
  rw [en] at c1
  have c2 := fun w1 => rAdd hx rn w1
  rw [show x + -y = x - y from by omega, er] at c2
  have C1 := Lib.hid c1
  have C2 := Lib.hid c2
  have ER := Lib.hid er
  have F0 := (((Fr.nil w).add (.cells #[.bool na, .string sa] 47) w.heap.size rfl).add (.cells #[.bool nb, .string sc] 47) (w.heap.size + 1) (by simp)).add (.cells #[.bool false, .string ⟨#[]⟩] 47) (w.heap.size + 1 + 1) (by simp)
  obtain ⟨w0, l, hw0, G0, SF0, ST0, RB0⟩ : ∃ w0 l, w0 = (((w.alloc (.cells #[.bool na, .string sa] 47)).alloc (.cells #[.bool nb, .string sc] 47)).alloc (.cells #[.bool false, .string ⟨#[]⟩] 47)) ∧ Fr w w0 l ∧
      (∀ w3, Fr w w3 l → w3.cell? ⟨w.heap.size, 0, none⟩ = some (.bool na) ∧ w3.cell? ⟨w.heap.size, 1, none⟩ = some (.string sa) ∧ w3.cell? ⟨w.heap.size + 1, 0, none⟩ = some (.bool nb) ∧ w3.cell? ⟨w.heap.size + 1, 1, none⟩ = some (.string sc)) ∧
      (∀ w3, Fr w w3 l → ∀ u v, ((w3.setCell ⟨w.heap.size + 1 + 1, 0, none⟩ u).setCell ⟨w.heap.size + 1 + 1, 1, none⟩ v).cell? ⟨w.heap.size, 0, none⟩ = some (.bool na) ∧ ((w3.setCell ⟨w.heap.size + 1 + 1, 0, none⟩ u).setCell ⟨w.heap.size + 1 + 1, 1, none⟩ v).cell? ⟨w.heap.size, 1, none⟩ = some (.string sa) ∧ ((w3.setCell ⟨w.heap.size + 1 + 1, 0, none⟩ u).setCell ⟨w.heap.size + 1 + 1, 1, none⟩ v).cell? ⟨w.heap.size + 1, 0, none⟩ = some (.bool nb) ∧ ((w3.setCell ⟨w.heap.size + 1 + 1, 0, none⟩ u).setCell ⟨w.heap.size + 1 + 1, 1, none⟩ v).cell? ⟨w.heap.size + 1, 1, none⟩ = some (.string sc)) ∧
      (∀ w3, Fr w w3 l → Fr w w3 [(w.heap.size + 1 + 1, .cells #[.bool false, .string ⟨#[]⟩] 47 (0, 0))]) :=
    ⟨_, _, rfl, F0, fun w3 F => ⟨F.cell 0 0 rfl rfl, F.cell 0 1 rfl rfl, F.cell 1 0 rfl rfl, F.cell 1 1 rfl rfl⟩,
      fun w3 F u v => ⟨by rw [World.cell?_setCell_other _ _ _ _ (by simp), World.cell?_setCell_other _ _ _ _ (by simp)]; exact F.cell 0 0 rfl rfl, by rw [World.cell?_setCell_other _ _ _ _ (by simp), World.cell?_setCell_other _ _ _ _ (by simp)]; exact F.cell 0 1 rfl rfl, by rw [World.cell?_setCell_other _ _ _ _ (by simp), World.cell?_setCell_other _ _ _ _ (by simp)]; exact F.cell 1 0 rfl rfl, by rw [World.cell?_setCell_other _ _ _ _ (by simp), World.cell?_setCell_other _ _ _ _ (by simp)]; exact F.cell 1 1 rfl rfl⟩,
      fun w3 F => ⟨fun p hp => F.row p (by rw [List.mem_singleton] at hp; subst hp; simp), fun p hp => F.new p (by rw [List.mem_singleton] at hp; subst hp; simp), F.t⟩⟩
  have F1 := Lib.hid G0
  have SF := Lib.hid SF0
  have RB := Lib.hid RB0
  have ST := Lib.hid ST0
  have HW := Lib.hid hw0
  clear c1 c2 en er rn hx hy F0 G0 SF0 ST0 RB0 hw0
  go_enter Tryd.func22, Tryd.ntmps22
  go_wp2_with fail
  rw [← HW.out]
  go_region_held3 (fun w3 => w3.cell? ⟨w.heap.size, 0, none⟩ = some (.bool na) ∧ w3.cell? ⟨w.heap.size, 1, none⟩ = some (.string sa) ∧ w3.cell? ⟨w.heap.size + 1, 0, none⟩ = some (.bool nb) ∧ w3.cell? ⟨w.heap.size + 1, 1, none⟩ = some (.string sc)) (first | with_reducible exact SF.out _ F3.out | exact SF.out _ F1.out | exact SF.out _ F1.out.drew | exact ST.out _ F3.out _ _) (first
    | (go_at_call 25; refine (C1.out _).mono ?_; rintro e w3 ⟨rfl, hT⟩; have F3 := Lib.hid (F1.out.drew.keep hT); clear hT)
    | (go_at_call 24; refine (C2.out _).mono ?_; rintro e w6 ⟨rfl, hT⟩; have F3 := Lib.hid (F3.out.keep hT); obtain ⟨r0, r1⟩ := (RB.out _ F3.out).two 0 rfl; obtain ⟨t0, t1⟩ := (RB.out _ F3.out).fro2 0 rfl; clear hT))
  go_wp2
  refine bodyPost_ret (v := .agg #[.bool br, .string sr]) (by simp [results, Tryd.results22, go_sem, r0, r1]) rfl ⟨by rw [ER.out], ?_⟩
  exact (RB.out _ F3.out).fin2 0 rfl _ _

end Go.Proofs.YtgbdfpapnpjhcaaDoor

/- lithophaneref01.Cmp. -/
namespace Go.Proofs.YtgbdfpapnpjhcaaDoor
open Go.RowKit Dg

end Go.Proofs.YtgbdfpapnpjhcaaDoor
