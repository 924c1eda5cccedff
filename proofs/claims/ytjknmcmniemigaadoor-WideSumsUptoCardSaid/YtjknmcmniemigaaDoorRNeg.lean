/- lithophaneref01.Sign, lithophaneref01.Neg. -/
import Derived.Test.YtjknmcmniemigaaDoorRef
import Derived.Deep.RegionHeld3
namespace Go.Proofs.YtjknmcmniemigaaDoor
open Go.RowKit Dg

set_option maxHeartbeats 4000000 in
set_option maxRecDepth 100000 in
theorem rSign {na : Bool} {sa : ByteArray} {x : Int} (hx : Rep 1000 na sa x) (w : World) :
    Calls Tryd.prog 21 #[.agg #[.bool na, .string sa]] w fun e w' => e = .returned (.int .i64 x.sign) ∧ Tch [] w w' := by
  have hs : sgn na (bv (sb sa)) = x.sign := by rw [sgn_zval, hx.val]
  have C1 := Lib.hid (fun w1 => rdigits na sa w1 (by have := hx.size; omega))
  have HS := Lib.hid hs
  by_cases h0 : bv (sb sa) = 0
  · have hd : digs 65536 (bv (sb sa)) = [] := by rw [h0, digs_zero]
    rw [hd] at C1
    have HE : Hid (x.sign = 0) := Lib.hid (by rw [← hs]; unfold sgn; rw [if_pos h0])
    clear hs h0 hd hx
    go_enter Tryd.func21, Tryd.ntmps21
    go_wp2_with fail
    refine (C1.out _).mono ?_
    rintro e w3 ⟨⟨v1, rfl, hR1⟩, hT⟩
    obtain ⟨A1, k1, rfl, _⟩ := Rd.of_row hR1 (Nat.le_refl _)
    have HT := Lib.hid (((Tch.refl [] w).alloc (.cells #[.bool na, .string sa] 27)).trans hT (by simp))
    clear hT hR1
    simp only [List.length_nil]
    go_wp2
    go_ret
    exact ⟨by rw [HE.out]; rfl, HT.out⟩
  · obtain ⟨X, hX⟩ : ∃ X, X = digs 65536 (bv (sb sa)) := ⟨_, rfl⟩
    have hXl : 0 < X.length := List.length_pos_iff.2 (by rw [hX]; exact fun h => h0 ((digs_eq_nil (b := 65536) (by decide)).1 h))
    have hXb : ((X.length : Int) == 0) = false := beq_eq_false_iff_ne.2 (by omega)
    rw [← hX] at C1
    have HE : Hid (x.sign = if na then -1 else 1) := Lib.hid (by rw [← hs]; unfold sgn; rw [if_neg h0])
    clear hs h0 hX hx HS
    cases na with
    | true =>
      go_enter Tryd.func21, Tryd.ntmps21
      go_wp2_with fail
      refine (C1.out _).mono ?_
      rintro e w3 ⟨⟨v1, rfl, hR1⟩, hT⟩
      obtain ⟨A1, k1, rfl, _⟩ := Rd.of_row hR1 (Nat.le_refl _)
      have hb := (hT.block w.heap.size (by simp) (by simp)).trans (Below.heap_alloc_new' w (.cells #[.bool true, .string sa] 27))
      have c0 : w3.cell? ⟨w.heap.size, 0, none⟩ = some (.bool true) := by rw [cell_of_row _ _ _ _ _ _ hb]; rfl
      have HT := Lib.hid (((Tch.refl [] w).alloc (.cells #[.bool true, .string sa] 27)).trans hT (by simp))
      clear hT hR1 hb
      go_wp2
      go_ret
      exact ⟨by rw [HE.out]; rfl, HT.out⟩
    | false =>
      go_enter Tryd.func21, Tryd.ntmps21
      go_wp2_with fail
      refine (C1.out _).mono ?_
      rintro e w3 ⟨⟨v1, rfl, hR1⟩, hT⟩
      obtain ⟨A1, k1, rfl, _⟩ := Rd.of_row hR1 (Nat.le_refl _)
      have hb := (hT.block w.heap.size (by simp) (by simp)).trans (Below.heap_alloc_new' w (.cells #[.bool false, .string sa] 27))
      have c0 : w3.cell? ⟨w.heap.size, 0, none⟩ = some (.bool false) := by rw [cell_of_row _ _ _ _ _ _ hb]; rfl
      have HT := Lib.hid (((Tch.refl [] w).alloc (.cells #[.bool false, .string sa] 27)).trans hT (by simp))
      clear hT hR1 hb
      go_wp2
      go_ret
      exact ⟨by rw [HE.out]; rfl, HT.out⟩

set_option maxHeartbeats 4000000 in
set_option maxRecDepth 100000 in
theorem rNeg {na : Bool} {sa : ByteArray} {x : Int} (hx : Rep 1000 na sa x) (w : World) :
    Calls Tryd.prog 19 #[.agg #[.bool na, .string sa]] w fun e w' => e = .returned (wz (-x)) ∧ Tch [] w w' := by
  have hV : wv (!na) (bv (sb sa)) = wz (-x) := by rw [wv_wz, zval_not, hx.val]
  have C1 := Lib.hid (fun w1 => rdigits na sa w1 (by have := hx.size; omega))
  have HPl : Hid ((digs 65536 (bv (sb sa))).length ≤ 1000000) := Lib.hid (by have h1 := digs_len_size sa; have := hx.size; omega)
  obtain ⟨br, sr, er⟩ : ∃ b s, wz (-x) = .agg #[.bool b, .string s] := ⟨_, _, wz_mo _⟩
  rw [er] at hV
  have HV := Lib.hid hV
  have ER := Lib.hid er
  have F0 := ((Fr.nil w).add (.cells #[.bool na, .string sa] 27) w.heap.size rfl).add (.cells #[.bool false, .string ⟨#[]⟩] 27) (w.heap.size + 1) (by simp)
  obtain ⟨w0, l, hw0, G0, SF0, ST0, RB0⟩ : ∃ w0 l, w0 = ((w.alloc (.cells #[.bool na, .string sa] 27)).alloc (.cells #[.bool false, .string ⟨#[]⟩] 27)) ∧ Fr w w0 l ∧
      (∀ w3, Fr w w3 l → w3.cell? ⟨w.heap.size, 0, none⟩ = some (.bool na) ∧ w3.cell? ⟨w.heap.size, 1, none⟩ = some (.string sa)) ∧
      (∀ w3, Fr w w3 l → ∀ u v, ((w3.setCell ⟨w.heap.size + 1, 0, none⟩ u).setCell ⟨w.heap.size + 1, 1, none⟩ v).cell? ⟨w.heap.size, 0, none⟩ = some (.bool na) ∧ ((w3.setCell ⟨w.heap.size + 1, 0, none⟩ u).setCell ⟨w.heap.size + 1, 1, none⟩ v).cell? ⟨w.heap.size, 1, none⟩ = some (.string sa)) ∧
      (∀ w3, Fr w w3 l → Fr w w3 [(w.heap.size + 1, .cells #[.bool false, .string ⟨#[]⟩] 27 (0, 0))]) :=
    ⟨_, _, rfl, F0, fun w3 F => ⟨F.cell 0 0 rfl rfl, F.cell 0 1 rfl rfl⟩,
      fun w3 F u v => ⟨by rw [World.cell?_setCell_other _ _ _ _ (by simp), World.cell?_setCell_other _ _ _ _ (by simp)]; exact F.cell 0 0 rfl rfl, by rw [World.cell?_setCell_other _ _ _ _ (by simp), World.cell?_setCell_other _ _ _ _ (by simp)]; exact F.cell 0 1 rfl rfl⟩,
      fun w3 F => ⟨fun p hp => F.row p (by rw [List.mem_singleton] at hp; subst hp; simp), fun p hp => F.new p (by rw [List.mem_singleton] at hp; subst hp; simp), F.t⟩⟩
  have F1 := Lib.hid G0
  have SF := Lib.hid SF0
  have RB := Lib.hid RB0
  have ST := Lib.hid ST0
  have HW := Lib.hid hw0
  clear F0 G0 SF0 ST0 RB0 hw0 hV er hx
  go_enter Tryd.func19, Tryd.ntmps19
  go_wp2_with fail
  rw [← HW.out]
  go_region_held3 (fun w3 => w3.cell? ⟨w.heap.size, 0, none⟩ = some (.bool na) ∧ w3.cell? ⟨w.heap.size, 1, none⟩ = some (.string sa)) (first | with_reducible exact SF.out _ F3.out | exact SF.out _ F1.out | exact SF.out _ F1.out.drew | exact ST.out _ F3.out _ _) (first
    | (go_at_call 48; refine (C1.out _).mono ?_; rintro e w3 ⟨⟨v1, rfl, hR1⟩, hT⟩; have F3 := Lib.hid (F1.out.drew.keep hT); have HR1 := Lib.hid hR1; clear hT hR1)
    | (go_at_call 49; refine (rwide (!na) (bv (sb sa)) v1 _ HR1.out HPl.out).mono ?_; rw [HV.out]; rintro e w6 ⟨rfl, hT⟩; have F3 := Lib.hid (F3.out.keep hT); obtain ⟨r0, r1⟩ := (RB.out _ F3.out).two 0 rfl; obtain ⟨t0, t1⟩ := (RB.out _ F3.out).fro2 0 rfl; clear hT))
  go_wp2
  refine bodyPost_ret (v := .agg #[.bool br, .string sr]) (by simp [results, Tryd.results19, go_sem, r0, r1]) rfl ⟨by rw [ER.out], ?_⟩
  exact (RB.out _ F3.out).fin2 0 rfl _ _

end Go.Proofs.YtjknmcmniemigaaDoor
