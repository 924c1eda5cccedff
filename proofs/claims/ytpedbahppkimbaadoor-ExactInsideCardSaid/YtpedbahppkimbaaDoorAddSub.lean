/- wide.addSigned. -/
import Derived.Test.YtpedbahppkimbaaDoorMul
import Derived.Test.YtpedbahppkimbaaDoorCmpWs
import Derived.Test.YtpedbahppkimbaaDoorAdd
namespace Go.Proofs.YtpedbahppkimbaaDoor
open Go.RowKit Dg

/-- A number's value. -/
def zval (b : Bool) (n : Nat) : Int := if b then -(n : Int) else n
/-- A value as it is returned. -/
def wz (z : Int) : Value := wv (decide (z < 0)) z.natAbs

theorem wv_wz (b : Bool) (n : Nat) : wv b n = wz (zval b n) := by
  unfold wz zval
  cases b with
  | true =>
    simp only [if_true]
    by_cases h : n = 0
    · subst h; rfl
    · rw [show decide (-(n : Int) < 0) = true from by simp; omega, show (-(n : Int)).natAbs = n from by omega]
  | false =>
    rw [if_neg (by simp), show decide ((n : Int) < 0) = false from by simp, show ((n : Int)).natAbs = n from by omega]

theorem len_le {xs ys : List Nat} (hx : Ok BB xs) (htx : Trim xs) (hy : Ok BB ys) (hty : Trim ys) (h : dg BB xs ≤ dg BB ys) : xs.length ≤ ys.length := by
  have e1 := digs_dg (b := BB) (by decide) hx htx
  have e2 := digs_dg (b := BB) (by decide) hy hty
  have := digs_length_mono (b := BB) (by decide) h
  rwa [e1, e2] at this

set_option maxHeartbeats 4000000 in
set_option maxRecDepth 100000 in
theorem addSigned (na nb neg : Bool) (sa sb' : ByteArray) (w : World) (ha : sa.size ≤ 400000) (hb : sb'.size ≤ 400000) :
    Calls Tryd.prog 52 #[.agg #[.bool na, .string sa], .agg #[.bool nb, .string sb'], .bool neg] w fun e w' => e = .returned (wz (zval na (bv (sb sa)) + zval neg (bv (sb sb')))) ∧ Tch [] w w' := by
  go_enter Tryd.func52, Tryd.ntmps52
  go_wp2_with fail
  obtain ⟨w0, hw0⟩ : ∃ w0, w0 = ((w.alloc (.cells #[.bool na, .string sa] 36)).alloc (.cells #[.bool nb, .string sb'] 36)).alloc (.cells #[.bool false, .string ⟨#[]⟩] 36) := ⟨_, rfl⟩
  have hT0 : Tch [] w w0 := by rw [hw0]; exact (((Tch.refl [] w).alloc _).alloc _).alloc _
  obtain ⟨hA0, hA1, hR0⟩ := boxes3 w (.cells #[.bool na, .string sa] 36) (.cells #[.bool nb, .string sb'] 36) (.cells #[.bool false, .string ⟨#[]⟩] 36)
  rw [← hw0] at hA0 hA1 hR0
  have hS0 : w0.cell? ⟨w.heap.size, 0, none⟩ = some (.bool na) ∧ w0.cell? ⟨w.heap.size, 1, none⟩ = some (.string sa) ∧ w0.cell? ⟨w.heap.size + 1, 0, none⟩ = some (.bool nb) ∧ w0.cell? ⟨w.heap.size + 1, 1, none⟩ = some (.string sb') := by
    refine ⟨?_, ?_, ?_, ?_⟩
    · rw [cell_of_row _ _ _ _ _ _ hA0]; rfl
    · rw [cell_of_row _ _ _ _ _ _ hA0]; rfl
    · rw [cell_of_row _ _ _ _ _ _ hA1]; rfl
    · rw [cell_of_row _ _ _ _ _ _ hA1]; rfl
  have hz0 : w0.heap.size = w.heap.size + 3 := by rw [hw0]; simp
  obtain ⟨A, hA⟩ : ∃ A, A = w.heap.size := ⟨_, rfl⟩
  rw [← hw0, ← hA]
  rw [← hA] at hS0 hR0 hz0
  have HA := Lib.hid hA
  have HZ := Lib.hid hz0
  obtain ⟨xs, hxs⟩ : ∃ xs, xs = digs BB (bv (sb sa)) := ⟨_, rfl⟩
  obtain ⟨ys, hys⟩ : ∃ ys, ys = digs BB (bv (sb sb')) := ⟨_, rfl⟩
  have D1 := Lib.hid (fun w1 => decode na sa w1 (by omega))
  have D2 := Lib.hid (fun w1 => decode nb sb' w1 (by omega))
  rw [← hxs] at D1
  rw [← hys] at D2
  have hxo : Ok BB xs := by rw [hxs]; exact digs_ok (by decide) _
  have hyo : Ok BB ys := by rw [hys]; exact digs_ok (by decide) _
  have hxt : Trim xs := by rw [hxs]; exact digs_trim (by decide) _
  have hyt : Trim ys := by rw [hys]; exact digs_trim (by decide) _
  have hxl : xs.length ≤ 400000 := by rw [hxs]; exact Nat.le_trans (dec_len sa) ha
  have hyl : ys.length ≤ 400000 := by rw [hys]; exact Nat.le_trans (dec_len sb') hb
  have hvx : dg BB xs = bv (sb sa) := by rw [hxs, dg_digs (by decide)]
  have hvy : dg BB ys = bv (sb sb') := by rw [hys, dg_digs (by decide)]
  have HVX := Lib.hid hvx
  have HVY := Lib.hid hvy
  have hS0' := Lib.hid hS0
  clear hA0 hA1 hw0 hA hxs hys hvx hvy hz0
  have b0 := hS0.1; have b1 := hS0.2.1; have b2 := hS0.2.2.1; have b3 := hS0.2.2.2
  clear hS0
  go_region_held3 (fun w' => w'.cell? ⟨A, 0, none⟩ = some (.bool na) ∧ w'.cell? ⟨A, 1, none⟩ = some (.string sa) ∧ w'.cell? ⟨A + 1, 0, none⟩ = some (.bool nb) ∧ w'.cell? ⟨A + 1, 1, none⟩ = some (.string sb')) (first | exact ⟨b0, b1, b2, b3⟩ | exact K1.out | exact K2.out) (first | (go_at_call_of 55 (Value.agg #[.bool na, .string sa]); refine (D1.out _).mono ?_; rintro e w2 ⟨g1, cap1, rfl, hO1, hg1, hT1⟩; have K1 := Lib.hid (two_kept (by exact hS0'.out) hT1 (by simp) (by simp))) | (go_at_call_of 55 (Value.agg #[.bool nb, .string sb']); refine (D2.out _).mono ?_; rintro e w3 ⟨g2, cap2, rfl, hO2, hg2, hT2⟩; have K2 := Lib.hid (two_kept K1.out hT2 (by simp) (by simp))))
  have hl1 := hO1.lt
  have hg12 : g1 ≠ g2 := by have : g1 < g2 := Nat.lt_of_lt_of_le hl1 hg2; omega
  have hg1' : A + 3 ≤ g1 := by rw [← HZ.out]; exact hg1
  have hg2' : A + 3 ≤ g2 := by have : g1 < g2 := Nat.lt_of_lt_of_le hl1 hg2; omega
  have hO1' := hO1.kept hT2 (by simp)
  have hT03 : Tch [] w0 w3 := ((Tch.drew (Tch.refl [] w0)).trans hT1 (by simp)).trans hT2 (by simp)
  have hR3 := (hT03.block (A + 1 + 1) (by rw [HZ.out]; omega) (by simp)).trans hR0
  have HTw := Lib.hid (hT0.trans hT03 (by simp))
  have HR3 := Lib.hid hR3
  have hA3 : A + 3 ≤ w3.heap.size := by rw [← HZ.out]; exact hT03.size
  have K3 := Lib.hid K2.out.1
  have fin : ∀ w', Tch [g1, g2] w3 w' → w'.cell? ⟨A + 1 + 1, 0, none⟩ = some (.bool false) ∧ w'.cell? ⟨A + 1 + 1, 1, none⟩ = some (.string ⟨#[]⟩) ∧ w'.frozen? ⟨A + 1 + 1, 0, none⟩ = false ∧ w'.frozen? ⟨A + 1 + 1, 1, none⟩ = false ∧ w'.cell? ⟨A, 0, none⟩ = some (.bool na) ∧ Tch [] w w' := by
    intro w' h
    have hb := (h.block (A + 1 + 1) (by omega) (by simp; omega)).trans HR3.out
    refine ⟨by rw [cell_of_row _ _ _ _ _ _ hb]; rfl, by rw [cell_of_row _ _ _ _ _ _ hb]; rfl, frozen_of_row _ _ _ _ _ hb, frozen_of_row _ _ _ _ _ hb, cell_kept2 K3.out h (by simp; omega), HTw.out.trans h ?_⟩
    intro k hk
    simp at hk
    have := HA.out
    exact .inr (by omega)
  have FIN := Lib.hid fin
  obtain ⟨r1, W1⟩ := hO1'.win
  obtain ⟨r2, W2⟩ := hO2.win
  have k0 := K2.out.1
  clear fin hR3 hT03 hT2 hT1 hT0 hO1 hR0 K1 b0 b1 b2 b3 D1 D2
  by_cases hn : na = neg
  · subst hn
    have CA := Lib.hid (addWords g1 cap1 g2 cap2 [] r2 0 xs ys w3 hg12 hxo hyo (by omega) (by omega) hO1' W2)
    obtain ⟨bz, sz, ez⟩ := wv_agg na (bv (sb sa) + bv (sb sb'))
    have EZ := Lib.hid ez
    clear ez
    go_wp2_with fail
    refine CA.out.mono ?_
    rintro e w4 ⟨v, zs, rfl, hzo, hzv, hzl, g3, cap3, rfl, hO3, hg3, hT4⟩
    obtain ⟨r3, W3⟩ := hO3.win
    have cE := encode na g3 cap3 0 [] r3 zs w4 hzo (by have := Nat.max_le.2 ⟨hxl, hyl⟩; omega) hO3.le W3
    rw [hzv, HVX.out, HVY.out, EZ.out] at cE
    have CE := Lib.hid cE
    have HZV := Lib.hid hzv
    clear cE hzv CA
    go_wp2_with fail
    refine CE.out.mono ?_
    rintro e w5 ⟨rfl, hT5⟩
    have HT35 : Hid (Tch [g1, g2] w3 w5) := Lib.hid ((hT4.mono (by simp)).trans hT5 (by simp))
    clear hT4 hT5 CE
    obtain ⟨e0, e1, h0, h1, _, hT9⟩ := FIN.out _ HT35.out
    have HT9 := Lib.hid hT9
    clear hT9
    go_wp2
    refine bodyPost_ret (v := .agg #[.bool bz, .string sz]) (by simp [results, Tryd.results52, go_sem, e0, e1]) rfl ⟨?_, ?_⟩
    · rw [← EZ.out, wv_wz]; unfold zval; cases na <;> simp <;> congr 1 <;> omega
    · exact (HT9.out.setCell (.inr (by have := HA.out; simp; omega)) _).setCell (.inr (by have := HA.out; simp; omega)) _
  · have hn1 : (na == neg) = false := by simpa using hn
    have hnn : na = !neg := by cases na <;> cases neg <;> simp_all
    have HNN := Lib.hid hnn
    clear hnn
    have CC := compareWords g1 0 cap1 g2 0 cap2 [] r1 [] r2 xs ys w3 hxo hyo hxt hyt (by omega) W1 W2
    obtain ⟨E, hE⟩ : ∃ E : Int, Hid (E = cmpI (dg BB xs : Int) (dg BB ys : Int)) := ⟨_, Lib.hid rfl⟩
    rw [← hE.out] at CC
    have HCC := Lib.hid CC
    clear CC
    go_wp2_with fail
    refine HCC.out.mono ?_
    rintro e w4 ⟨rfl, n4, rfl⟩
    by_cases hlt : dg BB xs < dg BB ys
    · have hE1 : E < 0 := by rw [hE.out]; unfold cmpI; rw [if_pos (by omega)]; omega
      have CS := Lib.hid (subtractInPlace g2 0 cap2 g1 0 cap1 [] r2 [] r1 ys xs (w3.drewN n4) (by omega) hyo hxo (len_le hxo hxt hyo hyt (by omega)) (by omega) (by omega) (W2.drewN n4) (W1.drewN n4))
      obtain ⟨bz, sz, ez⟩ := wv_agg neg (dg BB ys - dg BB xs)
      have EZ := Lib.hid ez
      clear ez
      go_wp2_with fail
      refine CS.out.mono ?_
      rintro e w5 ⟨zs, rfl, hS, hW5, hT5⟩
      have hzv : dg BB zs = dg BB ys - dg BB xs := by have := hS.val; omega
      have cE := encode neg g2 cap2 0 [] r2 zs w5 hS.ok (by rw [hS.len]; omega) (by rw [hS.len]; exact hO2.le) hW5
      rw [hS.len, hzv, EZ.out] at cE
      have CE := Lib.hid cE
      have HT5 : Hid (Tch [g1, g2] w3 w5) := Lib.hid (((Tch.refl [g1, g2] w3).drewN n4).trans hT5 (by simp))
      obtain ⟨_, _, _, _, kk, _⟩ := FIN.out _ HT5.out
      clear CS hS hzv cE hT5 k0
      go_wp2_with fail
      refine CE.out.mono ?_
      rintro e w6 ⟨rfl, hT6⟩
      have HT35 : Hid (Tch [g1, g2] w3 w6) := Lib.hid (HT5.out.trans hT6 (by simp))
      clear hT6 CE
      obtain ⟨e0, e1, h0, h1, _, hT9⟩ := FIN.out _ HT35.out
      have HT9 := Lib.hid hT9
      clear hT9 kk
      go_wp2
      refine bodyPost_ret (v := .agg #[.bool bz, .string sz]) (by simp [results, Tryd.results52, go_sem, e0, e1]) rfl ⟨?_, ?_⟩
      · rw [← EZ.out, wv_wz, HVX.out, HVY.out]; rw [HVX.out, HVY.out] at hlt; rw [HNN.out]; unfold zval; cases neg <;> simp <;> congr 1 <;> omega
      · exact (HT9.out.setCell (.inr (by have := HA.out; simp; omega)) _).setCell (.inr (by have := HA.out; simp; omega)) _
    · have hE1 : 0 ≤ E := by
        rw [hE.out]; unfold cmpI; rw [if_neg (by omega)]; split <;> omega
      have CS := Lib.hid (subtractInPlace g1 0 cap1 g2 0 cap2 [] r1 [] r2 xs ys (w3.drewN n4) (by omega) hxo hyo (len_le hyo hyt hxo hxt (by omega)) (by omega) (by omega) (W1.drewN n4) (W2.drewN n4))
      obtain ⟨bz, sz, ez⟩ := wv_agg na (dg BB xs - dg BB ys)
      have EZ := Lib.hid ez
      clear ez
      go_wp2_with fail
      refine CS.out.mono ?_
      rintro e w5 ⟨zs, rfl, hS, hW5, hT5⟩
      have hzv : dg BB zs = dg BB xs - dg BB ys := by have := hS.val; omega
      have cE := encode na g1 cap1 0 [] r1 zs w5 hS.ok (by rw [hS.len]; omega) (by rw [hS.len]; exact hO1'.le) hW5
      rw [hS.len, hzv, EZ.out] at cE
      have CE := Lib.hid cE
      have HT5 : Hid (Tch [g1, g2] w3 w5) := Lib.hid (((Tch.refl [g1, g2] w3).drewN n4).trans hT5 (by simp))
      obtain ⟨_, _, _, _, kk, _⟩ := FIN.out _ HT5.out
      clear CS hS hzv cE hT5 k0
      go_wp2_with fail
      refine CE.out.mono ?_
      rintro e w6 ⟨rfl, hT6⟩
      have HT35 : Hid (Tch [g1, g2] w3 w6) := Lib.hid (HT5.out.trans hT6 (by simp))
      clear hT6 CE
      obtain ⟨e0, e1, h0, h1, _, hT9⟩ := FIN.out _ HT35.out
      have HT9 := Lib.hid hT9
      clear hT9 kk
      go_wp2
      refine bodyPost_ret (v := .agg #[.bool bz, .string sz]) (by simp [results, Tryd.results52, go_sem, e0, e1]) rfl ⟨?_, ?_⟩
      · rw [← EZ.out, wv_wz, HVX.out, HVY.out]; rw [HVX.out, HVY.out] at hlt; rw [HNN.out]; unfold zval; cases neg <;> simp <;> congr 1 <;> omega
      · exact (HT9.out.setCell (.inr (by have := HA.out; simp; omega)) _).setCell (.inr (by have := HA.out; simp; omega)) _

end Go.Proofs.YtpedbahppkimbaaDoor

/- wide.Add, wide.Sub. -/
namespace Go.Proofs.YtpedbahppkimbaaDoor
open Go.RowKit Dg

theorem wz_agg (z : Int) : ∃ bz sz, wz z = .agg #[.bool bz, .string sz] := wv_agg _ _

/-- Behind a call that was handed what three new boxes hold. -/
theorem boxes_after {w w' : World} {na nb : Bool} {sa sc : ByteArray} (h : Tch [] (((w.alloc (.cells #[.bool na, .string sa] 36)).alloc (.cells #[.bool nb, .string sc] 36)).alloc (.cells #[.bool false, .string ⟨#[]⟩] 36)) w') :
    w'.cell? ⟨w.heap.size + 1 + 1, 0, none⟩ = some (.bool false) ∧ w'.cell? ⟨w.heap.size + 1 + 1, 1, none⟩ = some (.string ⟨#[]⟩) ∧ w'.frozen? ⟨w.heap.size + 1 + 1, 0, none⟩ = false ∧ w'.frozen? ⟨w.heap.size + 1 + 1, 1, none⟩ = false ∧ Tch [] w w' := by
  obtain ⟨_, _, hR0⟩ := boxes3 w (.cells #[.bool na, .string sa] 36) (.cells #[.bool nb, .string sc] 36) (.cells #[.bool false, .string ⟨#[]⟩] 36)
  have hb := (h.block (w.heap.size + 1 + 1) (by simp) (by simp)).trans hR0
  exact ⟨by rw [cell_of_row _ _ _ _ _ _ hb]; rfl, by rw [cell_of_row _ _ _ _ _ _ hb]; rfl, frozen_of_row _ _ _ _ _ hb, frozen_of_row _ _ _ _ _ hb, ((((Tch.refl [] w).alloc _).alloc _).alloc _).trans h (by simp)⟩

set_option maxHeartbeats 1000000 in
set_option maxRecDepth 100000 in
theorem Add (na nb : Bool) (sa sc : ByteArray) (w : World) (ha : sa.size ≤ 400000) (hb : sc.size ≤ 400000) :
    Calls Tryd.prog 37 #[.agg #[.bool na, .string sa], .agg #[.bool nb, .string sc]] w fun e w' => e = .returned (wz (zval na (bv (sb sa)) + zval nb (bv (sb sc)))) ∧ Tch [] w w' := by
  have C := fun w1 => addSigned na nb nb sa sc w1 ha hb
  obtain ⟨bz, sz, ez⟩ := wz_agg (zval na (bv (sb sa)) + zval nb (bv (sb sc)))
  rw [ez] at C
  have HC := Lib.hid C
  have EZ := Lib.hid ez
  clear C ez
  go_enter Tryd.func37, Tryd.ntmps37
  go_wp2_with fail
  refine (HC.out _).mono ?_
  rintro e w1 ⟨rfl, hT⟩
  obtain ⟨c0, c1, f0, f1, hT1⟩ := boxes_after hT
  have HT := Lib.hid hT1
  clear hT hT1
  go_wp2
  refine bodyPost_ret (v := .agg #[.bool bz, .string sz]) (by simp [results, Tryd.results37, go_sem, c0, c1]) rfl ⟨by rw [EZ.out], ?_⟩
  exact (HT.out.setCell (.inr (by simp; omega)) _).setCell (.inr (by simp; omega)) _

theorem zval_not (b : Bool) (n : Nat) : zval (!b) n = -zval b n := by
  unfold zval; cases b <;> simp

end Go.Proofs.YtpedbahppkimbaaDoor
