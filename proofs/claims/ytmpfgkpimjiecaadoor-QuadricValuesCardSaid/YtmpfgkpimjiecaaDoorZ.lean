/- wide.compareWords. -/
import Derived.Test.YtmpfgkpimjiecaaDoorWords
import Derived.Test.YtmpfgkpimjiecaaDoorAddW
import Derived.Test.YtmpfgkpimjiecaaDoorMul
namespace Go.Proofs.YtmpfgkpimjiecaaDoor
open Go.RowKit Dg
/-- The order of two values whose digits have no zeros at the end. -/
theorem cmpI_len {b : Nat} (hb : 2 ≤ b) {xs ys : List Nat} (hx : Ok b xs) (hy : Ok b ys) (htx : Trim xs) (hty : Trim ys) (h : xs.length ≠ ys.length) : cmpI (xs.length : Int) (ys.length : Int) = cmpI (dg b xs : Int) (dg b ys : Int) := by
  have key : ∀ {us vs : List Nat}, Ok b us → Trim vs → us.length < vs.length → dg b us < dg b vs := by
    intro us vs hu hv hl
    refine Nat.lt_of_lt_of_le (dg_lt hu) (Nat.le_trans ?_ (pow_le_of_trim hv (by intro h; rw [h] at hl; simp at hl)))
    exact Nat.pow_le_pow_right (by omega) (by omega)
  rcases Nat.lt_or_ge xs.length ys.length with h1 | h1
  · have := key hx hty h1
    unfold cmpI; rw [if_pos (by omega), if_pos (by omega)]
  · have := key hy htx (by omega)
    unfold cmpI; rw [if_neg (by omega), if_pos (by omega), if_neg (by omega), if_pos (by omega)]

theorem cmpI_drop {b : Nat} {xs ys : List Nat} {m : Nat} (hx : Ok b xs) (hy : Ok b ys) (hl : xs.length = ys.length) (hm : m < xs.length) (he : xs.drop (m + 1) = ys.drop (m + 1)) (hne : xs.getD m 0 ≠ ys.getD m 0) :
    cmpI (xs.getD m 0 : Int) (ys.getD m 0 : Int) = cmpI (dg b xs : Int) (dg b ys : Int) := by
  have key : ∀ {us vs : List Nat}, Ok b us → us.length = vs.length → m < us.length → us.drop (m + 1) = vs.drop (m + 1) → us.getD m 0 < vs.getD m 0 → dg b us < dg b vs := by
    intro us vs hu hl hm he hlt
    have e1 := dg_split b us (m + 1) (by omega)
    have e2 := dg_split b vs (m + 1) (by omega)
    rw [dg_take_succ b us m (by omega)] at e1
    rw [dg_take_succ b vs m (by omega), ← he] at e2
    have h1 := dg_lt (hu.take m)
    rw [List.length_take, Nat.min_eq_left (by omega)] at h1
    have h2 := Nat.mul_le_mul_left (b ^ m) (show us.getD m 0 + 1 ≤ vs.getD m 0 from hlt)
    rw [Nat.mul_add, Nat.mul_one] at h2
    omega
  rcases Nat.lt_or_ge (xs.getD m 0) (ys.getD m 0) with h1 | h1
  · have := key hx hl hm he h1
    unfold cmpI; rw [if_pos (by omega), if_pos (by omega)]
  · have := key hy hl.symm (by omega) he.symm (by omega)
    unfold cmpI; rw [if_neg (by omega), if_pos (by omega), if_neg (by omega), if_pos (by omega)]

set_option maxHeartbeats 1000000 in
set_option maxRecDepth 100000 in
theorem compareWords (gx ox capx gy oy capy : Nat) (pre post pre' post' : List Value) (xs ys : List Nat) (w : World) (hx : Ok BB xs) (hy : Ok BB ys) (htx : Trim xs) (hty : Trim ys) (hbx : xs.length ≤ 1000000000)
    (hX : Win w 86 .u64 gx ox pre xs post) (hY : Win w 86 .u64 gy oy pre' ys post') :
    Calls Tryd.prog 76 #[.slice (some ⟨gx, ox, none⟩) xs.length capx, .slice (some ⟨gy, oy, none⟩) ys.length capy] w fun e w' => e = .returned (.int .i64 (cmpI (dg BB xs : Int) (dg BB ys : Int))) ∧ ∃ n, w.drewN n = w' := by
  have C1 := Lib.hid (fun w1 => compareInt (xs.length : Int) (ys.length : Int) w1)
  go_enter Tryd.func76, Tryd.ntmps76
  go_wp2_with fail
  refine (C1.out _).mono ?_
  rintro e w1 ⟨rfl, rfl⟩
  by_cases hl : xs.length = ys.length
  · have e0 : cmpI (xs.length : Int) (ys.length : Int) = 0 := by rw [hl]; unfold cmpI; simp
    rw [e0]
    have HL := Lib.hid hl
    have hl1 : ys.length ≤ xs.length := by omega
    clear e0 hl
    go_wp2
    go_loopw [5, 6] (fun a i wr => ∃ (m : Nat) (E : Int), a = .int .i64 E ∧ i = .int .i64 ((m : Int) - 1) ∧ m ≤ xs.length ∧ Hid ((E = 0 ∧ xs.drop m = ys.drop m) ∨ (E ≠ 0 ∧ E = cmpI (dg BB xs : Int) (dg BB ys : Int))) ∧ ∃ n, w.drewN n = wr)
      (fun _ i _ => (intOf i + 1).toNat)
    case atStart => exact ⟨xs.length, 0, rfl, rfl, Nat.le_refl _, Lib.hid (.inl ⟨rfl, by rw [List.drop_length, HL.out, List.drop_length]⟩), 0, rfl⟩
    case round =>
      obtain ⟨m, E, rfl, hi, hm, hS, n, rfl⟩ := hrel
      rcases hS.out with ⟨rfl, hd⟩ | ⟨hE0, hE⟩
      · obtain _ | m := m
        · obtain rfl : _ = Value.int .i64 (-1) := hi
          have he : Hid ((0 : Int) = cmpI (dg BB xs : Int) (dg BB ys : Int)) := Lib.hid (by rw [List.drop_zero, List.drop_zero] at hd; rw [hd]; unfold cmpI; simp)
          clear hd
          go_wp2
          go_ret
          exact ⟨by rw [← he.out]; rfl, n, rfl⟩
        · have hi' : _ = Value.int .i64 (m : Int) := hi.trans (by congr 1; omega)
          clear hi
          subst hi'
          have hmx : m < xs.length := by omega
          have hmy : m < ys.length := by rw [← HL.out]; exact hmx
          obtain ⟨x, ex, cx⟩ := hX.read hmx
          obtain ⟨y, ey, cy⟩ := hY.read hmy
          have HD := Lib.hid hd
          obtain ⟨F, hF⟩ : ∃ F, Hid (F = cmpI (x : Int) (y : Int)) := ⟨_, Lib.hid rfl⟩
          have C2 : ∀ w1, Calls Tryd.prog 93 #[.int .u64 x, .int .u64 y] w1 fun e w' => e = .returned (.int .i64 F) ∧ ∃ k, w' = w1.drewN k :=
            fun w1 => (compare64 (x : Int) (y : Int) w1).mono fun e w' ⟨he, hw⟩ => ⟨by rw [he, hF.out], 0, hw.symm⟩
          have HC2 := Lib.hid C2
          have hS2 : Hid ((F = 0 ∧ xs.drop m = ys.drop m) ∨ (F ≠ 0 ∧ F = cmpI (dg BB xs : Int) (dg BB ys : Int))) := by
            refine Lib.hid ?_
            by_cases hxy : x = y
            · refine .inl ⟨by rw [hF.out, hxy]; unfold cmpI; simp, ?_⟩
              rw [drop_eq_getD_cons xs m hmx, drop_eq_getD_cons ys m hmy, HD.out, ex.out, ey.out, hxy]
            · have h := cmpI_drop hx hy HL.out hmx HD.out (by rw [ex.out, ey.out]; exact hxy)
              rw [ex.out, ey.out, ← hF.out] at h
              refine .inr ⟨?_, h⟩
              rw [hF.out]; unfold cmpI
              split
              · omega
              · split <;> omega
          clear hd C2 hX hY
          go_wp2_with fail
          go_quiet ((go_at_call 93; exact quiet_add (HC2.out _)))
          go_wp2
          go_roundw
          case rel => exact ⟨m, F, rfl, by first | rfl | go_num, by omega, hS2, _, rfl⟩
          case measure => first | (simp [intOf]; done) | (simp [intOf]; omega)
      · have hE1 : (E == 0) = false := by simpa using hE0
        have HE := Lib.hid hE
        subst hi
        clear hE hE0 hX hY
        obtain _ | m := m
        · have e1 : (((0 : Nat) : Int) - 1) = -1 := by omega
          rw [e1]
          go_wp2
          go_ret
          exact ⟨by rw [← HE.out]; rfl, n, rfl⟩
        · have e1 : (((m + 1 : Nat) : Int) - 1) = (m : Int) := by omega
          rw [e1]
          go_wp2
          go_ret
          exact ⟨by rw [← HE.out]; rfl, n, rfl⟩
  · obtain ⟨E, hE⟩ : ∃ E : Int, Hid (E = cmpI (dg BB xs : Int) (dg BB ys : Int)) := ⟨_, Lib.hid rfl⟩
    have e0 : cmpI (xs.length : Int) (ys.length : Int) = E := by rw [hE.out]; exact cmpI_len (by decide) hx hy htx hty hl
    have hE1 : (E == 0) = false := by
      rw [← e0]; unfold cmpI
      split
      · rfl
      · split
        · rfl
        · omega
    rw [e0]
    clear e0 hX hY
    rcases Nat.eq_zero_or_pos xs.length with hz | hz
    · have hz1 : ((xs.length : Int) - 1) = -1 := by omega
      go_wp2
      refine wp_loop_rounds 1 ?_
      rw [rounds_succ]
      go_wp2
      go_ret
      exact ⟨by rw [← hE.out]; rfl, 0, rfl⟩
    · have hz1 : 0 ≤ ((xs.length : Int) - 1) := by omega
      go_wp2
      refine wp_loop_rounds 1 ?_
      rw [rounds_succ]
      go_wp2
      go_ret
      exact ⟨by rw [← hE.out]; rfl, 0, rfl⟩

end Go.Proofs.YtmpfgkpimjiecaaDoor
namespace Go.Proofs.YtmpfgkpimjiecaaDoor
open Go.RowKit Dg
/-- A number's value. -/
def zval (b : Bool) (n : Nat) : Int := if b then -(n : Int) else n

/-- A value as it is returned. -/
def wz (z : Int) : Value := wv (decide (z < 0)) z.natAbs

theorem wv_wz (b : Bool) (n : Nat) : wv b n = wz (zval b n) := by
  unfold wz zval
  cases b with
  | true =>
    simp only [if_true]
    by_cases h : n = 0
    · subst h; rfl
    · rw [show decide (-(n : Int) < 0) = true from by simp; omega, show (-(n : Int)).natAbs = n from by omega]
  | false =>
    rw [if_neg (by simp), show decide ((n : Int) < 0) = false from by simp, show ((n : Int)).natAbs = n from by omega]

theorem len_le {xs ys : List Nat} (hx : Ok BB xs) (htx : Trim xs) (hy : Ok BB ys) (hty : Trim ys) (h : dg BB xs ≤ dg BB ys) : xs.length ≤ ys.length := by
  have e1 := digs_dg (b := BB) (by decide) hx htx
  have e2 := digs_dg (b := BB) (by decide) hy hty
  have := digs_length_mono (b := BB) (by decide) h
  rwa [e1, e2] at this

set_option maxHeartbeats 4000000 in
set_option maxRecDepth 100000 in
theorem addSigned (na nb neg : Bool) (sa sb' : ByteArray) (w : World) (ha : sa.size ≤ 400000) (hb : sb'.size ≤ 400000) :
    Calls Tryd.prog 55 #[.agg #[.bool na, .string sa], .agg #[.bool nb, .string sb'], .bool neg] w fun e w' => e = .returned (wz (zval na (bv (sb sa)) + zval neg (bv (sb sb')))) ∧ Tch [] w w' := by
  go_enter Tryd.func55, Tryd.ntmps55
  go_wp2_with fail
  obtain ⟨w0, hw0⟩ : ∃ w0, w0 = ((w.alloc (.cells #[.bool na, .string sa] 26)).alloc (.cells #[.bool nb, .string sb'] 26)).alloc (.cells #[.bool false, .string ⟨#[]⟩] 26) := ⟨_, rfl⟩
  have hT0 : Tch [] w w0 := by rw [hw0]; exact (((Tch.refl [] w).alloc _).alloc _).alloc _
  obtain ⟨hA0, hA1, hR0⟩ := boxes3 w (.cells #[.bool na, .string sa] 26) (.cells #[.bool nb, .string sb'] 26) (.cells #[.bool false, .string ⟨#[]⟩] 26)
  rw [← hw0] at hA0 hA1 hR0
  have hS0 : w0.cell? ⟨w.heap.size, 0, none⟩ = some (.bool na) ∧ w0.cell? ⟨w.heap.size, 1, none⟩ = some (.string sa) ∧ w0.cell? ⟨w.heap.size + 1, 0, none⟩ = some (.bool nb) ∧ w0.cell? ⟨w.heap.size + 1, 1, none⟩ = some (.string sb') := by
    refine ⟨?_, ?_, ?_, ?_⟩
    · rw [cell_of_row _ _ _ _ _ _ hA0]; rfl
    · rw [cell_of_row _ _ _ _ _ _ hA0]; rfl
    · rw [cell_of_row _ _ _ _ _ _ hA1]; rfl
    · rw [cell_of_row _ _ _ _ _ _ hA1]; rfl
  have hz0 : w0.heap.size = w.heap.size + 3 := by rw [hw0]; simp
  obtain ⟨A, hA⟩ : ∃ A, A = w.heap.size := ⟨_, rfl⟩
  rw [← hw0, ← hA]
  rw [← hA] at hS0 hR0 hz0
  have HA := Lib.hid hA
  have HZ := Lib.hid hz0
  obtain ⟨xs, hxs⟩ : ∃ xs, xs = digs BB (bv (sb sa)) := ⟨_, rfl⟩
  obtain ⟨ys, hys⟩ : ∃ ys, ys = digs BB (bv (sb sb')) := ⟨_, rfl⟩
  have D1 := Lib.hid (fun w1 => decode na sa w1 (by omega))
  have D2 := Lib.hid (fun w1 => decode nb sb' w1 (by omega))
  rw [← hxs] at D1
  rw [← hys] at D2
  have hxo : Ok BB xs := by rw [hxs]; exact digs_ok (by decide) _
  have hyo : Ok BB ys := by rw [hys]; exact digs_ok (by decide) _
  have hxt : Trim xs := by rw [hxs]; exact digs_trim (by decide) _
  have hyt : Trim ys := by rw [hys]; exact digs_trim (by decide) _
  have hxl : xs.length ≤ 400000 := by rw [hxs]; exact Nat.le_trans (dec_len sa) ha
  have hyl : ys.length ≤ 400000 := by rw [hys]; exact Nat.le_trans (dec_len sb') hb
  have hvx : dg BB xs = bv (sb sa) := by rw [hxs, dg_digs (by decide)]
  have hvy : dg BB ys = bv (sb sb') := by rw [hys, dg_digs (by decide)]
  have HVX := Lib.hid hvx
  have HVY := Lib.hid hvy
  have hS0' := Lib.hid hS0
  clear hA0 hA1 hw0 hA hxs hys hvx hvy hz0
  have b0 := hS0.1; have b1 := hS0.2.1; have b2 := hS0.2.2.1; have b3 := hS0.2.2.2
  clear hS0
  go_region_held3 (fun w' => w'.cell? ⟨A, 0, none⟩ = some (.bool na) ∧ w'.cell? ⟨A, 1, none⟩ = some (.string sa) ∧ w'.cell? ⟨A + 1, 0, none⟩ = some (.bool nb) ∧ w'.cell? ⟨A + 1, 1, none⟩ = some (.string sb')) (first | exact ⟨b0, b1, b2, b3⟩ | exact K1.out | exact K2.out) (first | (go_at_call_of 54 (Value.agg #[.bool na, .string sa]); refine (D1.out _).mono ?_; rintro e w2 ⟨g1, cap1, rfl, hO1, hg1, hT1⟩; have K1 := Lib.hid (two_kept (by exact hS0'.out) hT1 (by simp) (by simp))) | (go_at_call_of 54 (Value.agg #[.bool nb, .string sb']); refine (D2.out _).mono ?_; rintro e w3 ⟨g2, cap2, rfl, hO2, hg2, hT2⟩; have K2 := Lib.hid (two_kept K1.out hT2 (by simp) (by simp))))
  have hl1 := hO1.lt
  have hg12 : g1 ≠ g2 := by have : g1 < g2 := Nat.lt_of_lt_of_le hl1 hg2; omega
  have hg1' : A + 3 ≤ g1 := by rw [← HZ.out]; exact hg1
  have hg2' : A + 3 ≤ g2 := by have : g1 < g2 := Nat.lt_of_lt_of_le hl1 hg2; omega
  have hO1' := hO1.kept hT2 (by simp)
  have hT03 : Tch [] w0 w3 := ((Tch.drew (Tch.refl [] w0)).trans hT1 (by simp)).trans hT2 (by simp)
  have hR3 := (hT03.block (A + 1 + 1) (by rw [HZ.out]; omega) (by simp)).trans hR0
  have HTw := Lib.hid (hT0.trans hT03 (by simp))
  have HR3 := Lib.hid hR3
  have hA3 : A + 3 ≤ w3.heap.size := by rw [← HZ.out]; exact hT03.size
  have K3 := Lib.hid K2.out.1
  have fin : ∀ w', Tch [g1, g2] w3 w' → w'.cell? ⟨A + 1 + 1, 0, none⟩ = some (.bool false) ∧ w'.cell? ⟨A + 1 + 1, 1, none⟩ = some (.string ⟨#[]⟩) ∧ w'.frozen? ⟨A + 1 + 1, 0, none⟩ = false ∧ w'.frozen? ⟨A + 1 + 1, 1, none⟩ = false ∧ w'.cell? ⟨A, 0, none⟩ = some (.bool na) ∧ Tch [] w w' := by
    intro w' h
    have hb := (h.block (A + 1 + 1) (by omega) (by simp; omega)).trans HR3.out
    refine ⟨by rw [cell_of_row _ _ _ _ _ _ hb]; rfl, by rw [cell_of_row _ _ _ _ _ _ hb]; rfl, frozen_of_row _ _ _ _ _ hb, frozen_of_row _ _ _ _ _ hb, cell_kept2 K3.out h (by simp; omega), HTw.out.trans h ?_⟩
    intro k hk
    simp at hk
    have := HA.out
    exact .inr (by omega)
  have FIN := Lib.hid fin
  obtain ⟨r1, W1⟩ := hO1'.win
  obtain ⟨r2, W2⟩ := hO2.win
  have k0 := K2.out.1
  clear fin hR3 hT03 hT2 hT1 hT0 hO1 hR0 K1 b0 b1 b2 b3 D1 D2
  by_cases hn : na = neg
  · subst hn
    have CA := Lib.hid (addWords g1 cap1 g2 cap2 [] r2 0 xs ys w3 hg12 hxo hyo (by omega) (by omega) hO1' W2)
    obtain ⟨bz, sz, ez⟩ := wv_agg na (bv (sb sa) + bv (sb sb'))
    have EZ := Lib.hid ez
    clear ez
    go_wp2_with fail
    refine CA.out.mono ?_
    rintro e w4 ⟨v, zs, rfl, hzo, hzv, hzl, g3, cap3, rfl, hO3, hg3, hT4⟩
    obtain ⟨r3, W3⟩ := hO3.win
    have cE := encode na g3 cap3 0 [] r3 zs w4 hzo (by have := Nat.max_le.2 ⟨hxl, hyl⟩; omega) hO3.le W3
    rw [hzv, HVX.out, HVY.out, EZ.out] at cE
    have CE := Lib.hid cE
    have HZV := Lib.hid hzv
    clear cE hzv CA
    go_wp2_with fail
    refine CE.out.mono ?_
    rintro e w5 ⟨rfl, hT5⟩
    have HT35 : Hid (Tch [g1, g2] w3 w5) := Lib.hid ((hT4.mono (by simp)).trans hT5 (by simp))
    clear hT4 hT5 CE
    obtain ⟨e0, e1, h0, h1, _, hT9⟩ := FIN.out _ HT35.out
    have HT9 := Lib.hid hT9
    clear hT9
    go_wp2
    refine bodyPost_ret (v := .agg #[.bool bz, .string sz]) (by simp [results, Tryd.results55, go_sem, e0, e1]) rfl ⟨?_, ?_⟩
    · rw [← EZ.out, wv_wz]; unfold zval; cases na <;> simp <;> congr 1 <;> omega
    · exact (HT9.out.setCell (.inr (by have := HA.out; simp; omega)) _).setCell (.inr (by have := HA.out; simp; omega)) _
  · have hn1 : (na == neg) = false := by simpa using hn
    have hnn : na = !neg := by cases na <;> cases neg <;> simp_all
    have HNN := Lib.hid hnn
    clear hnn
    have CC := compareWords g1 0 cap1 g2 0 cap2 [] r1 [] r2 xs ys w3 hxo hyo hxt hyt (by omega) W1 W2
    obtain ⟨E, hE⟩ : ∃ E : Int, Hid (E = cmpI (dg BB xs : Int) (dg BB ys : Int)) := ⟨_, Lib.hid rfl⟩
    rw [← hE.out] at CC
    have HCC := Lib.hid CC
    clear CC
    go_wp2_with fail
    refine HCC.out.mono ?_
    rintro e w4 ⟨rfl, n4, rfl⟩
    by_cases hlt : dg BB xs < dg BB ys
    · have hE1 : E < 0 := by rw [hE.out]; unfold cmpI; rw [if_pos (by omega)]; omega
      have CS := Lib.hid (subtractInPlace g2 0 cap2 g1 0 cap1 [] r2 [] r1 ys xs (w3.drewN n4) (by omega) hyo hxo (len_le hxo hxt hyo hyt (by omega)) (by omega) (by omega) (W2.drewN n4) (W1.drewN n4))
      obtain ⟨bz, sz, ez⟩ := wv_agg neg (dg BB ys - dg BB xs)
      have EZ := Lib.hid ez
      clear ez
      go_wp2_with fail
      refine CS.out.mono ?_
      rintro e w5 ⟨zs, rfl, hS, hW5, hT5⟩
      have hzv : dg BB zs = dg BB ys - dg BB xs := by have := hS.val; omega
      have cE := encode neg g2 cap2 0 [] r2 zs w5 hS.ok (by rw [hS.len]; omega) (by rw [hS.len]; exact hO2.le) hW5
      rw [hS.len, hzv, EZ.out] at cE
      have CE := Lib.hid cE
      have HT5 : Hid (Tch [g1, g2] w3 w5) := Lib.hid (((Tch.refl [g1, g2] w3).drewN n4).trans hT5 (by simp))
      obtain ⟨_, _, _, _, kk, _⟩ := FIN.out _ HT5.out
      clear CS hS hzv cE hT5 k0
      go_wp2_with fail
      refine CE.out.mono ?_
      rintro e w6 ⟨rfl, hT6⟩
      have HT35 : Hid (Tch [g1, g2] w3 w6) := Lib.hid (HT5.out.trans hT6 (by simp))
      clear hT6 CE
      obtain ⟨e0, e1, h0, h1, _, hT9⟩ := FIN.out _ HT35.out
      have HT9 := Lib.hid hT9
      clear hT9 kk
      go_wp2
      refine bodyPost_ret (v := .agg #[.bool bz, .string sz]) (by simp [results, Tryd.results55, go_sem, e0, e1]) rfl ⟨?_, ?_⟩
      · rw [← EZ.out, wv_wz, HVX.out, HVY.out]; rw [HVX.out, HVY.out] at hlt; rw [HNN.out]; unfold zval; cases neg <;> simp <;> congr 1 <;> omega
      · exact (HT9.out.setCell (.inr (by have := HA.out; simp; omega)) _).setCell (.inr (by have := HA.out; simp; omega)) _
    · have hE1 : 0 ≤ E := by
        rw [hE.out]; unfold cmpI; rw [if_neg (by omega)]; split <;> omega
      have CS := Lib.hid (subtractInPlace g1 0 cap1 g2 0 cap2 [] r1 [] r2 xs ys (w3.drewN n4) (by omega) hxo hyo (len_le hyo hyt hxo hxt (by omega)) (by omega) (by omega) (W1.drewN n4) (W2.drewN n4))
      obtain ⟨bz, sz, ez⟩ := wv_agg na (dg BB xs - dg BB ys)
      have EZ := Lib.hid ez
      clear ez
      go_wp2_with fail
      refine CS.out.mono ?_
      rintro e w5 ⟨zs, rfl, hS, hW5, hT5⟩
      have hzv : dg BB zs = dg BB xs - dg BB ys := by have := hS.val; omega
      have cE := encode na g1 cap1 0 [] r1 zs w5 hS.ok (by rw [hS.len]; omega) (by rw [hS.len]; exact hO1'.le) hW5
      rw [hS.len, hzv, EZ.out] at cE
      have CE := Lib.hid cE
      have HT5 : Hid (Tch [g1, g2] w3 w5) := Lib.hid (((Tch.refl [g1, g2] w3).drewN n4).trans hT5 (by simp))
      obtain ⟨_, _, _, _, kk, _⟩ := FIN.out _ HT5.out
      clear CS hS hzv cE hT5 k0
      go_wp2_with fail
      refine CE.out.mono ?_
      rintro e w6 ⟨rfl, hT6⟩
      have HT35 : Hid (Tch [g1, g2] w3 w6) := Lib.hid (HT5.out.trans hT6 (by simp))
      clear hT6 CE
      obtain ⟨e0, e1, h0, h1, _, hT9⟩ := FIN.out _ HT35.out
      have HT9 := Lib.hid hT9
      clear hT9 kk
      go_wp2
      refine bodyPost_ret (v := .agg #[.bool bz, .string sz]) (by simp [results, Tryd.results55, go_sem, e0, e1]) rfl ⟨?_, ?_⟩
      · rw [← EZ.out, wv_wz, HVX.out, HVY.out]; rw [HVX.out, HVY.out] at hlt; rw [HNN.out]; unfold zval; cases neg <;> simp <;> congr 1 <;> omega
      · exact (HT9.out.setCell (.inr (by have := HA.out; simp; omega)) _).setCell (.inr (by have := HA.out; simp; omega)) _

end Go.Proofs.YtmpfgkpimjiecaaDoor
namespace Go.Proofs.YtmpfgkpimjiecaaDoor
open Go.RowKit Dg
theorem wz_agg (z : Int) : ∃ bz sz, wz z = .agg #[.bool bz, .string sz] := wv_agg _ _

/-- Behind a call that was handed what three new boxes hold. -/
theorem boxes_after {w w' : World} {na nb : Bool} {sa sc : ByteArray} (h : Tch [] (((w.alloc (.cells #[.bool na, .string sa] 26)).alloc (.cells #[.bool nb, .string sc] 26)).alloc (.cells #[.bool false, .string ⟨#[]⟩] 26)) w') :
    w'.cell? ⟨w.heap.size + 1 + 1, 0, none⟩ = some (.bool false) ∧ w'.cell? ⟨w.heap.size + 1 + 1, 1, none⟩ = some (.string ⟨#[]⟩) ∧ w'.frozen? ⟨w.heap.size + 1 + 1, 0, none⟩ = false ∧ w'.frozen? ⟨w.heap.size + 1 + 1, 1, none⟩ = false ∧ Tch [] w w' := by
  obtain ⟨_, _, hR0⟩ := boxes3 w (.cells #[.bool na, .string sa] 26) (.cells #[.bool nb, .string sc] 26) (.cells #[.bool false, .string ⟨#[]⟩] 26)
  have hb := (h.block (w.heap.size + 1 + 1) (by simp) (by simp)).trans hR0
  exact ⟨by rw [cell_of_row _ _ _ _ _ _ hb]; rfl, by rw [cell_of_row _ _ _ _ _ _ hb]; rfl, frozen_of_row _ _ _ _ _ hb, frozen_of_row _ _ _ _ _ hb, ((((Tch.refl [] w).alloc _).alloc _).alloc _).trans h (by simp)⟩

set_option maxHeartbeats 1000000 in
set_option maxRecDepth 100000 in
theorem Add (na nb : Bool) (sa sc : ByteArray) (w : World) (ha : sa.size ≤ 400000) (hb : sc.size ≤ 400000) :
    Calls Tryd.prog 30 #[.agg #[.bool na, .string sa], .agg #[.bool nb, .string sc]] w fun e w' => e = .returned (wz (zval na (bv (sb sa)) + zval nb (bv (sb sc)))) ∧ Tch [] w w' := by
  have C := fun w1 => addSigned na nb nb sa sc w1 ha hb
  obtain ⟨bz, sz, ez⟩ := wz_agg (zval na (bv (sb sa)) + zval nb (bv (sb sc)))
  rw [ez] at C
  have HC := Lib.hid C
  have EZ := Lib.hid ez
  clear C ez
  go_enter Tryd.func30, Tryd.ntmps30
  go_wp2_with fail
  refine (HC.out _).mono ?_
  rintro e w1 ⟨rfl, hT⟩
  obtain ⟨c0, c1, f0, f1, hT1⟩ := boxes_after hT
  have HT := Lib.hid hT1
  clear hT hT1
  go_wp2
  refine bodyPost_ret (v := .agg #[.bool bz, .string sz]) (by simp [results, Tryd.results30, go_sem, c0, c1]) rfl ⟨by rw [EZ.out], ?_⟩
  exact (HT.out.setCell (.inr (by simp; omega)) _).setCell (.inr (by simp; omega)) _

theorem zval_not (b : Bool) (n : Nat) : zval (!b) n = -zval b n := by
  unfold zval; cases b <;> simp

end Go.Proofs.YtmpfgkpimjiecaaDoor
namespace Go.Proofs.YtmpfgkpimjiecaaDoor
open Go.RowKit Dg
theorem sb_inj {a b : ByteArray} (h : sb a = sb b) : a = b := by rw [← str_sb a, ← str_sb b, h]

theorem cell_kept0 {w w' : World} {a : Addr} {v : Value} (hc : w.cell? a = some v) (h : Tch [] w w') : w'.cell? a = some v :=
  (World.cell?_of_block (w := w) (h.block a.block (World.block_lt_of_cell? w a hc) (by simp))).trans hc

theorem mg_nil {s : ByteArray} (h : bv (sb s) = 0) : (mg s).toList = [] := by
  rw [ByteArray.toList_eq]
  have h1 : (sb (mg s)).reverse = [] := by
    have h2 := trim_mg s
    have h3 : dg 256 (sb (mg s)).reverse = 0 := by rw [← bv_mg] at h; exact h
    by_cases hn : (sb (mg s)).reverse = []
    · exact hn
    · exact absurd h3 (dg_ne_zero (by omega) h2 hn)
  have h2 : sb (mg s) = [] := by simpa using h1
  simpa [sb] using h2

theorem mg_cons {s : ByteArray} (h : bv (sb s) ≠ 0) : (mg s).toList ≠ [] := by
  rw [ByteArray.toList_eq]
  intro h1
  apply h
  rw [← bv_mg]
  simp only [sb, h1]; rfl

theorem win_one (w : World) (x : Nat) : Win (w.alloc (.cells #[.int .u64 (x : Int)] 86)) 86 .u64 w.heap.size 0 [] [x] [] := ⟨Below.heap_alloc_new' w _, rfl⟩

theorem dg_one (x : Nat) : dg BB [x] = x := by simp [dg]

set_option maxHeartbeats 1000000 in
set_option maxRecDepth 100000 in
theorem From (n : Int) (h1 : -9223372036854775808 ≤ n) (h2 : n ≤ 9223372036854775807) (w : World) :
    Calls Tryd.prog 58 #[.int .i64 n] w fun e w' => e = .returned (wv (decide (n < 0)) n.natAbs) ∧ Tch [] w w' := by
  obtain ⟨x, hx⟩ : ∃ x, x = n.natAbs := ⟨_, rfl⟩
  have hxb : x < BB := by rw [BB_eq]; omega
  have HX := Lib.hid hx
  have r1 : n < 0 → IntKind.u64.wrap (-(IntKind.u64.wrap n)) = (x : Int) := by intro h; simp only [IntKind.wrap_u64]; omega
  have r2 : 0 ≤ n → IntKind.u64.wrap n = (x : Int) := by intro h; simp only [IntKind.wrap_u64]; omega
  obtain ⟨bz, sz, ez⟩ : ∃ bz sz, wv (decide (n < 0)) x = .agg #[.bool bz, .string sz] := by
    unfold wv
    split
    · exact ⟨_, _, rfl⟩
    · exact ⟨_, _, rfl⟩
  have hE := fun g cap w1 hW => encode (decide (n < 0)) g cap 0 [] [] [x] w1 (Ok.cons hxb (Ok.nil _)) (by simp) hW
  have HE := Lib.hid hE
  obtain ⟨w0, hw0⟩ : ∃ w0, w0 = w.alloc (.cells #[.bool false, .string ⟨#[]⟩] 26) := ⟨_, rfl⟩
  have hT0 : Tch [] w w0 := by rw [hw0]; exact (Tch.refl [] w).alloc _
  have hB0 : w0.heap[w.heap.size]? = some (.cells #[.bool false, .string ⟨#[]⟩] 26 (0, 0)) := by rw [hw0]; exact Below.heap_alloc_new' w _
  have hE1 := HE.out w0.heap.size 1 (w0.alloc (.cells #[.int .u64 (x : Int)] 86)) (by simp) (win_one w0 x)
  rw [dg_one, ez] at hE1
  have hsz : w0.heap.size = w.heap.size + 1 := by rw [hw0]; simp
  rw [hsz, hw0] at hE1
  rw [hw0] at hT0 hB0
  have HE1 := Lib.hid hE1
  have HZ := Lib.hid ez
  have HB := Lib.hid hB0
  have HT0 := Lib.hid hT0
  clear hE ez hE1 hxb hB0 hT0 hsz hw0 HE w0
  have fin : ∀ w1, Tch [] ((w.alloc (.cells #[.bool false, .string ⟨#[]⟩] 26)).alloc (.cells #[.int .u64 (x : Int)] 86)) w1 → w1.cell? ⟨w.heap.size, 0, none⟩ = some (.bool false) ∧ w1.cell? ⟨w.heap.size, 1, none⟩ = some (.string ⟨#[]⟩) ∧ w1.frozen? ⟨w.heap.size, 0, none⟩ = false ∧ w1.frozen? ⟨w.heap.size, 1, none⟩ = false ∧ Tch [] w w1 := by
    intro w1 h
    have h1 : Tch [] (w.alloc (.cells #[.bool false, .string ⟨#[]⟩] 26)) w1 := ((Tch.refl [] _).alloc _).trans h (by simp)
    have hb := (h1.block w.heap.size (by simp) (by simp)).trans HB.out
    exact ⟨by rw [cell_of_row _ _ _ _ _ _ hb]; rfl, by rw [cell_of_row _ _ _ _ _ _ hb]; rfl, frozen_of_row _ _ _ _ _ hb, frozen_of_row _ _ _ _ _ hb, HT0.out.trans h1 (by simp)⟩
  have FIN := Lib.hid fin
  clear fin
  rcases (show n < 0 ∨ 0 ≤ n from by omega) with hn | hn
  · have R := r1 hn
    have hd : decide (n < 0) = true := by simpa using hn
    rw [hd] at HE1
    have HD := Lib.hid hd
    clear r1 r2 hd hx
    go_enter Tryd.func58, Tryd.ntmps58
    go_wp2_with fail
    refine HE1.out.mono ?_
    rintro e w1 ⟨rfl, hT⟩
    obtain ⟨c0, c1, f0, f1, hT1⟩ := FIN.out w1 hT
    clear hT
    go_wp2
    refine bodyPost_ret (v := .agg #[.bool bz, .string sz]) (by simp [results, Tryd.results58, go_sem, c0, c1]) rfl ⟨?_, ?_⟩
    · rw [← HX.out, HZ.out]
    · exact (hT1.setCell (.inr (by simp)) _).setCell (.inr (by simp)) _
  · have R := r2 hn
    have hd : decide (n < 0) = false := by simpa using hn
    rw [hd] at HE1
    have HD := Lib.hid hd
    have hnx : n = (x : Int) := by omega
    clear r1 r2 hd hx R
    subst hnx
    go_enter Tryd.func58, Tryd.ntmps58
    go_wp2_with fail
    refine HE1.out.mono ?_
    rintro e w1 ⟨rfl, hT⟩
    obtain ⟨c0, c1, f0, f1, hT1⟩ := FIN.out w1 hT
    clear hT
    go_wp2
    refine bodyPost_ret (v := .agg #[.bool bz, .string sz]) (by simp [results, Tryd.results58, go_sem, c0, c1]) rfl ⟨?_, ?_⟩
    · rw [← HX.out, HZ.out]
    · exact (hT1.setCell (.inr (by simp)) _).setCell (.inr (by simp)) _

end Go.Proofs.YtmpfgkpimjiecaaDoor
namespace Go.Proofs.YtmpfgkpimjiecaaDoor
open Go.RowKit Dg
theorem bv_mo (n : Nat) : bv (sb (mo n)) = n := by
  rw [sb_mo]; unfold bv; rw [List.reverse_reverse, dg_digs (by decide)]

theorem mo_zero : mo 0 = ⟨#[]⟩ := by unfold mo; rw [digs_zero]; rfl

theorem size_mo {n K : Nat} (h : n < 256 ^ K) : (mo n).size ≤ K := by
  rw [← sb_length, sb_mo, List.length_reverse]; exact digs_length_le (by decide) h

theorem bv_sb_lt (s : ByteArray) : bv (sb s) < 256 ^ s.size := by
  have h := bv_lt (sb_ok s)
  rwa [sb_length] at h

theorem wz_mo (z : Int) : wz z = .agg #[.bool (decide (z < 0)), .string (mo z.natAbs)] := by
  unfold wz wv
  split
  · rename_i h
    have hz : z = 0 := by omega
    subst hz
    rw [show (0 : Int).natAbs = 0 from rfl, mo_zero]; rfl
  · rfl

theorem zval_mo (z : Int) : zval (decide (z < 0)) (bv (sb (mo z.natAbs))) = z := by
  rw [bv_mo]
  unfold zval
  by_cases h : z < 0
  · rw [if_pos (by simpa using h)]; omega
  · rw [if_neg (by simpa using h)]; omega

theorem natAbs_zval (b : Bool) (n : Nat) : (zval b n).natAbs = n := by unfold zval; cases b <;> simp

theorem natAbs_zval_lt (b : Bool) (s : ByteArray) : (zval b (bv (sb s))).natAbs < 256 ^ s.size := by
  rw [natAbs_zval]; exact bv_sb_lt s

/-- A value is a number z of at most K bytes. -/
structure Rep (K : Nat) (b : Bool) (s : ByteArray) (z : Int) : Prop where
  val : zval b (bv (sb s)) = z
  size : s.size ≤ K

theorem Rep.mono {K L : Nat} {b : Bool} {s : ByteArray} {z : Int} (h : Rep K b s z) (hl : K ≤ L) : Rep L b s z := ⟨h.val, Nat.le_trans h.size hl⟩

/-- What a function answers is a number of its own size. -/
theorem Rep.mo {K : Nat} {z : Int} (h : z.natAbs < 256 ^ K) : Rep K (decide (z < 0)) (mo z.natAbs) z := ⟨zval_mo z, size_mo h⟩

theorem Rep.lt {K : Nat} {b : Bool} {s : ByteArray} {z : Int} (h : Rep K b s z) : z.natAbs < 256 ^ K := by
  rw [← h.val]
  exact Nat.lt_of_lt_of_le (natAbs_zval_lt b s) (Nat.pow_le_pow_right (by omega) h.size)

theorem mul_sign (b c : Bool) (x y : Nat) : zval (!(b == c)) (x * y) = zval b x * zval c y := by
  unfold zval; cases b <;> cases c <;> simp [Int.natCast_mul, Int.neg_mul, Int.mul_neg]

section
variable {na nb : Bool} {sa sc : ByteArray} {x y : Int}
theorem ZMul (hx : Rep 400000 na sa x) (hy : Rep 400000 nb sc y) (w : World) :
    Calls Tryd.prog 29 #[.agg #[.bool na, .string sa], .agg #[.bool nb, .string sc]] w fun e w' => e = .returned (wz (x * y)) ∧ Tch [] w w' := by
  have h := Mul na nb sa sc w hx.size hy.size
  rwa [wv_wz, mul_sign, hx.val, hy.val] at h

theorem ZAdd (hx : Rep 400000 na sa x) (hy : Rep 400000 nb sc y) (w : World) :
    Calls Tryd.prog 30 #[.agg #[.bool na, .string sa], .agg #[.bool nb, .string sc]] w fun e w' => e = .returned (wz (x + y)) ∧ Tch [] w w' := by
  have h := Add na nb sa sc w hx.size hy.size
  rwa [hx.val, hy.val] at h

theorem ZFrom (n : Int) (h1 : -9223372036854775808 ≤ n) (h2 : n ≤ 9223372036854775807) (w : World) :
    Calls Tryd.prog 58 #[.int .i64 n] w fun e w' => e = .returned (wz n) ∧ Tch [] w w' := From n h1 h2 w

end
theorem wz_parts {z : Int} {b : Bool} {s : ByteArray} (h : wz z = .agg #[.bool b, .string s]) : decide (z < 0) = b ∧ mo z.natAbs = s := by
  rw [wz_mo] at h
  simpa using h

theorem Rep.of_wz {K : Nat} {z : Int} {b : Bool} {s : ByteArray} (h : wz z = .agg #[.bool b, .string s]) (hz : z.natAbs < 256 ^ K) : Rep K b s z := by
  obtain ⟨rfl, rfl⟩ := wz_parts h
  exact Rep.mo hz

end Go.Proofs.YtmpfgkpimjiecaaDoor
