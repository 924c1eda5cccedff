/- wide.Gcd. -/
import Derived.Test.YtmiibcdcnoefgaaGreatDoorAddSub
import Derived.Test.YtmiibcdcnoefgaaGreatDoorDivide
import Derived.Test.YtmiibcdcnoefgaaGreatDoorSign
import Derived.Test.YtmiibcdcnoefgaaGreatDoorByWord
namespace Go.Proofs.YtmiibcdcnoefgaaGreatDoor
open Go.RowKit Dg

/-- The number that a slice of words holds in a world: for a measure. -/
def rdv (w : World) (v : Value) : Nat :=
  match v with
  | .slice (some a) n _ => match w.heap[a.block]? with
    | some (.cells c _ _) => dg BB ((c.toList.take n).map fun x => (intOf x).toNat)
    | _ => 0
  | _ => 0

theorem rdv_own {w : World} {g cap : Nat} {xs : List Nat} (h : Own w 56 .u64 g cap xs) : rdv w (.slice (some ⟨g, 0, none⟩) xs.length cap) = dg BB xs := by
  obtain ⟨cur, h1, _, h3⟩ := h.row
  simp only [rdv, h1, h3]
  congr 1
  simp only [ints, List.map_map]
  conv => rhs; rw [← List.map_id xs]
  refine List.map_congr_left ?_
  intro x _
  simp [intOf]

/-- Three slices of words in blocks of their own, from B on; the greatest common divisor stays. -/
structure GcInv (w : World) (B G : Nat) (gx capx gy capy gq capq : Nat) (X Y : List Nat) : Prop where
  ox : Own w 56 .u64 gx capx X
  oy : Own w 56 .u64 gy capy Y
  oq : ∃ ss, Own w 56 .u64 gq capq ss
  bx : B ≤ gx
  by' : B ≤ gy
  bq : B ≤ gq
  xy : gx ≠ gy
  qx : gq ≠ gx
  qy : gq ≠ gy
  okx : Ok BB X
  oky : Ok BB Y
  tx : Trim X
  ty : Trim Y
  lx : X.length ≤ 400000
  ly : Y.length ≤ 400000
  gcd : Nat.gcd (dg BB X) (dg BB Y) = G

theorem GcInv.next {w w' : World} {B G gx capx gy capy gq capq : Nat} {X Y : List Nat} (h : GcInv w B G gx capx gy capy gq capq X Y) {gq' capq' gr capr : Nat}
    (hq : Own w' 56 .u64 gq' capq' (digs BB (dg BB X / dg BB Y))) (hr : Own w' 56 .u64 gr capr (digs BB (dg BB X % dg BB Y))) (e1 : gq' = gq ∨ w.heap.size ≤ gq') (e2 : gr = gx ∨ w.heap.size ≤ gr) (e3 : gq' ≠ gr)
    (hy : ∃ rest, Win w' 56 .u64 gy 0 [] Y rest ∧ Y.length + rest.length = capy ∧ capy ≤ maxLen) (hne : Y ≠ []) :
    GcInv w' B G gy capy gr capr gq' capq' Y (digs BB (dg BB X % dg BB Y)) := by
  have hgy := h.oy.lt
  have hY0 := dg_ne_zero (b := BB) (by decide) h.ty hne
  have hx := h.bx; have hy' := h.by'; have hq' := h.bq; have hxy := h.xy; have hqy := h.qy
  refine ⟨hy, hr, ⟨_, hq⟩, hy', ?_, ?_, ?_, ?_, e3, h.oky, digs_ok (by decide) _, h.ty, digs_trim (by decide) _, h.ly, ?_, ?_⟩
  · rcases e2 with e | e <;> omega
  · rcases e1 with e | e <;> omega
  · rcases e2 with e | e <;> omega
  · rcases e1 with e | e <;> omega
  · refine Nat.le_trans (digs_length_mono (by decide) (Nat.le_of_lt (Nat.mod_lt (dg BB X) (by omega)))) ?_
    rw [digs_dg (by decide) h.oky h.ty]; exact h.ly
  · rw [dg_digs (by decide), ← h.gcd, Nat.gcd_comm (dg BB X), Nat.gcd_rec (dg BB Y) (dg BB X)]; exact Nat.gcd_comm _ _

set_option maxHeartbeats 4000000 in
set_option maxRecDepth 100000 in
theorem Gcd (na nb : Bool) (sa sc : ByteArray) (w : World) (ha : sa.size ≤ 400000) (hb : sc.size ≤ 400000) :
    Calls Tryz.prog 19 #[.agg #[.bool na, .string sa], .agg #[.bool nb, .string sc]] w fun e w' => e = .returned (wv false (Nat.gcd (bv (sb sa)) (bv (sb sc)))) ∧ Tch [] w w' := by
  go_enter Tryz.func19, Tryz.ntmps19
  go_wp2_with fail
  obtain ⟨w0, hw0⟩ : ∃ w0, w0 = ((w.alloc (.cells #[.bool na, .string sa] 28)).alloc (.cells #[.bool nb, .string sc] 28)).alloc (.cells #[.bool false, .string ⟨#[]⟩] 28) := ⟨_, rfl⟩
  have hT0 : Tch [] w w0 := by rw [hw0]; exact (((Tch.refl [] w).alloc _).alloc _).alloc _
  obtain ⟨hA0, hA1, hR0⟩ := boxes3 w (.cells #[.bool na, .string sa] 28) (.cells #[.bool nb, .string sc] 28) (.cells #[.bool false, .string ⟨#[]⟩] 28)
  rw [← hw0] at hA0 hA1 hR0
  have hS0 : w0.cell? ⟨w.heap.size, 0, none⟩ = some (.bool na) ∧ w0.cell? ⟨w.heap.size, 1, none⟩ = some (.string sa) ∧ w0.cell? ⟨w.heap.size + 1, 0, none⟩ = some (.bool nb) ∧ w0.cell? ⟨w.heap.size + 1, 1, none⟩ = some (.string sc) := by
    refine ⟨?_, ?_, ?_, ?_⟩
    · rw [cell_of_row _ _ _ _ _ _ hA0]; rfl
    · rw [cell_of_row _ _ _ _ _ _ hA0]; rfl
    · rw [cell_of_row _ _ _ _ _ _ hA1]; rfl
    · rw [cell_of_row _ _ _ _ _ _ hA1]; rfl
  have hz0 : w0.heap.size = w.heap.size + 3 := by rw [hw0]; simp
  obtain ⟨A, hA⟩ : ∃ A, A = w.heap.size := ⟨_, rfl⟩
  rw [← hw0, ← hA]
  rw [← hA] at hS0 hR0 hz0
  have HA := Lib.hid hA
  have HZ := Lib.hid hz0
  obtain ⟨xs, hxs⟩ : ∃ xs, xs = digs BB (bv (sb sa)) := ⟨_, rfl⟩
  obtain ⟨ys, hys⟩ : ∃ ys, ys = digs BB (bv (sb sc)) := ⟨_, rfl⟩
  have D1 := Lib.hid (fun w1 => decode na sa w1 (by omega))
  have D2 := Lib.hid (fun w1 => decode nb sc w1 (by omega))
  rw [← hxs] at D1
  rw [← hys] at D2
  have hxo : Ok BB xs := by rw [hxs]; exact digs_ok (by decide) _
  have hyo : Ok BB ys := by rw [hys]; exact digs_ok (by decide) _
  have hxt : Trim xs := by rw [hxs]; exact digs_trim (by decide) _
  have hyt : Trim ys := by rw [hys]; exact digs_trim (by decide) _
  have hxl : xs.length ≤ 400000 := by rw [hxs]; exact Nat.le_trans (dec_len sa) ha
  have hyl : ys.length ≤ 400000 := by rw [hys]; exact Nat.le_trans (dec_len sc) hb
  have hvx : dg BB xs = bv (sb sa) := by rw [hxs, dg_digs (by decide)]
  have hvy : dg BB ys = bv (sb sc) := by rw [hys, dg_digs (by decide)]
  have HVX := Lib.hid hvx
  have HVY := Lib.hid hvy
  have hS0' := Lib.hid hS0
  clear hA0 hA1 hw0 hA hxs hys hvx hvy hz0
  have b0 := hS0.1; have b1 := hS0.2.1; have b2 := hS0.2.2.1; have b3 := hS0.2.2.2
  clear hS0
  go_region_held3 (fun w' => w'.cell? ⟨A, 0, none⟩ = some (.bool na) ∧ w'.cell? ⟨A, 1, none⟩ = some (.string sa) ∧ w'.cell? ⟨A + 1, 0, none⟩ = some (.bool nb) ∧ w'.cell? ⟨A + 1, 1, none⟩ = some (.string sc)) (first | exact ⟨b0, b1, b2, b3⟩ | exact K1.out | exact K2.out) (first | (go_at_call_of 37 (Value.agg #[.bool na, .string sa]); refine (D1.out _).mono ?_; rintro e w2 ⟨g1, cap1, rfl, hO1, hg1, hT1⟩; have K1 := Lib.hid (two_kept (by exact hS0'.out) hT1 (by simp) (by simp))) | (go_at_call_of 37 (Value.agg #[.bool nb, .string sc]); refine (D2.out _).mono ?_; rintro e w3 ⟨g2, cap2, rfl, hO2, hg2, hT2⟩; have K2 := Lib.hid (two_kept K1.out hT2 (by simp) (by simp))))
  have hl1 := hO1.lt
  have hg12 : g1 ≠ g2 := by have : g1 < g2 := Nat.lt_of_lt_of_le hl1 hg2; omega
  have hg1' : A + 3 ≤ g1 := by rw [← HZ.out]; exact hg1
  have hg2' : A + 3 ≤ g2 := by have : g1 < g2 := Nat.lt_of_lt_of_le hl1 hg2; omega
  have hO1' := hO1.kept hT2 (by simp)
  have hT03 : Tch [] w0 w3 := ((Tch.drew (Tch.refl [] w0)).trans hT1 (by simp)).trans hT2 (by simp)
  have HT03 := Lib.hid hT03
  have HT0 := Lib.hid hT0
  have HR0 := Lib.hid hR0
  have hl2 := hO2.lt
  clear hT03 hT2 hT1 hT0 hO1 hR0 K1 b0 b1 b2 b3 D1 D2 K2 hS0'
  go_wp2_with fail
  refine (newWords _).mono ?_
  rintro e w4 ⟨g0, rfl, hO0, hg0, hT4⟩
  have hg0' : w3.heap.size ≤ g0 := hg0
  have hI : GcInv w4 (A + 3) (Nat.gcd (bv (sb sa)) (bv (sb sc))) g1 cap1 g2 cap2 g0 8 xs ys :=
    ⟨hO1'.kept hT4 (by simp), hO2.kept hT4 (by simp), ⟨_, hO0⟩, hg1', hg2', by omega, hg12, by omega, by omega, hxo, hyo, hxt, hyt, hxl, hyl, by rw [HVX.out, HVY.out]⟩
  have hT04 := HT03.out.trans hT4 (by simp)
  have HT04 := Lib.hid hT04
  clear hT4 hO0 hO1' hO2 hT04 hg0
  go_wp2
  go_loopw [5, 6, 7] (fun x y q wr => ∃ (gx capx gy capy gq capq nq : Nat) (X Y : List Nat), x = .slice (some ⟨gx, 0, none⟩) X.length capx ∧ y = .slice (some ⟨gy, 0, none⟩) Y.length capy ∧ q = .slice (some ⟨gq, 0, none⟩) nq capq ∧
      GcInv wr (A + 3) (Nat.gcd (bv (sb sa)) (bv (sb sc))) gx capx gy capy gq capq X Y ∧ Tch [] w0 wr) (fun _ y _ wr => rdv wr y)
  case atStart => exact ⟨g1, cap1, g2, cap2, g0, 8, 0, xs, ys, rfl, rfl, rfl, hI, HT04.out⟩
  case round =>
    clear hI HT04
    obtain ⟨gx, capx, gy, capy, gq, capq, nq, X, Y, rfl, rfl, rfl, hI, hT⟩ := hrel
    obtain ⟨ss, hoq⟩ := hI.oq
    obtain ⟨ry, Wy, hyl1, hyl2⟩ := hI.oy
    by_cases hlt : 1 < Y.length
    · have hne : Y ≠ [] := by intro h; rw [h] at hlt; simp at hlt
      have HNE := Lib.hid hne
      have CD := Lib.hid (divide gq nq capq gx capx gy capy 0 [] ry ss X Y wr hI.qx hI.qy hI.xy hI.okx hI.tx hI.oky hI.ty hne (by have := hI.lx; omega) (by have := hI.ly; omega) hoq hI.ox Wy)
      have HR := Lib.hid (rdv_own hI.oy)
      have hYL := Lib.hid (And.intro hyl1 hyl2)
      clear hne hoq hyl1
      go_wp2_with fail
      refine CD.out.mono ?_
      rintro e w5 ⟨⟨gq', capq', gr, capr, rfl, hq, hr, e1, e2, e3, hT5⟩, hWy⟩
      have hI2 := Lib.hid (hI.next hq hr e1 e2 e3 ⟨ry, hWy, hYL.out.1, hYL.out.2⟩ HNE.out)
      have hT05 := Lib.hid (hT.trans hT5 (by intro k hk; simp at hk; have := hI.bx; have := hI.by'; have := hI.bq; have := HZ.out; exact .inr (by omega)))
      have HRr := Lib.hid (rdv_own hr)
      obtain ⟨R, hR⟩ : ∃ R, R = digs BB (dg BB X % dg BB Y) := ⟨_, rfl⟩
      have HM : Hid (dg BB R < dg BB Y) := by
        refine Lib.hid ?_
        rw [hR, dg_digs (by decide)]
        exact Nat.mod_lt _ (Nat.pos_of_ne_zero (dg_ne_zero (by decide) hI.ty HNE.out))
      rw [← hR] at HRr hI2 ⊢
      clear hT5 hq hr hR CD hWy
      go_wp2
      go_roundw
      case rel => exact ⟨gy, capy, gr, capr, gq', capq', _, Y, R, rfl, rfl, rfl, hI2.out, hT05.out⟩
      case measure => rw [HRr.out, HR.out]; exact HM.out
    · obtain ⟨G, hG⟩ : ∃ G, G = Nat.gcd (bv (sb sa)) (bv (sb sc)) := ⟨_, rfl⟩
      rw [← hG] at hI ⊢
      obtain ⟨bz, sz, ez⟩ := wv_agg false G
      have EZ := Lib.hid ez
      have fin : ∀ w1, Tch [gx] wr w1 → w1.cell? ⟨A + 1 + 1, 0, none⟩ = some (.bool false) ∧ w1.cell? ⟨A + 1 + 1, 1, none⟩ = some (.string ⟨#[]⟩) ∧ w1.frozen? ⟨A + 1 + 1, 0, none⟩ = false ∧ w1.frozen? ⟨A + 1 + 1, 1, none⟩ = false ∧ Tch [] w w1 := by
        intro w1 h
        have hbx := hI.bx
        have hAe := HA.out
        have hz := HZ.out
        have h1 : Tch [] w0 w1 := hT.trans h (by intro k hk; rw [List.mem_singleton] at hk; exact .inr (by omega))
        have hb := (h1.block (A + 1 + 1) (by omega) (by simp)).trans HR0.out
        exact ⟨by rw [cell_of_row _ _ _ _ _ _ hb]; rfl, by rw [cell_of_row _ _ _ _ _ _ hb]; rfl, frozen_of_row _ _ _ _ _ hb, frozen_of_row _ _ _ _ _ hb, HT0.out.trans h1 (by simp)⟩
      have FIN := Lib.hid fin
      have HI := Lib.hid hI
      obtain ⟨rx, Wx⟩ := hI.ox.win
      have HOX := Lib.hid hI.okx
      have HLX := Lib.hid hI.lx
      have HLE := Lib.hid hI.ox.le
      have HG := Lib.hid hG
      clear ez fin hG hT hoq
      rcases Y with _ | ⟨y, _ | ⟨y2, yt⟩⟩
      · have hE := encode false gx capx 0 [] rx X wr HOX.out (by have := HLX.out; omega) HLE.out Wx
        have hv : dg BB X = G := by have := HI.out.gcd; simpa [dg] using this
        rw [hv, EZ.out] at hE
        have HE := Lib.hid hE
        clear hE hv hI Wx Wy hyl1 hyl2 hlt
        simp only [List.length_nil]
        go_wp2_with fail
        refine HE.out.mono ?_
        rintro e w5 ⟨rfl, hT5⟩
        obtain ⟨c0, c1, f0, f1, hT9⟩ := FIN.out w5 (hT5.mono (by simp))
        clear hT5
        go_wp2
        refine bodyPost_ret (v := .agg #[.bool bz, .string sz]) (by simp [results, Tryz.results19, go_sem, c0, c1]) rfl ⟨by rw [← HG.out, EZ.out], ?_⟩
        have hAe := HA.out
        exact (hT9.setCell (.inr (by simp; omega)) _).setCell (.inr (by simp; omega)) _
      · have hy : y < BB := hI.oky y (by simp)
        have hy0 : 0 < y := by
          have := dg_ne_zero (b := BB) (by decide) hI.ty (by simp)
          rw [dg_one] at this; omega
        have hcy : wr.cell? ⟨gy, 0, none⟩ = some (.int .u64 (y : Int)) := by have := Wy.cell (j := 0) (by simp); simpa using this
        have hB := divideByWord gx 0 capx [] rx X y hy0 hy wr HOX.out (by have := HLX.out; omega) HLE.out Wx
        have HB := Lib.hid hB
        have hv : Nat.gcd (dg BB X) y = G := by have := HI.out.gcd; rwa [dg_one] at this
        have HV := Lib.hid hv
        have HYB := Lib.hid hy
        have hyx : gy ∉ [gx] := by rw [List.mem_singleton]; exact fun h => hI.xy h.symm
        have HY0 := Lib.hid hy0
        clear hB hv hI Wx hyl1 hyl2 hlt hy0 hy
        simp only [List.length_cons, List.length_nil]
        go_wp2_with fail
        refine HB.out.mono ?_
        rintro e w5 ⟨r, zs, rfl, hDn, hWz, hT5⟩
        have HR : Hid (Nat.gcd y r = G) := by
          refine Lib.hid ?_
          rw [← HV.out, ← hDn.val, Nat.gcd_comm (y * dg BB zs + r) y, Nat.gcd_rec y (y * dg BB zs + r), Nat.mul_add_mod, ← Nat.gcd_rec]
        have CG := Lib.hid (fun w1 => gcdOfWords y r w1)
        rw [HR.out] at CG
        have HGB : Hid (G < BB) := Lib.hid (Nat.lt_of_le_of_lt (Nat.le_of_dvd HY0.out (by rw [← HR.out]; exact Nat.gcd_dvd_left _ _)) HYB.out)
        have HT5 := Lib.hid hT5
        have hc5 : w5.cell? ⟨gy, 0, none⟩ = some (.int .u64 (y : Int)) := cell_kept2 hcy hT5 hyx
        clear hT5 hWz hDn
        go_wp2_with fail
        refine (CG.out _).mono ?_
        rintro e w6 ⟨rfl, n, rfl⟩
        have hT6 := HT5.out.drewN n
        have HT6 := Lib.hid hT6
        have hE := encode false w5.heap.size 1 0 [] [] [G] ((w5.drewN n).alloc (.cells #[.int .u64 (G : Int)] 56)) (Ok.cons HGB.out (Ok.nil _)) (by simp) (by simp) (win_one (w5.drewN n) G)
        rw [dg_one, EZ.out] at hE
        have HE := Lib.hid hE
        clear hE hT6
        go_wp2_with fail
        refine HE.out.mono ?_
        rintro e w7 ⟨rfl, hT7⟩
        obtain ⟨c0, c1, f0, f1, hT9⟩ := FIN.out w7 ((HT6.out.alloc _).trans hT7 (by simp))
        clear hT7
        go_wp2
        refine bodyPost_ret (v := .agg #[.bool bz, .string sz]) (by simp [results, Tryz.results19, go_sem, c0, c1]) rfl ⟨by rw [← HG.out, EZ.out], ?_⟩
        have hAe := HA.out
        exact (hT9.setCell (.inr (by simp; omega)) _).setCell (.inr (by simp; omega)) _
      · simp at hlt

end Go.Proofs.YtmiibcdcnoefgaaGreatDoor
