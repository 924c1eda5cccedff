/- lithophaneref01.Gcd. -/
import Derived.Test.YtjknmcmniemigaaDoorOver
import Derived.Deep.LoopGhost
namespace Go.Proofs.YtjknmcmniemigaaDoor
open Go.RowKit Dg

set_option maxHeartbeats 8000000 in
set_option maxRecDepth 100000 in
theorem rGcd {na nb : Bool} {sa sc : ByteArray} {x y : Int} (hx : Rep 1000 na sa x) (hy : Rep 1000 nb sc y) (w : World) :
    Calls Tryd.prog 31 #[.agg #[.bool na, .string sa], .agg #[.bool nb, .string sc]] w fun e w' => e = .returned (wz (Int.gcd x y : Int)) ∧ Tch [] w w' := by
  obtain ⟨G, hG⟩ : ∃ G, G = Nat.gcd (bv (sb sa)) (bv (sb sc)) := ⟨_, rfl⟩
  obtain ⟨br, sr, er⟩ : ∃ b s, wz (Int.gcd x y : Int) = .agg #[.bool b, .string s] := ⟨_, _, wz_mo _⟩
  have HV : Hid (wv false G = .agg #[.bool br, .string sr]) := Lib.hid (by
    rw [← er, wv_wz]
    have e : Nat.gcd (bv (sb sa)) (bv (sb sc)) = Int.gcd x y := by
      unfold Int.gcd; rw [← hx.val, ← hy.val, natAbs_zval, natAbs_zval]
    rw [hG, e]; rfl)
  have ER := Lib.hid er
  have C1 := Lib.hid (fun w1 => rdigits na sa w1 (by have := hx.size; omega))
  have C2 := Lib.hid (fun w1 => rdigits nb sc w1 (by have := hy.size; omega))
  have HL1 : Hid ((digs 65536 (bv (sb sa))).length ≤ 1000) := Lib.hid (Nat.le_trans (digs_len_size sa) hx.size)
  have HL2 : Hid ((digs 65536 (bv (sb sc))).length ≤ 1000) := Lib.hid (Nat.le_trans (digs_len_size sc) hy.size)
  obtain ⟨N, hN⟩ : ∃ N, bv (sb sa) = N := ⟨_, rfl⟩
  obtain ⟨M, hM⟩ : ∃ M, bv (sb sc) = M := ⟨_, rfl⟩
  rw [hN] at hG HL1 C1
  rw [hM] at hG HL2 C2
  have HG := Lib.hid hG
  have F0 := ((((Fr.nil w).add (.cells #[.bool na, .string sa] 27) (w.heap.size) rfl).add (.cells #[.bool nb, .string sc] 27) (w.heap.size + 1) (by simp)).add (.cells #[.bool false, .string ⟨#[]⟩] 27) (w.heap.size + 1 + 1) (by simp))
  obtain ⟨w0, l, hw0, G0, SF0, RB0⟩ : ∃ w0 l, w0 = (((w.alloc (.cells #[.bool na, .string sa] 27)).alloc (.cells #[.bool nb, .string sc] 27)).alloc (.cells #[.bool false, .string ⟨#[]⟩] 27)) ∧ Fr w w0 l ∧ (∀ w3, Fr w w3 l → (w3.cell? ⟨w.heap.size, 0, none⟩ = some (.bool na) ∧ w3.cell? ⟨w.heap.size, 1, none⟩ = some (.string sa)) ∧ (w3.cell? ⟨w.heap.size + 1, 0, none⟩ = some (.bool nb) ∧ w3.cell? ⟨w.heap.size + 1, 1, none⟩ = some (.string sc))) ∧ (∀ w3, Fr w w3 l → Fr w w3 [(w.heap.size + 1 + 1, .cells #[.bool false, .string ⟨#[]⟩] 27 (0, 0))]) :=
    ⟨_, _, rfl, F0, fun w3 F => ⟨⟨F.cell 0 0 rfl rfl, F.cell 0 1 rfl rfl⟩, ⟨F.cell 1 0 rfl rfl, F.cell 1 1 rfl rfl⟩⟩,
      fun w3 F => ⟨fun p hp => F.row p (by rw [List.mem_singleton] at hp; subst hp; simp), fun p hp => F.new p (by rw [List.mem_singleton] at hp; subst hp; simp), F.t⟩⟩
  have F1 := Lib.hid G0
  have SF := Lib.hid SF0
  have RB := Lib.hid RB0
  have HW := Lib.hid hw0
  clear F0 G0 SF0 RB0 hw0 er hN hM hG hx hy
  go_enter Tryd.func31, Tryd.ntmps31
  go_wp2_with fail
  rw [← HW.out]
  refine (C1.out _).mono ?_
  rintro e w3 ⟨⟨v1, rfl, hR1⟩, hT⟩
  have F3 := Lib.hid (F1.out.keep hT)
  have HR1 := Lib.hid hR1
  have HT := Lib.hid hT
  obtain ⟨_, ⟨b0, b1⟩⟩ := SF.out _ F3.out
  clear hT hR1
  go_wp2_with fail
  refine (C2.out _).mono ?_
  rintro e w4 ⟨⟨v2, rfl, hR2⟩, hT⟩
  have F3 := Lib.hid (F3.out.keep hT)
  have HR1 := Lib.hid (HR1.out.kept hT)
  have HR2 := Lib.hid (hR2.mono (C := w0.heap.size) HT.out.size)
  have HT := Lib.hid (HT.out.trans hT (by simp))
  clear hT hR2 b0 b1
  go_wp2
  go_loopg [5, 6] M (fun k u5 u6 wr => ∃ (X : Nat) (v u : Value), v = u5 ∧ u = u6 ∧ Hid (Nat.gcd X k = G) ∧ Hid (Row w0.heap.size wr 3 .i64 v (digs 65536 X)) ∧ Hid (Row w0.heap.size wr 3 .i64 u (digs 65536 k)) ∧ Hid ((digs 65536 X).length ≤ 1000) ∧ Hid ((digs 65536 k).length ≤ 1000) ∧ Hid (Fr w wr l))
  case atStart => exact ⟨N, v1, v2, rfl, rfl, Lib.hid HG.out.symm, HR1, HR2, HL1, HL2, F3⟩
  case round =>
    obtain ⟨X, v, u, rfl, rfl, hg, hX, hY, hlx, hly, hF⟩ := hrel
    rcases Nat.eq_zero_or_pos gk with h0 | h0
    · subst h0
      have hXG : Hid (X = G) := Lib.hid (by rw [← hg.out, Nat.gcd_zero_right])
      have HRX : Hid (Row w0.heap.size wr 3 .i64 v (digs 65536 G)) := Lib.hid (by rw [← hXG.out]; exact hX.out)
      have hY2 := hY.out
      rw [digs_zero] at hY2
      obtain ⟨A2, c2, rfl, _⟩ := Rd.of_row hY2 (Nat.le_refl _)
      have CW := Lib.hid (rwide false G v wr HRX.out (by rw [← hXG.out]; have := hlx.out; omega))
      rw [HV.out] at CW
      clear hY2 hY hX hg hXG HRX hlx hly
      simp only [List.length_nil]
      go_wp2_with fail
      refine CW.out.mono ?_
      rintro e w6 ⟨rfl, hT6⟩
      have F6 := Lib.hid (hF.out.keep hT6)
      obtain ⟨r0, r1⟩ := (RB.out _ F6.out).two 0 rfl
      obtain ⟨t0, t1⟩ := (RB.out _ F6.out).fro2 0 rfl
      clear hT6
      go_wp2
      refine bodyPost_ret (v := .agg #[.bool br, .string sr]) (by simp [results, Tryd.results31, go_sem, r0, r1]) rfl ⟨by rw [ER.out], ?_⟩
      exact (RB.out _ F6.out).fin2 0 rfl _ _
    · obtain ⟨TX, hTX⟩ : ∃ TX, digs 65536 X = TX := ⟨_, rfl⟩
      obtain ⟨TY, hTY⟩ : ∃ TY, digs 65536 gk = TY := ⟨_, rfl⟩
      have hX2 := hX.out
      have hY2 := hY.out
      rw [hTX] at hX2
      rw [hTY] at hY2
      obtain ⟨A1, c1, rfl, hD1⟩ := Rd.of_row hX2 (Nat.le_refl _)
      obtain ⟨A2, c2, rfl, hD2⟩ := Rd.of_row hY2 (Nat.le_refl _)
      have hv1 : dg 65536 TX = X := by rw [← hTX]; exact dg_digs (by decide) _
      have hv2 : dg 65536 TY = gk := by rw [← hTY]; exact dg_digs (by decide) _
      have hl2 : 0 < TY.length := by
        rcases Nat.eq_zero_or_pos TY.length with h | h
        · rw [List.eq_nil_of_length_eq_zero h] at hv2
          simp [dg] at hv2; omega
        · exact h
      have CO := Lib.hid (rover A1 A2 c1 c2 TX TY wr hD1 hD2 (by rw [← hTX]; exact digs_ok (by decide) _) (by rw [← hTY]; exact digs_ok (by decide) _) (by rw [← hTY]; exact digs_trim (by decide) _) (by rw [hv2]; exact h0) (by rw [← hTX]; have := hlx.out; omega) (by rw [← hTY]; have := hly.out; omega))
      rw [hv1, hv2] at CO
      have HY2 := Lib.hid hY2
      have HTY := Lib.hid hTY
      have HGS : Hid (Nat.gcd gk (X % gk) = G) := Lib.hid (by rw [← hg.out, Nat.gcd_comm X gk, Nat.gcd_rec gk X, Nat.gcd_comm])
      have HLR : Hid ((digs 65536 (X % gk)).length ≤ 1000) := Lib.hid (Nat.le_trans (digs_len_mono (Nat.mod_le X gk)) hlx.out)
      have HLT : Hid (X % gk < gk) := Lib.hid (Nat.mod_lt _ h0)
      have hsz : Hid (w0.heap.size ≤ wr.heap.size) := Lib.hid (by
        rcases HY2.out with ⟨_, h2⟩ | ⟨g, cap, _, h2, h3⟩
        · rw [h2] at hl2; simp at hl2
        · have := h3.lt; omega)
      clear hX hY hX2 hY2 hD1 hD2 hv1 hv2 hg hTX hTY
      go_wp2_with fail
      refine CO.out.mono ?_
      rintro e w6 ⟨⟨v3, v4, rfl, hR3, hR4⟩, hT6⟩
      have HR4 := Lib.hid (hR4.mono (C := w0.heap.size) hsz.out)
      have F6 := Lib.hid (hF.out.keep hT6)
      have HY6 : Hid (Row w0.heap.size w6 3 .i64 (.slice A2 TY.length c2) (digs 65536 gk)) := Lib.hid (by rw [HTY.out]; exact HY2.out.kept hT6)
      have HLY := hly
      clear hR3 hR4 hT6 CO
      go_wp2
      go_roundg (X % gk)
      case rel => exact ⟨gk, _, v4, rfl, rfl, HGS, HY6, HR4, HLY, HLR, F6⟩
      case measure => exact HLT.out

end Go.Proofs.YtjknmcmniemigaaDoor
