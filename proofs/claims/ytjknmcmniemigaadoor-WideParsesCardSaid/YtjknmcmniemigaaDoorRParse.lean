/- lithophaneref01.Parse. -/
import Derived.Test.YtjknmcmniemigaaDoorOver
import Derived.Test.YtjknmcmniemigaaDoorRWide
import Derived.Test.YtjknmcmniemigaaDoorParse
namespace Go.Proofs.YtjknmcmniemigaaDoor
open Go.RowKit Dg

theorem nv_lt16 {l : List Nat} (h : decs l = true) : 10 * nv l < 65536 ^ (l.length + 1) := by
  have h1 := nv_lt h
  have h2 : 10 ^ (l.length + 1) ≤ 65536 ^ (l.length + 1) := Nat.pow_le_pow_left (by decide) _
  rw [Nat.pow_succ] at h2
  omega

theorem row_tail {w : World} {g : Nat} {y : Nat} (h : Own w 3 .i64 g 1 [y]) : Rd w.heap.size w (some ⟨g, 0, none⟩) (cut [y]) := by
  have h1 := h.take (cut [y]).length
  rw [← cut_take] at h1
  exact .inr ⟨g, 1, rfl, h.lt, h1⟩

set_option maxHeartbeats 8000000 in
set_option maxRecDepth 100000 in
theorem rParse (s d : ByteArray) (neg : Bool) (w : World) (hs : s.size ≤ 1000) (hds : d.size ≤ s.size)
    (hc : (neg = true ∧ ∃ h : 0 < s.size, s[0].toNat = 45 ∧ s.extract 1 s.size = d) ∨ (neg = false ∧ s = d ∧ (s.size = 0 ∨ ∃ h : 0 < s.size, s[0].toNat ≠ 45))) :
    Calls Tryd.prog 39 #[.string s] w fun e w' => e = .returned (parV neg (sb d)) ∧ Tch [] w w' := by
  obtain ⟨w0, hw0⟩ : ∃ w0, w0 = w.alloc (.cells #[.bool false, .string ⟨#[]⟩] 27) := ⟨_, rfl⟩
  have hB0 : w0.heap[w.heap.size]? = some (.cells #[.bool false, .string ⟨#[]⟩] 27 (0, 0)) := by rw [hw0]; exact Below.heap_alloc_new' w _
  have hT0 : Tch [] w w0 := by rw [hw0]; exact (Tch.refl [] w).alloc _
  have fin : ∀ w1, Tch [] w0 w1 → w1.cell? ⟨w.heap.size, 0, none⟩ = some (.bool false) ∧ w1.cell? ⟨w.heap.size, 1, none⟩ = some (.string ⟨#[]⟩) ∧ w1.frozen? ⟨w.heap.size, 0, none⟩ = false ∧ w1.frozen? ⟨w.heap.size, 1, none⟩ = false ∧ Tch [] w w1 := by
    intro w1 h
    have hb := (h.block w.heap.size (by rw [hw0]; simp) (by simp)).trans hB0
    exact ⟨by rw [cell_of_row _ _ _ _ _ _ hb]; rfl, by rw [cell_of_row _ _ _ _ _ _ hb]; rfl, frozen_of_row _ _ _ _ _ hb, frozen_of_row _ _ _ _ _ hb, hT0.trans h (by simp)⟩
  have FIN := Lib.hid fin
  have HW := Lib.hid hw0
  clear fin hB0 hT0 hw0
  rcases hc with ⟨rfl, h0, hb, hd⟩ | ⟨rfl, hd, hn⟩
  · go_enter Tryd.func39, Tryd.ntmps39
    go_wp2
    rw [← HW.out]
    go_loopw [6, 7] (fun ux ui wr => ∃ (k : Nat) (zs : List Nat) (v : Value), v = ux ∧ ui = .int .i64 (k : Int) ∧ k ≤ d.size ∧ Hid (decs ((sb d).take k) = true) ∧ Hid (Ok 65536 zs) ∧ Hid (dg 65536 zs = nv ((sb d).take k)) ∧ Hid (zs.length ≤ 2000) ∧ Hid (Row w0.heap.size wr 3 .i64 v zs) ∧ Hid (Tch [] w0 wr)) (fun _ ui _ => d.size - (intOf ui).toNat)
    case atStart => exact ⟨0, [], _, rfl, rfl, Nat.zero_le _, Lib.hid rfl, Lib.hid (Ok.nil _), Lib.hid rfl, Lib.hid (by simp), Lib.hid Row.nil, Lib.hid (Tch.refl [] w0)⟩
    case round =>
      obtain ⟨k, zs, v, rfl, rfl, hk, hD, hO, hV, hL, hR, hT⟩ := hrel
      by_cases hlt : k < d.size
      · obtain ⟨b, hbk⟩ : ∃ b : Nat, d[k].toNat = b := ⟨_, rfl⟩
        have hsn := sb_take_succ d k hlt
        rw [hbk] at hsn
        by_cases hdg : 48 ≤ b ∧ b ≤ 57
        · obtain ⟨y, hy⟩ : ∃ y : Nat, (b : Int) - 48 = (y : Int) := ⟨b - 48, by omega⟩
          have hyb : y < 65536 := by omega
          have hy1 : IntKind.u8.wrap (y : Int) = (y : Int) := by simp only [IntKind.wrap_u8]; omega
          have hy2 : IntKind.i64.wrap (y : Int) = (y : Int) := by simp only [IntKind.wrap_i64]; omega
          have HS : Hid (decs ((sb d).take (k + 1)) = true) := Lib.hid (by rw [hsn, decs_snoc, hD.out]; simp [hdg.1, hdg.2])
          have HN : Hid (nv ((sb d).take (k + 1)) = nv ((sb d).take k) * 10 + y) := Lib.hid (by rw [hsn, nv_snoc]; omega)
          have hd1 := hdg.1
          have hd2 := hdg.2
          obtain ⟨A1, c1, rfl, _⟩ := Rd.of_row hR.out (Nat.le_refl _)
          have BY : Hid (∀ W, Tch [] wr W → Calls Tryd.prog 75 #[.slice A1 zs.length c1, .int .i64 10] W fun e w' => (∃ v, e = .returned v ∧ Row W.heap.size w' 3 .i64 v (digs 65536 (dg 65536 zs * 10))) ∧ Tch [] W w') := Lib.hid (fun W t => rby A1 c1 zs 10 W (Rd.of_rowA (hR.out.kept t)) hO.out (by decide) (by have := hL.out; omega))
          have HWL : Hid (w0.heap.size ≤ wr.heap.size) := Lib.hid hT.out.size
          have HDL : Hid ((digs 65536 (dg 65536 zs * 10)).length ≤ 1001) := Lib.hid (by
            have h1 := nv_lt16 hD.out
            have h2 := digs_length_le (b := 65536) (by decide) h1
            rw [hV.out, Nat.mul_comm]
            have h3 : ((sb d).take k).length ≤ k := List.length_take_le _ _
            omega)
          have HTR := Lib.hid (fun W g (h : Own W 3 .i64 g 1 [y]) => (by
            obtain ⟨r, W1⟩ := h.win
            exact rtrimW g 0 1 [] r [y] W (by simp) (by simp) W1 : Calls Tryd.prog 76 #[.slice (some ⟨g, 0, none⟩) 1 1] W fun e w' => e = .returned (.slice (some ⟨g, 0, none⟩) (cut [y]).length 1) ∧ W = w'))
          have HYO : Hid (Ok 65536 [y]) := Lib.hid (Ok.cons hyb (Ok.nil _))
          clear hsn hdg
          go_wp2_with fail
          go_region_held3 (fun _ => True) (trivial) (first
            | (go_at_call 75; (first
              | (with_reducible refine (BY.out _ ((Tch.refl [] wr).drew)).mono ?_; rintro e w5 ⟨⟨vb, rfl, hRb⟩, hT5⟩; have HT5 := Lib.hid (Tch.undrew hT5))
              | (with_reducible refine (BY.out _ (((Tch.refl [] wr).alloc (.cells #[.int .i64 (y : Int)] 3)).drew)).mono ?_; rintro e w5 ⟨⟨vb, rfl, hRb⟩, hT5⟩; have HT5 := Lib.hid (((Tch.refl [] wr).alloc (.cells #[.int .i64 (y : Int)] 3)).trans (Tch.undrew hT5) (by simp)); have HOY := Lib.hid ((own_one wr y).kept (Tch.undrew hT5) (by simp)))); obtain ⟨Ab, cb, rfl, _⟩ := Rd.of_row hRb (Nat.le_refl _); have HRb := Lib.hid hRb; clear hRb hT5)
            | (go_at_call 76; (first | (with_reducible refine (HTR.out _ _ HOY.out).mono ?_) | (with_reducible refine (HTR.out _ _ (own_one w5 y)).mono ?_)); rintro e w6 ⟨rfl, rfl⟩)
            | (go_at_call 50; (first
              | (with_reducible refine (rplus Ab (some ⟨wr.heap.size, 0, none⟩) cb 1 (digs 65536 (dg 65536 zs * 10)) (cut [y]) w5 (Rd.of_rowA HRb.out) (row_tail HOY.out) (digs_ok (by decide) _) (cut_ok HYO.out) (by have := HDL.out; omega) (Nat.le_trans (cut_length_le _) (by simp))).mono ?_; rintro e w7 ⟨⟨v7, rfl, zs7, hR7, hO7, hL7, hV7⟩, hT7⟩; have HT7 := Lib.hid (HT5.out.trans hT7 (by simp)))
              | (with_reducible refine (rplus Ab (some ⟨w5.heap.size, 0, none⟩) cb 1 (digs 65536 (dg 65536 zs * 10)) (cut [y]) (w5.alloc (.cells #[.int .i64 (y : Int)] 3)) (Rd.of_rowA (HRb.out.kept ((Tch.refl [] w5).alloc _))) (row_tail (own_one w5 y)) (digs_ok (by decide) _) (cut_ok HYO.out) (by have := HDL.out; omega) (Nat.le_trans (cut_length_le _) (by simp))).mono ?_; rintro e w7 ⟨⟨v7, rfl, zs7, hR7, hO7, hL7, hV7⟩, hT7⟩; have HT7 := Lib.hid ((HT5.out.alloc _).trans hT7 (by simp)))); have HR7 := Lib.hid hR7; have HO7 := Lib.hid hO7; have HL7 := Lib.hid hL7; have HV7 := Lib.hid hV7; clear hR7 hO7 hL7 hV7 hT7))
          all_goals go_wp2
          all_goals
            refine ⟨⟨k + 1, zs7, v7, rfl, by first | rfl | go_num, by omega, HS, HO7, Lib.hid ?_, Lib.hid ?_, Lib.hid (HR7.out.mono ?_), Lib.hid (hT.out.trans HT7.out (by simp))⟩, ?_⟩
            · rw [HV7.out, dg_digs (by decide), dg_cut, HN.out, ← hV.out]; simp [dg]
            · have h1 := HL7.out; have h2 := HDL.out; have h3 := cut_length_le [y]; simp at h3; omega
            · have h1 := HWL.out; have h2 := HT5.out.size; simp; omega
            · simp [intOf]; omega
        · have HS : Hid (decs (sb d) = false) := by
            refine Lib.hid (decs_bad (k := k) (by rw [sb_length]; exact hlt) ?_)
            have h2 := take_succ_getD (sb d) k (by rw [sb_length]; exact hlt)
            rw [hsn] at h2
            have h3 := List.append_cancel_left h2
            simp only [List.cons.injEq, and_true] at h3
            rw [← h3]; exact hdg
          have HP : Hid (parV true (sb d) = .tuple #[.agg #[.bool false, .string ⟨#[]⟩], .bool false]) := Lib.hid (by unfold parV; rw [if_neg (by rw [HS.out]; simp)])
          obtain ⟨c0, c1, f0, f1, hT9⟩ := FIN.out wr hT.out
          have HT9 := Lib.hid hT9
          clear hT9
          by_cases h48 : b < 48
          · clear hsn hdg hD
            go_wp2
            refine bodyPost_ret (v := .tuple #[.agg #[.bool false, .string ⟨#[]⟩], .bool false]) (by simp [results, Tryd.results39, go_sem, c0, c1]) rfl ⟨by rw [HP.out], ?_⟩
            exact (HT9.out.setCell (.inr (by simp)) _).setCell (.inr (by simp)) _
          · have h57 : 57 < b := by omega
            clear hsn hdg hD
            go_wp2
            refine bodyPost_ret (v := .tuple #[.agg #[.bool false, .string ⟨#[]⟩], .bool false]) (by simp [results, Tryd.results39, go_sem, c0, c1]) rfl ⟨by rw [HP.out], ?_⟩
            exact (HT9.out.setCell (.inr (by simp)) _).setCell (.inr (by simp)) _
      · have hke : k = d.size := by omega
        have htk : (sb d).take k = sb d := List.take_of_length_le (by rw [sb_length]; omega)
        rw [htk] at hD hV
        obtain ⟨bz, sz, ez⟩ := wv_agg true (nv (sb d))
        have CW := Lib.hid (rwideAny true zs v wr hR.out hO.out (by have := hL.out; omega))
        rw [hV.out, ez] at CW
        by_cases h0d : 0 < d.size
        · have HP : Hid (parV true (sb d) = .tuple #[.agg #[.bool bz, .string sz], .bool true]) := Lib.hid (by
            unfold parV
            rw [if_pos ⟨hD.out, fun h => by have := sb_length d; rw [h] at this; simp at this; omega⟩, ez])
          have he1 : (!d.toList.isEmpty) = true := by rw [not_emp]; simpa using h0d
          have he2 : d.toList.isEmpty = false := by simpa using he1
          clear htk hD hV hR hO hL ez
          go_wp2_with fail
          refine CW.out.mono ?_
          rintro e w6 ⟨rfl, hT6⟩
          obtain ⟨c0, c1, f0, f1, hT9⟩ := FIN.out w6 (hT.out.trans hT6 (by simp))
          have HT9 := Lib.hid hT9
          clear hT9 hT6
          go_wp2
          refine bodyPost_ret (v := .tuple #[.agg #[.bool bz, .string sz], .bool true]) (by simp [results, Tryd.results39, go_sem, c0, c1]) rfl ⟨by rw [HP.out], ?_⟩
          exact (HT9.out.setCell (.inr (by simp)) _).setCell (.inr (by simp)) _
        · have hsb : sb d = [] := List.eq_nil_of_length_eq_zero (by rw [sb_length]; omega)
          have ez' := ez
          rw [hsb, show wv true (nv []) = .agg #[.bool false, .string ⟨#[]⟩] from by simp [wv, nv]] at ez'
          simp only [Value.agg.injEq, Array.mk.injEq, List.cons.injEq, Value.bool.injEq, Value.string.injEq, and_true] at ez'
          obtain ⟨rfl, rfl⟩ := ez'
          have HP : Hid (parV true (sb d) = .tuple #[.agg #[.bool false, .string ⟨#[]⟩], .bool false]) := Lib.hid (by unfold parV; rw [if_neg (by rw [hsb]; simp)])
          have he1 : (!d.toList.isEmpty) = false := by rw [not_emp]; simpa using h0d
          have he2 : d.toList.isEmpty = true := by simpa using he1
          clear htk hD hV hR hO hL ez hsb
          go_wp2_with fail
          refine CW.out.mono ?_
          rintro e w6 ⟨rfl, hT6⟩
          obtain ⟨c0, c1, f0, f1, hT9⟩ := FIN.out w6 (hT.out.trans hT6 (by simp))
          have HT9 := Lib.hid hT9
          clear hT9 hT6
          go_wp2
          refine bodyPost_ret (v := .tuple #[.agg #[.bool false, .string ⟨#[]⟩], .bool false]) (by simp [results, Tryd.results39, go_sem, c0, c1]) rfl ⟨by rw [HP.out], ?_⟩
          exact (HT9.out.setCell (.inr (by simp)) _).setCell (.inr (by simp)) _
  · subst hd
    rcases hn with hn | ⟨h0, hn⟩
    · have hle : s.size ≤ 0 := by omega
      clear hn
      go_enter Tryd.func39, Tryd.ntmps39
      go_wp2
      rw [← HW.out]
      go_loopw [6, 7] (fun ux ui wr => ∃ (k : Nat) (zs : List Nat) (v : Value), v = ux ∧ ui = .int .i64 (k : Int) ∧ k ≤ s.size ∧ Hid (decs ((sb s).take k) = true) ∧ Hid (Ok 65536 zs) ∧ Hid (dg 65536 zs = nv ((sb s).take k)) ∧ Hid (zs.length ≤ 2000) ∧ Hid (Row w0.heap.size wr 3 .i64 v zs) ∧ Hid (Tch [] w0 wr)) (fun _ ui _ => s.size - (intOf ui).toNat)
      case atStart => exact ⟨0, [], _, rfl, rfl, Nat.zero_le _, Lib.hid rfl, Lib.hid (Ok.nil _), Lib.hid rfl, Lib.hid (by simp), Lib.hid Row.nil, Lib.hid (Tch.refl [] w0)⟩
      case round =>
        obtain ⟨k, zs, v, rfl, rfl, hk, hD, hO, hV, hL, hR, hT⟩ := hrel
        by_cases hlt : k < s.size
        · exfalso; omega
        · have hke : k = s.size := by omega
          have htk : (sb s).take k = sb s := List.take_of_length_le (by rw [sb_length]; omega)
          rw [htk] at hD hV
          obtain ⟨bz, sz, ez⟩ := wv_agg false (nv (sb s))
          have CW := Lib.hid (rwideAny false zs v wr hR.out hO.out (by have := hL.out; omega))
          rw [hV.out, ez] at CW
          by_cases h0d : 0 < s.size
          · exfalso; omega
          · have hsb : sb s = [] := List.eq_nil_of_length_eq_zero (by rw [sb_length]; omega)
            have ez' := ez
            rw [hsb, show wv false (nv []) = .agg #[.bool false, .string ⟨#[]⟩] from by simp [wv, nv]] at ez'
            simp only [Value.agg.injEq, Array.mk.injEq, List.cons.injEq, Value.bool.injEq, Value.string.injEq, and_true] at ez'
            obtain ⟨rfl, rfl⟩ := ez'
            have HP : Hid (parV false (sb s) = .tuple #[.agg #[.bool false, .string ⟨#[]⟩], .bool false]) := Lib.hid (by unfold parV; rw [if_neg (by rw [hsb]; simp)])
            have he1 : (!s.toList.isEmpty) = false := by rw [not_emp]; simpa using h0d
            have he2 : s.toList.isEmpty = true := by simpa using he1
            clear htk hD hV hR hO hL ez hsb
            go_wp2_with fail
            refine CW.out.mono ?_
            rintro e w6 ⟨rfl, hT6⟩
            obtain ⟨c0, c1, f0, f1, hT9⟩ := FIN.out w6 (hT.out.trans hT6 (by simp))
            have HT9 := Lib.hid hT9
            clear hT9 hT6
            go_wp2
            refine bodyPost_ret (v := .tuple #[.agg #[.bool false, .string ⟨#[]⟩], .bool false]) (by simp [results, Tryd.results39, go_sem, c0, c1]) rfl ⟨by rw [HP.out], ?_⟩
            exact (HT9.out.setCell (.inr (by simp)) _).setCell (.inr (by simp)) _
    · obtain ⟨b0, hb0⟩ : ∃ b0 : Nat, s[0].toNat = b0 := ⟨_, rfl⟩
      rw [hb0] at hn
      have hbb : ((b0 : Int) == 45) = false := beq_eq_false_iff_ne.2 (by omega)
      clear hn
      go_enter Tryd.func39, Tryd.ntmps39
      go_wp2
      rw [← HW.out]
      go_loopw [6, 7] (fun ux ui wr => ∃ (k : Nat) (zs : List Nat) (v : Value), v = ux ∧ ui = .int .i64 (k : Int) ∧ k ≤ s.size ∧ Hid (decs ((sb s).take k) = true) ∧ Hid (Ok 65536 zs) ∧ Hid (dg 65536 zs = nv ((sb s).take k)) ∧ Hid (zs.length ≤ 2000) ∧ Hid (Row w0.heap.size wr 3 .i64 v zs) ∧ Hid (Tch [] w0 wr)) (fun _ ui _ => s.size - (intOf ui).toNat)
      case atStart => exact ⟨0, [], _, rfl, rfl, Nat.zero_le _, Lib.hid rfl, Lib.hid (Ok.nil _), Lib.hid rfl, Lib.hid (by simp), Lib.hid Row.nil, Lib.hid (Tch.refl [] w0)⟩
      case round =>
        obtain ⟨k, zs, v, rfl, rfl, hk, hD, hO, hV, hL, hR, hT⟩ := hrel
        by_cases hlt : k < s.size
        · obtain ⟨b, hbk⟩ : ∃ b : Nat, s[k].toNat = b := ⟨_, rfl⟩
          have hsn := sb_take_succ s k hlt
          rw [hbk] at hsn
          by_cases hdg : 48 ≤ b ∧ b ≤ 57
          · obtain ⟨y, hy⟩ : ∃ y : Nat, (b : Int) - 48 = (y : Int) := ⟨b - 48, by omega⟩
            have hyb : y < 65536 := by omega
            have hy1 : IntKind.u8.wrap (y : Int) = (y : Int) := by simp only [IntKind.wrap_u8]; omega
            have hy2 : IntKind.i64.wrap (y : Int) = (y : Int) := by simp only [IntKind.wrap_i64]; omega
            have HS : Hid (decs ((sb s).take (k + 1)) = true) := Lib.hid (by rw [hsn, decs_snoc, hD.out]; simp [hdg.1, hdg.2])
            have HN : Hid (nv ((sb s).take (k + 1)) = nv ((sb s).take k) * 10 + y) := Lib.hid (by rw [hsn, nv_snoc]; omega)
            have hd1 := hdg.1
            have hd2 := hdg.2
            obtain ⟨A1, c1, rfl, _⟩ := Rd.of_row hR.out (Nat.le_refl _)
            have BY : Hid (∀ W, Tch [] wr W → Calls Tryd.prog 75 #[.slice A1 zs.length c1, .int .i64 10] W fun e w' => (∃ v, e = .returned v ∧ Row W.heap.size w' 3 .i64 v (digs 65536 (dg 65536 zs * 10))) ∧ Tch [] W w') := Lib.hid (fun W t => rby A1 c1 zs 10 W (Rd.of_rowA (hR.out.kept t)) hO.out (by decide) (by have := hL.out; omega))
            have HWL : Hid (w0.heap.size ≤ wr.heap.size) := Lib.hid hT.out.size
            have HDL : Hid ((digs 65536 (dg 65536 zs * 10)).length ≤ 1001) := Lib.hid (by
              have h1 := nv_lt16 hD.out
              have h2 := digs_length_le (b := 65536) (by decide) h1
              rw [hV.out, Nat.mul_comm]
              have h3 : ((sb s).take k).length ≤ k := List.length_take_le _ _
              omega)
            have HTR := Lib.hid (fun W g (h : Own W 3 .i64 g 1 [y]) => (by
              obtain ⟨r, W1⟩ := h.win
              exact rtrimW g 0 1 [] r [y] W (by simp) (by simp) W1 : Calls Tryd.prog 76 #[.slice (some ⟨g, 0, none⟩) 1 1] W fun e w' => e = .returned (.slice (some ⟨g, 0, none⟩) (cut [y]).length 1) ∧ W = w'))
            have HYO : Hid (Ok 65536 [y]) := Lib.hid (Ok.cons hyb (Ok.nil _))
            clear hsn hdg
            go_wp2_with fail
            go_region_held3 (fun _ => True) (trivial) (first
              | (go_at_call 75; (first
                | (with_reducible refine (BY.out _ ((Tch.refl [] wr).drew)).mono ?_; rintro e w5 ⟨⟨vb, rfl, hRb⟩, hT5⟩; have HT5 := Lib.hid (Tch.undrew hT5))
                | (with_reducible refine (BY.out _ (((Tch.refl [] wr).alloc (.cells #[.int .i64 (y : Int)] 3)).drew)).mono ?_; rintro e w5 ⟨⟨vb, rfl, hRb⟩, hT5⟩; have HT5 := Lib.hid (((Tch.refl [] wr).alloc (.cells #[.int .i64 (y : Int)] 3)).trans (Tch.undrew hT5) (by simp)); have HOY := Lib.hid ((own_one wr y).kept (Tch.undrew hT5) (by simp)))); obtain ⟨Ab, cb, rfl, _⟩ := Rd.of_row hRb (Nat.le_refl _); have HRb := Lib.hid hRb; clear hRb hT5)
              | (go_at_call 76; (first | (with_reducible refine (HTR.out _ _ HOY.out).mono ?_) | (with_reducible refine (HTR.out _ _ (own_one w5 y)).mono ?_)); rintro e w6 ⟨rfl, rfl⟩)
              | (go_at_call 50; (first
                | (with_reducible refine (rplus Ab (some ⟨wr.heap.size, 0, none⟩) cb 1 (digs 65536 (dg 65536 zs * 10)) (cut [y]) w5 (Rd.of_rowA HRb.out) (row_tail HOY.out) (digs_ok (by decide) _) (cut_ok HYO.out) (by have := HDL.out; omega) (Nat.le_trans (cut_length_le _) (by simp))).mono ?_; rintro e w7 ⟨⟨v7, rfl, zs7, hR7, hO7, hL7, hV7⟩, hT7⟩; have HT7 := Lib.hid (HT5.out.trans hT7 (by simp)))
                | (with_reducible refine (rplus Ab (some ⟨w5.heap.size, 0, none⟩) cb 1 (digs 65536 (dg 65536 zs * 10)) (cut [y]) (w5.alloc (.cells #[.int .i64 (y : Int)] 3)) (Rd.of_rowA (HRb.out.kept ((Tch.refl [] w5).alloc _))) (row_tail (own_one w5 y)) (digs_ok (by decide) _) (cut_ok HYO.out) (by have := HDL.out; omega) (Nat.le_trans (cut_length_le _) (by simp))).mono ?_; rintro e w7 ⟨⟨v7, rfl, zs7, hR7, hO7, hL7, hV7⟩, hT7⟩; have HT7 := Lib.hid ((HT5.out.alloc _).trans hT7 (by simp)))); have HR7 := Lib.hid hR7; have HO7 := Lib.hid hO7; have HL7 := Lib.hid hL7; have HV7 := Lib.hid hV7; clear hR7 hO7 hL7 hV7 hT7))
            all_goals go_wp2
            all_goals
              refine ⟨⟨k + 1, zs7, v7, rfl, by first | rfl | go_num, by omega, HS, HO7, Lib.hid ?_, Lib.hid ?_, Lib.hid (HR7.out.mono ?_), Lib.hid (hT.out.trans HT7.out (by simp))⟩, ?_⟩
              · rw [HV7.out, dg_digs (by decide), dg_cut, HN.out, ← hV.out]; simp [dg]
              · have h1 := HL7.out; have h2 := HDL.out; have h3 := cut_length_le [y]; simp at h3; omega
              · have h1 := HWL.out; have h2 := HT5.out.size; simp; omega
              · simp [intOf]; omega
          · have HS : Hid (decs (sb s) = false) := by
              refine Lib.hid (decs_bad (k := k) (by rw [sb_length]; exact hlt) ?_)
              have h2 := take_succ_getD (sb s) k (by rw [sb_length]; exact hlt)
              rw [hsn] at h2
              have h3 := List.append_cancel_left h2
              simp only [List.cons.injEq, and_true] at h3
              rw [← h3]; exact hdg
            have HP : Hid (parV false (sb s) = .tuple #[.agg #[.bool false, .string ⟨#[]⟩], .bool false]) := Lib.hid (by unfold parV; rw [if_neg (by rw [HS.out]; simp)])
            obtain ⟨c0, c1, f0, f1, hT9⟩ := FIN.out wr hT.out
            have HT9 := Lib.hid hT9
            clear hT9
            by_cases h48 : b < 48
            · clear hsn hdg hD
              go_wp2
              refine bodyPost_ret (v := .tuple #[.agg #[.bool false, .string ⟨#[]⟩], .bool false]) (by simp [results, Tryd.results39, go_sem, c0, c1]) rfl ⟨by rw [HP.out], ?_⟩
              exact (HT9.out.setCell (.inr (by simp)) _).setCell (.inr (by simp)) _
            · have h57 : 57 < b := by omega
              clear hsn hdg hD
              go_wp2
              refine bodyPost_ret (v := .tuple #[.agg #[.bool false, .string ⟨#[]⟩], .bool false]) (by simp [results, Tryd.results39, go_sem, c0, c1]) rfl ⟨by rw [HP.out], ?_⟩
              exact (HT9.out.setCell (.inr (by simp)) _).setCell (.inr (by simp)) _
        · have hke : k = s.size := by omega
          have htk : (sb s).take k = sb s := List.take_of_length_le (by rw [sb_length]; omega)
          rw [htk] at hD hV
          obtain ⟨bz, sz, ez⟩ := wv_agg false (nv (sb s))
          have CW := Lib.hid (rwideAny false zs v wr hR.out hO.out (by have := hL.out; omega))
          rw [hV.out, ez] at CW
          by_cases h0d : 0 < s.size
          · have HP : Hid (parV false (sb s) = .tuple #[.agg #[.bool bz, .string sz], .bool true]) := Lib.hid (by
              unfold parV
              rw [if_pos ⟨hD.out, fun h => by have := sb_length s; rw [h] at this; simp at this; omega⟩, ez])
            have he1 : (!s.toList.isEmpty) = true := by rw [not_emp]; simpa using h0d
            have he2 : s.toList.isEmpty = false := by simpa using he1
            clear htk hD hV hR hO hL ez
            go_wp2_with fail
            refine CW.out.mono ?_
            rintro e w6 ⟨rfl, hT6⟩
            obtain ⟨c0, c1, f0, f1, hT9⟩ := FIN.out w6 (hT.out.trans hT6 (by simp))
            have HT9 := Lib.hid hT9
            clear hT9 hT6
            go_wp2
            refine bodyPost_ret (v := .tuple #[.agg #[.bool bz, .string sz], .bool true]) (by simp [results, Tryd.results39, go_sem, c0, c1]) rfl ⟨by rw [HP.out], ?_⟩
            exact (HT9.out.setCell (.inr (by simp)) _).setCell (.inr (by simp)) _
          · exact absurd h0 h0d

end Go.Proofs.YtjknmcmniemigaaDoor
