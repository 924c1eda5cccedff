/- lithophaneref01.wide of any digits, trimmed or not. -/
import Derived.Test.YtmiibcdcnoefgaaDoorRef
namespace Go.Proofs.YtmiibcdcnoefgaaDoor
open Go.RowKit Dg

set_option maxHeartbeats 4000000 in
set_option maxRecDepth 100000 in
theorem rwideT (neg : Bool) (g cap : Nat) (zs xs : List Nat) (w : World) (hOz : Own w 3 .i64 g cap zs) (hxz : cut zs = xs) (hbz : zs.length ≤ 1000000) (hk : Ok 65536 xs) (h0 : xs ≠ []) :
    Calls Tryd.prog 51 #[.bool neg, .slice (some ⟨g, 0, none⟩) zs.length cap] w fun e w' => e = .returned (.agg #[.bool neg, .string (mo (dg 65536 xs))]) ∧ Tch [] w w' := by
  obtain ⟨i0, hi, hz0, hz1, hz2⟩ := info_parts info_u8'
  have ht : Trim xs := by rw [← hxz]; exact cut_trim zs
  have hlen : (cut zs).length ≤ zs.length := cut_length_le zs
  have hb : xs.length ≤ 1000000 := by rw [← hxz]; omega
  have hO : Own w 3 .i64 g cap xs := by have h1 := hOz.take (cut zs).length; rwa [← cut_take, hxz] at h1
  obtain ⟨rest, W⟩ := hOz.win
  have c1 := fun w1 (t : Tch [] w w1) => rtrimW g 0 cap [] rest zs w1 (by omega) hOz.le (W.kept t (by simp))
  rw [hxz] at c1
  have C1 := Lib.hid c1
  have hl0 : 0 < xs.length := List.length_pos_iff.2 h0
  have hne : ((xs.length : Int) == 0) = false := by simp; omega
  clear c1 hxz hlen hOz hbz
  go_enter Tryd.func51, Tryd.ntmps51
  go_wp2_with fail
  refine (C1.out _ ((Tch.refl [] w).alloc _)).mono ?_
  rintro e w1 ⟨rfl, rfl⟩
  obtain ⟨w0, hw0⟩ : ∃ w0, w0 = w.alloc (.cells #[.bool false, .string ⟨#[]⟩] 27) := ⟨_, rfl⟩
  have HW0 := Lib.hid hw0
  have hO0 : Own w0 3 .i64 g cap xs := by rw [hw0]; exact hO.kept ((Tch.refl [] w).alloc _) (by simp)
  have HO := Lib.hid hO0
  have HK := Lib.hid hk
  have HT := Lib.hid ht
  have HN := Lib.hid h0
  have hcl := hO.le
  clear hO hO0 hk ht h0 W hw0
  go_wp2
  rw [← HW0.out]
  go_loopw [5, 6] (fun u i wr => ∃ (m : Nat) (bs : List Nat) (I : Int) (v : Value), v = u ∧ Row w0.heap.size wr 5 .u8 v bs ∧ i = .int .i64 I ∧ Hid (I = (m : Int) - 1) ∧ m ≤ xs.length ∧ Hid (bs = (digs 256 (dg 65536 (xs.drop m))).reverse) ∧ Tch [] w0 wr) (fun _ i _ => (intOf i + 1).toNat)
  case atStart => exact ⟨xs.length, [], _, _, rfl, Row.nil, rfl, Lib.hid rfl, Nat.le_refl _, Lib.hid (by rw [List.drop_length, dg_nil, digs_zero]; rfl), Tch.refl [] w0⟩
  case round =>
    obtain ⟨m, bs, I, v, rfl, hR, rfl, hI, hm, hB, hTr⟩ := hrel
    have HR := Lib.hid hR
    have HTr := Lib.hid hTr
    clear hR hTr
    cases m with
    | zero =>
      obtain rfl : I = -1 := by have := hI.out; omega
      rw [List.drop_zero] at hB
      have hd0 : dg 65536 xs ≠ 0 := dg_ne_zero (by decide) HT.out HN.out
      rcases HR.out with ⟨_, hnil⟩ | ⟨g2, cap2, rfl, hg2, hO2⟩
      · rw [hB.out] at hnil
        have h7 : digs 256 (dg 65536 xs) = [] := by simpa using hnil
        exact absurd ((digs_eq_nil (b := 256) (by decide)).1 h7) hd0
      · obtain ⟨r2, W2⟩ := hO2.win
        have hcv := conv_pre W2 bs.length cap2 (Nat.le_refl _)
        have hmo : strOfNums ((bs.take bs.length).map fun x : Nat => (x : Int)) = mo (dg 65536 xs) := by
          rw [List.take_of_length_le (Nat.le_refl _), hB.out, ← sb_mo, str_sb]
        rw [hmo] at hcv
        obtain ⟨t, ht⟩ : ∃ t, mo (dg 65536 xs) = t := ⟨_, rfl⟩
        rw [ht] at hcv
        have HM := Lib.hid ht
        have hbx := (HTr.out.block w.heap.size (by rw [HW0.out]; simp) (by simp)).trans (show w0.heap[w.heap.size]? = some (.cells #[.bool false, .string ⟨#[]⟩] 27 (0, 0)) from by rw [HW0.out]; exact Below.heap_alloc_new' w _)
        have b0 : wr.cell? ⟨w.heap.size, 0, none⟩ = some (.bool false) := by rw [cell_of_row _ _ _ _ _ _ hbx]; rfl
        have b1 : wr.cell? ⟨w.heap.size, 1, none⟩ = some (.string ⟨#[]⟩) := by rw [cell_of_row _ _ _ _ _ _ hbx]; rfl
        have f0 := frozen_of_row wr w.heap.size 0 _ _ hbx
        have f1 := frozen_of_row wr w.heap.size 1 _ _ hbx
        have HTW : Hid (Tch [] w wr) := Lib.hid (((show Tch [] w w0 from by rw [HW0.out]; exact (Tch.refl [] w).alloc _)).trans HTr.out (by simp))
        clear hmo ht W2 hO2 hbx hd0 hB hI HR
        go_wp2
        refine bodyPost_ret (v := .agg #[.bool neg, .string t]) (by simp [results, Tryd.results51, go_sem, b0, b1]) rfl ⟨by rw [HM.out], ?_⟩
        exact (HTW.out.setCell (.inr (Nat.le_refl _)) _).setCell (.inr (Nat.le_refl _)) _
    | succ j =>
      obtain rfl : I = (j : Int) := by have := hI.out; omega
      have hj : j < xs.length := by omega
      obtain ⟨rest2, W2⟩ := HO.out.win
      obtain ⟨x, ex, cx⟩ := (W2.kept HTr.out (by simp)).read hj
      rw [Nat.zero_add] at cx
      have hstep := bytes_step hj HK.out HT.out
      rw [ex.out] at hstep
      have hx : x < 65536 := by rw [← ex.out]; exact HK.out.getD (by decide) j
      clear W2
      by_cases h2 : j + 1 < xs.length
      · rw [if_pos (.inl h2)] at hstep
        have hst := Lib.hid hstep
        have h3 : (j : Int) < (xs.length : Int) - 1 := by omega
        clear hstep
        have hbl : Hid (bs.length ≤ 3000000) := Lib.hid (by rw [hB.out, List.length_reverse]; exact bytes_len xs (j + 1) HK.out hb)
        have HB2 : Hid (bs ++ [x / 256, x % 256] = (digs 256 (dg 65536 (xs.drop j))).reverse) := Lib.hid (by rw [hst.out, hB.out]; simp)
        clear hst hB hI
        go_wp2_with (at_builtin; refine wpList_app_row _ rfl _ _ 22 rfl 5 .u8 i0 Tryd.underlying22 hi hz0 hz1 (by omega) w0 v bs (HTr.out.alloc _) (HR.out.kept ((Tch.refl [] wr).alloc _)) rfl ⟨wr.heap.size, 0, none⟩ 1 (x / 256) rfl (by simp) (by have := hbl.out; omega) ?_)
        intro v2 w3 hR2 hT2
        have HR2 := Lib.hid hR2
        have HT2 := Lib.hid hT2
        have cx3 : w3.cell? ⟨g, j, none⟩ = some (.int .i64 (x : Int)) := by
          obtain ⟨r3, W3⟩ := HO.out.win
          have h4 := (W3.kept hT2 (by simp)).cell hj
          rwa [Nat.zero_add, ex.out] at h4
        have hbl2 : Hid ((bs ++ [x / 256]).length ≤ 3000001) := Lib.hid (by rw [List.length_append]; have := hbl.out; simp; omega)
        clear hR2 hT2 cx
        go_wp2_with (at_builtin; refine wpList_app_row _ rfl _ _ 22 rfl 5 .u8 i0 Tryd.underlying22 hi hz0 hz1 (by omega) w0 v2 (bs ++ [x / 256]) (HT2.out.alloc _) (HR2.out.kept ((Tch.refl [] w3).alloc _)) rfl ⟨w3.heap.size, 0, none⟩ 1 (x % 256) rfl (by simp) (by have := hbl2.out; omega) ?_)
        intro v4 w4 hR4 hT4
        have HR4 := Lib.hid hR4
        have HT4 := Lib.hid hT4
        clear hR4 hT4 cx3
        go_wp2
        go_roundw
        case rel => exact ⟨j, bs ++ [x / 256, x % 256], (j : Int) - 1, v4, rfl, HR4.out, by first | rfl | go_num, Lib.hid rfl, by omega, HB2, HT4.out⟩
        case measure => simp [intOf]
      · by_cases h5 : 256 ≤ x
        · rw [if_pos (.inr h5)] at hstep
          have hst := Lib.hid hstep
          have h3 : ¬ (j : Int) < (xs.length : Int) - 1 := by omega
          have h6 : (256 : Int) ≤ (x : Int) := by omega
          clear hstep
          have hbl : Hid (bs.length ≤ 3000000) := Lib.hid (by rw [hB.out, List.length_reverse]; exact bytes_len xs (j + 1) HK.out hb)
          have HB2 : Hid (bs ++ [x / 256, x % 256] = (digs 256 (dg 65536 (xs.drop j))).reverse) := Lib.hid (by rw [hst.out, hB.out]; simp)
          clear hst hB hI
          go_wp2_with (at_builtin; refine wpList_app_row _ rfl _ _ 22 rfl 5 .u8 i0 Tryd.underlying22 hi hz0 hz1 (by omega) w0 v bs (HTr.out.alloc _) (HR.out.kept ((Tch.refl [] wr).alloc _)) rfl ⟨wr.heap.size, 0, none⟩ 1 (x / 256) rfl (by simp) (by have := hbl.out; omega) ?_)
          intro v2 w3 hR2 hT2
          have HR2 := Lib.hid hR2
          have HT2 := Lib.hid hT2
          have cx3 : w3.cell? ⟨g, j, none⟩ = some (.int .i64 (x : Int)) := by
            obtain ⟨r3, W3⟩ := HO.out.win
            have h4 := (W3.kept hT2 (by simp)).cell hj
            rwa [Nat.zero_add, ex.out] at h4
          have hbl2 : Hid ((bs ++ [x / 256]).length ≤ 3000001) := Lib.hid (by rw [List.length_append]; have := hbl.out; simp; omega)
          clear hR2 hT2 cx
          go_wp2_with (at_builtin; refine wpList_app_row _ rfl _ _ 22 rfl 5 .u8 i0 Tryd.underlying22 hi hz0 hz1 (by omega) w0 v2 (bs ++ [x / 256]) (HT2.out.alloc _) (HR2.out.kept ((Tch.refl [] w3).alloc _)) rfl ⟨w3.heap.size, 0, none⟩ 1 (x % 256) rfl (by simp) (by have := hbl2.out; omega) ?_)
          intro v4 w4 hR4 hT4
          have HR4 := Lib.hid hR4
          have HT4 := Lib.hid hT4
          clear hR4 hT4 cx3
          go_wp2
          go_roundw
          case rel => exact ⟨j, bs ++ [x / 256, x % 256], (j : Int) - 1, v4, rfl, HR4.out, by first | rfl | go_num, Lib.hid rfl, by omega, HB2, HT4.out⟩
          case measure => simp [intOf]
        · rw [if_neg (by omega)] at hstep
          have hst := Lib.hid hstep
          have h3 : ¬ (j : Int) < (xs.length : Int) - 1 := by omega
          have h6 : ¬ (256 : Int) ≤ (x : Int) := by omega
          clear hstep
          have hbl : Hid (bs.length ≤ 3000000) := Lib.hid (by rw [hB.out, List.length_reverse]; exact bytes_len xs (j + 1) HK.out hb)
          have hxm : x % 256 = x := by omega
          have HB2 : Hid (bs ++ [x % 256] = (digs 256 (dg 65536 (xs.drop j))).reverse) := Lib.hid (by rw [hst.out, hB.out, hxm]; simp)
          clear hst hB hI hxm
          go_wp2_with (at_builtin; refine wpList_app_row _ rfl _ _ 22 rfl 5 .u8 i0 Tryd.underlying22 hi hz0 hz1 (by omega) w0 v bs (HTr.out.alloc _) (HR.out.kept ((Tch.refl [] wr).alloc _)) rfl ⟨wr.heap.size, 0, none⟩ 1 (x % 256) rfl (by simp) (by have := hbl.out; omega) ?_)
          intro v4 w4 hR4 hT4
          have HR4 := Lib.hid hR4
          have HT4 := Lib.hid hT4
          clear hR4 hT4 cx
          go_wp2
          go_roundw
          case rel => exact ⟨j, bs ++ [x % 256], (j : Int) - 1, v4, rfl, HR4.out, by first | rfl | go_num, Lib.hid rfl, by omega, HB2, HT4.out⟩
          case measure => simp [intOf]

set_option maxHeartbeats 4000000 in
set_option maxRecDepth 100000 in
theorem rwideZe {B : Nat} (neg : Bool) (zs : List Nat) (v : Value) (w : World) (h : Row B w 3 .i64 v zs) (hn : zs.length ≤ 1000000) (hz : cut zs = []) :
    Calls Tryd.prog 51 #[.bool neg, v] w fun e w' => e = .returned (.agg #[.bool false, .string ⟨#[]⟩]) ∧ Tch [] w w' := by
  obtain ⟨v', hV, hC⟩ := rtrim h (by omega)
  rw [hz] at hV
  obtain ⟨A', c', rfl⟩ : ∃ A' c', v' = .slice A' 0 c' := by
    rcases hV with ⟨h1, _⟩ | ⟨g, cap, h1, _⟩
    · exact ⟨_, _, h1⟩
    · exact ⟨_, _, h1⟩
  have HC := Lib.hid hC
  clear hC hV h hn hz
  go_enter Tryd.func51, Tryd.ntmps51
  go_wp2_with fail
  refine (HC.out _ ((Tch.refl [] w).alloc _)).mono ?_
  rintro e w1 ⟨rfl, rfl⟩
  go_wp2
  refine bodyPost_ret (v := .agg #[.bool false, .string ⟨#[]⟩]) (by simp [results, Tryd.results51, go_sem]) rfl ⟨rfl, ?_⟩
  exact (Tch.refl [] w).alloc _

theorem rwideAny {B : Nat} (neg : Bool) (zs : List Nat) (v : Value) (w : World) (h : Row B w 3 .i64 v zs) (hk : Ok 65536 zs) (hn : zs.length ≤ 1000000) :
    Calls Tryd.prog 51 #[.bool neg, v] w fun e w' => e = .returned (wv neg (dg 65536 zs)) ∧ Tch [] w w' := by
  have hc : cut zs = digs 65536 (dg 65536 zs) := cut_eq (b := 65536) (by decide) hk
  by_cases h0 : dg 65536 zs = 0
  · rw [h0, show wv neg 0 = .agg #[.bool false, .string ⟨#[]⟩] from by simp [wv]]
    exact rwideZe neg zs v w h hn (by rw [hc, h0, digs_zero])
  · have hne : cut zs ≠ [] := fun h2 => h0 ((digs_eq_nil (b := 65536) (by decide)).1 (hc ▸ h2))
    rcases h with ⟨_, h1⟩ | ⟨g, cap, rfl, _, ho⟩
    · subst h1; exact absurd rfl h0
    · have h1 := rwideT neg g cap zs (cut zs) w ho rfl hn (cut_ok hk) hne
      rw [dg_cut] at h1
      unfold wv
      rwa [if_neg h0]

end Go.Proofs.YtmiibcdcnoefgaaDoor
