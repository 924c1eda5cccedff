/- lithophaneref01.neg, lithophaneref01.Root. -/
import Derived.Test.YtmiibcdcnoefgaaDoorOver
import Derived.Test.YtmiibcdcnoefgaaDoorRWide
import Derived.Test.YtmiibcdcnoefgaaDoorRoot
namespace Go.Proofs.YtmiibcdcnoefgaaDoor.Dg

/-- The square of q, its digits moved up by 2 j. -/
def sqB (j q : Nat) : Nat := q * q * 65536 ^ (2 * j)
theorem sqB_succ (j R : Nat) : sqB (j + 1) R = sqB j (65536 * R) := by
  unfold sqB
  rw [show 2 * (j + 1) = 2 * j + 1 + 1 from by omega, Nat.pow_succ, Nat.pow_succ]
  rw [Nat.mul_comm (65536 ^ (2 * j) * 65536) 65536, Nat.mul_comm (65536 ^ (2 * j)) 65536]
  simp only [Nat.mul_assoc, Nat.mul_left_comm, Nat.mul_comm]
theorem sqB_zero (R : Nat) : sqB 0 R = R * R := by simp [sqB]

theorem sq_uniq {a b n : Nat} (h1 : a * a ≤ n) (h2 : n < (a + 1) * (a + 1)) (h3 : b * b ≤ n) (h4 : n < (b + 1) * (b + 1)) : a = b := by
  rcases Nat.lt_trichotomy a b with h | h | h
  · have := Nat.mul_le_mul (show a + 1 ≤ b from h) (show a + 1 ≤ b from h); omega
  · exact h
  · have := Nat.mul_le_mul (show b + 1 ≤ a from h) (show b + 1 ≤ a from h); omega
end Go.Proofs.YtmiibcdcnoefgaaDoor.Dg

namespace Go.Proofs.YtmiibcdcnoefgaaDoor
open Go.RowKit Dg

/-- 'append(xs, ys...)'. -/
theorem app_gen {w : World} {g cap : Nat} {xs : List Nat} (hown : Own w 3 .i64 g cap xs) {B : Nat} {v : Value} {ys : List Nat} (hR : Row B w 3 .i64 v ys) (h0 : ys ≠ []) (hl : xs.length + ys.length ≤ 1000000000) :
    ∃ v' w', (Builtin.append_ #[62, 62] 62 #[.slice (some ⟨g, 0, none⟩) xs.length cap, v]).run Tryd.prog w = .ok v' w' ∧ App w 3 .i64 g (xs ++ ys) v' w' := by
  obtain ⟨i0, hi, hz0, hz1, hz2⟩ := info_parts info_int
  rcases hR with ⟨_, h1⟩ | ⟨g2, cap2, rfl, _, ho⟩
  · exact absurd h1 h0
  · obtain ⟨r, W⟩ := ho.win
    have hp : 0 < ys.length := List.length_pos_iff.2 h0
    exact app_cells w 62 62 3 .i64 i0 Tryd.underlying62 hi hz0 hz1 (by omega) g cap xs hown ⟨g2, 0, none⟩ cap2 ys (fun j u hu => by
      have hj : j < ys.length := by have := (List.getElem?_eq_some_iff.1 hu).1; rwa [ints_length] at this
      rw [ints_get .i64 ys j hj] at hu
      have hc := W.cell hj
      rw [← hu]
      rw [Nat.zero_add] at hc
      rw [← hc]
      unfold Addr.add
      by_cases hz : j = 0
      · simp [hz]
      · simp [hz]) (by omega) (by omega)

set_option maxHeartbeats 4000000 in
set_option maxRecDepth 100000 in
theorem rneg (ng : Bool) (s : ByteArray) (hs : s.size ≤ 1000000) (w : World) :
    Calls Tryd.prog 95 #[.agg #[.bool ng, .string s]] w fun e w' => e = .returned (.bool (ng && decide (bv (sb s) ≠ 0))) ∧ Tch [] w w' := by
  have C1 := Lib.hid (fun w1 => rdigits ng s w1 hs)
  have hc := fun w1 (hT : Tch [] (w.alloc (.cells #[.bool ng, .string s] 27)) w1) => cell_kept0 (show (w.alloc (.cells #[.bool ng, .string s] 27)).cell? ⟨w.heap.size, 0, none⟩ = some (.bool ng) by simp) hT
  cases ng with
  | false =>
    clear hc
    go_enter Tryd.func95, Tryd.ntmps95
    go_wp2
    go_ret
    exact ⟨rfl, (Tch.refl [] w).alloc _⟩
  | true =>
    obtain ⟨X, hX⟩ : ∃ X, digs 65536 (bv (sb s)) = X := ⟨_, rfl⟩
    have HP : Hid ((true && decide (bv (sb s) ≠ 0)) = decide (0 < X.length)) := Lib.hid (by
      rw [Bool.true_and, ← hX]
      by_cases h : bv (sb s) = 0
      · rw [h, digs_zero]; rfl
      · have : 0 < (digs 65536 (bv (sb s))).length := List.length_pos_iff.2 (fun h2 => h ((digs_eq_nil (b := 65536) (by decide)).1 h2))
        simp [h]; exact this)
    rw [hX] at C1
    clear hc hX
    by_cases h0 : 0 < X.length
    · have HQ : Hid (decide (0 < X.length) = true) := Lib.hid (by simpa using h0)
      go_enter Tryd.func95, Tryd.ntmps95
      go_wp2_with fail
      refine (C1.out _).mono ?_
      rintro e w3 ⟨⟨v1, rfl, hR1⟩, hT⟩
      obtain ⟨A1, k1, rfl, _⟩ := Rd.of_row hR1 (Nat.le_refl _)
      have HT := Lib.hid (((Tch.refl [] w).alloc (.cells #[.bool true, .string s] 27)).trans hT (by simp))
      clear hT hR1
      go_wp2
      go_ret
      exact ⟨by rw [HP.out, HQ.out]; rfl, HT.out⟩
    · have HQ : Hid (decide (0 < X.length) = false) := Lib.hid (by simpa using h0)
      have hx0 : X.length ≤ 0 := by omega
      go_enter Tryd.func95, Tryd.ntmps95
      go_wp2_with fail
      refine (C1.out _).mono ?_
      rintro e w3 ⟨⟨v1, rfl, hR1⟩, hT⟩
      obtain ⟨A1, k1, rfl, _⟩ := Rd.of_row hR1 (Nat.le_refl _)
      have HT := Lib.hid (((Tch.refl [] w).alloc (.cells #[.bool true, .string s] 27)).trans hT (by simp))
      clear hT hR1
      go_wp2
      go_ret
      exact ⟨by rw [HP.out, HQ.out]; rfl, HT.out⟩

set_option maxHeartbeats 8000000 in
set_option maxRecDepth 100000 in
theorem rRoot (ng : Bool) (sa : ByteArray) (r : Nat) (w : World) (ha : sa.size ≤ 1000) (hr1 : r * r ≤ bv (sb sa)) (hr2 : bv (sb sa) < (r + 1) * (r + 1)) :
    Calls Tryd.prog 66 #[.agg #[.bool ng, .string sa]] w fun e w' => e = .returned (rootV ng (bv (sb sa)) r) ∧ Tch [] w w' := by
  have CN := Lib.hid (fun w1 => rneg ng sa (by omega) w1)
  have CD := Lib.hid (fun w1 => rdigits ng sa w1 (by omega))
  obtain ⟨N, hN⟩ : ∃ N, bv (sb sa) = N := ⟨_, rfl⟩
  have hXl : (digs 65536 (bv (sb sa))).length ≤ 1000 := Nat.le_trans (digs_len_size sa) ha
  rw [hN] at CN CD hXl hr1 hr2 ⊢
  obtain ⟨w0, hw0⟩ : ∃ w0, w0 = (w.alloc (.cells #[.bool ng, .string sa] 27)).alloc (.cells #[.bool false, .string ⟨#[]⟩] 27) := ⟨_, rfl⟩
  have F0 : Fr w w0 [(w.heap.size, .cells #[.bool ng, .string sa] 27 (0, 0)), (w.heap.size + 1, .cells #[.bool false, .string ⟨#[]⟩] 27 (0, 0))] := by
    rw [hw0]; exact ((Fr.nil w).add (.cells #[.bool ng, .string sa] 27) w.heap.size rfl).add (.cells #[.bool false, .string ⟨#[]⟩] 27) (w.heap.size + 1) (by simp)
  have F := Lib.hid F0
  have HW := Lib.hid hw0
  clear F0 hw0
  by_cases hng : (ng && decide (N ≠ 0)) = true
  · have HV : Hid (rootV ng N r = .tuple #[.agg #[.bool false, .string ⟨#[]⟩], .bool false]) := Lib.hid (by
      unfold rootV; rw [if_pos (by simp at hng; exact ⟨hng.2, hng.1⟩)])
    rw [hng] at CN
    clear hng
    go_enter Tryd.func66, Tryd.ntmps66
    go_wp2_with fail
    rw [← HW.out]
    refine (CN.out _).mono ?_
    rintro e w3 ⟨rfl, hT⟩
    have F := Lib.hid (F.out.keep hT)
    obtain ⟨r0, r1⟩ := F.out.two 1 rfl
    obtain ⟨t0, t1⟩ := F.out.fro2 1 rfl
    clear hT
    go_wp2
    refine bodyPost_ret (v := .tuple #[.agg #[.bool false, .string ⟨#[]⟩], .bool false]) (by simp [results, Tryd.results66, go_sem, r0, r1]) rfl ⟨by rw [HV.out], ?_⟩
    exact F.out.fin2 1 rfl _ _
  · have hng2 : (ng && decide (N ≠ 0)) = false := by simpa using hng
    obtain ⟨bz, sz, ez⟩ := wv_agg false r
    have HV : Hid (rootV ng N r = .tuple #[.agg #[.bool bz, .string sz], .bool true]) := Lib.hid (by
      unfold rootV; rw [if_neg (by simp at hng2; intro h; exact h.1 (hng2 h.2)), ez])
    have HZ := Lib.hid ez
    have HR1 := Lib.hid hr1
    have HR2 := Lib.hid hr2
    rw [hng2] at CN
    obtain ⟨X, hX⟩ : ∃ X, digs 65536 N = X := ⟨_, rfl⟩
    have hXo : Ok 65536 X := by rw [← hX]; exact digs_ok (by decide) _
    have hXt : Trim X := by rw [← hX]; exact digs_trim (by decide) _
    have hXv : dg 65536 X = N := by rw [← hX]; exact dg_digs (by decide) _
    rw [hX] at CD hXl
    have HXO := Lib.hid hXo
    have HXT := Lib.hid hXt
    have HXV := Lib.hid hXv
    obtain ⟨j0, hj0⟩ : ∃ j0 : Nat, ((X.length : Int) + 1) / 2 = (j0 : Int) := ⟨(X.length + 1) / 2, by omega⟩
    have HJ : Hid (j0 ≤ 500 ∧ X.length ≤ 2 * j0) := Lib.hid (by omega)
    have HS0 : Hid (sqB j0 0 ≤ N ∧ N < sqB j0 (0 + 1)) := Lib.hid (by
      refine ⟨by simp [sqB], ?_⟩
      have h1 := dg_lt hXo
      rw [hXv] at h1
      have h2 : 65536 ^ X.length ≤ 65536 ^ (2 * j0) := Nat.pow_le_pow_right (by decide) HJ.out.2
      simp only [sqB, Nat.zero_add, Nat.one_mul]
      omega)
    have HJ0 := Lib.hid hj0
    clear hng hng2 ez hr1 hr2 hX hXo hXt hXv hN hj0
    go_enter Tryd.func66, Tryd.ntmps66
    go_wp2_with fail
    rw [← HW.out]
    refine (CN.out _).mono ?_
    rintro e w2 ⟨rfl, hT⟩
    have F := Lib.hid (F.out.keep hT)
    obtain ⟨a0, a1⟩ := F.out.two 0 rfl
    clear hT
    go_wp2_with fail
    refine (CD.out _).mono ?_
    rintro e w3 ⟨⟨vx, rfl, hRx⟩, hT⟩
    have F := Lib.hid (F.out.keep hT)
    obtain ⟨A1, c1, rfl, _⟩ := Rd.of_row hRx (Nat.le_refl _)
    have HRX := Lib.hid hRx
    clear hT a0 a1 hRx
    go_wp2
    go_loopw [5, 6] (fun u5 u6 wr => ∃ (j R : Nat) (I : Int) (RL : List Nat) (v : Value), v = u5 ∧ u6 = .int .i64 I ∧ Hid (I = (j : Int) - 1) ∧ j ≤ 500 ∧ Hid (sqB j R ≤ N ∧ N < sqB j (R + 1)) ∧ Hid (Ok 65536 RL ∧ dg 65536 RL = R) ∧ RL.length + j ≤ 500 ∧ Hid (Row w3.heap.size wr 3 .i64 v RL) ∧ Hid (Tch [] w3 wr)) (fun _ u6 _ => (intOf u6 + 1).toNat)
    case atStart => exact ⟨j0, 0, _, [], _, rfl, rfl, Lib.hid (by have := HJ0.out; omega), HJ.out.1, HS0, Lib.hid ⟨Ok.nil _, rfl⟩, by have := HJ.out.1; simpa using this, Lib.hid Row.nil, Lib.hid (Tch.refl [] w3)⟩
    case round =>
      obtain ⟨j, R, I, RL, v, rfl, rfl, hI, hj, hS, hO, hLn, hR, hT⟩ := hrel
      cases j with
      | zero =>
        obtain rfl : I = -1 := by have := hI.out; omega
        have hRr : R = r := by
          have h1 := hS.out
          rw [sqB_zero, sqB_zero] at h1
          exact sq_uniq h1.1 h1.2 HR1.out HR2.out
        have CW := Lib.hid (rwideAny false RL v wr hR.out hO.out.1 (by omega))
        rw [hO.out.2, hRr, HZ.out] at CW
        have F5 := Lib.hid (F.out.keep hT.out)
        clear hI hS hO hR hRr
        go_wp2_with fail
        refine CW.out.mono ?_
        rintro e w5 ⟨rfl, hT5⟩
        have F5 := Lib.hid (F5.out.keep hT5)
        obtain ⟨r0, r1⟩ := F5.out.two 1 rfl
        obtain ⟨t0, t1⟩ := F5.out.fro2 1 rfl
        clear hT5
        go_wp2
        refine bodyPost_ret (v := .tuple #[.agg #[.bool bz, .string sz], .bool true]) (by simp [results, Tryd.results66, go_sem, r0, r1]) rfl ⟨by rw [HV.out], ?_⟩
        exact F5.out.fin2 1 rfl _ _
      | succ j =>
        obtain rfl : I = (j : Int) := by have := hI.out; omega
        have HL0 : Hid (sqB j (65536 * R + 0) ≤ N) := Lib.hid (by rw [Nat.add_zero, ← sqB_succ]; exact hS.out.1)
        have HH0 : Hid (N < sqB j (65536 * R + 65536)) := Lib.hid (by rw [show 65536 * R + 65536 = 65536 * (R + 1) from by omega, ← sqB_succ]; exact hS.out.2)
        clear hI hS
        go_wp2
        obtain ⟨wo, rfl⟩ : ∃ wo : World, wo = wr := ⟨_, rfl⟩
        go_loopw [7, 8] (fun ul uh wi => ∃ (lo hi : Nat), ul = .int .i64 (lo : Int) ∧ uh = .int .i64 (hi : Int) ∧ lo < hi ∧ hi ≤ 65536 ∧ Hid (sqB j (65536 * R + lo) ≤ N) ∧ Hid (N < sqB j (65536 * R + hi)) ∧ Hid (Tch [] wo wi)) (fun ul uh _ => (intOf uh).toNat - (intOf ul).toNat)
        case atStart => exact ⟨0, 65536, rfl, rfl, by decide, by decide, HL0, HH0, Lib.hid (Tch.refl [] wo)⟩
        case round =>
          obtain ⟨lo, hi, rfl, rfl, hlh, hh6, hL, hH, hTi⟩ := hrel
          by_cases hd : lo + 1 < hi
          · obtain ⟨m, hm⟩ : ∃ m : Nat, ((lo : Int) + (hi : Int)) / 2 = (m : Int) := ⟨(((lo : Int) + (hi : Int)) / 2).toNat, by omega⟩
            have hm1 : lo < m ∧ m < hi := by omega
            have hd1 : (1 : Int) < (hi : Int) - (lo : Int) := by omega
            obtain ⟨v1, w4, hr, hApp⟩ := app_two (own_one wr m) ((hR.out.kept hTi.out).kept ((Tch.refl [] wr).alloc _)) (by omega)
            obtain ⟨g1, cap1, hv1, hO1, hg1, hT1⟩ := hApp
            have hT4 : Tch [] wr w4 := ((Tch.refl [] wr).alloc _).trans hT1 (by simp)
            have hsw : w3.heap.size ≤ wr.heap.size := by have h1 := hT.out.size; have h2 := hTi.out.size; omega
            have hRow1 : Row w3.heap.size w4 3 .i64 v1 (m :: RL) := .inr ⟨g1, cap1, hv1, by rcases hg1 with h | h; (· omega); (· simp at h; omega), hO1⟩
            obtain ⟨v2, hRow2, hC2⟩ := rtrim hRow1 (by simp; omega)
            have hmo : Ok 65536 (m :: RL) := Ok.cons (by omega) hO.out.1
            have hcut : cut (m :: RL) = digs 65536 (65536 * R + m) := by
              rw [cut_eq (b := 65536) (by decide) hmo, dg_cons, hO.out.2, Nat.add_comm]
            rw [hcut] at hRow2
            obtain ⟨q, hq⟩ : ∃ q, 65536 * R + m = q := ⟨_, rfl⟩
            have hq0 : 0 < q := by omega
            rw [hq] at hRow2
            obtain ⟨TT, hTT⟩ : ∃ TT, digs 65536 q = TT := ⟨_, rfl⟩
            have hTl : TT.length ≤ 501 := by
              rw [← hTT, ← hq, ← hcut]; exact Nat.le_trans (cut_length_le _) (by simp; omega)
            rw [hTT] at hRow2
            obtain ⟨A2, c2, hv2, _⟩ := Rd.of_row hRow2 (Nat.le_refl _)
            subst hv2
            have hTo : Ok 65536 TT := by rw [← hTT]; exact digs_ok (by decide) _
            have hTv : dg 65536 TT = q := by rw [← hTT]; exact dg_digs (by decide) _
            have HTM := Lib.hid (fun W (t : Tch [] w4 W) => rtimes A2 A2 c2 c2 TT TT W (Rd.of_rowA (hRow2.kept t)) (Rd.of_rowA (hRow2.kept t)) hTo hTo (by omega) (by omega))
            rw [hTv] at HTM
            obtain ⟨PP, hPP⟩ : ∃ PP, digs 65536 (q * q) = PP := ⟨_, rfl⟩
            have hP0 : PP ≠ [] := by
              intro h; rw [← hPP] at h
              have h2 := (digs_eq_nil (b := 65536) (by decide)).1 h
              have := Nat.mul_pos hq0 hq0; omega
            have hPl : PP.length ≤ 1002 := by
              rw [← hPP]
              have h1 := dg_lt hTo
              rw [hTv] at h1
              have h3 : q * q < 65536 ^ (TT.length + TT.length) := by rw [Nat.pow_add]; exact Nat.mul_lt_mul'' h1 h1
              have := digs_length_le (b := 65536) (by decide) h3
              omega
            have hPo : Ok 65536 PP := by rw [← hPP]; exact digs_ok (by decide) _
            have hPv : dg 65536 PP = q * q := by rw [← hPP]; exact dg_digs (by decide) _
            rw [hPP] at HTM
            obtain ⟨n2, hn2⟩ : ∃ n2 : Nat, (2 : Int) * (j : Int) = (n2 : Int) := ⟨2 * j, by omega⟩
            have HN2 : Hid (n2 = 2 * j) := Lib.hid (by omega)
            have hn3 : IntKind.i64.wrap (n2 : Int) = (n2 : Int) := by simp only [IntKind.wrap_i64]; omega
            have hmk := make_int n2 (by omega)
            have HMZ := Lib.hid (made_zeros n2 (by omega))
            have HDV : Hid (Ok 65536 (List.replicate n2 0 ++ PP) ∧ dg 65536 (List.replicate n2 0 ++ PP) = sqB j q) := Lib.hid (by
              refine ⟨(Ok.replicate n2 (by decide)).append hPo, ?_⟩
              rw [dg_append, dg_zeros, List.length_replicate, hPv, Nat.zero_add, HN2.out, Nat.mul_comm]; rfl)
            obtain ⟨ZP, hZP⟩ : ∃ ZP, List.replicate n2 0 ++ PP = ZP := ⟨_, rfl⟩
            have HZL : Hid (ZP.length ≤ 3000) := Lib.hid (by rw [← hZP, List.length_append, List.length_replicate]; omega)
            rw [hZP] at HDV
            have HAP : Hid (∀ (W : World) (g : Nat), Own W 3 .i64 g n2 (List.replicate n2 0) → ∀ (B : Nat) (v3 : Value), Row B W 3 .i64 v3 PP → ∃ v7 w7, (Builtin.append_ #[62, 62] 62 #[.slice (some ⟨g, 0, none⟩) n2 n2, v3]).run Tryd.prog W = .ok v7 w7 ∧ App W 3 .i64 g ZP v7 w7) := Lib.hid (fun W g h B v3 h3 => by
              have h4 := app_gen h h3 hP0 (by rw [List.length_replicate]; omega)
              rwa [List.length_replicate, hZP] at h4)
            have HNN := Lib.hid (And.intro hn2 HN2.out)
            have HC2 := Lib.hid hC2
            have HPL := Lib.hid hPl
            have HQ := Lib.hid hq
            have HT4 := Lib.hid (hTi.out.trans hT4 (by simp))
            have HSW : Hid (w3.heap.size ≤ w4.heap.size) := Lib.hid (by have := hT4.size; omega)
            have HRR := Lib.hid hr
            clear hv1 hO1 hg1 hT1 hT4 hsw hRow1 hC2 hmo hcut hq hq0 hTT hTl hTo hTv hPP hP0 hPl hPo hPv hRow2 hr hZP
            go_wp2_with (at_builtin; refine Lib.wpList_append_run _ rfl _ _ _ _ rfl _ _ rfl rfl v1 w4 HRR.out ?_)
            go_wp2_with fail
            go_region_held3 (fun _ => True) (trivial) (first
              | (go_at_call 78; (first | (with_reducible refine (HC2.out _ ((Tch.refl [] w4).drew)).mono ?_) | (with_reducible refine (HC2.out _ (((Tch.refl [] w4).alloc (.cells (madeCells #[.int .i64 0] n2) 3)).drew)).mono ?_)); rintro e w5 ⟨rfl, rfl⟩)
              | (go_at_call 63; (first
                | (with_reducible refine (HTM.out _ ((Tch.refl [] w4).drew)).mono ?_; rintro e w6 ⟨⟨v3, rfl, hR3⟩, hT6⟩; have HT6 := Lib.hid (Tch.undrew hT6))
                | (with_reducible refine (HTM.out _ (((Tch.refl [] w4).alloc (.cells (madeCells #[.int .i64 0] n2) 3)).drew)).mono ?_; rintro e w6 ⟨⟨v3, rfl, hR3⟩, hT6⟩; have HZ6 := Lib.hid ((HMZ.out w4).kept (Tch.undrew hT6) (by simp)); have HT6 := Lib.hid (((Tch.refl [] w4).alloc (.cells (madeCells #[.int .i64 0] n2) 3)).trans (Tch.undrew hT6) (by simp)))); have HR3 := Lib.hid hR3; clear hR3 hT6)
              | (first
                | (obtain ⟨v5, w7, hr5, hApp⟩ := HAP.out w6 _ HZ6.out _ v3 HR3.out; obtain ⟨g5, cap5, hv5, hO5, hg5, hT7⟩ := hApp; refine step_app rfl _ _ _ rfl _ _ rfl rfl v5 w7 hr5 ?_; have HO5 := Lib.hid hO5; have HG5 : Hid (w3.heap.size ≤ g5) := Lib.hid (by have h1 := HSW.out; have h2 := HT6.out.size; rcases hg5 with h | h <;> omega); have HT7 := Lib.hid (HT6.out.trans hT7 (by intro k hk; rw [List.mem_singleton] at hk; exact .inr (by omega))); subst hv5; clear hO5 hg5 hT7 hr5)
                | (obtain ⟨v5, w7, hr5, hApp⟩ := HAP.out (w6.alloc (.cells (madeCells #[.int .i64 0] n2) 3)) _ (HMZ.out w6) _ v3 (HR3.out.kept ((Tch.refl [] w6).alloc _)); obtain ⟨g5, cap5, hv5, hO5, hg5, hT7⟩ := hApp; refine step_app rfl _ _ _ rfl _ _ rfl rfl v5 w7 hr5 ?_; have HO5 := Lib.hid hO5; have HG5 : Hid (w3.heap.size ≤ g5) := Lib.hid (by have h1 := HSW.out; have h2 := HT6.out.size; rcases hg5 with h | h; (· omega); (· simp at h; omega)); have HT7 := Lib.hid ((HT6.out.alloc (.cells (madeCells #[.int .i64 0] n2) 3)).trans hT7 (by intro k hk; rw [List.mem_singleton] at hk; exact .inr (by have := HT6.out.size; omega))); subst hv5; clear hO5 hg5 hT7 hr5)))
            all_goals
              have hRow5 : Row w3.heap.size w7 3 .i64 (.slice (some ⟨g5, 0, none⟩) ZP.length cap5) ZP := .inr ⟨g5, cap5, rfl, HG5.out, HO5.out⟩
              obtain ⟨v8, hRow8, hC8⟩ := rtrim hRow5 (by have := HZL.out; omega)
              have hcl := cut_length_le ZP
              rw [cut_eq (b := 65536) (by decide) HDV.out.1, HDV.out.2] at hRow8 hcl
              obtain ⟨UU, hUU⟩ : ∃ UU, digs 65536 (sqB j q) = UU := ⟨_, rfl⟩
              have hUo : Ok 65536 UU := by rw [← hUU]; exact digs_ok (by decide) _
              have hUt : Trim UU := by rw [← hUU]; exact digs_trim (by decide) _
              have hUv : dg 65536 UU = sqB j q := by rw [← hUU]; exact dg_digs (by decide) _
              rw [hUU] at hRow8 hcl
              obtain ⟨A8, c8, hv8, _⟩ := Rd.of_row hRow8 (Nat.le_refl _)
              subst hv8
              have hT37 := (hT.out.trans HT4.out (by simp)).trans HT7.out (by simp)
              have CC := Lib.hid (rcompare A8 A1 c8 c1 UU X w7 (Rd.of_rowA hRow8) (Rd.of_rowA (HRX.out.kept hT37)) hUo HXO.out hUt HXT.out (by have := HZL.out; omega))
              rw [hUv, HXV.out] at CC
              have HC8 := Lib.hid hC8
              obtain ⟨c9, hc9⟩ : ∃ c9, cmpI ((sqB j q : Nat) : Int) (N : Int) = c9 := ⟨_, rfl⟩
              rw [hc9] at CC
              have HT47 := Lib.hid (HT4.out.trans HT7.out (by simp))
              clear hRow5 hRow8 hC8 hcl hUU hUo hUt hUv hT37
              by_cases hle : sqB j q ≤ N
              · have hc0 : c9 ≤ 0 := by rw [← hc9]; exact cmpI_le (by omega)
                have HL2 : Hid (sqB j (65536 * R + m) ≤ N) := Lib.hid (by rw [HQ.out]; exact hle)
                clear hc9 hle
                go_wp2_with fail
                refine (HC8.out _ (Tch.refl [] _)).mono ?_
                rintro e w8 ⟨rfl, rfl⟩
                go_wp2_with fail
                refine CC.out.mono ?_
                rintro e w9 ⟨rfl, hT9⟩
                have HT9 := Lib.hid (HT47.out.trans hT9 (by simp))
                clear hT9 CC
                go_wp2
                exact ⟨⟨m, hi, rfl, rfl, by omega, hh6, HL2, hH, HT9⟩, by simp [intOf]; omega⟩
              · have hc0 : 0 < c9 := by rw [← hc9]; exact cmpI_pos (by omega)
                have HH2 : Hid (N < sqB j (65536 * R + m)) := Lib.hid (by rw [HQ.out]; omega)
                clear hc9 hle
                go_wp2_with fail
                refine (HC8.out _ (Tch.refl [] _)).mono ?_
                rintro e w8 ⟨rfl, rfl⟩
                go_wp2_with fail
                refine CC.out.mono ?_
                rintro e w9 ⟨rfl, hT9⟩
                have HT9 := Lib.hid (HT47.out.trans hT9 (by simp))
                clear hT9 CC
                go_wp2
                exact ⟨⟨lo, m, rfl, rfl, by omega, by omega, hL, HH2, HT9⟩, by simp [intOf]; omega⟩
          · have HE : Hid (hi = lo + 1) := Lib.hid (by omega)
            have hd2 : (hi : Int) - (lo : Int) = 1 := by omega
            have hlo : lo < 65536 := by omega
            obtain ⟨v1, w4, hr, hApp⟩ := app_two (own_one wr lo) ((hR.out.kept hTi.out).kept ((Tch.refl [] wr).alloc _)) (by omega)
            obtain ⟨g1, cap1, hv1, hO1, hg1, hT1⟩ := hApp
            have hT4 : Tch [] wr w4 := ((Tch.refl [] wr).alloc _).trans hT1 (by simp)
            have hsw : w3.heap.size ≤ wr.heap.size := by have h1 := hT.out.size; have h2 := hTi.out.size; omega
            have HRow1 : Hid (Row w3.heap.size w4 3 .i64 v1 (lo :: RL)) := Lib.hid (.inr ⟨g1, cap1, hv1, by rcases hg1 with h | h; (· omega); (· simp at h; omega), hO1⟩)
            have HMO : Hid (Ok 65536 (lo :: RL) ∧ dg 65536 (lo :: RL) = 65536 * R + lo) := Lib.hid ⟨Ok.cons hlo hO.out.1, by rw [dg_cons, hO.out.2, Nat.add_comm]⟩
            have HS2 : Hid (sqB j (65536 * R + lo) ≤ N ∧ N < sqB j (65536 * R + lo + 1)) := Lib.hid ⟨hL.out, by have h1 := hH.out; rw [HE.out] at h1; exact h1⟩
            have HT4 := Lib.hid ((hT.out.trans hTi.out (by simp)).trans hT4 (by simp))
            have HRR := Lib.hid hr
            clear hv1 hO1 hg1 hT1 hT4 hsw hr hd
            go_wp2_with (at_builtin; refine Lib.wpList_append_run _ rfl _ _ _ _ rfl _ _ rfl rfl v1 w4 HRR.out ?_)
            exact ⟨⟨j, 65536 * R + lo, _, lo :: RL, v1, rfl, rfl, Lib.hid rfl, by omega, HS2, HMO, by simp; omega, HRow1, HT4⟩, by simp [intOf]⟩

end Go.Proofs.YtmiibcdcnoefgaaDoor
