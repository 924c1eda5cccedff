/- wide.rootOfWords. -/
import Derived.Test.YtmiibcdcnoefgaaGreatDoorPower
import Derived.Test.YtmiibcdcnoefgaaGreatDoorDivide
import Derived.Test.YtmiibcdcnoefgaaGreatDoorByWord
import Derived.Test.YtmiibcdcnoefgaaGreatDoorGcd
namespace Go.Proofs.YtmiibcdcnoefgaaGreatDoor
open Go.RowKit Dg

theorem root_start {X : List Nat} {n q r s : Nat} (hx : Ok BB X) (hn : X.length = n + 1) (h0 : 0 < X.getD n 0) (he : (64 * n + Lib.bitLen (X.getD n 0) + 1) / 2 = 64 * q + r) (hs : s * s ≤ dg BB X) : s ≤ dg BB (List.replicate q 0 ++ [2 ^ r]) := by
  have hb := hx.getD (by decide) n
  obtain ⟨h1, h2, h3⟩ := Lib.bitLenAux_bounds 64 (X.getD n 0) hb (by omega)
  have e : Lib.bitLenAux 64 (X.getD n 0) = Lib.bitLen (X.getD n 0) := rfl
  rw [e] at h1 h2 h3
  generalize Lib.bitLen (X.getD n 0) = l at *
  have ev : dg BB (List.replicate q 0 ++ [2 ^ r]) = 2 ^ (64 * q + r) := by
    rw [dg_append, dg_zeros, dg_one, List.length_replicate, Nat.zero_add, Nat.pow_add, Nat.pow_mul]; rfl
  rw [ev]
  have hd : dg BB X = dg BB (X.take n) + BB ^ n * X.getD n 0 := by
    have := dg_take_succ BB X n (by omega)
    rwa [← hn, List.take_length] at this
  have hlt := dg_lt (hx.take n)
  rw [List.length_take, Nat.min_eq_left (by omega)] at hlt
  have h4 : BB ^ n * (X.getD n 0 + 1) ≤ BB ^ n * 2 ^ l := Nat.mul_le_mul_left _ h3
  have h5 : BB ^ n * 2 ^ l = 2 ^ (64 * n + l) := by rw [Nat.pow_add, Nat.pow_mul]; rfl
  rw [Nat.mul_add, Nat.mul_one] at h4
  have h6 : 2 ^ (64 * n + l) ≤ 2 ^ ((64 * q + r) + (64 * q + r)) := Nat.pow_le_pow_right (by omega) (by omega)
  rw [Nat.pow_add 2 (64 * q + r)] at h6
  generalize 2 ^ (64 * q + r) = p at *
  rcases Nat.lt_or_ge p s with h | h
  · have := Nat.mul_le_mul (Nat.le_of_lt h) (Nat.le_of_lt h)
    have h7 : p * p < s * s := Nat.mul_lt_mul_of_lt_of_le h (Nat.le_of_lt h) (by omega)
    omega
  · exact h

theorem ok_power (q r : Nat) (hr : r < 64) : Ok BB (List.replicate q 0 ++ [2 ^ r]) := by
  refine (Ok.replicate q (by decide)).append (Ok.cons ?_ (Ok.nil _))
  rw [BB_eq]; exact Nat.lt_of_lt_of_le (Nat.pow_lt_pow_right (by omega) hr) (by decide)

theorem trim_power (q r : Nat) : Trim (List.replicate q 0 ++ [2 ^ r]) := by
  intro h
  rw [show (List.replicate q 0 ++ [2 ^ r] : List Nat).getLast h = 2 ^ r from by simp]
  exact Nat.ne_of_gt (Nat.two_pow_pos r)

/-- What Newton's method keeps: three slices of blocks of their own; the root so far is not less than the root. -/
structure RtInv (w : World) (B : Nat) (gr capr gs caps gn capn : Nat) (R : List Nat) (s : Nat) : Prop where
  or' : Own w 56 .u64 gr capr R
  os : ∃ ss, Own w 56 .u64 gs caps ss
  on : ∃ ss, Own w 56 .u64 gn capn ss
  br : B ≤ gr
  bs : B ≤ gs
  bn : B ≤ gn
  rs : gr ≠ gs
  rn : gr ≠ gn
  sn : gs ≠ gn
  ok : Ok BB R
  tr : Trim R
  ln : R.length ≤ 500000
  le : s ≤ dg BB R

theorem BB2 : 2 ≤ BB := by decide

/-- Of a step that fell: the state again. -/
theorem RtInv.next {w w' : World} {B gr capr gs caps gn capn s g2 cap2 g3 cap3 : Nat} {R Rm N : List Nat} (h : RtInv w B gr capr gs caps gn capn R s)
    (h3 : Own w' 56 .u64 g3 cap3 N) (h2 : Own w' 56 .u64 g2 cap2 Rm) (hr : Own w' 56 .u64 gr capr R) (e3 : g3 = gn ∨ w.heap.size ≤ g3) (e2 : g2 = gs ∨ w.heap.size ≤ g2) (e23 : g3 ≠ g2) (hok : Ok BB N) (htr : Trim N) (hlt : dg BB N < dg BB R) (hle : s ≤ dg BB N) :
    RtInv w' B g3 cap3 g2 cap2 gr capr N s := by
  have hl := h.or'.lt; have b1 := h.br; have b2 := h.bs; have b3 := h.bn; have b4 := h.rs; have b5 := h.rn
  have hB : B ≤ w.heap.size := by omega
  refine ⟨h3, ⟨_, h2⟩, ⟨_, hr⟩, ?_, ?_, b1, e23, ?_, ?_, hok, htr, ?_, hle⟩
  · rcases e3 with e | e <;> omega
  · rcases e2 with e | e <;> omega
  · rcases e3 with e | e <;> omega
  · rcases e2 with e | e <;> omega
  · have := digs_length_mono BB2 (Nat.le_of_lt hlt)
    rw [digs_dg BB2 hok htr, digs_dg BB2 h.ok h.tr] at this
    exact Nat.le_trans this h.ln

set_option maxHeartbeats 4000000 in
set_option maxRecDepth 100000 in
theorem rootOfWords (gx capx ox s : Nat) (pre post : List Value) (X : List Nat) (w : World) (hx : Ok BB X) (hxt : Trim X) (hne : X ≠ []) (hb : X.length ≤ 400000) (hs : s * s ≤ dg BB X) (hs2 : dg BB X < (s + 1) * (s + 1)) (hX : Win w 56 .u64 gx ox pre X post) :
    Calls Tryz.prog 39 #[.slice (some ⟨gx, ox, none⟩) X.length capx] w (DecPost w (digs BB s)) := by
  obtain ⟨i0, hi, hz0, hz1, hz2⟩ := info_parts info_u64
  obtain ⟨n, hn⟩ : ∃ n, X.length = n + 1 := ⟨X.length - 1, by have := List.length_pos_iff.2 hne; omega⟩
  have htop : 0 < X.getD n 0 := by
    have h := hxt hne
    rw [List.getLast_eq_getElem] at h
    simp only [hn, Nat.add_sub_cancel] at h
    rw [List.getD, List.getElem?_eq_getElem (by omega)]
    exact Nat.pos_of_ne_zero h
  have hbl : Lib.bitLen (X.getD n 0) ≤ 64 := Lib.bitLen_le _ 64 (Nat.le_refl _) (hx.getD (by decide) n)
  have CL := bitLength gx ox capx n pre post X w hx (by omega) hn hX
  obtain ⟨L, hL⟩ : ∃ L : Int, L = ((64 * n + Lib.bitLen (X.getD n 0) : Nat) : Int) := ⟨_, rfl⟩
  rw [← hL] at CL
  obtain ⟨q, r, hr, hqr⟩ : ∃ q r, r < 64 ∧ (64 * n + Lib.bitLen (X.getD n 0) + 1) / 2 = 64 * q + r := ⟨(64 * n + Lib.bitLen (X.getD n 0) + 1) / 2 / 64, (64 * n + Lib.bitLen (X.getD n 0) + 1) / 2 % 64, Nat.mod_lt _ (by omega), by omega⟩
  have CP := fun w1 => powerOfTwo q r hr (by omega) w1
  rw [show ((64 * q + r : Nat) : Int) = (L + 1) / 2 from by rw [hL, ← hqr]; omega] at CP
  have hst := root_start hx hn htop hqr hs
  have hL0 : 0 ≤ L := by omega
  have hL1 : L < 100000000 := by omega
  obtain ⟨R0, hR0⟩ : ∃ R0, R0 = List.replicate q 0 ++ [2 ^ r] := ⟨_, rfl⟩
  have hRo : Ok BB R0 := by rw [hR0]; exact ok_power q r hr
  have hRt : Trim R0 := by rw [hR0]; exact trim_power q r
  have hRl : R0.length ≤ 500000 := by rw [hR0]; simp; omega
  rw [← hR0] at CP hst
  have HCL := Lib.hid CL
  have HCP := Lib.hid CP
  have HST := Lib.hid hst
  have HN := Lib.hid hn
  clear CL CP hst hL hqr hR0 htop hbl
  go_enter Tryz.func39, Tryz.ntmps39
  rw [HN.out]
  go_wp2_with fail
  refine HCL.out.mono ?_
  rintro e w1 ⟨rfl, hT1⟩
  go_wp2_with fail
  refine (HCP.out _).mono ?_
  rintro e w2 ⟨gr, capr, rfl, hOr, hgr, hT2⟩
  have hT12 := hT1.trans hT2 (by simp)
  have hT1s := Lib.hid hT1.size
  clear hT1 hT2
  go_wp2_with fail
  refine (newWords _).mono ?_
  rintro e w3 ⟨gs, rfl, hOs, hgs, hT3⟩
  go_wp2_with fail
  refine (newWords _).mono ?_
  rintro e w4 ⟨gn, rfl, hOn, hgn, hT4⟩
  have hgl := hX.lt
  have HS1 : Hid (0 < s) := by
    refine Lib.hid ?_
    have := dg_ne_zero (b := BB) (by decide) hxt hne
    rcases Nat.eq_zero_or_pos s with h | h
    · rw [h] at hs2; omega
    · exact h
  have hI : RtInv w4 w.heap.size gr capr gs 8 gn 8 R0 s := by
    have l1 := hOr.lt; have l2 := hOs.lt; have l3 := hT12.size; have l4 := hT3.size
    have hgr' : w1.heap.size ≤ gr := hgr
    have hgs' : w2.heap.size ≤ gs := hgs
    have hgn' : w3.heap.size ≤ gn := hgn
    have l5 := hT1s.out
    exact ⟨(hOr.kept hT3 (by simp)).kept hT4 (by simp), ⟨_, hOs.kept hT4 (by simp)⟩, ⟨_, hOn⟩, by omega, by omega, by omega, by omega, by omega, by omega, hRo, hRt, hRl, HST.out⟩
  have hT14 : Tch [] w w4 := (hT12.trans hT3 (by simp)).trans hT4 (by simp)
  have HT14 := Lib.hid hT14
  clear hOr hOs hOn hT3 hT4 hT12 hT14 hRo hRt hRl hgr hgs hgn
  go_wp2
  go_loopw [3, 4, 5] (fun x y q wr => ∃ (gr capr gs caps ns gn capn nn : Nat) (R : List Nat), x = .slice (some ⟨gr, 0, none⟩) R.length capr ∧ y = .slice (some ⟨gs, 0, none⟩) ns caps ∧ q = .slice (some ⟨gn, 0, none⟩) nn capn ∧
      RtInv wr w.heap.size gr capr gs caps gn capn R s ∧ Tch [] w wr) (fun x _ _ wr => rdv wr x)
  case atStart => exact ⟨gr, capr, gs, 8, 0, gn, 8, 0, R0, rfl, rfl, rfl, hI, HT14.out⟩
  case round =>
    clear hI HT14
    obtain ⟨gr, capr, gs, caps, ns, gn, capn, nn, R, rfl, rfl, rfl, hI, hT⟩ := hrel
    obtain ⟨ss, hos⟩ := hI.os
    obtain ⟨sn, hon⟩ := hI.on
    obtain ⟨rr, Wr, hrl1, hrl2⟩ := hI.or'
    have hos0 := hos.take 0
    rw [List.take_zero] at hos0
    have Wx := hX.kept hT (by simp)
    have HRL := Lib.hid (And.intro hrl1 hrl2)
    have HI := Lib.hid hI
    have HT := Lib.hid hT
    have HM := Lib.hid (rdv_own hI.or')
    have HWr := Lib.hid Wr
    have Hon := Lib.hid hon
    clear hos hI hT hrl1 hrl2 Wr hon
    go_wp2_with (at_builtin; refine wpList_app_all _ rfl _ _ 52 rfl 56 .u64 i0 Tryz.underlying52 hi hz0 hz1 (by omega) gs caps 0 [] hos0 rfl rfl gx ox capx (n + 1) pre post X rfl HN.out Wx (by omega) (by omega) ?_)
    intro v' w5 happ
    obtain ⟨g1, cap1, rfl, hO1, hg1, hT5⟩ := happ
    have l0 := HI.out.or'.lt
    have l1 := Hon.out.lt
    have hw5 := hT5.size
    have n1 : gn ≠ g1 := by have := HI.out.sn; rcases hg1 with e | e <;> omega
    have n2 : g1 ≠ gr := by have := HI.out.rs; rcases hg1 with e | e <;> omega
    have ngs : gn ∉ [gs] := by have := HI.out.sn; rw [List.mem_singleton]; omega
    have ngr : gr ∉ [gs] := by have := HI.out.rs; rw [List.mem_singleton]; omega
    have hRne : R ≠ [] := by
      intro h
      have h1 := HI.out.le
      rw [h] at h1
      have h2 := HS1.out
      simp only [dg_nil] at h1
      omega
    have CD := Lib.hid (divide gn nn capn g1 cap1 gr capr 0 [] rr sn X R w5 n1 HI.out.rn.symm n2 hx hxt HI.out.ok HI.out.tr hRne (by omega) (by have := HI.out.ln; omega) (Hon.out.kept hT5 ngs) hO1 (HWr.out.kept hT5 ngr))
    rw [HN.out] at CD ⊢
    have HT5 := Lib.hid hT5
    have Hg1 := Lib.hid hg1
    have HRne := Lib.hid hRne
    have L0 := Lib.hid l0
    have L1 := Lib.hid l1
    have W5 := Lib.hid hw5
    have N12 := Lib.hid (And.intro n1 n2)
    clear hO1 hT5 hg1 hRne l0 l1 hw5 n1 n2 ngs ngr hos0 Wx
    go_wp2_with fail
    refine CD.out.mono ?_
    rintro e w6 ⟨⟨gq, capq, g2, cap2, rfl, hOq, hO2, eq1, e2, nq2, hT6⟩, Wr6⟩
    obtain ⟨Q, hQ⟩ : ∃ Q, Q = digs BB (dg BB X / dg BB R) := ⟨_, rfl⟩
    obtain ⟨M, hM⟩ : ∃ M, M = digs BB (dg BB X % dg BB R) := ⟨_, rfl⟩
    rw [← hQ] at hOq ⊢
    rw [← hM] at hO2 ⊢
    have hQv : Hid (dg BB Q = dg BB X / dg BB R) := Lib.hid (by rw [hQ, dg_digs BB2])
    have hQo : Ok BB Q := by rw [hQ]; exact digs_ok BB2 _
    have hQl : Q.length ≤ 400000 := by
      rw [hQ]
      refine Nat.le_trans (digs_length_mono BB2 (Nat.div_le_self _ _)) ?_
      rw [digs_dg BB2 hx hxt]; exact hb
    have nqr : gq ≠ gr := by have h1 := HI.out.rn; have h2 := L0.out; have h3 := W5.out; rcases eq1 with e | e <;> omega
    have n2r : g2 ≠ gr := by have h1 := N12.out; have h2 := L0.out; have h3 := W5.out; rcases e2 with e | e <;> omega
    have CA := Lib.hid (addWords gq capq gr capr [] rr 0 Q R w6 nqr hQo HI.out.ok (by omega) (by have := HI.out.ln; omega) hOq Wr6)
    have h2l := hO2.lt
    have HO2 := Lib.hid hO2
    have HWr6 := Lib.hid Wr6
    have HT6 := Lib.hid hT6
    have E1 := Lib.hid eq1
    have E2 := Lib.hid e2
    have NQ := Lib.hid (And.intro nq2 (And.intro nqr n2r))
    have LQ := Lib.hid hOq.lt
    have L2 := Lib.hid h2l
    clear hQ hM hOq hO2 Wr6 hT6 eq1 e2 nq2 nqr n2r CD h2l hQo
    go_wp2_with fail
    refine CA.out.mono ?_
    rintro e w7 ⟨v, Z, rfl, hzo, hzv, hzl, g3, cap3, rfl, hO3, hg3, hT7⟩
    obtain ⟨r3, W3, hr31, hr32⟩ := hO3
    have hZl : Z.length ≤ 600000 := by have := HI.out.ln; omega
    have CS := Lib.hid (shiftRight g3 0 cap3 [] r3 Z 1 (by omega) w7 hzo (by omega) W3)
    have HO3 : Hid (Own w7 56 .u64 g3 cap3 Z) := Lib.hid ⟨r3, W3, hr31, hr32⟩
    have HZV := Lib.hid hzv
    have HG3 := Lib.hid hg3
    have HT7 := Lib.hid hT7
    have HW3 := Lib.hid W3
    clear hzo hzv hzl hg3 hT7 W3 hr31 hr32 CA hQl
    go_wp2_with fail
    refine CS.out.mono ?_
    rintro e w8 ⟨rm, zs, rfl, hDn, W8, hT8⟩
    have hzl8 := hDn.len
    have hO8 := HO3.out.again HW3.out W8 hzl8
    have ct := trim g3 0 cap3 [] r3 zs w8 (by omega) (by have := hO8.le; omega) W8
    rw [hzl8] at ct
    have CT := Lib.hid ct
    clear ct
    have hc8 : cut zs = zs.take (cut zs).length := cut_take zs
    have hON := hO8.take (cut zs).length
    rw [← hc8] at hON
    obtain ⟨N, hN⟩ : ∃ N, N = cut zs := ⟨_, rfl⟩
    have hNo : Ok BB N := by rw [hN]; exact cut_ok hDn.ok
    have hNt : Trim N := by rw [hN]; exact cut_trim zs
    have hNv : dg BB N = (dg BB X / dg BB R + dg BB R) / 2 := by
      have h1 := hDn.val
      have h2 := hDn.rb
      rw [HZV.out, hQv.out, ← dg_cut BB zs, ← hN] at h1
      omega
    have hNl : N.length ≤ 600000 := by
      have h := congrArg List.length hc8
      rw [List.length_take] at h
      rw [hN]; omega
    rw [← hN] at CT hON
    have HNV := Lib.hid hNv
    have HON := Lib.hid hON
    have HT8 := Lib.hid hT8
    have HNT := Lib.hid hNt
    obtain ⟨rN, WN⟩ := hON.win
    have g3r : g3 ≠ gr := by
      have h1 := NQ.out; have h2 := HG3.out; have h3 := L0.out; have h4 := W5.out; have h5 := HT6.out.size
      rw [List.mem_singleton] at h2
      rcases h2 with e | e <;> omega
    have Wr8 := (HWr6.out.kept HT7.out (by rw [List.mem_singleton]; exact fun e => NQ.out.2.1 e.symm)).kept HT8.out (by rw [List.mem_singleton]; exact fun e => g3r e.symm)
    have hOr8 : Own w8 56 .u64 gr capr R := ⟨rr, Wr8, HRL.out⟩
    have HOR8 := Lib.hid hOr8
    have CC := Lib.hid (compareWords g3 0 cap3 gr 0 capr [] rN [] rr N R w8 hNo HI.out.ok hNt HI.out.tr (by omega) WN Wr8)
    have HNO := Lib.hid hNo
    have G3R := Lib.hid g3r
    clear hDn W8 hT8 hzl8 hO8 hc8 hON hN hNo hNt hNv WN Wr8 hOr8 CS hZl g3r
    go_wp2_with fail
    refine CT.out.mono ?_
    rintro e w9 ⟨rfl, rfl⟩
    go_wp2_with fail
    refine CC.out.mono ?_
    rintro e w9 ⟨rfl, k, rfl⟩
    have hT08 : Tch [] w w8 := by
      have b1 := HI.out.br
      have b2 := HI.out.bs
      have b3 := HI.out.bn
      have hs1 := HT.out.size
      have h5 := W5.out
      have h6 := HT6.out.size
      have h7 := Hg1.out
      have h8 := E1.out
      have h9 := HG3.out
      rw [List.mem_singleton] at h9
      have t1 := HT.out.trans HT5.out (by intro k hk; rw [List.mem_singleton] at hk; exact .inr (by omega))
      have t2 := t1.trans HT6.out (by intro k hk; simp only [List.mem_cons, List.not_mem_nil, or_false] at hk; exact .inr (by omega))
      have t3 := t2.trans HT7.out (by intro k hk; rw [List.mem_singleton] at hk; exact .inr (by omega))
      exact t3.trans HT8.out (by intro k hk; rw [List.mem_singleton] at hk; exact .inr (by omega))
    have HT08 := Lib.hid hT08
    have hR0 : 0 < dg BB R := by have := HI.out.le; have := HS1.out; omega
    have HR0 := Lib.hid hR0
    clear hT08 hR0 hNl
    by_cases hlt : dg BB N < dg BB R
    · have hc : cmpI (dg BB N : Int) (dg BB R : Int) = -1 := (cmpI_lt (by omega)).symm
      rw [hc]
      have g2n : g2 ∉ [gq] := by rw [List.mem_singleton]; exact fun e => NQ.out.1 e.symm
      have g32 : g3 ≠ g2 := by
        have h1 := NQ.out.1; have h2 := HG3.out; have h3 := L2.out
        rw [List.mem_singleton] at h2
        rcases h2 with e | e <;> omega
      have g2m : g2 ∉ [g3] := by rw [List.mem_singleton]; exact fun e => g32 e.symm
      have hI2 : RtInv (w8.drewN k) w.heap.size g3 cap3 g2 cap2 gr capr N s := by
        refine HI.out.next (HON.out.drewN k) (((HO2.out.kept HT7.out g2n).kept HT8.out g2m).drewN k) (HOR8.out.drewN k) ?_ ?_ g32 HNO.out HNT.out hlt ?_
        · have h1 := HG3.out; have h2 := E1.out; have h3 := W5.out; have h4 := HT6.out.size
          rw [List.mem_singleton] at h1
          omega
        · have h1 := E2.out; have h2 := Hg1.out; have h3 := W5.out
          omega
        · rw [HNV.out]; exact newton_ge HR0.out hs
      have HI2 := Lib.hid hI2
      have HLT := Lib.hid hlt
      have HMN := Lib.hid (rdv_own (HON.out.drewN k))
      clear hc g2n g32 g2m hI2 hlt
      go_wp2
      go_roundw
      case rel => exact ⟨g3, cap3, g2, cap2, _, gr, capr, _, N, rfl, rfl, rfl, HI2.out, HT08.out.drewN k⟩
      case measure => rw [HMN.out, HM.out]; exact HLT.out
    · obtain ⟨E, hE⟩ : ∃ E, E = cmpI (dg BB N : Int) (dg BB R : Int) := ⟨_, rfl⟩
      have hE0 : 0 ≤ E := by rw [hE]; unfold cmpI; rw [if_neg (by omega)]; split <;> omega
      rw [← hE]
      have hRs : dg BB R = s := newton_end HR0.out hs2 HI.out.le (by rw [← HNV.out]; omega)
      have hRd : Hid (digs BB s = R) := Lib.hid (by rw [← hRs]; exact digs_dg BB2 HI.out.ok HI.out.tr)
      clear hE hRs hlt
      go_wp2
      go_ret
      exact ⟨gr, capr, by rw [hRd.out]; rfl, by rw [hRd.out]; exact HOR8.out.drewN k, HI.out.br, HT08.out.drewN k⟩

end Go.Proofs.YtmiibcdcnoefgaaGreatDoor
