/- lithophaneref01.Frac, usual, MulFrac, AddFrac, CmpFrac. -/
import Derived.Test.YtmiibcdcnoefgaaGreatDoorOver
import Derived.Test.YtmiibcdcnoefgaaGreatDoorRAdd
import Derived.Test.YtmiibcdcnoefgaaGreatDoorRFrom
import Derived.Test.YtmiibcdcnoefgaaGreatDoorAddF
import Derived.Test.YtmiibcdcnoefgaaGreatDoorMid
import Derived.Test.YtmiibcdcnoefgaaGreatDoorCmpW
namespace Go.Proofs.YtmiibcdcnoefgaaGreatDoor
open Go.RowKit Dg

/-- What the reference's Frac calls answer, by the sign of d. -/
theorem rfrac_pre {K : Nat} {na nb : Bool} {sa sc : ByteArray} {x y : Int} (hK : K ≤ 1000) (hx : Rep K na sa x) (hy : Rep K nb sc y) (h0 : y ≠ 0) :
    ∃ (bg bh b1 b2 b3 b4 : Bool) (sg sh s1 s2 s3 s4 : ByteArray),
      (∀ w, Calls Tryz.prog 24 #[.agg #[.bool na, .string sa], .agg #[.bool nb, .string sc]] w fun e w' => e = .returned (.agg #[.bool bg, .string sg]) ∧ Tch [] w w') ∧
      (y < 0 → ∀ w, Calls Tryz.prog 25 #[.agg #[.bool bg, .string sg]] w fun e w' => e = .returned (.agg #[.bool bh, .string sh]) ∧ Tch [] w w') ∧
      (¬ y < 0 → bh = bg ∧ sh = sg) ∧
      (∀ w, Calls Tryz.prog 26 #[.agg #[.bool na, .string sa], .agg #[.bool bh, .string sh]] w fun e w' => e = .returned (.tuple #[.agg #[.bool b1, .string s1], .agg #[.bool b3, .string s3], .bool true]) ∧ Tch [] w w') ∧
      (∀ w, Calls Tryz.prog 26 #[.agg #[.bool nb, .string sc], .agg #[.bool bh, .string sh]] w fun e w' => e = .returned (.tuple #[.agg #[.bool b2, .string s2], .agg #[.bool b4, .string s4], .bool true]) ∧ Tch [] w w') ∧
      fracV x y = .tuple #[.agg #[.bool b1, .string s1, .bool b2, .string s2], .bool true] := by
  have hgl : ((Int.gcd x y : Int)).natAbs < 256 ^ K := Nat.lt_of_le_of_lt (by simpa using gcd_le (n := x) h0) hy.lt
  obtain ⟨bg, sg, eg⟩ : ∃ bg sg, wz (Int.gcd x y : Int) = .agg #[.bool bg, .string sg] := ⟨_, _, wz_mo _⟩
  obtain ⟨bh, sh, eh⟩ : ∃ bh sh, wz (fgc x y) = .agg #[.bool bh, .string sh] := ⟨_, _, wz_mo _⟩
  have hfl : (fgc x y).natAbs < 256 ^ K := by
    unfold fgc; split
    · rw [Int.natAbs_neg]; exact hgl
    · exact hgl
  have rg := (Rep.of_wz eg hgl).mono (L := 1000) hK
  have rh := (Rep.of_wz eh hfl).mono (L := 1000) hK
  have hf0 : fgc x y ≠ 0 := fgc_ne h0
  obtain ⟨b1, s1, e1⟩ : ∃ b1 s1, wz (x.tdiv (fgc x y)) = .agg #[.bool b1, .string s1] := ⟨_, _, wz_mo _⟩
  obtain ⟨b2, s2, e2⟩ : ∃ b2 s2, wz (y.tdiv (fgc x y)) = .agg #[.bool b2, .string s2] := ⟨_, _, wz_mo _⟩
  obtain ⟨b3, s3, e3⟩ : ∃ b3 s3, wz (x.tmod (fgc x y)) = .agg #[.bool b3, .string s3] := ⟨_, _, wz_mo _⟩
  obtain ⟨b4, s4, e4⟩ : ∃ b4 s4, wz (y.tmod (fgc x y)) = .agg #[.bool b4, .string s4] := ⟨_, _, wz_mo _⟩
  refine ⟨bg, bh, b1, b2, b3, b4, sg, sh, s1, s2, s3, s4, fun w => ?_, fun hn w => ?_, fun hn => ?_, fun w => ?_, fun w => ?_, ?_⟩
  · have := rGcd (hx.mono hK) (hy.mono hK) w
    rwa [eg] at this
  · have := rNeg rg w
    rw [show -(Int.gcd x y : Int) = fgc x y from by unfold fgc; rw [if_pos hn], eh] at this
    exact this
  · have : fgc x y = (Int.gcd x y : Int) := by unfold fgc; rw [if_neg hn]
    rw [this, eg] at eh
    simpa [eq_comm] using eh
  · have := rQuo (hx.mono hK) rh w
    unfold zquoV at this
    rwa [if_neg hf0, e1, e3] at this
  · have := rQuo (hy.mono hK) rh w
    unfold zquoV at this
    rwa [if_neg hf0, e2, e4] at this
  · rw [wz_mo] at e1 e2
    simp only [Value.agg.injEq, Array.mk.injEq, List.cons.injEq, Value.bool.injEq, Value.string.injEq, and_true] at e1 e2
    unfold fracV frv
    rw [if_neg h0, e1.1, e1.2, e2.1, e2.2]

set_option maxHeartbeats 4000000 in
set_option maxRecDepth 100000 in
theorem rFrac {K : Nat} {na nb : Bool} {sa sc : ByteArray} {x y : Int} (hK : K ≤ 1000) (hx : Rep K na sa x) (hy : Rep K nb sc y) (w : World) :
    Calls Tryz.prog 7 #[.agg #[.bool na, .string sa], .agg #[.bool nb, .string sc]] w fun e w' => e = .returned (fracV x y) ∧ Tch [] w w' := by
  have hS := fun w1 => rSign (hy.mono hK) w1
  rcases Int.lt_trichotomy y 0 with hn | hz | hp
  · obtain ⟨bg, bh, b1, b2, b3, b4, sg, sh, s1, s2, s3, s4, c1, c2, c3, c4, c5, c6⟩ := rfrac_pre hK hx hy (by omega)
    rw [Int.sign_eq_neg_one_of_neg hn] at hS
    have CS := Lib.hid hS
    have C1 := Lib.hid c1
    have C2 := Lib.hid (c2 hn)
    have C4 := Lib.hid c4
    have C5 := Lib.hid c5
    have HV := Lib.hid c6
    clear hS hn hx hy c1 c2 c3 c4 c5 c6
    go_enter Tryz.func7, Tryz.ntmps7
    go_wp2_with fail
    have F0 := Lib.hid ((((Fr.nil w).add (.cells #[.bool na, .string sa] 28) w.heap.size rfl).add (.cells #[.bool nb, .string sc] 28) (w.heap.size + 1) (by simp)).add (.cells #[.bool false, .string ⟨#[]⟩, .bool false, .string ⟨#[]⟩] 30) (w.heap.size + 1 + 1) (by simp))
    refine (CS.out _).mono ?_
    rintro e w1 ⟨rfl, hT1⟩
    have HT1 := Lib.hid hT1
    have F0 := Lib.hid (F0.out.keep hT1)
    clear hT1
    obtain ⟨n0, n1⟩ := F0.out.two 0 rfl
    obtain ⟨d0, d1⟩ := F0.out.two 1 rfl
    go_wp2_with fail
    refine (C1.out _).mono ?_
    rintro e w2 ⟨rfl, hT2⟩
    have F1 := Lib.hid (FrS.first (g0 := .bool bg) (g1 := .string sg) (HT1.out.trans hT2 (by simp)))
    clear hT2 HT1 F0 n0 n1 d0 d1
    obtain ⟨A, hA⟩ : ∃ A, A = w.heap.size := ⟨_, rfl⟩
    obtain ⟨G, hG⟩ : ∃ G, G = w2.heap.size := ⟨_, rfl⟩
    rw [← hA] at F1 ⊢
    rw [← hG] at F1
    have HA := Lib.hid hA
    have HG := Lib.hid hG
    clear hA hG
    obtain ⟨_, _, ⟨g0, g1⟩⟩ := F1.out.cells
    obtain ⟨_, _, ⟨fg0, fg1⟩⟩ := F1.out.frozen
    go_wp2_with fail
    rw [← HG.out]
    refine (C2.out _).mono ?_
    rintro e w3 ⟨rfl, hT3⟩
    clear g0 g1 fg0 fg1
    have F2 := Lib.hid (F1.out.keep hT3)
    have F3 := Lib.hid (F2.out.setg (.bool bh) (.string sh))
    clear hT3
    obtain ⟨_, _, ⟨g0, g1⟩⟩ := F2.out.cells
    obtain ⟨_, _, ⟨fg0, fg1⟩⟩ := F2.out.frozen
    obtain ⟨⟨n0, n1⟩, _, ⟨h0, h1⟩⟩ := F3.out.cells
    go_wp2_with fail
    refine (C4.out _).mono ?_
    rintro e w4 ⟨rfl, hT4⟩
    clear n0 n1 g0 g1 fg0 fg1 h0 h1
    have F4 := Lib.hid (F3.out.keep ((hT4.alloc (.cells #[.bool b1, .string s1] 28)).alloc (.cells #[.bool b3, .string s3] 28)))
    have X4 := Lib.hid (((Fr.nil w).keep (F3.out.t.trans hT4 (by simp))).add (.cells #[.bool b1, .string s1] 28) w4.heap.size rfl |>.add (.cells #[.bool b3, .string s3] 28) (w4.heap.size + 1) (by simp))
    clear hT4
    obtain ⟨_, ⟨d0, d1⟩, ⟨g0, g1⟩⟩ := F4.out.cells
    go_wp2_with fail
    refine (C5.out _).mono ?_
    rintro e w5 ⟨rfl, hT5⟩
    clear d0 d1 g0 g1
    have F5 := Lib.hid (F4.out.keep ((hT5.alloc (.cells #[.bool b2, .string s2] 28)).alloc (.cells #[.bool b4, .string s4] 28)))
    have X5 := Lib.hid ((X4.out.keep hT5).add (.cells #[.bool b2, .string s2] 28) w5.heap.size rfl |>.add (.cells #[.bool b4, .string s4] 28) (w5.heap.size + 1) (by simp))
    clear hT5
    obtain ⟨x0, x1⟩ := X5.out.two 0 rfl
    obtain ⟨y0, y1⟩ := X5.out.two 2 rfl
    obtain ⟨⟨r0, r1, r2, r3⟩, ⟨fr0, fr1, fr2, fr3⟩⟩ := F5.out.res
    go_wp2
    refine bodyPost_ret (v := .tuple #[.agg #[.bool b1, .string s1, .bool b2, .string s2], .bool true]) (by simp [results, Tryz.results7, go_sem, r0, r1, r2, r3]) rfl ⟨by rw [HV.out], ?_⟩
    exact (F5.out.fin _ _ _ _)
  · rw [hz] at hS
    have CS := Lib.hid (hS : ∀ w1, Calls Tryz.prog 23 #[.agg #[.bool nb, .string sc]] w1 fun e w' => e = .returned (.int .i64 0) ∧ Tch [] w1 w')
    have HV : Hid (fracV x y = .tuple #[.agg #[.bool false, .string ⟨#[]⟩, .bool false, .string ⟨#[]⟩], .bool false]) := Lib.hid (by unfold fracV; rw [if_pos hz])
    clear hS hz hx hy
    go_enter Tryz.func7, Tryz.ntmps7
    go_wp2_with fail
    have F0 := Lib.hid ((((Fr.nil w).add (.cells #[.bool na, .string sa] 28) w.heap.size rfl).add (.cells #[.bool nb, .string sc] 28) (w.heap.size + 1) (by simp)).add (.cells #[.bool false, .string ⟨#[]⟩, .bool false, .string ⟨#[]⟩] 30) (w.heap.size + 1 + 1) (by simp))
    refine (CS.out _).mono ?_
    rintro e w1 ⟨rfl, hT1⟩
    have HT1 := Lib.hid hT1
    have F0 := Lib.hid (F0.out.keep hT1)
    clear hT1
    obtain ⟨r0, r1, r2, r3⟩ := F0.out.four 2 rfl
    obtain ⟨f0, f1, f2, f3⟩ := F0.out.fro4 2 rfl
    go_wp2
    refine bodyPost_ret (v := .tuple #[.agg #[.bool false, .string ⟨#[]⟩, .bool false, .string ⟨#[]⟩], .bool false]) (by simp [results, Tryz.results7, go_sem, r0, r1, r2, r3]) rfl ⟨by rw [HV.out], ?_⟩
    exact F0.out.fin4 2 rfl _ _ _ _
  · obtain ⟨bg, bh, b1, b2, b3, b4, sg, sh, s1, s2, s3, s4, c1, c2, c3, c4, c5, c6⟩ := rfrac_pre hK hx hy (by omega)
    obtain ⟨rfl, rfl⟩ := c3 (by omega)
    rw [Int.sign_eq_one_of_pos hp] at hS
    have CS := Lib.hid hS
    have C1 := Lib.hid c1
    have C4 := Lib.hid c4
    have C5 := Lib.hid c5
    have HV := Lib.hid c6
    clear hS hp hx hy c1 c2 c3 c4 c5 c6
    go_enter Tryz.func7, Tryz.ntmps7
    go_wp2_with fail
    have F0 := Lib.hid ((((Fr.nil w).add (.cells #[.bool na, .string sa] 28) w.heap.size rfl).add (.cells #[.bool nb, .string sc] 28) (w.heap.size + 1) (by simp)).add (.cells #[.bool false, .string ⟨#[]⟩, .bool false, .string ⟨#[]⟩] 30) (w.heap.size + 1 + 1) (by simp))
    refine (CS.out _).mono ?_
    rintro e w1 ⟨rfl, hT1⟩
    have HT1 := Lib.hid hT1
    have F0 := Lib.hid (F0.out.keep hT1)
    clear hT1
    obtain ⟨n0, n1⟩ := F0.out.two 0 rfl
    obtain ⟨d0, d1⟩ := F0.out.two 1 rfl
    go_wp2_with fail
    refine (C1.out _).mono ?_
    rintro e w2 ⟨rfl, hT2⟩
    have F1 := Lib.hid (FrS.first (g0 := .bool bh) (g1 := .string sh) (HT1.out.trans hT2 (by simp)))
    clear hT2 HT1 F0 n0 n1 d0 d1
    obtain ⟨A, hA⟩ : ∃ A, A = w.heap.size := ⟨_, rfl⟩
    obtain ⟨G, hG⟩ : ∃ G, G = w2.heap.size := ⟨_, rfl⟩
    rw [← hA] at F1 ⊢
    rw [← hG] at F1
    have HA := Lib.hid hA
    have HG := Lib.hid hG
    clear hA hG
    have F3 := F1
    obtain ⟨⟨n0, n1⟩, _, ⟨g0, g1⟩⟩ := F1.out.cells
    go_wp2_with fail
    rw [← HG.out]
    refine (C4.out _).mono ?_
    rintro e w4 ⟨rfl, hT4⟩
    clear n0 n1 g0 g1
    have F4 := Lib.hid (F3.out.keep ((hT4.alloc (.cells #[.bool b1, .string s1] 28)).alloc (.cells #[.bool b3, .string s3] 28)))
    have X4 := Lib.hid (((Fr.nil w).keep (F3.out.t.trans hT4 (by simp))).add (.cells #[.bool b1, .string s1] 28) w4.heap.size rfl |>.add (.cells #[.bool b3, .string s3] 28) (w4.heap.size + 1) (by simp))
    clear hT4
    obtain ⟨_, ⟨d0, d1⟩, ⟨g0, g1⟩⟩ := F4.out.cells
    go_wp2_with fail
    refine (C5.out _).mono ?_
    rintro e w5 ⟨rfl, hT5⟩
    clear d0 d1 g0 g1
    have F5 := Lib.hid (F4.out.keep ((hT5.alloc (.cells #[.bool b2, .string s2] 28)).alloc (.cells #[.bool b4, .string s4] 28)))
    have X5 := Lib.hid ((X4.out.keep hT5).add (.cells #[.bool b2, .string s2] 28) w5.heap.size rfl |>.add (.cells #[.bool b4, .string s4] 28) (w5.heap.size + 1) (by simp))
    clear hT5
    obtain ⟨x0, x1⟩ := X5.out.two 0 rfl
    obtain ⟨y0, y1⟩ := X5.out.two 2 rfl
    obtain ⟨⟨r0, r1, r2, r3⟩, ⟨fr0, fr1, fr2, fr3⟩⟩ := F5.out.res
    go_wp2
    refine bodyPost_ret (v := .tuple #[.agg #[.bool b1, .string s1, .bool b2, .string s2], .bool true]) (by simp [results, Tryz.results7, go_sem, r0, r1, r2, r3]) rfl ⟨by rw [HV.out], ?_⟩
    exact (F5.out.fin _ _ _ _)

end Go.Proofs.YtmiibcdcnoefgaaGreatDoor

/- lithophaneref01.usual, MulFrac, AddFrac, CmpFrac. -/
namespace Go.Proofs.YtmiibcdcnoefgaaGreatDoor
open Go.RowKit Dg

set_option maxHeartbeats 4000000 in
set_option maxRecDepth 100000 in
theorem RUsual {K : Nat} {nn nd : Bool} {sn sd : ByteArray} {n d : Int} (hK : 1 ≤ K) (hK2 : K ≤ 1000) (hn : Rep K nn sn n) (hd : Rep K nd sd d) :
    ∃ b1 s1 b2 s2, Rep K b1 s1 (tmn n d) ∧ Rep K b2 s2 (tmd n d) ∧ ∀ w, Calls Tryz.prog 29 #[.agg #[.bool nn, .string sn, .bool nd, .string sd]] w fun e w' => e = .returned (.agg #[.bool b1, .string s1, .bool b2, .string s2]) ∧ Tch [] w w' := by
  have hS := fun w1 => rSign (hd.mono hK2) w1
  have kF := fun w1 => rFrom 1 (by decide) (by decide) w1
  rw [z1] at kF
  have KF := Lib.hid kF
  by_cases h : 0 < d
  · rw [Int.sign_eq_one_of_pos h] at hS
    have CS := Lib.hid hS
    refine ⟨nn, sn, nd, sd, by unfold tmn; rw [if_pos h]; exact hn, by unfold tmd; rw [if_pos h]; exact hd, fun w => ?_⟩
    clear hS kF hn hd h
    have F := Lib.hid (((Fr.nil w).add (.cells #[.bool nn, .string sn, .bool nd, .string sd] 30) w.heap.size rfl).add (.cells #[.bool false, .string ⟨#[]⟩, .bool false, .string ⟨#[]⟩] 30) (w.heap.size + 1) (by simp))
    go_enter Tryz.func29, Tryz.ntmps29
    go_wp2_with fail
    refine (CS.out _).mono ?_
    rintro e w1 ⟨rfl, hT1⟩
    have F := Lib.hid (F.out.keep hT1)
    clear hT1
    obtain ⟨a0, a1, a2, a3⟩ := F.out.four 0 rfl
    obtain ⟨r0, r1, r2, r3⟩ := F.out.four 1 rfl
    obtain ⟨f0, f1, f2, f3⟩ := F.out.fro4 1 rfl
    go_wp2
    refine bodyPost_ret (v := .agg #[.bool nn, .string sn, .bool nd, .string sd]) (by simp [results, Tryz.results29, go_sem, r0, r1, r2, r3]) rfl ⟨rfl, ?_⟩
    exact F.out.fin4 1 rfl _ _ _ _
  · obtain ⟨q, hq, hq0⟩ : ∃ q, d.sign = q ∧ q ≤ 0 := ⟨_, rfl, by rw [← Int.not_lt]; intro h2; exact h (Int.sign_pos_iff.1 h2)⟩
    rw [hq] at hS
    have CS := Lib.hid hS
    refine ⟨false, ⟨#[]⟩, false, ⟨#[1]⟩, by unfold tmn; rw [if_neg h]; exact ⟨by decide, Nat.zero_le _⟩, by unfold tmd; rw [if_neg h]; exact ⟨by decide, hK⟩, fun w => ?_⟩
    clear hS kF hn hd h hq
    have F := Lib.hid (((Fr.nil w).add (.cells #[.bool nn, .string sn, .bool nd, .string sd] 30) w.heap.size rfl).add (.cells #[.bool false, .string ⟨#[]⟩, .bool false, .string ⟨#[]⟩] 30) (w.heap.size + 1) (by simp))
    go_enter Tryz.func29, Tryz.ntmps29
    go_wp2_with fail
    refine (CS.out _).mono ?_
    rintro e w1 ⟨rfl, hT1⟩
    have F := Lib.hid (F.out.keep hT1)
    clear hT1
    go_wp2_with fail
    refine (KF.out _).mono ?_
    rintro e w2 ⟨rfl, hT2⟩
    have F := Lib.hid (F.out.keep hT2)
    clear hT2
    obtain ⟨r0, r1, r2, r3⟩ := F.out.four 1 rfl
    obtain ⟨f0, f1, f2, f3⟩ := F.out.fro4 1 rfl
    go_wp2
    refine bodyPost_ret (v := .agg #[.bool false, .string ⟨#[]⟩, .bool false, .string ⟨#[1]⟩]) (by simp [results, Tryz.results29, go_sem, r0, r1, r2, r3]) rfl ⟨rfl, ?_⟩
    exact F.out.fin4 1 rfl _ _ _ _

theorem cmpI_sign (x y : Int) : cmpI x y = (x - y).sign := by
  unfold cmpI
  split
  · rw [Int.sign_eq_neg_one_of_neg (by omega)]
  · split
    · rw [Int.sign_eq_one_of_pos (by omega)]
    · rw [show x - y = 0 from by omega]; rfl

set_option maxHeartbeats 8000000 in
set_option maxRecDepth 100000 in
theorem rCmpFrac {K : Nat} {an ad bn bd : Bool} {sn sd tn td : ByteArray} {n d m e' : Int} (hK1 : 1 ≤ K) (hK : K ≤ 100) (hn : Rep K an sn n) (hd : Rep K ad sd d) (hm : Rep K bn tn m) (he : Rep K bd td e') (w : World) :
    Calls Tryz.prog 9 #[.agg #[.bool an, .string sn, .bool ad, .string sd], .agg #[.bool bn, .string tn, .bool bd, .string td]] w fun e w' => e = .returned (.int .i64 (tmn n d * tmd m e' - tmn m e' * tmd n d).sign) ∧ Tch [] w w' := by
  obtain ⟨p1, q1, p2, q2, R1, R2, T1⟩ := RUsual hK1 (by omega) hn hd
  obtain ⟨p3, q3, p4, q4, R3, R4, T2⟩ := RUsual hK1 (by omega) hm he
  have l1 := mul_lt R1.lt R4.lt
  have l2 := mul_lt R3.lt R2.lt
  obtain ⟨u1, v1, e1⟩ : ∃ b s, wz (tmn n d * tmd m e') = .agg #[.bool b, .string s] := ⟨_, _, wz_mo _⟩
  obtain ⟨u2, v2, e2⟩ : ∃ b s, wz (tmn m e' * tmd n d) = .agg #[.bool b, .string s] := ⟨_, _, wz_mo _⟩
  have c1 := fun w1 => rMul (R1.mono (L := 1000) (by omega)) (R4.mono (L := 1000) (by omega)) w1
  have c2 := fun w1 => rMul (R3.mono (L := 1000) (by omega)) (R2.mono (L := 1000) (by omega)) w1
  rw [e1] at c1
  rw [e2] at c2
  have l3 : (tmn n d * tmd m e' - tmn m e' * tmd n d).natAbs < 256 ^ (K + K + 1) := by
    rw [Int.sub_eq_add_neg]; exact add_lt l1 (by rw [Int.natAbs_neg]; exact l2)
  have c3 := fun w1 => rCmp ((Rep.of_wz e1 l1).mono (L := 400) (by omega)) ((Rep.of_wz e2 l2).mono (L := 400) (by omega)) (K := K + K + 1) (by omega) l3 w1
  obtain ⟨r, hr⟩ : ∃ r, (tmn n d * tmd m e' - tmn m e' * tmd n d).sign = r := ⟨_, rfl⟩
  rw [cmpI_sign, hr] at c3
  rw [hr]
  have C1 := Lib.hid c1
  have C2 := Lib.hid c2
  have C3 := Lib.hid c3
  have D1' := Lib.hid T1
  have D2' := Lib.hid T2
  clear c1 c2 c3 T1 T2 e1 e2 l1 l2 l3 R1 R2 R3 R4 hn hd hm he hK hK1 hr
  go_enter Tryz.func9, Tryz.ntmps9
  go_wp2_with fail
  refine (D1'.out _).mono ?_
  rintro e w1 ⟨rfl, h1⟩
  have F1 := Lib.hid (((((Fr.nil w).add (.cells #[.bool an, .string sn, .bool ad, .string sd] 30) w.heap.size rfl).add (.cells #[.bool bn, .string tn, .bool bd, .string td] 30) (w.heap.size + 1) (by simp)).keep h1).add (.cells #[.bool p1, .string q1, .bool p2, .string q2] 30) w1.heap.size rfl)
  clear h1
  obtain ⟨a0, a1, a2, a3⟩ := F1.out.four 1 rfl
  go_wp2_with fail
  refine (D2'.out _).mono ?_
  rintro e w2 ⟨rfl, h2⟩
  have F2 := Lib.hid ((F1.out.keep h2).add (.cells #[.bool p3, .string q3, .bool p4, .string q4] 30) w2.heap.size rfl)
  clear h2 a0 a1 a2 a3
  obtain ⟨l, G, SA0⟩ : ∃ l, Fr w (w2.alloc (.cells #[.bool p3, .string q3, .bool p4, .string q4] 30)) l ∧ (∀ w3, Fr w w3 l → w3.cell? ⟨w1.heap.size, 0, none⟩ = some (.bool p1) ∧ w3.cell? ⟨w1.heap.size, 1, none⟩ = some (.string q1) ∧ w3.cell? ⟨w1.heap.size, 2, none⟩ = some (.bool p2) ∧ w3.cell? ⟨w1.heap.size, 3, none⟩ = some (.string q2) ∧ w3.cell? ⟨w2.heap.size, 0, none⟩ = some (.bool p3) ∧ w3.cell? ⟨w2.heap.size, 1, none⟩ = some (.string q3) ∧ w3.cell? ⟨w2.heap.size, 2, none⟩ = some (.bool p4) ∧ w3.cell? ⟨w2.heap.size, 3, none⟩ = some (.string q4)) :=
    ⟨_, F2.out, fun w3 F => ⟨F.cell 2 0 rfl rfl, F.cell 2 1 rfl rfl, F.cell 2 2 rfl rfl, F.cell 2 3 rfl rfl, F.cell 3 0 rfl rfl, F.cell 3 1 rfl rfl, F.cell 3 2 rfl rfl, F.cell 3 3 rfl rfl⟩⟩
  have F := Lib.hid G
  have SA := Lib.hid SA0
  clear G SA0 F1 F2
  go_wp2_with fail
  go_region_held3 (fun w3 => w3.cell? ⟨w1.heap.size, 0, none⟩ = some (.bool p1) ∧ w3.cell? ⟨w1.heap.size, 1, none⟩ = some (.string q1) ∧ w3.cell? ⟨w1.heap.size, 2, none⟩ = some (.bool p2) ∧ w3.cell? ⟨w1.heap.size, 3, none⟩ = some (.string q2) ∧ w3.cell? ⟨w2.heap.size, 0, none⟩ = some (.bool p3) ∧ w3.cell? ⟨w2.heap.size, 1, none⟩ = some (.string q3) ∧ w3.cell? ⟨w2.heap.size, 2, none⟩ = some (.bool p4) ∧ w3.cell? ⟨w2.heap.size, 3, none⟩ = some (.string q4)) (first | with_reducible exact SA.out _ F.out | exact SA.out _ F.out.drew) (first
    | (go_at_call 31; (first | (with_reducible refine (C1.out _).mono ?_) | (with_reducible refine (C2.out _).mono ?_)); rintro e w' ⟨rfl, h1⟩; (first | (with_reducible have F := Lib.hid (F.out.keep h1)) | (with_reducible have F := Lib.hid (F.out.drew.keep h1))); clear h1)
    | (go_at_call 30; refine (C3.out _).mono ?_; rintro e w' ⟨rfl, h1⟩; (first | (with_reducible have F := Lib.hid (F.out.keep h1)) | (with_reducible have F := Lib.hid (F.out.drew.keep h1))); clear h1))
  go_wp2
  go_ret
  exact ⟨rfl, F.out.t⟩

set_option maxHeartbeats 20000000 in
set_option maxRecDepth 100000 in
theorem rAddFrac {K : Nat} {an ad bn bd : Bool} {sn sd tn td : ByteArray} {n d m e' : Int} (hK1 : 1 ≤ K) (hK : K ≤ 100) (hn : Rep K an sn n) (hd : Rep K ad sd d) (hm : Rep K bn tn m) (he : Rep K bd td e') (w : World) :
    Calls Tryz.prog 11 #[.agg #[.bool an, .string sn, .bool ad, .string sd], .agg #[.bool bn, .string tn, .bool bd, .string td]] w fun e w' => e = .returned (frq (tmn n d * tmd m e' + tmn m e' * tmd n d) (tmd n d * tmd m e')) ∧ Tch [] w w' := by
  obtain ⟨p1, q1, p2, q2, R1, R2, T1⟩ := RUsual hK1 (by omega) hn hd
  obtain ⟨p3, q3, p4, q4, R3, R4, T2⟩ := RUsual hK1 (by omega) hm he
  have hD : tmd n d * tmd m e' ≠ 0 := by
    have := Int.mul_pos (tmd_pos n d) (tmd_pos m e'); omega
  obtain ⟨N1, hN1⟩ : ∃ N1, N1 = tmn n d := ⟨_, rfl⟩
  obtain ⟨D1, hD1⟩ : ∃ D1, D1 = tmd n d := ⟨_, rfl⟩
  obtain ⟨N2, hN2⟩ : ∃ N2, N2 = tmn m e' := ⟨_, rfl⟩
  obtain ⟨D2, hD2⟩ : ∃ D2, D2 = tmd m e' := ⟨_, rfl⟩
  rw [← hN1] at R1
  rw [← hD1] at R2
  rw [← hN2] at R3
  rw [← hD2] at R4
  rw [← hD1, ← hD2] at hD
  rw [← hN1, ← hD1, ← hN2, ← hD2]
  clear hN1 hD1 hN2 hD2
  have l1 := mul_lt R1.lt R4.lt
  have l2 := mul_lt R3.lt R2.lt
  have l4 := add_lt l1 l2
  obtain ⟨u1, v1, e1⟩ : ∃ b s, wz (N1 * D2) = .agg #[.bool b, .string s] := ⟨_, _, wz_mo _⟩
  obtain ⟨u2, v2, e2⟩ : ∃ b s, wz (N2 * D1) = .agg #[.bool b, .string s] := ⟨_, _, wz_mo _⟩
  obtain ⟨u4, v4, e4⟩ : ∃ b s, wz (N1 * D2 + N2 * D1) = .agg #[.bool b, .string s] := ⟨_, _, wz_mo _⟩
  have S1 := Rep.of_wz e1 l1
  have S2 := Rep.of_wz e2 l2
  have S4 := Rep.of_wz e4 l4
  have c1 := fun w1 => rMul (R1.mono (L := 1000) (by omega)) (R4.mono (L := 1000) (by omega)) w1
  have c2 := fun w1 => rMul (R3.mono (L := 1000) (by omega)) (R2.mono (L := 1000) (by omega)) w1
  have c4 := fun w1 => rAdd (S1.mono (L := 1000) (by omega)) (S2.mono (L := 1000) (by omega)) w1
  rw [e1] at c1
  rw [e2] at c2
  rw [e4] at c4
  have C1 := Lib.hid c1
  have C2 := Lib.hid c2
  have C4 := Lib.hid c4
  have l3 := mul_lt R2.lt R4.lt
  obtain ⟨u3, v3, e3⟩ : ∃ b s, wz (D1 * D2) = .agg #[.bool b, .string s] := ⟨_, _, wz_mo _⟩
  have S3 := Rep.of_wz e3 l3
  have c3 := fun w1 => rMul (R2.mono (L := 1000) (by omega)) (R4.mono (L := 1000) (by omega)) w1
  rw [e3] at c3
  have c5 := fun w1 => rFrac (K := 1000) (by omega) (S4.mono (L := 1000) (by omega)) (S3.mono (L := 1000) (by omega)) w1
  unfold fracV at c5
  rw [if_neg hD] at c5
  obtain ⟨x1, y1, x2, y2, ef⟩ := frv_agg ((N1 * D2 + N2 * D1).tdiv (fgc (N1 * D2 + N2 * D1) (D1 * D2))) ((D1 * D2).tdiv (fgc (N1 * D2 + N2 * D1) (D1 * D2)))
  rw [ef] at c5
  have HV : Hid (frq (N1 * D2 + N2 * D1) (D1 * D2) = .agg #[.bool x1, .string y1, .bool x2, .string y2]) := Lib.hid ef
  have C3 := Lib.hid c3
  have C5 := Lib.hid c5
  have D1' := Lib.hid T1
  have D2' := Lib.hid T2
  clear c3 c5 T1 T2 ef e3 l3 S3 S4 R1 R2 R3 R4 hD hn hd hm he hK hK1 c1 c2 c4 e1 e2 e4 l1 l2 l4 S1 S2
  go_enter Tryz.func11, Tryz.ntmps11
  go_wp2_with fail
  refine (D1'.out _).mono ?_
  rintro e w1 ⟨rfl, h1⟩
  have F1 := Lib.hid ((((((Fr.nil w).add (.cells #[.bool an, .string sn, .bool ad, .string sd] 30) w.heap.size rfl).add (.cells #[.bool bn, .string tn, .bool bd, .string td] 30) (w.heap.size + 1) (by simp)).add (.cells #[.bool false, .string ⟨#[]⟩, .bool false, .string ⟨#[]⟩] 30) (w.heap.size + 1 + 1) (by simp)).keep h1).add (.cells #[.bool p1, .string q1, .bool p2, .string q2] 30) w1.heap.size rfl)
  clear h1
  obtain ⟨a0, a1, a2, a3⟩ := F1.out.four 1 rfl
  go_wp2_with fail
  refine (D2'.out _).mono ?_
  rintro e w2 ⟨rfl, h2⟩
  have F2 := Lib.hid ((F1.out.keep h2).add (.cells #[.bool p3, .string q3, .bool p4, .string q4] 30) w2.heap.size rfl)
  clear h2 a0 a1 a2 a3
  obtain ⟨l, G, RB0, SA0⟩ : ∃ l, Fr w (w2.alloc (.cells #[.bool p3, .string q3, .bool p4, .string q4] 30)) l ∧ (∀ w3, Fr w w3 l → Fr w w3 [(w.heap.size + 1 + 1, .cells #[.bool false, .string ⟨#[]⟩, .bool false, .string ⟨#[]⟩] 30 (0, 0))]) ∧ (∀ w3, Fr w w3 l → w3.cell? ⟨w1.heap.size, 0, none⟩ = some (.bool p1) ∧ w3.cell? ⟨w1.heap.size, 1, none⟩ = some (.string q1) ∧ w3.cell? ⟨w1.heap.size, 2, none⟩ = some (.bool p2) ∧ w3.cell? ⟨w1.heap.size, 3, none⟩ = some (.string q2) ∧ w3.cell? ⟨w2.heap.size, 0, none⟩ = some (.bool p3) ∧ w3.cell? ⟨w2.heap.size, 1, none⟩ = some (.string q3) ∧ w3.cell? ⟨w2.heap.size, 2, none⟩ = some (.bool p4) ∧ w3.cell? ⟨w2.heap.size, 3, none⟩ = some (.string q4)) :=
    ⟨_, F2.out, fun w3 F => ⟨fun p hp => F.row p (by rw [List.mem_singleton] at hp; subst hp; simp), fun p hp => F.new p (by rw [List.mem_singleton] at hp; subst hp; simp), F.t⟩, fun w3 F => ⟨F.cell 3 0 rfl rfl, F.cell 3 1 rfl rfl, F.cell 3 2 rfl rfl, F.cell 3 3 rfl rfl, F.cell 4 0 rfl rfl, F.cell 4 1 rfl rfl, F.cell 4 2 rfl rfl, F.cell 4 3 rfl rfl⟩⟩
  have RB := Lib.hid RB0
  have F := Lib.hid G
  have SA := Lib.hid SA0
  clear G SA0 RB0 F1 F2
  go_upto_region 3 with (fail)
  generalize w2.alloc (.cells #[.bool p3, .string q3, .bool p4, .string q4] 30) = W at F ⊢
  go_cut [7] (fun s7 wx => MidB w l (.cells #[.bool x1, .string y1, .bool x2, .string y2] 30 (0, 0)) s7 wx)
  case first =>
    go_region_held3 (fun w3 => w3.cell? ⟨w1.heap.size, 0, none⟩ = some (.bool p1) ∧ w3.cell? ⟨w1.heap.size, 1, none⟩ = some (.string q1) ∧ w3.cell? ⟨w1.heap.size, 2, none⟩ = some (.bool p2) ∧ w3.cell? ⟨w1.heap.size, 3, none⟩ = some (.string q2) ∧ w3.cell? ⟨w2.heap.size, 0, none⟩ = some (.bool p3) ∧ w3.cell? ⟨w2.heap.size, 1, none⟩ = some (.string q3) ∧ w3.cell? ⟨w2.heap.size, 2, none⟩ = some (.bool p4) ∧ w3.cell? ⟨w2.heap.size, 3, none⟩ = some (.string q4)) (first | with_reducible exact SA.out _ F3.out | with_reducible exact SA.out _ (F3.out.beside _) | with_reducible exact SA.out _ (F3.out.box4 _ _ _ _ _) | with_reducible exact SA.out _ (B3.out.set4 _ _ _ _) | with_reducible exact SA.out _ F.out | with_reducible exact SA.out _ F.out.drew | with_reducible exact SA.out _ (F.out.drew.beside _) | with_reducible exact SA.out _ (F.out.beside _).drew) (first
      | (go_at_call 31; (first | (with_reducible refine (C1.out _).mono ?_) | (with_reducible refine (C2.out _).mono ?_) | (with_reducible refine (C3.out _).mono ?_)); rintro e w7 ⟨rfl, hT⟩; (first | (with_reducible have B3 := Lib.hid (B3.out.keep hT); clear z0 z1 z2 z3 f0 f1 f2 f3; obtain ⟨⟨z0, z1, z2, z3⟩, ⟨f0, f1, f2, f3⟩⟩ := B3.out.four; have F3 := Lib.hid B3.out.f) | (with_reducible have F3 := Lib.hid (F3.out.keep hT)) | (with_reducible have B3 := Lib.hid (F3.out.boxed _ hT); obtain ⟨⟨z0, z1, z2, z3⟩, ⟨f0, f1, f2, f3⟩⟩ := B3.out.four; have F3 := Lib.hid B3.out.f) | (with_reducible have B3 := Lib.hid (F.out.boxedAt _ W.heap.size rfl (Tch.undrew hT)); obtain ⟨⟨z0, z1, z2, z3⟩, ⟨f0, f1, f2, f3⟩⟩ := B3.out.four; have F3 := Lib.hid B3.out.f) | (with_reducible have F3 := Lib.hid (F.out.keep (Tch.undrew hT)))); clear hT)
      | (go_at_call 33; (with_reducible refine (C4.out _).mono ?_); rintro e w7 ⟨rfl, hT⟩; (first | (with_reducible have B3 := Lib.hid (B3.out.keep hT); clear z0 z1 z2 z3 f0 f1 f2 f3; obtain ⟨⟨z0, z1, z2, z3⟩, ⟨f0, f1, f2, f3⟩⟩ := B3.out.four; have F3 := Lib.hid B3.out.f) | (with_reducible have F3 := Lib.hid (F3.out.keep hT)) | (with_reducible have B3 := Lib.hid (F3.out.boxed _ hT); obtain ⟨⟨z0, z1, z2, z3⟩, ⟨f0, f1, f2, f3⟩⟩ := B3.out.four; have F3 := Lib.hid B3.out.f) | (with_reducible have B3 := Lib.hid (F.out.boxedAt _ W.heap.size rfl (Tch.undrew hT)); obtain ⟨⟨z0, z1, z2, z3⟩, ⟨f0, f1, f2, f3⟩⟩ := B3.out.four; have F3 := Lib.hid B3.out.f) | (with_reducible have F3 := Lib.hid (F.out.keep (Tch.undrew hT)))); clear hT)
      | (go_at_call 7; (with_reducible refine (C5.out _).mono ?_); rintro e w7 ⟨rfl, hT⟩; (first | (with_reducible have B3 := Lib.hid (B3.out.keep hT); clear z0 z1 z2 z3 f0 f1 f2 f3; obtain ⟨⟨z0, z1, z2, z3⟩, ⟨f0, f1, f2, f3⟩⟩ := B3.out.four; have F3 := Lib.hid B3.out.f) | (with_reducible have F3 := Lib.hid (F3.out.keep hT)) | (with_reducible have B3 := Lib.hid (F3.out.boxed _ hT); obtain ⟨⟨z0, z1, z2, z3⟩, ⟨f0, f1, f2, f3⟩⟩ := B3.out.four; have F3 := Lib.hid B3.out.f) | (with_reducible have B3 := Lib.hid (F.out.boxedAt _ W.heap.size rfl (Tch.undrew hT)); obtain ⟨⟨z0, z1, z2, z3⟩, ⟨f0, f1, f2, f3⟩⟩ := B3.out.four; have F3 := Lib.hid B3.out.f) | (with_reducible have F3 := Lib.hid (F.out.keep (Tch.undrew hT)))); clear hT))
    all_goals (go_wp2_with fail; go_meet; (first | with_reducible exact F3.out.mid _ | with_reducible exact B3.out.mid4 _ _ _ _))
  case rest =>
    obtain ⟨g, rfl, FM, hr, hn⟩ := hcut
    obtain ⟨g0, g1, g2, g3⟩ := cells_row4 hr
    have HF := Lib.hid (RB.out _ FM)
    obtain ⟨r0, r1, r2, r3⟩ := HF.out.four 0 rfl
    obtain ⟨t0, t1, t2, t3⟩ := HF.out.fro4 0 rfl
    clear FM hr hn F SA RB C3 C5 D1' D2' C1 C2 C4
    go_wp2
    refine bodyPost_ret (v := .agg #[.bool x1, .string y1, .bool x2, .string y2]) (by simp [results, Tryz.results11, go_sem, r0, r1, r2, r3]) rfl ⟨by rw [HV.out], ?_⟩
    exact HF.out.fin4 0 rfl _ _ _ _


set_option maxHeartbeats 20000000 in
set_option maxRecDepth 100000 in
theorem rMulFrac {K : Nat} {an ad bn bd : Bool} {sn sd tn td : ByteArray} {n d m e' : Int} (hK1 : 1 ≤ K) (hK : K ≤ 100) (hn : Rep K an sn n) (hd : Rep K ad sd d) (hm : Rep K bn tn m) (he : Rep K bd td e') (w : World) :
    Calls Tryz.prog 13 #[.agg #[.bool an, .string sn, .bool ad, .string sd], .agg #[.bool bn, .string tn, .bool bd, .string td]] w fun e w' => e = .returned (frq (tmn n d * tmn m e') (tmd n d * tmd m e')) ∧ Tch [] w w' := by
  obtain ⟨p1, q1, p2, q2, R1, R2, T1⟩ := RUsual hK1 (by omega) hn hd
  obtain ⟨p3, q3, p4, q4, R3, R4, T2⟩ := RUsual hK1 (by omega) hm he
  have hD : tmd n d * tmd m e' ≠ 0 := by
    have := Int.mul_pos (tmd_pos n d) (tmd_pos m e'); omega
  obtain ⟨N1, hN1⟩ : ∃ N1, N1 = tmn n d := ⟨_, rfl⟩
  obtain ⟨D1, hD1⟩ : ∃ D1, D1 = tmd n d := ⟨_, rfl⟩
  obtain ⟨N2, hN2⟩ : ∃ N2, N2 = tmn m e' := ⟨_, rfl⟩
  obtain ⟨D2, hD2⟩ : ∃ D2, D2 = tmd m e' := ⟨_, rfl⟩
  rw [← hN1] at R1
  rw [← hD1] at R2
  rw [← hN2] at R3
  rw [← hD2] at R4
  rw [← hD1, ← hD2] at hD
  rw [← hN1, ← hD1, ← hN2, ← hD2]
  clear hN1 hD1 hN2 hD2
  have l4 := mul_lt R1.lt R3.lt
  obtain ⟨u4, v4, e4⟩ : ∃ b s, wz (N1 * N2) = .agg #[.bool b, .string s] := ⟨_, _, wz_mo _⟩
  have S4 := Rep.of_wz e4 l4
  have c4 := fun w1 => rMul (R1.mono (L := 1000) (by omega)) (R3.mono (L := 1000) (by omega)) w1
  rw [e4] at c4
  have C4 := Lib.hid c4
  have l3 := mul_lt R2.lt R4.lt
  obtain ⟨u3, v3, e3⟩ : ∃ b s, wz (D1 * D2) = .agg #[.bool b, .string s] := ⟨_, _, wz_mo _⟩
  have S3 := Rep.of_wz e3 l3
  have c3 := fun w1 => rMul (R2.mono (L := 1000) (by omega)) (R4.mono (L := 1000) (by omega)) w1
  rw [e3] at c3
  have c5 := fun w1 => rFrac (K := 1000) (by omega) (S4.mono (L := 1000) (by omega)) (S3.mono (L := 1000) (by omega)) w1
  unfold fracV at c5
  rw [if_neg hD] at c5
  obtain ⟨x1, y1, x2, y2, ef⟩ := frv_agg ((N1 * N2).tdiv (fgc (N1 * N2) (D1 * D2))) ((D1 * D2).tdiv (fgc (N1 * N2) (D1 * D2)))
  rw [ef] at c5
  have HV : Hid (frq (N1 * N2) (D1 * D2) = .agg #[.bool x1, .string y1, .bool x2, .string y2]) := Lib.hid ef
  have C3 := Lib.hid c3
  have C5 := Lib.hid c5
  have D1' := Lib.hid T1
  have D2' := Lib.hid T2
  clear c3 c5 T1 T2 ef e3 l3 S3 S4 R1 R2 R3 R4 hD hn hd hm he hK hK1 c4 e4 l4
  go_enter Tryz.func13, Tryz.ntmps13
  go_wp2_with fail
  refine (D1'.out _).mono ?_
  rintro e w1 ⟨rfl, h1⟩
  have F1 := Lib.hid ((((((Fr.nil w).add (.cells #[.bool an, .string sn, .bool ad, .string sd] 30) w.heap.size rfl).add (.cells #[.bool bn, .string tn, .bool bd, .string td] 30) (w.heap.size + 1) (by simp)).add (.cells #[.bool false, .string ⟨#[]⟩, .bool false, .string ⟨#[]⟩] 30) (w.heap.size + 1 + 1) (by simp)).keep h1).add (.cells #[.bool p1, .string q1, .bool p2, .string q2] 30) w1.heap.size rfl)
  clear h1
  obtain ⟨a0, a1, a2, a3⟩ := F1.out.four 1 rfl
  go_wp2_with fail
  refine (D2'.out _).mono ?_
  rintro e w2 ⟨rfl, h2⟩
  have F2 := Lib.hid ((F1.out.keep h2).add (.cells #[.bool p3, .string q3, .bool p4, .string q4] 30) w2.heap.size rfl)
  clear h2 a0 a1 a2 a3
  obtain ⟨l, G, RB0, SA0⟩ : ∃ l, Fr w (w2.alloc (.cells #[.bool p3, .string q3, .bool p4, .string q4] 30)) l ∧ (∀ w3, Fr w w3 l → Fr w w3 [(w.heap.size + 1 + 1, .cells #[.bool false, .string ⟨#[]⟩, .bool false, .string ⟨#[]⟩] 30 (0, 0))]) ∧ (∀ w3, Fr w w3 l → w3.cell? ⟨w1.heap.size, 0, none⟩ = some (.bool p1) ∧ w3.cell? ⟨w1.heap.size, 1, none⟩ = some (.string q1) ∧ w3.cell? ⟨w1.heap.size, 2, none⟩ = some (.bool p2) ∧ w3.cell? ⟨w1.heap.size, 3, none⟩ = some (.string q2) ∧ w3.cell? ⟨w2.heap.size, 0, none⟩ = some (.bool p3) ∧ w3.cell? ⟨w2.heap.size, 1, none⟩ = some (.string q3) ∧ w3.cell? ⟨w2.heap.size, 2, none⟩ = some (.bool p4) ∧ w3.cell? ⟨w2.heap.size, 3, none⟩ = some (.string q4)) :=
    ⟨_, F2.out, fun w3 F => ⟨fun p hp => F.row p (by rw [List.mem_singleton] at hp; subst hp; simp), fun p hp => F.new p (by rw [List.mem_singleton] at hp; subst hp; simp), F.t⟩, fun w3 F => ⟨F.cell 3 0 rfl rfl, F.cell 3 1 rfl rfl, F.cell 3 2 rfl rfl, F.cell 3 3 rfl rfl, F.cell 4 0 rfl rfl, F.cell 4 1 rfl rfl, F.cell 4 2 rfl rfl, F.cell 4 3 rfl rfl⟩⟩
  have RB := Lib.hid RB0
  have F := Lib.hid G
  have SA := Lib.hid SA0
  clear G SA0 RB0 F1 F2
  go_upto_region 3 with (fail)
  generalize w2.alloc (.cells #[.bool p3, .string q3, .bool p4, .string q4] 30) = W at F ⊢
  go_cut [7] (fun s7 wx => MidB w l (.cells #[.bool x1, .string y1, .bool x2, .string y2] 30 (0, 0)) s7 wx)
  case first =>
    go_region_held3 (fun w3 => w3.cell? ⟨w1.heap.size, 0, none⟩ = some (.bool p1) ∧ w3.cell? ⟨w1.heap.size, 1, none⟩ = some (.string q1) ∧ w3.cell? ⟨w1.heap.size, 2, none⟩ = some (.bool p2) ∧ w3.cell? ⟨w1.heap.size, 3, none⟩ = some (.string q2) ∧ w3.cell? ⟨w2.heap.size, 0, none⟩ = some (.bool p3) ∧ w3.cell? ⟨w2.heap.size, 1, none⟩ = some (.string q3) ∧ w3.cell? ⟨w2.heap.size, 2, none⟩ = some (.bool p4) ∧ w3.cell? ⟨w2.heap.size, 3, none⟩ = some (.string q4)) (first | with_reducible exact SA.out _ F3.out | with_reducible exact SA.out _ (F3.out.beside _) | with_reducible exact SA.out _ (F3.out.box4 _ _ _ _ _) | with_reducible exact SA.out _ (B3.out.set4 _ _ _ _) | with_reducible exact SA.out _ F.out | with_reducible exact SA.out _ F.out.drew | with_reducible exact SA.out _ (F.out.drew.beside _) | with_reducible exact SA.out _ (F.out.beside _).drew) (first
      | (go_at_call 31; (first | (with_reducible refine (C4.out _).mono ?_) | (with_reducible refine (C3.out _).mono ?_)); rintro e w7 ⟨rfl, hT⟩; (first | (with_reducible have B3 := Lib.hid (B3.out.keep hT); clear z0 z1 z2 z3 f0 f1 f2 f3; obtain ⟨⟨z0, z1, z2, z3⟩, ⟨f0, f1, f2, f3⟩⟩ := B3.out.four; have F3 := Lib.hid B3.out.f) | (with_reducible have F3 := Lib.hid (F3.out.keep hT)) | (with_reducible have B3 := Lib.hid (F3.out.boxed _ hT); obtain ⟨⟨z0, z1, z2, z3⟩, ⟨f0, f1, f2, f3⟩⟩ := B3.out.four; have F3 := Lib.hid B3.out.f) | (with_reducible have B3 := Lib.hid (F.out.boxedAt _ W.heap.size rfl (Tch.undrew hT)); obtain ⟨⟨z0, z1, z2, z3⟩, ⟨f0, f1, f2, f3⟩⟩ := B3.out.four; have F3 := Lib.hid B3.out.f) | (with_reducible have F3 := Lib.hid (F.out.keep (Tch.undrew hT)))); clear hT)
      | (go_at_call 7; (with_reducible refine (C5.out _).mono ?_); rintro e w7 ⟨rfl, hT⟩; (first | (with_reducible have B3 := Lib.hid (B3.out.keep hT); clear z0 z1 z2 z3 f0 f1 f2 f3; obtain ⟨⟨z0, z1, z2, z3⟩, ⟨f0, f1, f2, f3⟩⟩ := B3.out.four; have F3 := Lib.hid B3.out.f) | (with_reducible have F3 := Lib.hid (F3.out.keep hT)) | (with_reducible have B3 := Lib.hid (F3.out.boxed _ hT); obtain ⟨⟨z0, z1, z2, z3⟩, ⟨f0, f1, f2, f3⟩⟩ := B3.out.four; have F3 := Lib.hid B3.out.f) | (with_reducible have B3 := Lib.hid (F.out.boxedAt _ W.heap.size rfl (Tch.undrew hT)); obtain ⟨⟨z0, z1, z2, z3⟩, ⟨f0, f1, f2, f3⟩⟩ := B3.out.four; have F3 := Lib.hid B3.out.f) | (with_reducible have F3 := Lib.hid (F.out.keep (Tch.undrew hT)))); clear hT))
    all_goals (go_wp2_with fail; go_meet; (first | with_reducible exact F3.out.mid _ | with_reducible exact B3.out.mid4 _ _ _ _))
  case rest =>
    obtain ⟨g, rfl, FM, hr, hn⟩ := hcut
    obtain ⟨g0, g1, g2, g3⟩ := cells_row4 hr
    have HF := Lib.hid (RB.out _ FM)
    obtain ⟨r0, r1, r2, r3⟩ := HF.out.four 0 rfl
    obtain ⟨t0, t1, t2, t3⟩ := HF.out.fro4 0 rfl
    clear FM hr hn F SA RB C3 C5 D1' D2' C4
    go_wp2
    refine bodyPost_ret (v := .agg #[.bool x1, .string y1, .bool x2, .string y2]) (by simp [results, Tryz.results13, go_sem, r0, r1, r2, r3]) rfl ⟨by rw [HV.out], ?_⟩
    exact HF.out.fin4 0 rfl _ _ _ _


end Go.Proofs.YtmiibcdcnoefgaaGreatDoor
