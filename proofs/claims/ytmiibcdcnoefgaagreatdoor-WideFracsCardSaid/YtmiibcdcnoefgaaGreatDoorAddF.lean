/- wide.AddFrac. -/
import Derived.Test.YtmiibcdcnoefgaaGreatDoorFrac
import Derived.Test.YtmiibcdcnoefgaaGreatDoorLit
import Derived.Test.YtmiibcdcnoefgaaGreatDoorFr
namespace Go.Proofs.YtmiibcdcnoefgaaGreatDoor
open Go.RowKit Dg

/-- A numerator, a denominator of the value of n/d. -/
def tmn (n d : Int) : Int := if 0 < d then n else 0
def tmd (_n d : Int) : Int := if 0 < d then d else 1

theorem tmd_pos (n d : Int) : 0 < tmd n d := by unfold tmd; split <;> omega

/-- What terms answers, by integers. -/
theorem ZTerms {K : Nat} {nn nd : Bool} {sn sd : ByteArray} {n d : Int} (hK : 1 ≤ K) (hn : Rep K nn sn n) (hd : Rep K nd sd d) :
    ∃ b1 s1 b2 s2, Rep K b1 s1 (tmn n d) ∧ Rep K b2 s2 (tmd n d) ∧ ∀ w, Calls Tryz.prog 27 #[.agg #[.bool nn, .string sn, .bool nd, .string sd]] w fun e w' => e = .returned (.tuple #[.agg #[.bool b1, .string s1], .agg #[.bool b2, .string s2]]) ∧ Tch [] w w' := by
  by_cases h : 0 < d
  · refine ⟨nn, sn, nd, sd, by unfold tmn; rw [if_pos h]; exact hn, by unfold tmd; rw [if_pos h]; exact hd, fun w => ?_⟩
    have h1 := terms nn nd sn sd w
    unfold termsV at h1
    rwa [if_pos ((sgn_pos _ _).2 (by rw [hd.val]; exact h))] at h1
  · refine ⟨false, ⟨#[]⟩, false, ⟨#[1]⟩, by unfold tmn; rw [if_neg h]; exact ⟨by decide, Nat.zero_le _⟩, by unfold tmd; rw [if_neg h]; exact ⟨by decide, hK⟩, fun w => ?_⟩
    have h1 := terms nn nd sn sd w
    unfold termsV at h1
    rw [if_neg (fun h2 => h (by have := (sgn_pos _ _).1 h2; rwa [hd.val] at this)), wv_wz] at h1
    rwa [show zval false 1 = 1 from rfl, z1] at h1

/-- The fraction n/d in lowest terms, as it lies in memory. -/
def frq (n d : Int) : Value := frv (n.tdiv (fgc n d)) (d.tdiv (fgc n d))

theorem frv_agg (n d : Int) : ∃ b1 s1 b2 s2, frv n d = .agg #[.bool b1, .string s1, .bool b2, .string s2] := ⟨_, _, _, _, rfl⟩

set_option maxHeartbeats 20000000 in
set_option maxRecDepth 100000 in
theorem AddFrac {K : Nat} {an ad bn bd : Bool} {sn sd tn td : ByteArray} {n d m e' : Int} (hK1 : 1 ≤ K) (hK : K ≤ 1000) (hn : Rep K an sn n) (hd : Rep K ad sd d) (hm : Rep K bn tn m) (he : Rep K bd td e') (w : World) :
    Calls Tryz.prog 10 #[.agg #[.bool an, .string sn, .bool ad, .string sd], .agg #[.bool bn, .string tn, .bool bd, .string td]] w fun e w' => e = .returned (frq (tmn n d * tmd m e' + tmn m e' * tmd n d) (tmd n d * tmd m e')) ∧ Tch [] w w' := by
  obtain ⟨p1, q1, p2, q2, R1, R2, T1⟩ := ZTerms hK1 hn hd
  obtain ⟨p3, q3, p4, q4, R3, R4, T2⟩ := ZTerms hK1 hm he
  have hD : tmd n d * tmd m e' ≠ 0 := by
    have := Int.mul_pos (tmd_pos n d) (tmd_pos m e'); omega
  obtain ⟨N1, hN1⟩ : ∃ N1, N1 = tmn n d := ⟨_, rfl⟩
  obtain ⟨D1, hD1⟩ : ∃ D1, D1 = tmd n d := ⟨_, rfl⟩
  obtain ⟨N2, hN2⟩ : ∃ N2, N2 = tmn m e' := ⟨_, rfl⟩
  obtain ⟨D2, hD2⟩ : ∃ D2, D2 = tmd m e' := ⟨_, rfl⟩
  rw [← hN1] at R1
  rw [← hD1] at R2
  rw [← hN2] at R3
  rw [← hD2] at R4
  rw [← hD1, ← hD2] at hD
  rw [← hN1, ← hD1, ← hN2, ← hD2]
  clear hN1 hD1 hN2 hD2
  have l1 := mul_lt R1.lt R4.lt
  have l2 := mul_lt R3.lt R2.lt
  have l3 := mul_lt R2.lt R4.lt
  have l4 := add_lt l1 l2
  obtain ⟨u1, v1, e1⟩ : ∃ b s, wz (N1 * D2) = .agg #[.bool b, .string s] := ⟨_, _, wz_mo _⟩
  obtain ⟨u2, v2, e2⟩ : ∃ b s, wz (N2 * D1) = .agg #[.bool b, .string s] := ⟨_, _, wz_mo _⟩
  obtain ⟨u3, v3, e3⟩ : ∃ b s, wz (D1 * D2) = .agg #[.bool b, .string s] := ⟨_, _, wz_mo _⟩
  obtain ⟨u4, v4, e4⟩ : ∃ b s, wz (N1 * D2 + N2 * D1) = .agg #[.bool b, .string s] := ⟨_, _, wz_mo _⟩
  have S1 := Rep.of_wz e1 l1
  have S2 := Rep.of_wz e2 l2
  have S3 := Rep.of_wz e3 l3
  have S4 := Rep.of_wz e4 l4
  have c1 := fun w1 => ZMul (R1.mono (L := 400000) (by omega)) (R4.mono (L := 400000) (by omega)) w1
  have c2 := fun w1 => ZMul (R3.mono (L := 400000) (by omega)) (R2.mono (L := 400000) (by omega)) w1
  have c3 := fun w1 => ZMul (R2.mono (L := 400000) (by omega)) (R4.mono (L := 400000) (by omega)) w1
  have c4 := fun w1 => ZAdd (S1.mono (L := 400000) (by omega)) (S2.mono (L := 400000) (by omega)) w1
  have c5 := fun w1 => Frac (S4.mono (L := 400000) (by omega)) (S3.mono (L := 400000) (by omega)) w1
  rw [e1] at c1
  rw [e2] at c2
  rw [e3] at c3
  rw [e4] at c4
  unfold fracV at c5
  rw [if_neg hD] at c5
  obtain ⟨x1, y1, x2, y2, ef⟩ := frv_agg ((N1 * D2 + N2 * D1).tdiv (fgc (N1 * D2 + N2 * D1) (D1 * D2))) ((D1 * D2).tdiv (fgc (N1 * D2 + N2 * D1) (D1 * D2)))
  rw [ef] at c5
  have HV : Hid (frq (N1 * D2 + N2 * D1) (D1 * D2) = .agg #[.bool x1, .string y1, .bool x2, .string y2]) := Lib.hid ef
  have C1 := Lib.hid c1
  have C2 := Lib.hid c2
  have C3 := Lib.hid c3
  have C4 := Lib.hid c4
  have C5 := Lib.hid c5
  have D1' := Lib.hid T1
  have D2' := Lib.hid T2
  clear c1 c2 c3 c4 c5 T1 T2 ef e1 e2 e3 e4 l1 l2 l3 l4 S1 S2 S3 S4 R1 R2 R3 R4 hD hn hd hm he hK hK1
  go_enter Tryz.func10, Tryz.ntmps10
  go_wp2_with fail
  refine (D1'.out _).mono ?_
  rintro e w1 ⟨rfl, h1⟩
  have F0 := (((Fr.nil w).add (.cells #[.bool an, .string sn, .bool ad, .string sd] 30) w.heap.size rfl).add (.cells #[.bool bn, .string tn, .bool bd, .string td] 30) (w.heap.size + 1) (by simp)).add (.cells #[.bool false, .string ⟨#[]⟩, .bool false, .string ⟨#[]⟩] 30) (w.heap.size + 1 + 1) (by simp)
  have F1 := Lib.hid (((F0.keep h1).add (.cells #[.bool p1, .string q1] 28) w1.heap.size rfl).add (.cells #[.bool p2, .string q2] 28) (w1.heap.size + 1) (by simp))
  clear h1 F0
  obtain ⟨a0, a1, a2, a3⟩ := F1.out.four 1 rfl
  go_wp2_with fail
  refine (D2'.out _).mono ?_
  rintro e w2 ⟨rfl, h2⟩
  have F2 := Lib.hid (((F1.out.keep h2).add (.cells #[.bool p3, .string q3] 28) w2.heap.size rfl).add (.cells #[.bool p4, .string q4] 28) (w2.heap.size + 1) (by simp))
  clear h2 a0 a1 a2 a3
  obtain ⟨l, G2, SF0, RB0⟩ : ∃ l, Fr w ((w2.alloc (.cells #[.bool p3, .string q3] 28)).alloc (.cells #[.bool p4, .string q4] 28)) l ∧ (∀ w3, Fr w w3 l → w3.cell? ⟨w1.heap.size, 0, none⟩ = some (.bool p1) ∧ w3.cell? ⟨w1.heap.size, 1, none⟩ = some (.string q1) ∧ w3.cell? ⟨w1.heap.size + 1, 0, none⟩ = some (.bool p2) ∧ w3.cell? ⟨w1.heap.size + 1, 1, none⟩ = some (.string q2) ∧
    w3.cell? ⟨w2.heap.size, 0, none⟩ = some (.bool p3) ∧ w3.cell? ⟨w2.heap.size, 1, none⟩ = some (.string q3) ∧ w3.cell? ⟨w2.heap.size + 1, 0, none⟩ = some (.bool p4) ∧ w3.cell? ⟨w2.heap.size + 1, 1, none⟩ = some (.string q4)) ∧ (∀ w3, Fr w w3 l → Fr w w3 [(w.heap.size + 1 + 1, .cells #[.bool false, .string ⟨#[]⟩, .bool false, .string ⟨#[]⟩] 30 (0, 0))]) :=
    ⟨_, F2.out, fun w3 F => ⟨F.cell 3 0 rfl rfl, F.cell 3 1 rfl rfl, F.cell 4 0 rfl rfl, F.cell 4 1 rfl rfl, F.cell 5 0 rfl rfl, F.cell 5 1 rfl rfl, F.cell 6 0 rfl rfl, F.cell 6 1 rfl rfl⟩,
      fun w3 F => ⟨fun p hp => F.row p (by rw [List.mem_singleton] at hp; subst hp; simp), fun p hp => F.new p (by rw [List.mem_singleton] at hp; subst hp; simp), F.t⟩⟩
  have F2 := Lib.hid G2
  have SF := Lib.hid SF0
  have RB := Lib.hid RB0
  clear G2 SF0 RB0 F1
  go_wp2_with fail
  go_region_held3 (fun w3 => w3.cell? ⟨w1.heap.size, 0, none⟩ = some (.bool p1) ∧ w3.cell? ⟨w1.heap.size, 1, none⟩ = some (.string q1) ∧ w3.cell? ⟨w1.heap.size + 1, 0, none⟩ = some (.bool p2) ∧ w3.cell? ⟨w1.heap.size + 1, 1, none⟩ = some (.string q2) ∧
    w3.cell? ⟨w2.heap.size, 0, none⟩ = some (.bool p3) ∧ w3.cell? ⟨w2.heap.size, 1, none⟩ = some (.string q3) ∧ w3.cell? ⟨w2.heap.size + 1, 0, none⟩ = some (.bool p4) ∧ w3.cell? ⟨w2.heap.size + 1, 1, none⟩ = some (.string q4)) (first | with_reducible exact SF.out _ F3.out | with_reducible exact SF.out _ (F3.out.beside _) | with_reducible exact SF.out _ (F3.out.box4 _ _ _ _ _) | with_reducible exact SF.out _ (B3.out.set4 _ _ _ _) | exact SF.out _ F2.out | exact SF.out _ F2.out.drew | exact SF.out _ (F2.out.drew.beside _)) (first
    | (go_at_call_of 14 (Value.agg #[.bool p1, .string q1]); refine (C1.out _).mono ?_; rintro e w3 ⟨rfl, hT⟩; have F3 := Lib.hid F2.out.drew; (first | (have B3 := Lib.hid (F2.out.boxedAt _ (w2.heap.size + 1 + 1) (by simp) (Tch.undrew hT)); obtain ⟨⟨z0, z1, z2, z3⟩, ⟨f0, f1, f2, f3⟩⟩ := B3.out.four; have F3 := Lib.hid B3.out.f) | (with_reducible have B3 := Lib.hid (B3.out.keep hT); clear z0 z1 z2 z3 f0 f1 f2 f3; obtain ⟨⟨z0, z1, z2, z3⟩, ⟨f0, f1, f2, f3⟩⟩ := B3.out.four; have F3 := Lib.hid B3.out.f) | (with_reducible have F3 := Lib.hid (F3.out.keep hT)) | (with_reducible have B3 := Lib.hid (F3.out.boxed _ hT); obtain ⟨⟨z0, z1, z2, z3⟩, ⟨f0, f1, f2, f3⟩⟩ := B3.out.four; have F3 := Lib.hid B3.out.f)); clear hT)
    | (go_at_call_of 14 (Value.agg #[.bool p3, .string q3]); refine (C2.out _).mono ?_; rintro e w4 ⟨rfl, hT⟩; (first | (with_reducible have B3 := Lib.hid (B3.out.keep hT); clear z0 z1 z2 z3 f0 f1 f2 f3; obtain ⟨⟨z0, z1, z2, z3⟩, ⟨f0, f1, f2, f3⟩⟩ := B3.out.four; have F3 := Lib.hid B3.out.f) | (with_reducible have F3 := Lib.hid (F3.out.keep hT)) | (with_reducible have B3 := Lib.hid (F3.out.boxed _ hT); obtain ⟨⟨z0, z1, z2, z3⟩, ⟨f0, f1, f2, f3⟩⟩ := B3.out.four; have F3 := Lib.hid B3.out.f)); clear hT)
    | (go_at_call_of 32 (Value.agg #[.bool u1, .string v1]); refine (C4.out _).mono ?_; rintro e w5 ⟨rfl, hT⟩; (first | (with_reducible have B3 := Lib.hid (B3.out.keep hT); clear z0 z1 z2 z3 f0 f1 f2 f3; obtain ⟨⟨z0, z1, z2, z3⟩, ⟨f0, f1, f2, f3⟩⟩ := B3.out.four; have F3 := Lib.hid B3.out.f) | (with_reducible have F3 := Lib.hid (F3.out.keep hT)) | (with_reducible have B3 := Lib.hid (F3.out.boxed _ hT); obtain ⟨⟨z0, z1, z2, z3⟩, ⟨f0, f1, f2, f3⟩⟩ := B3.out.four; have F3 := Lib.hid B3.out.f)); clear hT)
    | (go_at_call_of 14 (Value.agg #[.bool p2, .string q2]); refine (C3.out _).mono ?_; rintro e w6 ⟨rfl, hT⟩; (first | (with_reducible have B3 := Lib.hid (B3.out.keep hT); clear z0 z1 z2 z3 f0 f1 f2 f3; obtain ⟨⟨z0, z1, z2, z3⟩, ⟨f0, f1, f2, f3⟩⟩ := B3.out.four; have F3 := Lib.hid B3.out.f) | (with_reducible have F3 := Lib.hid (F3.out.keep hT)) | (with_reducible have B3 := Lib.hid (F3.out.boxed _ hT); obtain ⟨⟨z0, z1, z2, z3⟩, ⟨f0, f1, f2, f3⟩⟩ := B3.out.four; have F3 := Lib.hid B3.out.f)); clear hT)
    | (go_at_call_of 6 (Value.agg #[.bool u4, .string v4]); refine (C5.out _).mono ?_; rintro e w7 ⟨rfl, hT⟩; (first | (with_reducible have B3 := Lib.hid (B3.out.keep hT); clear z0 z1 z2 z3 f0 f1 f2 f3; obtain ⟨⟨z0, z1, z2, z3⟩, ⟨f0, f1, f2, f3⟩⟩ := B3.out.four; have F3 := Lib.hid B3.out.f) | (with_reducible have F3 := Lib.hid (F3.out.keep hT)) | (with_reducible have B3 := Lib.hid (F3.out.boxed _ hT); obtain ⟨⟨z0, z1, z2, z3⟩, ⟨f0, f1, f2, f3⟩⟩ := B3.out.four; have F3 := Lib.hid B3.out.f)); clear hT))
  · have F4 := RB.out _ (F3.out.beside (.cells #[.bool x1, .string y1, .bool x2, .string y2] 30))
    have Q4 := cells_row4 (Below.heap_alloc_new' w7 (.cells #[.bool x1, .string y1, .bool x2, .string y2] 30))
    obtain ⟨b, hb⟩ : ∃ b, b = w7.heap.size := ⟨_, rfl⟩
    generalize w7.alloc (.cells #[.bool x1, .string y1, .bool x2, .string y2] 30) = W at F4 Q4 ⊢
    rw [← hb] at Q4 ⊢
    clear hb C1 C2 C3 C4 C5 D1' D2' F2 F3 SF RB
    have HF := Lib.hid F4
    obtain ⟨g0, g1, g2, g3⟩ := Q4
    obtain ⟨r0, r1, r2, r3⟩ := F4.four 0 rfl
    obtain ⟨t0, t1, t2, t3⟩ := F4.fro4 0 rfl
    clear F4
    go_wp2
    refine bodyPost_ret (v := .agg #[.bool x1, .string y1, .bool x2, .string y2]) (by simp [results, Tryz.results10, go_sem, r0, r1, r2, r3]) rfl ⟨by rw [HV.out], ?_⟩
    exact HF.out.fin4 0 rfl _ _ _ _
  · have F4 := RB.out _ (B3.out.set4 (.bool x1) (.string y1) (.bool x2) (.string y2))
    have Q4 := cells_row4 (row_set4 (x' := .bool x1) (y' := .string y1) (z' := .bool x2) (u' := .string y2) (B3.out.box))
    obtain ⟨b, hb⟩ : ∃ b, b = w6.heap.size := ⟨_, rfl⟩
    generalize ((((w7.setCell ⟨w6.heap.size, 0, none⟩ (.bool x1)).setCell ⟨w6.heap.size, 1, none⟩ (.string y1)).setCell ⟨w6.heap.size, 2, none⟩ (.bool x2)).setCell ⟨w6.heap.size, 3, none⟩ (.string y2)) = W at F4 Q4 ⊢
    rw [← hb] at Q4 ⊢
    clear hb B3 z0 z1 z2 z3 f0 f1 f2 f3 C1 C2 C3 C4 C5 D1' D2' F2 F3 SF RB
    have HF := Lib.hid F4
    obtain ⟨g0, g1, g2, g3⟩ := Q4
    obtain ⟨r0, r1, r2, r3⟩ := F4.four 0 rfl
    obtain ⟨t0, t1, t2, t3⟩ := F4.fro4 0 rfl
    clear F4
    go_wp2
    refine bodyPost_ret (v := .agg #[.bool x1, .string y1, .bool x2, .string y2]) (by simp [results, Tryz.results10, go_sem, r0, r1, r2, r3]) rfl ⟨by rw [HV.out], ?_⟩
    exact HF.out.fin4 0 rfl _ _ _ _
  · have F4 := RB.out _ (B3.out.set4 (.bool x1) (.string y1) (.bool x2) (.string y2))
    have Q4 := cells_row4 (row_set4 (x' := .bool x1) (y' := .string y1) (z' := .bool x2) (u' := .string y2) (B3.out.box))
    obtain ⟨b, hb⟩ : ∃ b, b = w5.heap.size := ⟨_, rfl⟩
    generalize ((((w7.setCell ⟨w5.heap.size, 0, none⟩ (.bool x1)).setCell ⟨w5.heap.size, 1, none⟩ (.string y1)).setCell ⟨w5.heap.size, 2, none⟩ (.bool x2)).setCell ⟨w5.heap.size, 3, none⟩ (.string y2)) = W at F4 Q4 ⊢
    rw [← hb] at Q4 ⊢
    clear hb B3 z0 z1 z2 z3 f0 f1 f2 f3 C1 C2 C3 C4 C5 D1' D2' F2 F3 SF RB
    have HF := Lib.hid F4
    obtain ⟨g0, g1, g2, g3⟩ := Q4
    obtain ⟨r0, r1, r2, r3⟩ := F4.four 0 rfl
    obtain ⟨t0, t1, t2, t3⟩ := F4.fro4 0 rfl
    clear F4
    go_wp2
    refine bodyPost_ret (v := .agg #[.bool x1, .string y1, .bool x2, .string y2]) (by simp [results, Tryz.results10, go_sem, r0, r1, r2, r3]) rfl ⟨by rw [HV.out], ?_⟩
    exact HF.out.fin4 0 rfl _ _ _ _
  · have F4 := RB.out _ (B3.out.set4 (.bool x1) (.string y1) (.bool x2) (.string y2))
    have Q4 := cells_row4 (row_set4 (x' := .bool x1) (y' := .string y1) (z' := .bool x2) (u' := .string y2) (B3.out.box))
    obtain ⟨b, hb⟩ : ∃ b, b = w4.heap.size := ⟨_, rfl⟩
    generalize ((((w7.setCell ⟨w4.heap.size, 0, none⟩ (.bool x1)).setCell ⟨w4.heap.size, 1, none⟩ (.string y1)).setCell ⟨w4.heap.size, 2, none⟩ (.bool x2)).setCell ⟨w4.heap.size, 3, none⟩ (.string y2)) = W at F4 Q4 ⊢
    rw [← hb] at Q4 ⊢
    clear hb B3 z0 z1 z2 z3 f0 f1 f2 f3 C1 C2 C3 C4 C5 D1' D2' F2 F3 SF RB
    have HF := Lib.hid F4
    obtain ⟨g0, g1, g2, g3⟩ := Q4
    obtain ⟨r0, r1, r2, r3⟩ := F4.four 0 rfl
    obtain ⟨t0, t1, t2, t3⟩ := F4.fro4 0 rfl
    clear F4
    go_wp2
    refine bodyPost_ret (v := .agg #[.bool x1, .string y1, .bool x2, .string y2]) (by simp [results, Tryz.results10, go_sem, r0, r1, r2, r3]) rfl ⟨by rw [HV.out], ?_⟩
    exact HF.out.fin4 0 rfl _ _ _ _
  · have F4 := RB.out _ (B3.out.set4 (.bool x1) (.string y1) (.bool x2) (.string y2))
    have Q4 := cells_row4 (row_set4 (x' := .bool x1) (y' := .string y1) (z' := .bool x2) (u' := .string y2) (B3.out.box))
    obtain ⟨b, hb⟩ : ∃ b, b = w3.heap.size := ⟨_, rfl⟩
    generalize ((((w7.setCell ⟨w3.heap.size, 0, none⟩ (.bool x1)).setCell ⟨w3.heap.size, 1, none⟩ (.string y1)).setCell ⟨w3.heap.size, 2, none⟩ (.bool x2)).setCell ⟨w3.heap.size, 3, none⟩ (.string y2)) = W at F4 Q4 ⊢
    rw [← hb] at Q4 ⊢
    clear hb B3 z0 z1 z2 z3 f0 f1 f2 f3 C1 C2 C3 C4 C5 D1' D2' F2 F3 SF RB
    have HF := Lib.hid F4
    obtain ⟨g0, g1, g2, g3⟩ := Q4
    obtain ⟨r0, r1, r2, r3⟩ := F4.four 0 rfl
    obtain ⟨t0, t1, t2, t3⟩ := F4.fro4 0 rfl
    clear F4
    go_wp2
    refine bodyPost_ret (v := .agg #[.bool x1, .string y1, .bool x2, .string y2]) (by simp [results, Tryz.results10, go_sem, r0, r1, r2, r3]) rfl ⟨by rw [HV.out], ?_⟩
    exact HF.out.fin4 0 rfl _ _ _ _
  · have F4 := RB.out _ (B3.out.set4 (.bool x1) (.string y1) (.bool x2) (.string y2))
    have Q4 := cells_row4 (row_set4 (x' := .bool x1) (y' := .string y1) (z' := .bool x2) (u' := .string y2) (B3.out.box))
    obtain ⟨b, hb⟩ : ∃ b, b = w2.heap.size + 1 + 1 := ⟨_, rfl⟩
    generalize ((((w7.setCell ⟨w2.heap.size + 1 + 1, 0, none⟩ (.bool x1)).setCell ⟨w2.heap.size + 1 + 1, 1, none⟩ (.string y1)).setCell ⟨w2.heap.size + 1 + 1, 2, none⟩ (.bool x2)).setCell ⟨w2.heap.size + 1 + 1, 3, none⟩ (.string y2)) = W at F4 Q4 ⊢
    rw [← hb] at Q4 ⊢
    clear hb B3 z0 z1 z2 z3 f0 f1 f2 f3 C1 C2 C3 C4 C5 D1' D2' F2 F3 SF RB
    have HF := Lib.hid F4
    obtain ⟨g0, g1, g2, g3⟩ := Q4
    obtain ⟨r0, r1, r2, r3⟩ := F4.four 0 rfl
    obtain ⟨t0, t1, t2, t3⟩ := F4.fro4 0 rfl
    clear F4
    go_wp2
    refine bodyPost_ret (v := .agg #[.bool x1, .string y1, .bool x2, .string y2]) (by simp [results, Tryz.results10, go_sem, r0, r1, r2, r3]) rfl ⟨by rw [HV.out], ?_⟩
    exact HF.out.fin4 0 rfl _ _ _ _

end Go.Proofs.YtmiibcdcnoefgaaGreatDoor
