/- wide.MulFrac. -/
import Derived.Test.YtmiibcdcnoefgaaGreatDoorAddF
import Derived.Test.YtmiibcdcnoefgaaGreatDoorCmpW
namespace Go.Proofs.YtmiibcdcnoefgaaGreatDoor
open Go.RowKit Dg

set_option maxHeartbeats 20000000 in
set_option maxRecDepth 100000 in
theorem MulFrac {K : Nat} {an ad bn bd : Bool} {sn sd tn td : ByteArray} {n d m e' : Int} (hK1 : 1 ≤ K) (hK : K ≤ 1000) (hn : Rep K an sn n) (hd : Rep K ad sd d) (hm : Rep K bn tn m) (he : Rep K bd td e') (w : World) :
    Calls Tryz.prog 12 #[.agg #[.bool an, .string sn, .bool ad, .string sd], .agg #[.bool bn, .string tn, .bool bd, .string td]] w fun e w' => e = .returned (frq (tmn n d * tmn m e') (tmd n d * tmd m e')) ∧ Tch [] w w' := by
  obtain ⟨p1, q1, p2, q2, R1, R2, T1⟩ := ZTerms hK1 hn hd
  obtain ⟨p3, q3, p4, q4, R3, R4, T2⟩ := ZTerms hK1 hm he
  have hD : tmd n d * tmd m e' ≠ 0 := by
    have := Int.mul_pos (tmd_pos n d) (tmd_pos m e'); omega
  obtain ⟨N1, hN1⟩ : ∃ N1, N1 = tmn n d := ⟨_, rfl⟩
  obtain ⟨D1, hD1⟩ : ∃ D1, D1 = tmd n d := ⟨_, rfl⟩
  obtain ⟨N2, hN2⟩ : ∃ N2, N2 = tmn m e' := ⟨_, rfl⟩
  obtain ⟨D2, hD2⟩ : ∃ D2, D2 = tmd m e' := ⟨_, rfl⟩
  rw [← hN1] at R1
  rw [← hD1] at R2
  rw [← hN2] at R3
  rw [← hD2] at R4
  rw [← hD1, ← hD2] at hD
  rw [← hN1, ← hD1, ← hN2, ← hD2]
  clear hN1 hD1 hN2 hD2
  have l1 := mul_lt R1.lt R3.lt
  have l3 := mul_lt R2.lt R4.lt
  obtain ⟨u1, v1, e1⟩ : ∃ b s, wz (N1 * N2) = .agg #[.bool b, .string s] := ⟨_, _, wz_mo _⟩
  obtain ⟨u3, v3, e3⟩ : ∃ b s, wz (D1 * D2) = .agg #[.bool b, .string s] := ⟨_, _, wz_mo _⟩
  have S1 := Rep.of_wz e1 l1
  have S3 := Rep.of_wz e3 l3
  have c1 := fun w1 => ZMul (R1.mono (L := 400000) (by omega)) (R3.mono (L := 400000) (by omega)) w1
  have c3 := fun w1 => ZMul (R2.mono (L := 400000) (by omega)) (R4.mono (L := 400000) (by omega)) w1
  have c5 := fun w1 => Frac (S1.mono (L := 400000) (by omega)) (S3.mono (L := 400000) (by omega)) w1
  rw [e1] at c1
  rw [e3] at c3
  unfold fracV at c5
  rw [if_neg hD] at c5
  obtain ⟨x1, y1, x2, y2, ef⟩ := frv_agg ((N1 * N2).tdiv (fgc (N1 * N2) (D1 * D2))) ((D1 * D2).tdiv (fgc (N1 * N2) (D1 * D2)))
  rw [ef] at c5
  have HV : Hid (frq (N1 * N2) (D1 * D2) = .agg #[.bool x1, .string y1, .bool x2, .string y2]) := Lib.hid ef
  have C1 := Lib.hid c1
  have C3 := Lib.hid c3
  have C5 := Lib.hid c5
  have D1' := Lib.hid T1
  have D2' := Lib.hid T2
  clear c1 c3 c5 T1 T2 ef e1 e3 l1 l3 S1 S3 R1 R2 R3 R4 hD hn hd hm he hK hK1
  go_enter Tryz.func12, Tryz.ntmps12
  go_wp2_with fail
  refine (D1'.out _).mono ?_
  rintro e w1 ⟨rfl, h1⟩
  have F0 := (((Fr.nil w).add (.cells #[.bool an, .string sn, .bool ad, .string sd] 30) w.heap.size rfl).add (.cells #[.bool bn, .string tn, .bool bd, .string td] 30) (w.heap.size + 1) (by simp)).add (.cells #[.bool false, .string ⟨#[]⟩, .bool false, .string ⟨#[]⟩] 30) (w.heap.size + 1 + 1) (by simp)
  have F1 := Lib.hid (((F0.keep h1).add (.cells #[.bool p1, .string q1] 28) w1.heap.size rfl).add (.cells #[.bool p2, .string q2] 28) (w1.heap.size + 1) (by simp))
  clear h1 F0
  obtain ⟨a0, a1, a2, a3⟩ := F1.out.four 1 rfl
  go_wp2_with fail
  refine (D2'.out _).mono ?_
  rintro e w2 ⟨rfl, h2⟩
  have F2 := Lib.hid (((F1.out.keep h2).add (.cells #[.bool p3, .string q3] 28) w2.heap.size rfl).add (.cells #[.bool p4, .string q4] 28) (w2.heap.size + 1) (by simp))
  clear h2 a0 a1 a2 a3
  obtain ⟨l, G2, SF0, RB0⟩ : ∃ l, Fr w ((w2.alloc (.cells #[.bool p3, .string q3] 28)).alloc (.cells #[.bool p4, .string q4] 28)) l ∧ (∀ w3, Fr w w3 l → w3.cell? ⟨w1.heap.size, 0, none⟩ = some (.bool p1) ∧ w3.cell? ⟨w1.heap.size, 1, none⟩ = some (.string q1) ∧ w3.cell? ⟨w1.heap.size + 1, 0, none⟩ = some (.bool p2) ∧ w3.cell? ⟨w1.heap.size + 1, 1, none⟩ = some (.string q2) ∧
    w3.cell? ⟨w2.heap.size, 0, none⟩ = some (.bool p3) ∧ w3.cell? ⟨w2.heap.size, 1, none⟩ = some (.string q3) ∧ w3.cell? ⟨w2.heap.size + 1, 0, none⟩ = some (.bool p4) ∧ w3.cell? ⟨w2.heap.size + 1, 1, none⟩ = some (.string q4)) ∧ (∀ w3, Fr w w3 l → Fr w w3 [(w.heap.size + 1 + 1, .cells #[.bool false, .string ⟨#[]⟩, .bool false, .string ⟨#[]⟩] 30 (0, 0))]) :=
    ⟨_, F2.out, fun w3 F => ⟨F.cell 3 0 rfl rfl, F.cell 3 1 rfl rfl, F.cell 4 0 rfl rfl, F.cell 4 1 rfl rfl, F.cell 5 0 rfl rfl, F.cell 5 1 rfl rfl, F.cell 6 0 rfl rfl, F.cell 6 1 rfl rfl⟩,
      fun w3 F => ⟨fun p hp => F.row p (by rw [List.mem_singleton] at hp; subst hp; simp), fun p hp => F.new p (by rw [List.mem_singleton] at hp; subst hp; simp), F.t⟩⟩
  have F2 := Lib.hid G2
  have SF := Lib.hid SF0
  have RB := Lib.hid RB0
  clear G2 SF0 RB0 F1
  go_wp2_with fail
  go_region_held3 (fun w3 => w3.cell? ⟨w1.heap.size, 0, none⟩ = some (.bool p1) ∧ w3.cell? ⟨w1.heap.size, 1, none⟩ = some (.string q1) ∧ w3.cell? ⟨w1.heap.size + 1, 0, none⟩ = some (.bool p2) ∧ w3.cell? ⟨w1.heap.size + 1, 1, none⟩ = some (.string q2) ∧
    w3.cell? ⟨w2.heap.size, 0, none⟩ = some (.bool p3) ∧ w3.cell? ⟨w2.heap.size, 1, none⟩ = some (.string q3) ∧ w3.cell? ⟨w2.heap.size + 1, 0, none⟩ = some (.bool p4) ∧ w3.cell? ⟨w2.heap.size + 1, 1, none⟩ = some (.string q4)) (first | with_reducible exact SF.out _ F3.out | with_reducible exact SF.out _ (F3.out.beside _) | with_reducible exact SF.out _ (F3.out.box4 _ _ _ _ _) | with_reducible exact SF.out _ (B3.out.set4 _ _ _ _) | exact SF.out _ F2.out | exact SF.out _ F2.out.drew | exact SF.out _ (F2.out.drew.beside _)) (first
    | (go_at_call_of 14 (Value.agg #[.bool p1, .string q1]); refine (C1.out _).mono ?_; rintro e w3 ⟨rfl, hT⟩; have F3 := Lib.hid F2.out.drew; (first | (have B3 := Lib.hid (F2.out.boxedAt _ (w2.heap.size + 1 + 1) (by simp) (Tch.undrew hT)); obtain ⟨⟨z0, z1, z2, z3⟩, ⟨f0, f1, f2, f3⟩⟩ := B3.out.four; have F3 := Lib.hid B3.out.f) | (with_reducible have B3 := Lib.hid (B3.out.keep hT); clear z0 z1 z2 z3 f0 f1 f2 f3; obtain ⟨⟨z0, z1, z2, z3⟩, ⟨f0, f1, f2, f3⟩⟩ := B3.out.four; have F3 := Lib.hid B3.out.f) | (with_reducible have F3 := Lib.hid (F3.out.keep hT)) | (with_reducible have B3 := Lib.hid (F3.out.boxed _ hT); obtain ⟨⟨z0, z1, z2, z3⟩, ⟨f0, f1, f2, f3⟩⟩ := B3.out.four; have F3 := Lib.hid B3.out.f)); clear hT)
    | (go_at_call_of 14 (Value.agg #[.bool p2, .string q2]); refine (C3.out _).mono ?_; rintro e w4 ⟨rfl, hT⟩; (first | (with_reducible have B3 := Lib.hid (B3.out.keep hT); clear z0 z1 z2 z3 f0 f1 f2 f3; obtain ⟨⟨z0, z1, z2, z3⟩, ⟨f0, f1, f2, f3⟩⟩ := B3.out.four; have F3 := Lib.hid B3.out.f) | (with_reducible have F3 := Lib.hid (F3.out.keep hT)) | (with_reducible have B3 := Lib.hid (F3.out.boxed _ hT); obtain ⟨⟨z0, z1, z2, z3⟩, ⟨f0, f1, f2, f3⟩⟩ := B3.out.four; have F3 := Lib.hid B3.out.f)); clear hT)
    | (go_at_call_of 6 (Value.agg #[.bool u1, .string v1]); refine (C5.out _).mono ?_; rintro e w5 ⟨rfl, hT⟩; (first | (with_reducible have B3 := Lib.hid (B3.out.keep hT); clear z0 z1 z2 z3 f0 f1 f2 f3; obtain ⟨⟨z0, z1, z2, z3⟩, ⟨f0, f1, f2, f3⟩⟩ := B3.out.four; have F3 := Lib.hid B3.out.f) | (with_reducible have F3 := Lib.hid (F3.out.keep hT)) | (with_reducible have B3 := Lib.hid (F3.out.boxed _ hT); obtain ⟨⟨z0, z1, z2, z3⟩, ⟨f0, f1, f2, f3⟩⟩ := B3.out.four; have F3 := Lib.hid B3.out.f)); clear hT))
  · have F4 := RB.out _ (F3.out.beside (.cells #[.bool x1, .string y1, .bool x2, .string y2] 30))
    have Q4 := cells_row4 (Below.heap_alloc_new' w5 (.cells #[.bool x1, .string y1, .bool x2, .string y2] 30))
    obtain ⟨b, hb⟩ : ∃ b, b = w5.heap.size := ⟨_, rfl⟩
    generalize w5.alloc (.cells #[.bool x1, .string y1, .bool x2, .string y2] 30) = W at F4 Q4 ⊢
    rw [← hb] at Q4 ⊢
    clear hb C1 C3 C5 D1' D2' F2 F3 SF RB
    have HF := Lib.hid F4
    obtain ⟨g0, g1, g2, g3⟩ := Q4
    obtain ⟨r0, r1, r2, r3⟩ := F4.four 0 rfl
    obtain ⟨t0, t1, t2, t3⟩ := F4.fro4 0 rfl
    clear F4
    go_wp2
    refine bodyPost_ret (v := .agg #[.bool x1, .string y1, .bool x2, .string y2]) (by simp [results, Tryz.results12, go_sem, r0, r1, r2, r3]) rfl ⟨by rw [HV.out], ?_⟩
    exact HF.out.fin4 0 rfl _ _ _ _
  · have F4 := RB.out _ (B3.out.set4 (.bool x1) (.string y1) (.bool x2) (.string y2))
    have Q4 := cells_row4 (row_set4 (x' := .bool x1) (y' := .string y1) (z' := .bool x2) (u' := .string y2) (B3.out.box))
    obtain ⟨b, hb⟩ : ∃ b, b = w4.heap.size := ⟨_, rfl⟩
    generalize ((((w5.setCell ⟨w4.heap.size, 0, none⟩ (.bool x1)).setCell ⟨w4.heap.size, 1, none⟩ (.string y1)).setCell ⟨w4.heap.size, 2, none⟩ (.bool x2)).setCell ⟨w4.heap.size, 3, none⟩ (.string y2)) = W at F4 Q4 ⊢
    rw [← hb] at Q4 ⊢
    clear hb B3 z0 z1 z2 z3 f0 f1 f2 f3 C1 C3 C5 D1' D2' F2 F3 SF RB
    have HF := Lib.hid F4
    obtain ⟨g0, g1, g2, g3⟩ := Q4
    obtain ⟨r0, r1, r2, r3⟩ := F4.four 0 rfl
    obtain ⟨t0, t1, t2, t3⟩ := F4.fro4 0 rfl
    clear F4
    go_wp2
    refine bodyPost_ret (v := .agg #[.bool x1, .string y1, .bool x2, .string y2]) (by simp [results, Tryz.results12, go_sem, r0, r1, r2, r3]) rfl ⟨by rw [HV.out], ?_⟩
    exact HF.out.fin4 0 rfl _ _ _ _
  · have F4 := RB.out _ (B3.out.set4 (.bool x1) (.string y1) (.bool x2) (.string y2))
    have Q4 := cells_row4 (row_set4 (x' := .bool x1) (y' := .string y1) (z' := .bool x2) (u' := .string y2) (B3.out.box))
    obtain ⟨b, hb⟩ : ∃ b, b = w3.heap.size := ⟨_, rfl⟩
    generalize ((((w5.setCell ⟨w3.heap.size, 0, none⟩ (.bool x1)).setCell ⟨w3.heap.size, 1, none⟩ (.string y1)).setCell ⟨w3.heap.size, 2, none⟩ (.bool x2)).setCell ⟨w3.heap.size, 3, none⟩ (.string y2)) = W at F4 Q4 ⊢
    rw [← hb] at Q4 ⊢
    clear hb B3 z0 z1 z2 z3 f0 f1 f2 f3 C1 C3 C5 D1' D2' F2 F3 SF RB
    have HF := Lib.hid F4
    obtain ⟨g0, g1, g2, g3⟩ := Q4
    obtain ⟨r0, r1, r2, r3⟩ := F4.four 0 rfl
    obtain ⟨t0, t1, t2, t3⟩ := F4.fro4 0 rfl
    clear F4
    go_wp2
    refine bodyPost_ret (v := .agg #[.bool x1, .string y1, .bool x2, .string y2]) (by simp [results, Tryz.results12, go_sem, r0, r1, r2, r3]) rfl ⟨by rw [HV.out], ?_⟩
    exact HF.out.fin4 0 rfl _ _ _ _
  · have F4 := RB.out _ (B3.out.set4 (.bool x1) (.string y1) (.bool x2) (.string y2))
    have Q4 := cells_row4 (row_set4 (x' := .bool x1) (y' := .string y1) (z' := .bool x2) (u' := .string y2) (B3.out.box))
    obtain ⟨b, hb⟩ : ∃ b, b = w2.heap.size + 1 + 1 := ⟨_, rfl⟩
    generalize ((((w5.setCell ⟨w2.heap.size + 1 + 1, 0, none⟩ (.bool x1)).setCell ⟨w2.heap.size + 1 + 1, 1, none⟩ (.string y1)).setCell ⟨w2.heap.size + 1 + 1, 2, none⟩ (.bool x2)).setCell ⟨w2.heap.size + 1 + 1, 3, none⟩ (.string y2)) = W at F4 Q4 ⊢
    rw [← hb] at Q4 ⊢
    clear hb B3 z0 z1 z2 z3 f0 f1 f2 f3 C1 C3 C5 D1' D2' F2 F3 SF RB
    have HF := Lib.hid F4
    obtain ⟨g0, g1, g2, g3⟩ := Q4
    obtain ⟨r0, r1, r2, r3⟩ := F4.four 0 rfl
    obtain ⟨t0, t1, t2, t3⟩ := F4.fro4 0 rfl
    clear F4
    go_wp2
    refine bodyPost_ret (v := .agg #[.bool x1, .string y1, .bool x2, .string y2]) (by simp [results, Tryz.results12, go_sem, r0, r1, r2, r3]) rfl ⟨by rw [HV.out], ?_⟩
    exact HF.out.fin4 0 rfl _ _ _ _

end Go.Proofs.YtmiibcdcnoefgaaGreatDoor

/- wide.CmpFrac. -/
namespace Go.Proofs.YtmiibcdcnoefgaaGreatDoor
open Go.RowKit Dg

set_option maxHeartbeats 4000000 in
set_option maxRecDepth 100000 in
theorem CmpFrac {K : Nat} {an ad bn bd : Bool} {sn sd tn td : ByteArray} {n d m e' : Int} (hK1 : 1 ≤ K) (hK : K ≤ 1000) (hn : Rep K an sn n) (hd : Rep K ad sd d) (hm : Rep K bn tn m) (he : Rep K bd td e') (w : World) :
    Calls Tryz.prog 8 #[.agg #[.bool an, .string sn, .bool ad, .string sd], .agg #[.bool bn, .string tn, .bool bd, .string td]] w fun e w' => e = .returned (.int .i64 (tmn n d * tmd m e' - tmn m e' * tmd n d).sign) ∧ Tch [] w w' := by
  obtain ⟨p1, q1, p2, q2, R1, R2, T1⟩ := ZTerms hK1 hn hd
  obtain ⟨p3, q3, p4, q4, R3, R4, T2⟩ := ZTerms hK1 hm he
  have l1 := mul_lt R1.lt R4.lt
  have l2 := mul_lt R3.lt R2.lt
  obtain ⟨u1, v1, e1⟩ : ∃ b s, wz (tmn n d * tmd m e') = .agg #[.bool b, .string s] := ⟨_, _, wz_mo _⟩
  obtain ⟨u2, v2, e2⟩ : ∃ b s, wz (tmn m e' * tmd n d) = .agg #[.bool b, .string s] := ⟨_, _, wz_mo _⟩
  have c1 := fun w1 => ZMul (R1.mono (L := 400000) (by omega)) (R4.mono (L := 400000) (by omega)) w1
  have c2 := fun w1 => ZMul (R3.mono (L := 400000) (by omega)) (R2.mono (L := 400000) (by omega)) w1
  rw [e1] at c1
  rw [e2] at c2
  have c3 := fun w1 => ZCmp (Rep.of_wz e1 l1).val (Rep.of_wz e2 l2).val w1
  obtain ⟨r, hr⟩ : ∃ r, (tmn n d * tmd m e' - tmn m e' * tmd n d).sign = r := ⟨_, rfl⟩
  rw [hr] at c3 ⊢
  have C1 := Lib.hid c1
  have C2 := Lib.hid c2
  have C3 := Lib.hid c3
  have D1' := Lib.hid T1
  have D2' := Lib.hid T2
  clear c1 c2 c3 T1 T2 e1 e2 l1 l2 R1 R2 R3 R4 hn hd hm he hK hK1 hr
  go_enter Tryz.func8, Tryz.ntmps8
  go_wp2_with fail
  refine (D1'.out _).mono ?_
  rintro e w1 ⟨rfl, h1⟩
  have F0 := ((Fr.nil w).add (.cells #[.bool an, .string sn, .bool ad, .string sd] 30) w.heap.size rfl).add (.cells #[.bool bn, .string tn, .bool bd, .string td] 30) (w.heap.size + 1) (by simp)
  have F1 := Lib.hid (((F0.keep h1).add (.cells #[.bool p1, .string q1] 28) w1.heap.size rfl).add (.cells #[.bool p2, .string q2] 28) (w1.heap.size + 1) (by simp))
  clear h1 F0
  obtain ⟨a0, a1, a2, a3⟩ := F1.out.four 1 rfl
  go_wp2_with fail
  refine (D2'.out _).mono ?_
  rintro e w2 ⟨rfl, h2⟩
  have F2 := Lib.hid (((F1.out.keep h2).add (.cells #[.bool p3, .string q3] 28) w2.heap.size rfl).add (.cells #[.bool p4, .string q4] 28) (w2.heap.size + 1) (by simp))
  clear h2 a0 a1 a2 a3
  obtain ⟨l, G, SA0⟩ : ∃ l, Fr w ((w2.alloc (.cells #[.bool p3, .string q3] 28)).alloc (.cells #[.bool p4, .string q4] 28)) l ∧ (∀ w3, Fr w w3 l → w3.cell? ⟨w1.heap.size, 0, none⟩ = some (.bool p1) ∧ w3.cell? ⟨w1.heap.size, 1, none⟩ = some (.string q1) ∧ w3.cell? ⟨w1.heap.size + 1, 0, none⟩ = some (.bool p2) ∧ w3.cell? ⟨w1.heap.size + 1, 1, none⟩ = some (.string q2) ∧
    w3.cell? ⟨w2.heap.size, 0, none⟩ = some (.bool p3) ∧ w3.cell? ⟨w2.heap.size, 1, none⟩ = some (.string q3) ∧ w3.cell? ⟨w2.heap.size + 1, 0, none⟩ = some (.bool p4) ∧ w3.cell? ⟨w2.heap.size + 1, 1, none⟩ = some (.string q4)) :=
    ⟨_, F2.out, fun w3 F => ⟨F.cell 2 0 rfl rfl, F.cell 2 1 rfl rfl, F.cell 3 0 rfl rfl, F.cell 3 1 rfl rfl, F.cell 4 0 rfl rfl, F.cell 4 1 rfl rfl, F.cell 5 0 rfl rfl, F.cell 5 1 rfl rfl⟩⟩
  have F := Lib.hid G
  have SA := Lib.hid SA0
  clear G SA0 F1 F2
  go_wp2_with fail
  go_region_held3 (fun w3 => w3.cell? ⟨w1.heap.size, 0, none⟩ = some (.bool p1) ∧ w3.cell? ⟨w1.heap.size, 1, none⟩ = some (.string q1) ∧ w3.cell? ⟨w1.heap.size + 1, 0, none⟩ = some (.bool p2) ∧ w3.cell? ⟨w1.heap.size + 1, 1, none⟩ = some (.string q2) ∧
    w3.cell? ⟨w2.heap.size, 0, none⟩ = some (.bool p3) ∧ w3.cell? ⟨w2.heap.size, 1, none⟩ = some (.string q3) ∧ w3.cell? ⟨w2.heap.size + 1, 0, none⟩ = some (.bool p4) ∧ w3.cell? ⟨w2.heap.size + 1, 1, none⟩ = some (.string q4)) (first | with_reducible exact SA.out _ F.out | exact SA.out _ F.out.drew) (first
    | (go_at_call 14; (first | (with_reducible refine (C1.out _).mono ?_) | (with_reducible refine (C2.out _).mono ?_)); rintro e w' ⟨rfl, h1⟩; (first | (with_reducible have F := Lib.hid (F.out.keep h1)) | (with_reducible have F := Lib.hid (F.out.drew.keep h1))); clear h1)
    | (go_at_call 28; refine (C3.out _).mono ?_; rintro e w' ⟨rfl, h1⟩; (first | (with_reducible have F := Lib.hid (F.out.keep h1)) | (with_reducible have F := Lib.hid (F.out.drew.keep h1))); clear h1))
  go_wp2
  go_ret
  exact ⟨rfl, F.out.t⟩

end Go.Proofs.YtmiibcdcnoefgaaGreatDoor

/- Fractions as rational numbers: wide.AddFrac, MulFrac and CmpFrac by them. -/
namespace Go.Proofs.YtmiibcdcnoefgaaGreatDoor
open Go.RowKit Dg

theorem quot_num {n d : Int} (h : 0 < d) : n.tdiv (fgc n d) = (Rat.divInt n d).num := by
  unfold fgc
  rw [if_neg (by omega), Rat.num_divInt, Int.sign_eq_one_of_pos h, Int.one_mul, Int.gcd_comm, Int.tdiv_eq_ediv_of_dvd (Int.gcd_dvd_right _ _)]

theorem quot_den {n d : Int} (h : 0 < d) : d.tdiv (fgc n d) = ((Rat.divInt n d).den : Int) := by
  unfold fgc
  rw [if_neg (by omega), Rat.den_divInt, if_neg (by omega), Int.gcd_comm, Int.tdiv_eq_ediv_of_dvd (Int.gcd_dvd_left _ _)]
  have : ((d.natAbs : Nat) : Int) = d := by omega
  simp [this]

theorem sign_num {n d : Int} (h : 0 < d) : (Rat.divInt n d).num.sign = n.sign := by
  rw [Rat.num_divInt, Int.sign_eq_one_of_pos h, Int.one_mul]
  have hg : 0 < d.gcd n := Int.gcd_pos_of_ne_zero_left n (by omega)
  obtain ⟨k, hk⟩ := Int.gcd_dvd_right d n
  obtain ⟨g, hgg⟩ : ∃ g : Int, ((d.gcd n : Nat) : Int) = g := ⟨_, rfl⟩
  rw [hgg] at hk ⊢
  have hg' : 0 < g := by omega
  rw [hk, Int.mul_ediv_cancel_left _ (by omega), Int.sign_mul, Int.sign_eq_one_of_pos hg', Int.one_mul]

theorem q_add (n1 n2 : Int) {d1 d2 : Int} (h1 : 0 < d1) (h2 : 0 < d2) : Rat.divInt (n1 * d2 + n2 * d1) (d1 * d2) = Rat.divInt n1 d1 + Rat.divInt n2 d2 := by
  rw [Rat.divInt_add_divInt _ _ (by omega) (by omega)]
theorem q_mul (n1 n2 : Int) {d1 d2 : Int}  : Rat.divInt (n1 * n2) (d1 * d2) = Rat.divInt n1 d1 * Rat.divInt n2 d2 := by
  rw [Rat.divInt_mul_divInt]
theorem q_cmp (n1 n2 : Int) {d1 d2 : Int} (h1 : 0 < d1) (h2 : 0 < d2) : (n1 * d2 - n2 * d1).sign = (Rat.divInt n1 d1 - Rat.divInt n2 d2).num.sign := by
  rw [Rat.divInt_sub_divInt _ _ (by omega) (by omega), sign_num (Int.mul_pos h1 h2)]
theorem num_lt {n d : Int} {K : Nat} (h : n.natAbs < K) (hd : 0 < d) : (Rat.divInt n d).num.natAbs < K := by
  rw [← quot_num hd]
  exact Nat.lt_of_le_of_lt (by rw [Int.natAbs_tdiv]; exact Nat.div_le_self _ _) h
theorem den_lt {n d : Int} {K : Nat} (h : d.natAbs < K) (hd : 0 < d) : ((Rat.divInt n d).den : Int).natAbs < K := by
  rw [← quot_den hd]
  exact Nat.lt_of_le_of_lt (by rw [Int.natAbs_tdiv]; exact Nat.div_le_self _ _) h

/-- A rational number as it lies in memory. -/
def frQ (q : Rat) : Value := frv q.num q.den

theorem frq_Q {n d : Int} (h : 0 < d) : frq n d = frQ (Rat.divInt n d) := by
  unfold frq frQ; rw [quot_num h, quot_den h]

/-- Four cells are a fraction q, both numbers of at most K bytes. -/
def RQ (K : Nat) (b : Bool) (s : ByteArray) (c : Bool) (t : ByteArray) (q : Rat) : Prop := ∃ n d : Int, Rep K b s n ∧ Rep K c t d ∧ q = Rat.divInt (tmn n d) (tmd n d)

theorem RQ.mono {K L : Nat} {b c : Bool} {s t : ByteArray} {q : Rat} (h : RQ K b s c t q) (hl : K ≤ L) : RQ L b s c t q := by
  obtain ⟨n, d, h1, h2, h3⟩ := h
  exact ⟨n, d, h1.mono hl, h2.mono hl, h3⟩

theorem RQ.of {K : Nat} {b c : Bool} {s t : ByteArray} {n d : Int} (h1 : Rep K b s n) (h2 : Rep K c t d) : ∃ q, RQ K b s c t q := ⟨_, n, d, h1, h2, rfl⟩

theorem RQ.lits {K : Nat} {b c : Bool} {s t : ByteArray} {n d : Int} (h1 : Rep K b s n) (h2 : Rep K c t d) (h : 0 < d) : RQ K b s c t (Rat.divInt n d) :=
  ⟨n, d, h1, h2, by unfold tmn tmd; rw [if_pos h, if_pos h]⟩

/-- What a function answers lies there as a fraction. -/
theorem RQ.of_frQ {K : Nat} {b c : Bool} {s t : ByteArray} {q : Rat} (he : frQ q = .agg #[.bool b, .string s, .bool c, .string t]) (h1 : q.num.natAbs < 256 ^ K) (h2 : (q.den : Int).natAbs < 256 ^ K) : RQ K b s c t q ∧ Rep K b s q.num := by
  unfold frQ frv at he
  simp only [Value.agg.injEq, Array.mk.injEq, List.cons.injEq, Value.bool.injEq, Value.string.injEq, and_true] at he
  obtain ⟨rfl, rfl, rfl, rfl⟩ := he
  have hd : 0 < (q.den : Int) := by have := q.den_pos; omega
  refine ⟨⟨q.num, q.den, Rep.mo h1, Rep.mo h2, ?_⟩, Rep.mo h1⟩
  unfold tmn tmd; rw [if_pos hd, if_pos hd, Rat.num_divInt_den]

theorem frQ_ex (q : Rat) : ∃ p : Bool × ByteArray × Bool × ByteArray, frQ q = .agg #[.bool p.1, .string p.2.1, .bool p.2.2.1, .string p.2.2.2] := ⟨(_, _, _, _), rfl⟩

section
variable {K : Nat} {b c b' c' : Bool} {s t s' t' : ByteArray} {q r : Rat}

theorem QAdd (hK1 : 1 ≤ K) (hK : K ≤ 1000) (h1 : RQ K b s c t q) (h2 : RQ K b' s' c' t' r) :
    ((q + r).num.natAbs < 256 ^ (K + K + 1) ∧ ((q + r).den : Int).natAbs < 256 ^ (K + K + 1)) ∧
    ∀ w : World, Calls Tryz.prog 10 #[.agg #[.bool b, .string s, .bool c, .string t], .agg #[.bool b', .string s', .bool c', .string t']] w fun e w' => e = .returned (frQ (q + r)) ∧ Tch [] w w' := by
  obtain ⟨n, d, a1, a2, rfl⟩ := h1
  obtain ⟨m, e', a3, a4, rfl⟩ := h2
  obtain ⟨p1, q1, p2, q2, R1, R2, _⟩ := ZTerms hK1 a1 a2
  obtain ⟨p3, q3, p4, q4, R3, R4, _⟩ := ZTerms hK1 a3 a4
  have hp := Int.mul_pos (tmd_pos n d) (tmd_pos m e')
  have l1 := add_lt (mul_lt R1.lt R4.lt) (mul_lt R3.lt R2.lt)
  have l2 : (tmd n d * tmd m e').natAbs < 256 ^ (K + K + 1) := Nat.lt_of_lt_of_le (mul_lt R2.lt R4.lt) (Nat.pow_le_pow_right (by omega) (by omega))
  rw [← q_add _ _ (tmd_pos n d) (tmd_pos m e')]
  refine ⟨⟨num_lt l1 hp, den_lt l2 hp⟩, fun w => ?_⟩
  have h := AddFrac hK1 hK a1 a2 a3 a4 w
  rwa [frq_Q hp] at h

theorem QMul (hK1 : 1 ≤ K) (hK : K ≤ 1000) (h1 : RQ K b s c t q) (h2 : RQ K b' s' c' t' r) :
    ((q * r).num.natAbs < 256 ^ (K + K + 1) ∧ ((q * r).den : Int).natAbs < 256 ^ (K + K + 1)) ∧
    ∀ w : World, Calls Tryz.prog 12 #[.agg #[.bool b, .string s, .bool c, .string t], .agg #[.bool b', .string s', .bool c', .string t']] w fun e w' => e = .returned (frQ (q * r)) ∧ Tch [] w w' := by
  obtain ⟨n, d, a1, a2, rfl⟩ := h1
  obtain ⟨m, e', a3, a4, rfl⟩ := h2
  obtain ⟨p1, q1, p2, q2, R1, R2, _⟩ := ZTerms hK1 a1 a2
  obtain ⟨p3, q3, p4, q4, R3, R4, _⟩ := ZTerms hK1 a3 a4
  have hp := Int.mul_pos (tmd_pos n d) (tmd_pos m e')
  have l1 : (tmn n d * tmn m e').natAbs < 256 ^ (K + K + 1) := Nat.lt_of_lt_of_le (mul_lt R1.lt R3.lt) (Nat.pow_le_pow_right (by omega) (by omega))
  have l2 : (tmd n d * tmd m e').natAbs < 256 ^ (K + K + 1) := Nat.lt_of_lt_of_le (mul_lt R2.lt R4.lt) (Nat.pow_le_pow_right (by omega) (by omega))
  rw [← q_mul]
  refine ⟨⟨num_lt l1 hp, den_lt l2 hp⟩, fun w => ?_⟩
  have h := MulFrac hK1 hK a1 a2 a3 a4 w
  rwa [frq_Q hp] at h

theorem QCmp (hK1 : 1 ≤ K) (hK : K ≤ 1000) (h1 : RQ K b s c t q) (h2 : RQ K b' s' c' t' r) (w : World) :
    Calls Tryz.prog 8 #[.agg #[.bool b, .string s, .bool c, .string t], .agg #[.bool b', .string s', .bool c', .string t']] w fun e w' => e = .returned (.int .i64 (q - r).num.sign) ∧ Tch [] w w' := by
  obtain ⟨n, d, a1, a2, rfl⟩ := h1
  obtain ⟨m, e', a3, a4, rfl⟩ := h2
  have h := CmpFrac hK1 hK a1 a2 a3 a4 w
  rwa [q_cmp _ _ (tmd_pos n d) (tmd_pos m e')] at h
end

end Go.Proofs.YtmiibcdcnoefgaaGreatDoor
