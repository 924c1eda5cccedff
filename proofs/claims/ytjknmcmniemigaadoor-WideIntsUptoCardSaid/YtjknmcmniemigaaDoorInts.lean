/- The walk of WideInts. -/
import Derived.Test.YtjknmcmniemigaaDoorInt
import Derived.Test.YtjknmcmniemigaaDoorSan
namespace Go.Proofs.YtjknmcmniemigaaDoor
open Go.RowKit Dg

theorem intV_ex (x : Int) : ∃ k ok, intV x = .tuple #[.int .i64 k, .bool ok] := by
  unfold intV; split
  · exact ⟨_, _, rfl⟩
  · exact ⟨_, _, rfl⟩

/-- What the functions answer in WideInts. -/
structure InC (n m : Int) (b1 : Bool) (s1 : ByteArray) (k g : Int) (ok fits : Bool) (N M S H G L P Q : Bool × ByteArray) : Prop where
  k1 : ∀ w, Calls Tryd.prog 32 #[.agg #[.bool b1, .string s1]] w fun e w' => e = .returned (.tuple #[.int .i64 k, .bool ok]) ∧ Tch [] w w'
  k2 : ∀ w, Calls Tryd.prog 33 #[.agg #[.bool b1, .string s1]] w fun e w' => e = .returned (.tuple #[.int .i64 k, .bool ok]) ∧ Tch [] w w'
  k3 : ∀ w, Calls Tryd.prog 28 #[.int .i64 n] w fun e w' => e = .returned (.agg #[.bool N.1, .string N.2]) ∧ Tch [] w w'
  k4 : ∀ w, Calls Tryd.prog 32 #[.agg #[.bool N.1, .string N.2]] w fun e w' => e = .returned (.tuple #[.int .i64 n, .bool true]) ∧ Tch [] w w'
  k5 : ∀ w, Calls Tryd.prog 28 #[.int .i64 m] w fun e w' => e = .returned (.agg #[.bool M.1, .string M.2]) ∧ Tch [] w w'
  k6 : ∀ w, Calls Tryd.prog 14 #[.agg #[.bool N.1, .string N.2], .agg #[.bool M.1, .string M.2]] w fun e w' => e = .returned (.agg #[.bool S.1, .string S.2]) ∧ Tch [] w w'
  k7 : ∀ w, Calls Tryd.prog 32 #[.agg #[.bool S.1, .string S.2]] w fun e w' => e = .returned (.tuple #[.int .i64 g, .bool fits]) ∧ Tch [] w w'
  k8 : ∀ w, Calls Tryd.prog 28 #[.int .i64 9223372036854775807] w fun e w' => e = .returned (.agg #[.bool H.1, .string H.2]) ∧ Tch [] w w'
  k9 : ∀ w, Calls Tryd.prog 18 #[.agg #[.bool H.1, .string H.2]] w fun e w' => e = .returned (.agg #[.bool G.1, .string G.2]) ∧ Tch [] w w'
  k11 : ∀ w, Calls Tryd.prog 16 #[.agg #[.bool G.1, .string G.2], .agg #[.bool false, .string ⟨#[1]⟩]] w fun e w' => e = .returned (.agg #[.bool L.1, .string L.2]) ∧ Tch [] w w'
  k12 : ∀ w, Calls Tryd.prog 14 #[.agg #[.bool H.1, .string H.2], .agg #[.bool false, .string ⟨#[1]⟩]] w fun e w' => e = .returned (.agg #[.bool P.1, .string P.2]) ∧ Tch [] w w'
  k13 : ∀ w, Calls Tryd.prog 32 #[.agg #[.bool P.1, .string P.2]] w fun e w' => e = .returned (.tuple #[.int .i64 0, .bool false]) ∧ Tch [] w w'
  k14 : ∀ w, Calls Tryd.prog 32 #[.agg #[.bool L.1, .string L.2]] w fun e w' => e = .returned (.tuple #[.int .i64 (-9223372036854775808), .bool true]) ∧ Tch [] w w'
  k15 : ∀ w, Calls Tryd.prog 16 #[.agg #[.bool L.1, .string L.2], .agg #[.bool false, .string ⟨#[1]⟩]] w fun e w' => e = .returned (.agg #[.bool Q.1, .string Q.2]) ∧ Tch [] w w'
  k16 : ∀ w, Calls Tryd.prog 32 #[.agg #[.bool Q.1, .string Q.2]] w fun e w' => e = .returned (.tuple #[.int .i64 0, .bool false]) ∧ Tch [] w w'
  k17 : ∀ w, Calls Tryd.prog 34 #[.int .i64 n] w fun e w' => e = .returned (.agg #[.bool N.1, .string N.2]) ∧ Tch [] w w'
  sum : (-9223372036854775808 ≤ n + m ∧ n + m ≤ 9223372036854775807 ∧ fits = true ∧ g = n + m) ∨ ((n + m < -9223372036854775808 ∨ 9223372036854775807 < n + m) ∧ fits = false)

theorem wz_pair3 (z : Int) : ∃ p : Bool × ByteArray, wz z = .agg #[.bool p.1, .string p.2] := ⟨(_, _), wz_mo z⟩

theorem ZIntW {z : Int} {p : Bool × ByteArray} (h : wz z = .agg #[.bool p.1, .string p.2]) (w : World) :
    Calls Tryd.prog 32 #[.agg #[.bool p.1, .string p.2]] w fun e w' => e = .returned (intV z) ∧ Tch [] w w' := intZ (Rep.of_wz (K := z.natAbs) h (Nat.lt_pow_self (by decide))).val w

theorem InC.mk' {n m : Int} {b1 : Bool} {s1 : ByteArray} (hs : s1.size ≤ 40) (hn1 : -9223372036854775808 ≤ n) (hn2 : n ≤ 9223372036854775807) (hm1 : -9223372036854775808 ≤ m) (hm2 : m ≤ 9223372036854775807) :
    ∃ k g ok fits N M S H G L P Q, InC n m b1 s1 k g ok fits N M S H G L P Q := by
  obtain ⟨x, hx⟩ : ∃ x, zval b1 (bv (sb s1)) = x := ⟨_, rfl⟩
  obtain ⟨k, ok, ek⟩ := intV_ex x
  obtain ⟨g, fits, eg⟩ := intV_ex (n + m)
  obtain ⟨N, eN⟩ := wz_pair3 n
  obtain ⟨M, eM⟩ := wz_pair3 m
  obtain ⟨S, eS⟩ := wz_pair3 (n + m)
  obtain ⟨H, eH⟩ := wz_pair3 9223372036854775807
  obtain ⟨G, eG⟩ := wz_pair3 (-9223372036854775807)
  obtain ⟨L, eL⟩ := wz_pair3 (-9223372036854775808)
  obtain ⟨P, eP⟩ := wz_pair3 9223372036854775808
  obtain ⟨Q, eQ⟩ := wz_pair3 (-9223372036854775809)
  have l16 : ∀ z : Int, -9223372036854775809 ≤ z → z ≤ 9223372036854775808 → z.natAbs < 256 ^ 9 := by
    intro z h1 h2
    have : (256 : Nat) ^ 9 = 4722366482869645213696 := by decide
    omega
  have rN : Rep 400000 N.1 N.2 n := (Rep.of_wz eN (l16 _ (by omega) (by omega))).mono (by omega)
  have rM : Rep 400000 M.1 M.2 m := (Rep.of_wz eM (l16 _ (by omega) (by omega))).mono (by omega)
  have rH : Rep 400000 H.1 H.2 9223372036854775807 := (Rep.of_wz eH (l16 _ (by omega) (by omega))).mono (by omega)
  have rG : Rep 400000 G.1 G.2 (-9223372036854775807) := (Rep.of_wz eG (l16 _ (by omega) (by omega))).mono (by omega)
  have rL : Rep 400000 L.1 L.2 (-9223372036854775808) := (Rep.of_wz eL (l16 _ (by omega) (by omega))).mono (by omega)
  refine ⟨k, g, ok, fits, N, M, S, H, G, L, P, Q, ⟨?_, ?_, ?_, ?_, ?_, ?_, ?_, ?_, ?_, ?_, ?_, ?_, ?_, ?_, ?_, ?_, ?_⟩⟩
  · intro w; have h := intZ hx w; rwa [ek] at h
  · intro w; have h := rInt hx (by omega) w; rwa [ek] at h
  · intro w; have h := ZFrom n hn1 hn2 w; rwa [eN] at h
  · intro w; have h := ZIntW eN w; rwa [intV_in hn1 hn2] at h
  · intro w; have h := ZFrom m hm1 hm2 w; rwa [eM] at h
  · intro w; have h := ZAdd rN rM w; rwa [eS] at h
  · intro w; have h := ZIntW eS w; rwa [eg] at h
  · intro w; have h := ZFrom 9223372036854775807 (by omega) (by omega) w; rwa [eH] at h
  · intro w; have h := ZNeg (rH.mono (L := 1000000) (by omega)) w; rwa [eG] at h
  · intro w; have h := ZSub rG r1 w; rwa [show (-9223372036854775807 : Int) - 1 = -9223372036854775808 from by decide, eL] at h
  · intro w; have h := ZAdd rH r1 w; rwa [show (9223372036854775807 : Int) + 1 = 9223372036854775808 from by decide, eP] at h
  · intro w; have h := ZIntW eP w; rwa [intV_out (.inr (by decide))] at h
  · intro w; have h := ZIntW eL w; rwa [intV_in (by decide) (by decide)] at h
  · intro w; have h := ZSub rL r1 w; rwa [show (-9223372036854775808 : Int) - 1 = -9223372036854775809 from by decide, eQ] at h
  · intro w; have h := ZIntW eQ w; rwa [intV_out (.inl (by decide))] at h
  · intro w; have h := rFrom n hn1 hn2 w; rwa [eN] at h
  · unfold intV at eg
    split at eg
    · rename_i hr
      simp only [Value.tuple.injEq, Array.mk.injEq, List.cons.injEq, Value.int.injEq, Value.bool.injEq, true_and, and_true] at eg
      exact .inl ⟨hr.1, hr.2, eg.2.symm, eg.1.symm⟩
    · rename_i hr
      simp only [Value.tuple.injEq, Array.mk.injEq, List.cons.injEq, Value.int.injEq, Value.bool.injEq, true_and, and_true] at eg
      exact .inr ⟨by omega, eg.2.symm⟩

set_option maxHeartbeats 4000000 in
set_option maxRecDepth 100000 in
theorem ints_walk (w : World) (n m : Int) (hn1 : -9223372036854775808 ≤ n) (hn2 : n ≤ 9223372036854775807) (hm1 : -9223372036854775808 ≤ m) (hm2 : m ≤ 9223372036854775807)
    (a1 : Bool) (A1 : Option Addr) (len1 cap1 : Nat) (z1 : Int) (ys1 : List Nat) (hy1 : ys1.length = len1) (hl1 : len1 ≤ 1048576) (hA1 : Src w A1 ys1) :
    Calls Tryd.prog 8 #[.int .i64 n, .int .i64 m, .agg #[.bool a1, .slice A1 len1 cap1, .int .i64 z1]] w fun e w' => e = .returned (.bool true) ∧ Tch [] w w' := by
  have F := Lib.hid (Fr.nil w)
  have N1 : Hid (∀ w' l, Fr w w' l → Calls Tryd.prog 13 #[.agg #[.bool a1, .slice A1 len1 cap1, .int .i64 z1]] w' fun e w2 => ∃ s, (s.size ≤ 40 ∧ e = .returned (.agg #[.bool a1, .string s])) ∧ Tch [] w' w2) := Lib.hid (fun w' l h => NumW a1 z1 A1 len1 cap1 ys1 w' hy1 hl1 (hA1.kept h.t))
  have HB := Lib.hid (And.intro (And.intro hn1 hn2) (And.intro hm1 hm2))
  clear hA1 hy1 hl1 hn1 hn2 hm1 hm2
  go_enter Tryd.func8, Tryd.ntmps8
  go_wp2_with fail
  refine (sanity _).mono ?_
  rintro e w1 ⟨rfl, h1⟩
  have F := Lib.hid ((F.out.add (.cells #[.bool a1, .slice A1 len1 cap1, .int .i64 z1] 24) w.heap.size rfl).keep h1)
  clear h1
  have c0 := F.out.cell 0 0 rfl rfl
  have c1 := F.out.cell 0 1 rfl rfl
  have c2 := F.out.cell 0 2 rfl rfl
  go_wp2_with fail
  refine (N1.out _ _ F.out).mono ?_
  rintro e w2 ⟨s1, ⟨hs1, rfl⟩, h1⟩
  have F := Lib.hid ((F.out.keep h1).add (.cells #[.bool a1, .string s1] 27) w2.heap.size rfl)
  clear h1 c0 c1 c2 N1
  obtain ⟨k, g, ok, fits, N, M, S, H, G, L, P, Q, R⟩ := InC.mk' (b1 := a1) hs1 HB.out.1.1 HB.out.1.2 HB.out.2.1 HB.out.2.2
  clear hs1
  obtain ⟨bN, tN⟩ := N
  obtain ⟨bM, tM⟩ := M
  obtain ⟨bS, tS⟩ := S
  obtain ⟨bH, tH⟩ := H
  obtain ⟨bG, tG⟩ := G
  obtain ⟨bL, tL⟩ := L
  obtain ⟨bP, tP⟩ := P
  obtain ⟨bQ, tQ⟩ := Q
  have K1 := Lib.hid R.k1
  have K2 := Lib.hid R.k2
  have K3 := Lib.hid R.k3
  have K4 := Lib.hid R.k4
  have K5 := Lib.hid R.k5
  have K6 := Lib.hid R.k6
  have K7 := Lib.hid R.k7
  have K8 := Lib.hid R.k8
  have K9 := Lib.hid R.k9
  have K11 := Lib.hid R.k11
  have K12 := Lib.hid R.k12
  have K13 := Lib.hid R.k13
  have K14 := Lib.hid R.k14
  have K15 := Lib.hid R.k15
  have K16 := Lib.hid R.k16
  have K17 := Lib.hid R.k17
  have HS := Lib.hid R.sum
  clear R
  obtain ⟨a0, a1'⟩ := F.out.two 1 rfl
  go_wp2_with fail
  refine (K1.out _).mono ?_
  rintro e w3 ⟨rfl, h1⟩
  have F := Lib.hid (F.out.keep h1)
  clear h1 a0 a1'
  obtain ⟨a0, a1'⟩ := F.out.two 1 rfl
  go_wp2_with fail
  refine (K2.out _).mono ?_
  rintro e w4 ⟨rfl, h1⟩
  have F := Lib.hid (F.out.keep h1)
  clear h1 a0 a1'
  go_wp2_with fail
  refine (K3.out _).mono ?_
  rintro e w5 ⟨rfl, h1⟩
  have F := Lib.hid (F.out.keep h1)
  clear h1
  go_wp2_with fail
  refine (K4.out _).mono ?_
  rintro e w6 ⟨rfl, h1⟩
  have F := Lib.hid (F.out.keep h1)
  clear h1
  go_wp2_with fail
  refine (K3.out _).mono ?_
  rintro e w7 ⟨rfl, h1⟩
  have F := Lib.hid (F.out.keep h1)
  clear h1
  go_wp2_with fail
  refine (K5.out _).mono ?_
  rintro e w8 ⟨rfl, h1⟩
  have F := Lib.hid (F.out.keep h1)
  clear h1
  go_wp2_with fail
  refine (K6.out _).mono ?_
  rintro e w9 ⟨rfl, h1⟩
  have F := Lib.hid (F.out.keep h1)
  clear h1
  go_wp2_with fail
  refine (K7.out _).mono ?_
  rintro e w10 ⟨rfl, h1⟩
  have F := Lib.hid (F.out.keep h1)
  clear h1
  obtain ⟨hn1, hn2⟩ := HB.out.1
  obtain ⟨hm1, hm2⟩ := HB.out.2
  have hcase : (0 < n ∧ -9223372036854775808 ≤ n + m ∧ n + m ≤ 9223372036854775807 ∧ decide (n + m < m) = false ∧ fits = true ∧ g = n + m) ∨ (n < 0 ∧ -9223372036854775808 ≤ n + m ∧ n + m ≤ 9223372036854775807 ∧ decide (m < n + m) = false ∧ fits = true ∧ g = n + m) ∨ (n = 0 ∧ fits = true ∧ g = m) ∨ (0 < n ∧ ∃ q, wrap64 (n + m) = q ∧ q < m ∧ fits = false) ∨ (n < 0 ∧ ∃ q, wrap64 (n + m) = q ∧ m < q ∧ fits = false) := by
    rcases HS.out with ⟨e1, e2, e3, e4⟩ | ⟨e1, e2⟩
    · rcases Int.lt_trichotomy n 0 with h | h | h
      · exact .inr (.inl ⟨h, e1, e2, by simp; omega, e3, e4⟩)
      · exact .inr (.inr (.inl ⟨h, e3, by omega⟩))
      · exact .inl ⟨h, e1, e2, by simp; omega, e3, e4⟩
    · rcases Int.lt_trichotomy n 0 with h | h | h
      · exact .inr (.inr (.inr (.inr ⟨h, _, rfl, by unfold wrap64; omega, e2⟩)))
      · omega
      · exact .inr (.inr (.inr (.inl ⟨h, _, rfl, by unfold wrap64; omega, e2⟩)))
  clear HS HB
  rcases hcase with ⟨h0, hA, hB, hb1, rfl, rfl⟩ | ⟨h0, hA, hB, hb1, rfl, rfl⟩ | ⟨rfl, rfl, rfl⟩ | ⟨h0, q, hq, hqm, rfl⟩ | ⟨h0, q, hq, hqm, rfl⟩
  all_goals
    go_wp2_with fail
    refine (K8.out _).mono ?_
    rintro e w11 ⟨rfl, h1⟩
    have F := Lib.hid ((F.out.keep h1).add (.cells #[.bool bH, .string tH] 27) w11.heap.size rfl)
    clear h1
    obtain ⟨a0, a1'⟩ := F.out.two 2 rfl
    go_wp2_with fail
    refine (K9.out _).mono ?_
    rintro e w12 ⟨rfl, h1⟩
    have F := Lib.hid (F.out.keep h1)
    clear h1 a0 a1'
    go_wp2_with fail
    refine (fr1 _).mono ?_
    rintro e w13 ⟨rfl, h1⟩
    have F := Lib.hid (F.out.keep h1)
    clear h1
    go_wp2_with fail
    refine (K11.out _).mono ?_
    rintro e w14 ⟨rfl, h1⟩
    have F := Lib.hid ((F.out.keep h1).add (.cells #[.bool bL, .string tL] 27) w14.heap.size rfl)
    clear h1
    obtain ⟨l, G0, SA0⟩ : ∃ l, Fr w (w14.alloc (.cells #[.bool bL, .string tL] 27)) l ∧ (∀ w', Fr w w' l → w'.cell? ⟨w11.heap.size, 0, none⟩ = some (.bool bH) ∧ w'.cell? ⟨w11.heap.size, 1, none⟩ = some (.string tH) ∧ w'.cell? ⟨w14.heap.size, 0, none⟩ = some (.bool bL) ∧ w'.cell? ⟨w14.heap.size, 1, none⟩ = some (.string tL)) :=
      ⟨_, F.out, fun w' F => ⟨F.cell 2 0 rfl rfl, F.cell 2 1 rfl rfl, F.cell 3 0 rfl rfl, F.cell 3 1 rfl rfl⟩⟩
    have F := Lib.hid G0
    have SA := Lib.hid SA0
    clear G0 SA0
    go_wp2_with fail
    go_region_held3 (fun w' => w'.cell? ⟨w11.heap.size, 0, none⟩ = some (.bool bH) ∧ w'.cell? ⟨w11.heap.size, 1, none⟩ = some (.string tH) ∧ w'.cell? ⟨w14.heap.size, 0, none⟩ = some (.bool bL) ∧ w'.cell? ⟨w14.heap.size, 1, none⟩ = some (.string tL)) (first | with_reducible exact SA.out _ F.out | with_reducible exact SA.out _ F.out.drew) (first | (go_at_call 28; (first | (with_reducible refine (fr1 _).mono ?_)); rintro e w' ⟨rfl, h1⟩; (first | (with_reducible have F := Lib.hid (F.out.keep h1)) | (with_reducible have F := Lib.hid (F.out.drew.keep h1))); clear h1) | (go_at_call 14; (first | (with_reducible refine (K12.out _).mono ?_)); rintro e w' ⟨rfl, h1⟩; (first | (with_reducible have F := Lib.hid (F.out.keep h1)) | (with_reducible have F := Lib.hid (F.out.drew.keep h1))); clear h1) | (go_at_call 32; (first | (with_reducible refine (K13.out _).mono ?_)); rintro e w' ⟨rfl, h1⟩; (first | (with_reducible have F := Lib.hid (F.out.keep h1)) | (with_reducible have F := Lib.hid (F.out.drew.keep h1))); clear h1))
    obtain ⟨z0, z1', z2, z3⟩ := SA.out _ F.out
    go_wp2_with fail
    refine (K14.out _).mono ?_
    rintro e w15 ⟨rfl, h1⟩
    have F := Lib.hid (F.out.keep h1)
    clear h1 z0 z1' z2 z3
    go_wp2_with fail
    go_region_held3 (fun w' => w'.cell? ⟨w11.heap.size, 0, none⟩ = some (.bool bH) ∧ w'.cell? ⟨w11.heap.size, 1, none⟩ = some (.string tH) ∧ w'.cell? ⟨w14.heap.size, 0, none⟩ = some (.bool bL) ∧ w'.cell? ⟨w14.heap.size, 1, none⟩ = some (.string tL)) (first | with_reducible exact SA.out _ F.out | with_reducible exact SA.out _ F.out.drew) (first | (go_at_call 28; (first | (with_reducible refine (fr1 _).mono ?_)); rintro e w' ⟨rfl, h1⟩; (first | (with_reducible have F := Lib.hid (F.out.keep h1)) | (with_reducible have F := Lib.hid (F.out.drew.keep h1))); clear h1) | (go_at_call 16; (first | (with_reducible refine (K15.out _).mono ?_)); rintro e w' ⟨rfl, h1⟩; (first | (with_reducible have F := Lib.hid (F.out.keep h1)) | (with_reducible have F := Lib.hid (F.out.drew.keep h1))); clear h1) | (go_at_call 32; (first | (with_reducible refine (K16.out _).mono ?_)); rintro e w' ⟨rfl, h1⟩; (first | (with_reducible have F := Lib.hid (F.out.keep h1)) | (with_reducible have F := Lib.hid (F.out.drew.keep h1))); clear h1))
    go_wp2_with fail
    refine (K3.out _).mono ?_
    rintro e w16 ⟨rfl, h1⟩
    have F := Lib.hid (F.out.keep h1)
    clear h1
    go_wp2_with fail
    refine (K17.out _).mono ?_
    rintro e w17 ⟨rfl, h1⟩
    have F := Lib.hid (F.out.keep h1)
    clear h1
    go_wp2
    go_ret
    exact ⟨rfl, F.out.t⟩

end Go.Proofs.YtjknmcmniemigaaDoor
