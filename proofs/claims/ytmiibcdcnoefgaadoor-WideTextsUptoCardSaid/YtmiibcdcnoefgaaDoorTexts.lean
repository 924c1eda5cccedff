/- The walk of WideTexts. -/
import Derived.Test.YtmiibcdcnoefgaaDoorRTxt
import Derived.Test.YtmiibcdcnoefgaaDoorSan
import Derived.Test.YtmiibcdcnoefgaaDoorCmpW
import Derived.Test.YtmiibcdcnoefgaaDoorMid
namespace Go.Proofs.YtmiibcdcnoefgaaDoor
open Go.RowKit Dg

theorem mod30 (z : Int) : ∃ k : Nat, k ≤ 29 ∧ (wrap64 (z.tmod 30 + 30)).tmod 30 = (k : Int) := by
  have h1 : -29 ≤ z.tmod 30 ∧ z.tmod 30 ≤ 29 := by
    have h := Int.tmod_lt_of_pos z (b := 30) (by omega)
    have h2 := Int.lt_tmod_of_pos z (b := 30) (by omega)
    omega
  obtain ⟨y, hy⟩ : ∃ y, y = z.tmod 30 := ⟨_, rfl⟩
  rw [← hy] at h1 ⊢
  have hw : wrap64 (y + 30) = y + 30 := by unfold wrap64; omega
  rw [hw, Int.tmod_eq_emod_of_nonneg (by omega)]
  exact ⟨((y + 30) % 30).toNat, by omega, by omega⟩

set_option maxHeartbeats 4000000 in
set_option maxRecDepth 100000 in
theorem Mod30 (z : Int) : ∃ k : Nat, k ≤ 29 ∧ ∀ w, Calls Tryd.prog 39 #[.int .i64 z, .int .i64 30] w fun e w' => e = .returned (.int .i64 (k : Int)) ∧ w = w' := by
  obtain ⟨k, hk, e⟩ := mod30 z
  refine ⟨k, hk, fun w => ?_⟩
  have E := Lib.hid e
  clear e
  go_enter Tryd.func39, Tryd.ntmps39
  go_wp2
  go_ret
  exact ⟨by rw [← E.out]; rfl, rfl⟩

/-- A number that was written is read. -/
theorem Parse_dec (b : Bool) (u : ByteArray) (hd : decs (sb u) = true) (h0 : 0 < u.size) (hs : u.size ≤ 10000) (w : World) :
    Calls Tryd.prog 38 #[.string (if b then ⟨#[45]⟩ ++ u else u)] w fun e w' => e = .returned (.tuple #[wv b (nv (sb u)), .bool true]) ∧ Tch [] w w' := by
  have hu : sb u ≠ [] := fun h => by have := sb_length u; rw [h] at this; simp at this; omega
  have e1 : parV b (sb u) = .tuple #[wv b (nv (sb u)), .bool true] := by unfold parV; rw [if_pos ⟨hd, hu⟩]
  rw [← e1]
  cases b with
  | true =>
    have e2 : (ByteArray.mk #[45] ++ u).data.toList = 45 :: u.data.toList := by simp
    refine Parse _ u true w (by omega) ?_ ?_
    · simp only [if_true]
      apply sb_inj
      unfold Lib.trimPrefix Lib.hasPrefix sb
      rw [e2]
      simp [List.isPrefixOf]
    · simp only [if_true]
      unfold Lib.hasPrefix
      rw [e2]; rfl
  | false =>
    have hp : Lib.hasPrefix u.data.toList [45] = false := by
      unfold Lib.hasPrefix
      rcases hl : u.data.toList with _ | ⟨c, r⟩
      · rfl
      · have hc : decs (sb u) = true := hd
        unfold sb at hc
        rw [hl] at hc
        have h45 : c ≠ 45 := by
          intro h
          rw [h] at hc
          simp [decs] at hc
        simp [List.isPrefixOf]; exact fun h => h45 h.symm
    refine Parse _ u false w (by omega) ?_ ?_
    · simp only [Bool.false_eq_true, if_false]
      apply sb_inj
      unfold Lib.trimPrefix
      rw [hp]
      simp [sb]
    · simp only [Bool.false_eq_true, if_false]
      exact hp.symm

theorem txt_split (ng : Bool) (n : Nat) : ∃ (b : Bool) (u : ByteArray), txt ng n = (if b then ⟨#[45]⟩ ++ u else u) ∧ decs (sb u) = true ∧ 0 < u.size ∧ nv (sb u) = n ∧ wv b n = wv ng n ∧ u.size ≤ (dl n).length + 1 := by
  by_cases h : n = 0
  · refine ⟨false, ⟨#[48]⟩, by unfold txt; rw [if_pos h]; rfl, by decide, by decide, by rw [h]; decide, by unfold wv; rw [if_pos h, if_pos h], by simp [ByteArray.size]⟩
  · have h1 := dl_decs n
    have h2 := sb_bs (decs_ok h1)
    refine ⟨ng, bs (dl n), ?_, by rw [h2]; exact h1, ?_, by rw [h2]; exact dl_nv n, rfl, by rw [bs_size]; omega⟩
    · unfold txt; rw [if_neg h]
    · rw [bs_size]; exact List.length_pos_iff.2 (fun h3 => h (dl_nil h3))

set_option maxHeartbeats 8000000 in
set_option maxRecDepth 100000 in
theorem texts_walk (w : World) (a1 : Bool) (A1 : Option Addr) (len1 cap1 : Nat) (z1 : Int) (ys1 : List Nat) (hy1 : ys1.length = len1) (hl1 : len1 ≤ 1048576) (hA1 : Src w A1 ys1) (zeros : Int) :
    Calls Tryd.prog 10 #[.agg #[.bool a1, .slice A1 len1 cap1, .int .i64 z1], .int .i64 zeros] w fun e w' => e = .returned (.bool true) ∧ Tch [] w w' := by
  have F := Lib.hid (Fr.nil w)
  have N1 : Hid (∀ w' l, Fr w w' l → Calls Tryd.prog 15 #[.agg #[.bool a1, .slice A1 len1 cap1, .int .i64 z1]] w' fun e w2 => ∃ s, (s.size ≤ 40 ∧ e = .returned (.agg #[.bool a1, .string s])) ∧ Tch [] w' w2) := Lib.hid (fun w' l h => NumW a1 z1 A1 len1 cap1 ys1 w' hy1 hl1 (hA1.kept h.t))
  obtain ⟨K, hK, cM⟩ := Mod30 zeros
  have CM := Lib.hid cM
  clear hA1 hy1 hl1 cM
  go_enter Tryd.func10, Tryd.ntmps10
  go_wp2_with fail
  refine (sanity _).mono ?_
  rintro e w1 ⟨rfl, h1⟩
  have F := Lib.hid ((F.out.add (.cells #[.bool a1, .slice A1 len1 cap1, .int .i64 z1] 24) w.heap.size rfl).keep h1)
  clear h1
  have c0 := F.out.cell 0 0 rfl rfl
  have c1 := F.out.cell 0 1 rfl rfl
  have c2 := F.out.cell 0 2 rfl rfl
  go_wp2_with fail
  refine (N1.out _ _ F.out).mono ?_
  rintro e w2 ⟨s1, ⟨hs1, rfl⟩, h1⟩
  have F := Lib.hid ((F.out.keep h1).add (.cells #[.bool a1, .string s1] 27) w2.heap.size rfl)
  clear h1 c0 c1 c2 N1
  have kT := fun w' => Text a1 s1 (by omega) w'
  have kR := fun w' => rText a1 s1 (by omega) w'
  have hdl : (dl (bv (sb s1))).length ≤ 120 := by
    refine Nat.le_trans (dl_length_le (k := 3 * s1.size) (Nat.lt_of_lt_of_le (bv_lt (sb_ok s1)) ?_)) (by omega)
    rw [sb_length, Nat.pow_mul]
    exact Nat.pow_le_pow_left (by decide) _
  obtain ⟨n, hn⟩ : ∃ n, bv (sb s1) = n := ⟨_, rfl⟩
  have hx : zval a1 n = zval a1 (bv (sb s1)) := by rw [hn]
  obtain ⟨x, hxe⟩ : ∃ x, zval a1 n = x := ⟨_, rfl⟩
  have ra : Rep 40 a1 s1 x := ⟨by rw [← hxe, hx], hs1⟩
  obtain ⟨b, u, eS, hud, hu0, huv, huw, hul⟩ := txt_split a1 n
  have hul : u.size ≤ 121 := by rw [hn] at hdl; omega
  rw [hn] at kT kR
  clear hdl hn hx
  obtain ⟨bz, tz, ez⟩ := wv_agg a1 n
  have ewz : wz x = .agg #[.bool bz, .string tz] := by rw [← ez, wv_wz, hxe]
  have rz := Rep.of_wz ewz ra.lt
  obtain ⟨bm, tm, em⟩ : ∃ b s, wz (-x) = .agg #[.bool b, .string s] := ⟨_, _, wz_mo _⟩
  have rm := Rep.of_wz em (by rw [Int.natAbs_neg]; exact ra.lt)
  have kN1 := fun w' => ZNeg (ra.mono (L := 1000000) (by omega)) w'
  have kN2 := fun w' => ZNeg (rm.mono (L := 1000000) (by omega)) w'
  rw [Int.neg_neg, ewz] at kN2
  rw [em] at kN1
  have kC := fun w' => ZCmp ra.val rz.val w'
  rw [Int.sub_self] at kC
  have kP := fun (v : ByteArray) hd h0 hl w' => Parse_dec b v hd h0 hl w'
  have hP : ∀ v : ByteArray, (∃ k, k ≤ 29 ∧ sb v = List.replicate k 48 ++ sb u) → ∀ w', Calls Tryd.prog 38 #[.string (if b then ⟨#[45]⟩ ++ v else v)] w' fun e w'' => e = .returned (.tuple #[.agg #[.bool bz, .string tz], .bool true]) ∧ Tch [] w' w'' := by
    rintro v ⟨k, hk, hv⟩ w'
    have h1 : decs (sb v) = true := by
      rw [hv]; refine decs_append ?_ hud
      simp [decs]
    have h2 : v.size = k + u.size := by rw [← sb_length, hv, List.length_append, List.length_replicate, sb_length]
    have h3 : nv (sb v) = n := by
      rw [hv, nv_append, huv]
      have : nv (List.replicate k 48) = 0 := by
        clear hv h2 hk
        induction k with
        | zero => rfl
        | succ k ih => rw [List.replicate_succ', nv_snoc, ih]
      rw [this]; omega
    have := Parse_dec b v h1 (by omega) (by omega) w'
    rwa [h3, huw, ez] at this
  have KT := Lib.hid kT
  have KR := Lib.hid kR
  have KN1 := Lib.hid kN1
  have KN2 := Lib.hid kN2
  have KC := Lib.hid kC
  have HP := Lib.hid hP
  have ES := Lib.hid eS
  have HUD := Lib.hid hud
  clear kT kR kN1 kN2 kC hP eS hud huv huw ez ewz rz em rm ra hxe kP hs1
  obtain ⟨x0, x1⟩ := F.out.two 1 rfl
  go_wp2_with fail
  refine (KT.out _).mono ?_
  rintro e w3 ⟨rfl, h1⟩
  have F := Lib.hid (F.out.keep h1)
  clear h1 x0 x1
  cases b with
  | true =>
    have p1 := HP.out u ⟨0, by decide, by simp⟩
    have e0 := ES.out
    simp only [if_true] at p1 e0
    obtain ⟨S, hS⟩ : ∃ S, ⟨#[45]⟩ ++ u = S := ⟨_, rfl⟩
    rw [hS] at p1 e0
    have hSs : S.size = u.size + 1 := by rw [← hS, ByteArray.size_append]; (have : (ByteArray.mk #[45]).size = 1 := rfl); omega
    have hS0 : 0 < S.size := by omega
    have hSb : S[0].toNat = 45 := by subst hS; rfl
    have hSe : S.extract 1 (u.size + 1) = u := by
      apply sb_inj
      rw [sb_extract, ← hSs, List.take_of_length_le (by rw [sb_length]; exact Nat.le_refl _), ← hS, sb_append]
      rfl
    have P1 := Lib.hid p1
    rw [e0] at KR ⊢
    clear p1 e0 ES hS
    go_wp2_with fail
    refine (P1.out _).mono ?_
    rintro e w4 ⟨rfl, h1⟩
    have F := Lib.hid ((F.out.keep h1).add (.cells #[.bool bz, .string tz] 27) w4.heap.size rfl)
    clear h1
    go_wp2
    clear hSe hSb hS0 hSs
    obtain ⟨l, G, SA0⟩ : ∃ l, Fr w (w4.alloc (.cells #[.bool bz, .string tz] 27)) l ∧ (∀ w', Fr w w' l → w'.cell? ⟨w2.heap.size, 0, none⟩ = some (.bool a1) ∧ w'.cell? ⟨w2.heap.size, 1, none⟩ = some (.string s1) ∧ w'.cell? ⟨w4.heap.size, 0, none⟩ = some (.bool bz) ∧ w'.cell? ⟨w4.heap.size, 1, none⟩ = some (.string tz)) :=
      ⟨_, F.out, fun w' F => ⟨F.cell 1 0 rfl rfl, F.cell 1 1 rfl rfl, F.cell 2 0 rfl rfl, F.cell 2 1 rfl rfl⟩⟩
    have F := Lib.hid G
    have SA := Lib.hid SA0
    clear G SA0
    generalize w4.alloc (.cells #[.bool bz, .string tz] 27) = W4 at F ⊢
    go_loopw [10, 12] (fun ut ui wr => ∃ (k : Nat) (v : ByteArray), ut = .string v ∧ ui = .int .i64 (k : Int) ∧ k ≤ K ∧ v.size = k + u.size ∧ Hid (sb v = List.replicate k 48 ++ sb u) ∧ Hid (Fr w wr l)) (fun _ ui _ => K - (intOf ui).toNat)
    case atStart => exact ⟨0, u, rfl, rfl, Nat.zero_le _, by omega, Lib.hid (by simp), F⟩
    case round =>
      clear F
      obtain ⟨k, v, rfl, rfl, hkK, hvs, hv, hF⟩ := hrel
      by_cases hlt : k < K
      · have HV2 : Hid (sb (⟨#[48]⟩ ++ v) = List.replicate (k + 1) 48 ++ sb u) := Lib.hid (by rw [sb_append, hv.out, List.replicate_succ]; rfl)
        have hsz : (ByteArray.mk #[48] ++ v).size = k + 1 + u.size := by rw [ByteArray.size_append, hvs]; (have : (ByteArray.mk #[48]).size = 1 := rfl); omega
        have HSZ := Lib.hid hsz
        clear hsz hv
        go_wp2_with fail
        refine (CM.out _).mono ?_
        rintro e w5 ⟨rfl, rfl⟩
        go_wp2
        exact ⟨⟨k + 1, ⟨#[48]⟩ ++ v, rfl, by first | rfl | go_num, by omega, HSZ.out, HV2, hF⟩, by simp [intOf]; omega⟩
      · have p2 := HP.out v ⟨k, by omega, hv.out⟩
        simp only [if_true] at p2
        have P2 := Lib.hid p2
        clear p2 hv HP
        go_wp2_with fail
        refine (CM.out _).mono ?_
        rintro e w5 ⟨rfl, rfl⟩
        go_wp2_with fail
        refine (P2.out _).mono ?_
        rintro e w6 ⟨rfl, h1⟩
        have F := Lib.hid ((hF.out.keep h1).add (.cells #[.bool bz, .string tz] 27) w6.heap.size rfl)
        clear h1 hF
        obtain ⟨l2, G, SA0⟩ : ∃ l2, Fr w (w6.alloc (.cells #[.bool bz, .string tz] 27)) l2 ∧ (∀ w', Fr w w' l2 → w'.cell? ⟨w2.heap.size, 0, none⟩ = some (.bool a1) ∧ w'.cell? ⟨w2.heap.size, 1, none⟩ = some (.string s1) ∧ w'.cell? ⟨w4.heap.size, 0, none⟩ = some (.bool bz) ∧ w'.cell? ⟨w4.heap.size, 1, none⟩ = some (.string tz) ∧ w'.cell? ⟨w6.heap.size, 0, none⟩ = some (.bool bz) ∧ w'.cell? ⟨w6.heap.size, 1, none⟩ = some (.string tz)) :=
          ⟨_, F.out, fun w' F => by
            obtain ⟨v0, v1, v2, v3⟩ := SA.out w' F.front
            exact ⟨v0, v1, v2, v3, F.last 0 rfl, F.last 1 rfl⟩⟩
        clear SA F
        have F := Lib.hid G
        have SA := Lib.hid SA0
        clear G SA0
        go_wp2_with fail
        go_region_held3 (fun w' => w'.cell? ⟨w2.heap.size, 0, none⟩ = some (.bool a1) ∧ w'.cell? ⟨w2.heap.size, 1, none⟩ = some (.string s1) ∧ w'.cell? ⟨w4.heap.size, 0, none⟩ = some (.bool bz) ∧ w'.cell? ⟨w4.heap.size, 1, none⟩ = some (.string tz) ∧ w'.cell? ⟨w6.heap.size, 0, none⟩ = some (.bool bz) ∧ w'.cell? ⟨w6.heap.size, 1, none⟩ = some (.string tz)) (first | with_reducible exact SA.out _ F.out | with_reducible exact SA.out _ F.out.drew) (first | (go_at_call 40; (with_reducible refine (KR.out _).mono ?_); rintro e w' ⟨rfl, h1⟩; (first | (with_reducible have F := Lib.hid (F.out.keep h1)) | (with_reducible have F := Lib.hid (F.out.drew.keep h1))); clear h1) | (go_at_call 24; (with_reducible refine (KC.out _).mono ?_); rintro e w' ⟨rfl, h1⟩; (first | (with_reducible have F := Lib.hid (F.out.keep h1)) | (with_reducible have F := Lib.hid (F.out.drew.keep h1))); clear h1) | (go_at_call 20; (first | (with_reducible refine (KN1.out _).mono ?_) | (with_reducible refine (KN2.out _).mono ?_)); rintro e w' ⟨rfl, h1⟩; (first | (with_reducible have F := Lib.hid (F.out.keep h1)) | (with_reducible have F := Lib.hid (F.out.drew.keep h1))); clear h1))
        go_wp2
        go_ret
        exact ⟨rfl, F.out.t⟩
  | false =>
    have p1 := HP.out u ⟨0, by decide, by simp⟩
    have e0 := ES.out
    simp only [Bool.false_eq_true, if_false] at p1 e0
    obtain ⟨b0, hb0⟩ : ∃ b0 : Nat, u[0].toNat = b0 := ⟨_, rfl⟩
    have hbb : ((b0 : Int) == 45) = false := by
      have h1 := HUD.out
      simp only [decs, List.all_eq_true] at h1
      have h2 := h1 b0 (by
        rw [← hb0]
        unfold sb
        refine List.mem_map.2 ⟨u[0], ?_, rfl⟩
        have h3 : 0 < u.data.toList.length := by simpa using hu0
        exact List.getElem_mem h3)
      simp at h2
      exact beq_eq_false_iff_ne.2 (by omega)
    have P1 := Lib.hid p1
    rw [e0] at KR ⊢
    clear p1 e0 ES
    go_wp2_with fail
    refine (P1.out _).mono ?_
    rintro e w4 ⟨rfl, h1⟩
    have F := Lib.hid ((F.out.keep h1).add (.cells #[.bool bz, .string tz] 27) w4.heap.size rfl)
    clear h1
    go_wp2
    obtain ⟨l, G, SA0⟩ : ∃ l, Fr w (w4.alloc (.cells #[.bool bz, .string tz] 27)) l ∧ (∀ w', Fr w w' l → w'.cell? ⟨w2.heap.size, 0, none⟩ = some (.bool a1) ∧ w'.cell? ⟨w2.heap.size, 1, none⟩ = some (.string s1) ∧ w'.cell? ⟨w4.heap.size, 0, none⟩ = some (.bool bz) ∧ w'.cell? ⟨w4.heap.size, 1, none⟩ = some (.string tz)) :=
      ⟨_, F.out, fun w' F => ⟨F.cell 1 0 rfl rfl, F.cell 1 1 rfl rfl, F.cell 2 0 rfl rfl, F.cell 2 1 rfl rfl⟩⟩
    have F := Lib.hid G
    have SA := Lib.hid SA0
    clear G SA0
    generalize w4.alloc (.cells #[.bool bz, .string tz] 27) = W4 at F ⊢
    go_loopw [10, 12] (fun ut ui wr => ∃ (k : Nat) (v : ByteArray), ut = .string v ∧ ui = .int .i64 (k : Int) ∧ k ≤ K ∧ v.size = k + u.size ∧ Hid (sb v = List.replicate k 48 ++ sb u) ∧ Hid (Fr w wr l)) (fun _ ui _ => K - (intOf ui).toNat)
    case atStart => exact ⟨0, u, rfl, rfl, Nat.zero_le _, by omega, Lib.hid (by simp), F⟩
    case round =>
      clear F
      obtain ⟨k, v, rfl, rfl, hkK, hvs, hv, hF⟩ := hrel
      by_cases hlt : k < K
      · have HV2 : Hid (sb (⟨#[48]⟩ ++ v) = List.replicate (k + 1) 48 ++ sb u) := Lib.hid (by rw [sb_append, hv.out, List.replicate_succ]; rfl)
        have hsz : (ByteArray.mk #[48] ++ v).size = k + 1 + u.size := by rw [ByteArray.size_append, hvs]; (have : (ByteArray.mk #[48]).size = 1 := rfl); omega
        have HSZ := Lib.hid hsz
        clear hsz hv
        go_wp2_with fail
        refine (CM.out _).mono ?_
        rintro e w5 ⟨rfl, rfl⟩
        go_wp2
        exact ⟨⟨k + 1, ⟨#[48]⟩ ++ v, rfl, by first | rfl | go_num, by omega, HSZ.out, HV2, hF⟩, by simp [intOf]; omega⟩
      · have p2 := HP.out v ⟨k, by omega, hv.out⟩
        simp only [Bool.false_eq_true, if_false] at p2
        have P2 := Lib.hid p2
        clear p2 hv HP
        go_wp2_with fail
        refine (CM.out _).mono ?_
        rintro e w5 ⟨rfl, rfl⟩
        go_wp2_with fail
        refine (P2.out _).mono ?_
        rintro e w6 ⟨rfl, h1⟩
        have F := Lib.hid ((hF.out.keep h1).add (.cells #[.bool bz, .string tz] 27) w6.heap.size rfl)
        clear h1 hF
        obtain ⟨l2, G, SA0⟩ : ∃ l2, Fr w (w6.alloc (.cells #[.bool bz, .string tz] 27)) l2 ∧ (∀ w', Fr w w' l2 → w'.cell? ⟨w2.heap.size, 0, none⟩ = some (.bool a1) ∧ w'.cell? ⟨w2.heap.size, 1, none⟩ = some (.string s1) ∧ w'.cell? ⟨w4.heap.size, 0, none⟩ = some (.bool bz) ∧ w'.cell? ⟨w4.heap.size, 1, none⟩ = some (.string tz) ∧ w'.cell? ⟨w6.heap.size, 0, none⟩ = some (.bool bz) ∧ w'.cell? ⟨w6.heap.size, 1, none⟩ = some (.string tz)) :=
          ⟨_, F.out, fun w' F => by
            obtain ⟨v0, v1, v2, v3⟩ := SA.out w' F.front
            exact ⟨v0, v1, v2, v3, F.last 0 rfl, F.last 1 rfl⟩⟩
        clear SA F
        have F := Lib.hid G
        have SA := Lib.hid SA0
        clear G SA0
        go_wp2_with fail
        go_region_held3 (fun w' => w'.cell? ⟨w2.heap.size, 0, none⟩ = some (.bool a1) ∧ w'.cell? ⟨w2.heap.size, 1, none⟩ = some (.string s1) ∧ w'.cell? ⟨w4.heap.size, 0, none⟩ = some (.bool bz) ∧ w'.cell? ⟨w4.heap.size, 1, none⟩ = some (.string tz) ∧ w'.cell? ⟨w6.heap.size, 0, none⟩ = some (.bool bz) ∧ w'.cell? ⟨w6.heap.size, 1, none⟩ = some (.string tz)) (first | with_reducible exact SA.out _ F.out | with_reducible exact SA.out _ F.out.drew) (first | (go_at_call 40; (with_reducible refine (KR.out _).mono ?_); rintro e w' ⟨rfl, h1⟩; (first | (with_reducible have F := Lib.hid (F.out.keep h1)) | (with_reducible have F := Lib.hid (F.out.drew.keep h1))); clear h1) | (go_at_call 24; (with_reducible refine (KC.out _).mono ?_); rintro e w' ⟨rfl, h1⟩; (first | (with_reducible have F := Lib.hid (F.out.keep h1)) | (with_reducible have F := Lib.hid (F.out.drew.keep h1))); clear h1) | (go_at_call 20; (first | (with_reducible refine (KN1.out _).mono ?_) | (with_reducible refine (KN2.out _).mono ?_)); rintro e w' ⟨rfl, h1⟩; (first | (with_reducible have F := Lib.hid (F.out.keep h1)) | (with_reducible have F := Lib.hid (F.out.drew.keep h1))); clear h1))
        go_wp2
        go_ret
        exact ⟨rfl, F.out.t⟩

end Go.Proofs.YtmiibcdcnoefgaaDoor
