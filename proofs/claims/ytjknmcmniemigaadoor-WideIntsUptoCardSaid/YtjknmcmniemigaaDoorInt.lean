/- wide.Int, lithophaneref01.Int, lithophaneref01.From. -/
import Derived.Test.YtjknmcmniemigaaDoorRef
namespace Go.Proofs.YtjknmcmniemigaaDoor
open Go.RowKit Dg

/-- What Int answers. -/
def intV (x : Int) : Value :=
  if -9223372036854775808 ≤ x ∧ x ≤ 9223372036854775807 then .tuple #[.int .i64 x, .bool true] else .tuple #[.int .i64 0, .bool false]

theorem intV_in {x : Int} (h1 : -9223372036854775808 ≤ x) (h2 : x ≤ 9223372036854775807) : intV x = .tuple #[.int .i64 x, .bool true] := by unfold intV; rw [if_pos ⟨h1, h2⟩]
theorem intV_out {x : Int} (h : x < -9223372036854775808 ∨ 9223372036854775807 < x) : intV x = .tuple #[.int .i64 0, .bool false] := by unfold intV; rw [if_neg (by omega)]

/-- Bytes without zeros in front, more than eight of them. -/
theorem bv_ge {l : List Nat} (hk : Ok 256 l) (ht : Trim l.reverse) (h : 8 < l.length) : 18446744073709551616 ≤ bv l := by
  have h1 : digs 256 (bv l) = l.reverse := by unfold bv; exact digs_dg (by decide) hk.reverse ht
  rcases Nat.lt_or_ge (bv l) 18446744073709551616 with h2 | h2
  · have h3 := digs_length_le (b := 256) (k := 8) (by decide) (show bv l < 256 ^ 8 from h2)
    rw [h1, List.length_reverse] at h3; omega
  · exact h2

theorem zval_abs (ng : Bool) (n : Nat) : zval ng n = if ng then -(n : Int) else (n : Int) := rfl

set_option maxHeartbeats 4000000 in
set_option maxRecDepth 100000 in
theorem intZ {ng : Bool} {s : ByteArray} {x : Int} (hx : zval ng (bv (sb s)) = x) (w : World) :
    Calls Tryd.prog 32 #[.agg #[.bool ng, .string s]] w fun e w' => e = .returned (intV x) ∧ Tch [] w w' := by
  have CM := Lib.hid (fun w1 => magnitude ng s w1)
  have hc := fun w1 (hT : Tch [] (w.alloc (.cells #[.bool ng, .string s] 27)) w1) => cell_kept0 (show (w.alloc (.cells #[.bool ng, .string s] 27)).cell? ⟨w.heap.size, 0, none⟩ = some (.bool ng) by simp) hT
  have HC := Lib.hid hc
  clear hc
  by_cases hL : (mg s).size ≤ 8
  · have CW := Lib.hid (fun w1 => wordOf (mg s) hL w1)
    rw [bv_mg] at CW
    have hlt : (bv (sb s) : Int) < 18446744073709551616 := by
      have h1 := bv_sb_lt (mg s)
      rw [bv_mg] at h1
      have h2 : 256 ^ (mg s).size ≤ 256 ^ 8 := Nat.pow_le_pow_right (by omega) hL
      have h3 : (256 : Nat) ^ 8 = 18446744073709551616 := by decide
      omega
    obtain ⟨m, hm⟩ : ∃ m : Int, (bv (sb s) : Int) = m := ⟨_, rfl⟩
    rw [hm] at CW hlt
    have h0 : 0 ≤ m := by omega
    have hxm : x = if ng then -m else m := by rw [← hx, zval_abs, hm]
    clear hm hx
    by_cases h1 : m ≤ 9223372036854775807
    · cases ng with
      | true =>
        obtain rfl : x = -m := by simpa using hxm
        have HV := Lib.hid (intV_in (x := -m) (by omega) (by omega))
        clear hxm
        go_enter Tryd.func32, Tryd.ntmps32
        go_wp2_with fail
        refine (CM.out _).mono ?_
        rintro e w1 ⟨rfl, hT⟩
        have c0 := HC.out _ hT
        have HT := Lib.hid (((Tch.refl [] w).alloc (.cells #[.bool true, .string s] 27)).trans hT (by simp))
        clear hT
        go_wp2_with fail
        refine (CW.out _).mono ?_
        rintro e w2 ⟨rfl, rfl⟩
        go_wp2
        go_ret2
        exact ⟨by rw [HV.out]; rfl, HT.out⟩
      | false =>
        obtain rfl : x = m := by simpa using hxm
        have HV := Lib.hid (intV_in (x := x) (by omega) h1)
        clear hxm
        go_enter Tryd.func32, Tryd.ntmps32
        go_wp2_with fail
        refine (CM.out _).mono ?_
        rintro e w1 ⟨rfl, hT⟩
        have c0 := HC.out _ hT
        have HT := Lib.hid (((Tch.refl [] w).alloc (.cells #[.bool false, .string s] 27)).trans hT (by simp))
        clear hT
        go_wp2_with fail
        refine (CW.out _).mono ?_
        rintro e w2 ⟨rfl, rfl⟩
        go_wp2
        go_ret2
        exact ⟨by rw [HV.out]; rfl, HT.out⟩
    · have h1' : 9223372036854775807 < m := by omega
      by_cases h2 : m = 9223372036854775808 ∧ ng = true
      · obtain ⟨rfl, rfl⟩ := h2
        obtain rfl : x = -9223372036854775808 := by simpa using hxm
        have HV := Lib.hid (intV_in (x := -9223372036854775808) (by omega) (by omega))
        clear hxm h1 h1' h0 hlt
        go_enter Tryd.func32, Tryd.ntmps32
        go_wp2_with fail
        refine (CM.out _).mono ?_
        rintro e w1 ⟨rfl, hT⟩
        have c0 := HC.out _ hT
        have HT := Lib.hid (((Tch.refl [] w).alloc (.cells #[.bool true, .string s] 27)).trans hT (by simp))
        clear hT
        go_wp2_with fail
        refine (CW.out _).mono ?_
        rintro e w2 ⟨rfl, rfl⟩
        go_wp2
        go_ret2
        exact ⟨by rw [HV.out]; rfl, HT.out⟩
      · have HV := Lib.hid (intV_out (x := x) (by rw [hxm]; cases ng <;> simp at h2 ⊢ <;> omega))
        cases ng with
        | true =>
          have hb : (m == 9223372036854775808) = false := by simp at h2 ⊢; omega
          clear hxm h1 h2
          go_enter Tryd.func32, Tryd.ntmps32
          go_wp2_with fail
          refine (CM.out _).mono ?_
          rintro e w1 ⟨rfl, hT⟩
          have c0 := HC.out _ hT
          have HT := Lib.hid (((Tch.refl [] w).alloc (.cells #[.bool true, .string s] 27)).trans hT (by simp))
          clear hT
          go_wp2_with fail
          refine (CW.out _).mono ?_
          rintro e w2 ⟨rfl, rfl⟩
          go_wp2
          go_ret2
          exact ⟨by rw [HV.out]; rfl, HT.out⟩
        | false =>
          clear hxm h1 h2
          go_enter Tryd.func32, Tryd.ntmps32
          go_wp2_with fail
          refine (CM.out _).mono ?_
          rintro e w1 ⟨rfl, hT⟩
          have c0 := HC.out _ hT
          have HT := Lib.hid (((Tch.refl [] w).alloc (.cells #[.bool false, .string s] 27)).trans hT (by simp))
          clear hT
          go_wp2_with fail
          refine (CW.out _).mono ?_
          rintro e w2 ⟨rfl, rfl⟩
          go_wp2
          all_goals (go_ret2; exact ⟨by rw [HV.out]; rfl, HT.out⟩)
  · have hb := bv_ge (sb_ok (mg s)) (trim_mg s) (by rw [sb_length]; omega)
    rw [bv_mg] at hb
    have HV := Lib.hid (intV_out (x := x) (by rw [← hx, zval_abs]; cases ng <;> simp <;> omega))
    clear hb hx
    go_enter Tryd.func32, Tryd.ntmps32
    go_wp2_with fail
    refine (CM.out _).mono ?_
    rintro e w1 ⟨rfl, hT⟩
    have HT := Lib.hid (((Tch.refl [] w).alloc (.cells #[.bool ng, .string s] 27)).trans hT (by simp))
    clear hT
    go_wp2
    go_ret2
    exact ⟨by rw [HV.out]; rfl, HT.out⟩

theorem digs_step16 {M : Nat} (h : 0 < M) : digs 65536 M = (M % 65536) :: digs 65536 (M / 65536) := digs_pos (by decide) (by omega)

set_option maxHeartbeats 4000000 in
set_option maxRecDepth 100000 in
theorem rFrom (n : Int) (h1 : -9223372036854775808 ≤ n) (h2 : n ≤ 9223372036854775807) (w : World) :
    Calls Tryd.prog 34 #[.int .i64 n] w fun e w' => e = .returned (wz n) ∧ Tch [] w w' := by
  obtain ⟨i0, hi, hz0, hz1, hz2⟩ := info_parts info_int
  obtain ⟨br, sr, er⟩ : ∃ b s, wz n = .agg #[.bool b, .string s] := ⟨_, _, wz_mo _⟩
  have HE : Hid (wv (decide (n < 0)) n.natAbs = .agg #[.bool br, .string sr]) := Lib.hid (by rw [← er]; rfl)
  have ER := Lib.hid er
  clear er
  obtain ⟨m, hm⟩ : ∃ m : Int, m = (n.natAbs : Int) := ⟨_, rfl⟩
  have hm0 : 0 ≤ m := by omega
  have hm1 : m ≤ 9223372036854775808 := by omega
  have HM := Lib.hid hm
  have r1 : n < 0 → IntKind.u64.wrap (-(IntKind.u64.wrap n)) = m := by intro h; simp only [IntKind.wrap_u64]; omega
  have r2 : 0 ≤ n → IntKind.u64.wrap n = m := by intro h; simp only [IntKind.wrap_u64]; omega
  clear hm
  obtain ⟨w0, hw0⟩ : ∃ w0, w0 = w.alloc (.cells #[.bool false, .string ⟨#[]⟩] 27) := ⟨_, rfl⟩
  have hB0 : w0.heap[w.heap.size]? = some (.cells #[.bool false, .string ⟨#[]⟩] 27 (0, 0)) := by rw [hw0]; exact Below.heap_alloc_new' w _
  have hT0 : Tch [] w w0 := by rw [hw0]; exact (Tch.refl [] w).alloc _
  have fin : ∀ w1, Tch [] w0 w1 → w1.cell? ⟨w.heap.size, 0, none⟩ = some (.bool false) ∧ w1.cell? ⟨w.heap.size, 1, none⟩ = some (.string ⟨#[]⟩) ∧ w1.frozen? ⟨w.heap.size, 0, none⟩ = false ∧ w1.frozen? ⟨w.heap.size, 1, none⟩ = false ∧ Tch [] w w1 := by
    intro w1 h
    have hb := (h.block w.heap.size (by rw [hw0]; simp) (by simp)).trans hB0
    exact ⟨by rw [cell_of_row _ _ _ _ _ _ hb]; rfl, by rw [cell_of_row _ _ _ _ _ _ hb]; rfl, frozen_of_row _ _ _ _ _ hb, frozen_of_row _ _ _ _ _ hb, hT0.trans h (by simp)⟩
  have FIN := Lib.hid fin
  have HW := Lib.hid hw0
  clear fin hB0 hT0 hw0
  rcases (show n < 0 ∨ 0 ≤ n from by omega) with hn | hn
  · have R := r1 hn
    have HD : Hid (decide (n < 0) = true) := Lib.hid (by simpa using hn)
    clear r1 r2
    go_enter Tryd.func34, Tryd.ntmps34
    go_wp2
    rw [← HW.out]
    go_loopw [3, 4] (fun ul um wr => ∃ (ws : List Nat) (M : Nat) (mi : Int) (v : Value), v = ul ∧ um = .int .u64 mi ∧ Hid (mi = (M : Int)) ∧ 0 ≤ mi ∧ mi ≤ 9223372036854775808 ∧ Hid (ws ++ digs 65536 M = digs 65536 n.natAbs) ∧ Hid (Row w0.heap.size wr 3 .i64 v ws) ∧ Hid (Tch [] w0 wr)) (fun _ um _ => (intOf um).toNat)
    case atStart => exact ⟨[], n.natAbs, m, _, rfl, rfl, HM, hm0, hm1, Lib.hid rfl, Lib.hid Row.nil, Lib.hid (Tch.refl [] w0)⟩
    case round =>
      obtain ⟨ws, M, mi, v, rfl, rfl, hM, hp, hq, hD, hR, hT⟩ := hrel
      clear R hm0 hm1
      by_cases h0 : 0 < mi
      · have hMp : 0 < M := by have := hM.out; omega
        obtain ⟨y, hy⟩ : ∃ y : Nat, mi % 65536 = (y : Int) := ⟨(mi % 65536).toNat, by omega⟩
        have hy1 : y < 65536 := by omega
        have HY : Hid (y = M % 65536) := Lib.hid (by have := hM.out; omega)
        have HZ : Hid (mi / 65536 = ((M / 65536 : Nat) : Int)) := Lib.hid (by have := hM.out; omega)
        have HMS : Hid ((mi / 65536).toNat < mi.toNat) := Lib.hid (by omega)
        have HQ : Hid (0 ≤ mi / 65536 ∧ mi / 65536 ≤ 9223372036854775808) := Lib.hid (by omega)
        have HD2 : Hid ((ws ++ [y]) ++ digs 65536 (M / 65536) = digs 65536 n.natAbs) := Lib.hid (by rw [← hD.out, digs_step16 hMp, List.append_assoc, HY.out]; rfl)
        have HL : Hid (ws.length ≤ 100) := Lib.hid (by
          have e1 := congrArg List.length hD.out
          have e2 := digs_length_le (b := 65536) (k := 4) (by decide) (show n.natAbs < 65536 ^ 4 from by omega)
          rw [List.length_append] at e1; omega)
        clear hM hD
        go_wp2_with (at_builtin; refine wpList_app_row _ rfl _ _ 62 rfl 3 .i64 i0 Tryd.underlying62 hi hz0 hz1 (by omega) w0 v ws (hT.out.alloc _) (hR.out.kept ((Tch.refl [] wr).alloc _)) rfl ⟨wr.heap.size, 0, none⟩ 1 y rfl (by simp) (by have := HL.out; omega) ?_)
        intro v' w3 hR2 hT2
        have HR2 := Lib.hid hR2
        have HT2 := Lib.hid hT2
        clear hR2 hT2
        go_wp2
        refine ⟨⟨ws ++ [y], M / 65536, mi / 65536, v', rfl, rfl, HZ, HQ.out.1, HQ.out.2, HD2, HR2, HT2⟩, by simp [intOf]; omega⟩
      · obtain rfl : mi = 0 := by omega
        have hM0 : M = 0 := by have := hM.out; omega
        have HD3 : Hid (ws = digs 65536 n.natAbs) := Lib.hid (by rw [← hD.out, hM0, digs_zero, List.append_nil])
        have HR3 : Hid (Row w0.heap.size wr 3 .i64 v (digs 65536 n.natAbs)) := Lib.hid (by rw [← HD3.out]; exact hR.out)
        have CW := Lib.hid (rwide (decide (n < 0)) n.natAbs v wr HR3.out (by
          have e2 := digs_length_le (b := 65536) (k := 4) (by decide) (show n.natAbs < 65536 ^ 4 from by omega)
          omega))
        rw [HE.out, HD.out] at CW
        clear hM hD hR HD3 HR3 hM0 h0 hp hq
        go_wp2_with fail
        refine CW.out.mono ?_
        rintro e w6 ⟨rfl, hT6⟩
        obtain ⟨c0, c1, f0, f1, hT9⟩ := FIN.out w6 (hT.out.trans hT6 (by simp))
        have HT9 := Lib.hid hT9
        clear hT6 hT9
        go_wp2
        refine bodyPost_ret (v := .agg #[.bool br, .string sr]) (by simp [results, Tryd.results34, go_sem, c0, c1]) rfl ⟨by rw [ER.out], ?_⟩
        exact (HT9.out.setCell (.inr (by simp)) _).setCell (.inr (by simp)) _
  · have R := r2 hn
    clear r1 r2
    go_enter Tryd.func34, Tryd.ntmps34
    go_wp2
    rw [← HW.out]
    go_loopw [3, 4] (fun ul um wr => ∃ (ws : List Nat) (M : Nat) (mi : Int) (v : Value), v = ul ∧ um = .int .u64 mi ∧ Hid (mi = (M : Int)) ∧ 0 ≤ mi ∧ mi ≤ 9223372036854775808 ∧ Hid (ws ++ digs 65536 M = digs 65536 n.natAbs) ∧ Hid (Row w0.heap.size wr 3 .i64 v ws) ∧ Hid (Tch [] w0 wr)) (fun _ um _ => (intOf um).toNat)
    case atStart => exact ⟨[], n.natAbs, m, _, rfl, rfl, HM, hm0, hm1, Lib.hid rfl, Lib.hid Row.nil, Lib.hid (Tch.refl [] w0)⟩
    case round =>
      obtain ⟨ws, M, mi, v, rfl, rfl, hM, hp, hq, hD, hR, hT⟩ := hrel
      clear R hm0 hm1
      by_cases h0 : 0 < mi
      · have hMp : 0 < M := by have := hM.out; omega
        obtain ⟨y, hy⟩ : ∃ y : Nat, mi % 65536 = (y : Int) := ⟨(mi % 65536).toNat, by omega⟩
        have hy1 : y < 65536 := by omega
        have HY : Hid (y = M % 65536) := Lib.hid (by have := hM.out; omega)
        have HZ : Hid (mi / 65536 = ((M / 65536 : Nat) : Int)) := Lib.hid (by have := hM.out; omega)
        have HMS : Hid ((mi / 65536).toNat < mi.toNat) := Lib.hid (by omega)
        have HQ : Hid (0 ≤ mi / 65536 ∧ mi / 65536 ≤ 9223372036854775808) := Lib.hid (by omega)
        have HD2 : Hid ((ws ++ [y]) ++ digs 65536 (M / 65536) = digs 65536 n.natAbs) := Lib.hid (by rw [← hD.out, digs_step16 hMp, List.append_assoc, HY.out]; rfl)
        have HL : Hid (ws.length ≤ 100) := Lib.hid (by
          have e1 := congrArg List.length hD.out
          have e2 := digs_length_le (b := 65536) (k := 4) (by decide) (show n.natAbs < 65536 ^ 4 from by omega)
          rw [List.length_append] at e1; omega)
        clear hM hD
        go_wp2_with (at_builtin; refine wpList_app_row _ rfl _ _ 62 rfl 3 .i64 i0 Tryd.underlying62 hi hz0 hz1 (by omega) w0 v ws (hT.out.alloc _) (hR.out.kept ((Tch.refl [] wr).alloc _)) rfl ⟨wr.heap.size, 0, none⟩ 1 y rfl (by simp) (by have := HL.out; omega) ?_)
        intro v' w3 hR2 hT2
        have HR2 := Lib.hid hR2
        have HT2 := Lib.hid hT2
        clear hR2 hT2
        go_wp2
        refine ⟨⟨ws ++ [y], M / 65536, mi / 65536, v', rfl, rfl, HZ, HQ.out.1, HQ.out.2, HD2, HR2, HT2⟩, by simp [intOf]; omega⟩
      · obtain rfl : mi = 0 := by omega
        have hM0 : M = 0 := by have := hM.out; omega
        have HD3 : Hid (ws = digs 65536 n.natAbs) := Lib.hid (by rw [← hD.out, hM0, digs_zero, List.append_nil])
        have HR3 : Hid (Row w0.heap.size wr 3 .i64 v (digs 65536 n.natAbs)) := Lib.hid (by rw [← HD3.out]; exact hR.out)
        have CW := Lib.hid (rwide (decide (n < 0)) n.natAbs v wr HR3.out (by
          have e2 := digs_length_le (b := 65536) (k := 4) (by decide) (show n.natAbs < 65536 ^ 4 from by omega)
          omega))
        rw [HE.out] at CW
        clear hM hD hR HD3 HR3 hM0 h0 hp hq
        go_wp2_with fail
        refine CW.out.mono ?_
        rintro e w6 ⟨rfl, hT6⟩
        obtain ⟨c0, c1, f0, f1, hT9⟩ := FIN.out w6 (hT.out.trans hT6 (by simp))
        have HT9 := Lib.hid hT9
        clear hT6 hT9
        go_wp2
        refine bodyPost_ret (v := .agg #[.bool br, .string sr]) (by simp [results, Tryd.results34, go_sem, c0, c1]) rfl ⟨by rw [ER.out], ?_⟩
        exact (HT9.out.setCell (.inr (by simp)) _).setCell (.inr (by simp)) _

/-- The digits from the i-th one on make a number that fits. -/
theorem int_step {X : List Nat} {j : Nat} (hj : j < X.length) : dg 65536 (X.drop j) = X.getD j 0 + 65536 * dg 65536 (X.drop (j + 1)) := dg_drop 65536 X j hj

set_option maxHeartbeats 4000000 in
set_option maxRecDepth 100000 in
theorem rInt {ng : Bool} {s : ByteArray} {x : Int} (hx : zval ng (bv (sb s)) = x) (hs : s.size ≤ 1000000) (w : World) :
    Calls Tryd.prog 33 #[.agg #[.bool ng, .string s]] w fun e w' => e = .returned (intV x) ∧ Tch [] w w' := by
  have C1 := Lib.hid (fun w1 => rdigits ng s w1 hs)
  obtain ⟨X, hX⟩ : ∃ X, digs 65536 (bv (sb s)) = X := ⟨_, rfl⟩
  have hXo : Ok 65536 X := by rw [← hX]; exact digs_ok (by decide) _
  have hXv : dg 65536 X = bv (sb s) := by rw [← hX]; exact dg_digs (by decide) _
  have hXt : Trim X := by rw [← hX]; exact digs_trim (by decide) _
  rw [hX] at C1
  have hc := fun w1 (hT : Tch [] (w.alloc (.cells #[.bool ng, .string s] 27)) w1) => cell_kept0 (show (w.alloc (.cells #[.bool ng, .string s] 27)).cell? ⟨w.heap.size, 0, none⟩ = some (.bool ng) by simp) hT
  have HC := Lib.hid hc
  clear hc hX
  by_cases hL : X.length ≤ 4
  · have hlt : (bv (sb s) : Int) < 18446744073709551616 := by
      have h1 := dg_lt hXo
      rw [hXv] at h1
      have h2 : 65536 ^ X.length ≤ 65536 ^ 4 := Nat.pow_le_pow_right (by omega) hL
      have h3 : (65536 : Nat) ^ 4 = 18446744073709551616 := by decide
      omega
    obtain ⟨m, hm⟩ : ∃ m : Int, (bv (sb s) : Int) = m := ⟨_, rfl⟩
    have HM : Hid ((dg 65536 X : Nat) = m) := Lib.hid (by rw [hXv, hm])
    rw [hm] at hlt
    have h0 : 0 ≤ m := by omega
    have HXM : Hid (x = if ng then -m else m) := Lib.hid (by rw [← hx, zval_abs, hm])
    have HO := Lib.hid hXo
    clear hm hx hXo hXv hXt
    go_enter Tryd.func33, Tryd.ntmps33
    go_wp2_with fail
    refine (C1.out _).mono ?_
    rintro e w3 ⟨⟨v1, rfl, hR1⟩, hT⟩
    obtain ⟨A1, k1, rfl, hR⟩ := Rd.of_row hR1 (Nat.le_refl _)
    have HT := Lib.hid hT
    have HR := Lib.hid hR
    clear hT hR1 hR
    have c0 := HC.out _ HT.out
    have HTT := Lib.hid (((Tch.refl [] w).alloc (.cells #[.bool ng, .string s] 27)).trans HT.out (by simp))
    clear HC HT
    go_wp2
    go_loop [5, 6] (fun um ui => ∃ (j : Nat) (I M : Int), um = .int .u64 M ∧ ui = .int .i64 I ∧ Hid (I = (j : Int) - 1) ∧ j ≤ X.length ∧ Hid (((dg 65536 (X.drop j) : Nat) : Int) = M) ∧ 0 ≤ M) (fun _ ui => (intOf ui + 1).toNat)
    case atStart => exact ⟨X.length, _, 0, rfl, rfl, Lib.hid rfl, Nat.le_refl _, Lib.hid (by rw [List.drop_length]; rfl), by omega⟩
    case round =>
      obtain ⟨j, I, M, rfl, rfl, hI, hj, hM, hM0⟩ := hrel
      cases j with
      | zero =>
        obtain rfl : I = -1 := by have := hI.out; omega
        obtain rfl : M = m := by
          have h1 := hM.out
          rw [List.drop_zero] at h1
          rw [← h1]; exact HM.out
        clear hI hj hM HM HR
        by_cases hb : M ≤ 9223372036854775807
        · have hb2 : M ≤ 9223372036854775808 := by omega
          have hb3 : ¬ M ≥ 9223372036854775808 := by omega
          obtain ⟨q, hq⟩ : ∃ q : Int, IntKind.u64.wrap (-M) = q := ⟨_, rfl⟩
          have hq2 : IntKind.i64.wrap q = -M := by rw [← hq]; simp only [IntKind.wrap_u64, IntKind.wrap_i64]; omega
          cases ng with
          | true =>
            obtain rfl : x = -M := by simpa using HXM.out
            have HV := Lib.hid (intV_in (x := -M) (by omega) (by omega))
            go_wp2
            go_ret2
            exact ⟨by rw [HV.out]; rfl, HTT.out⟩
          | false =>
            obtain rfl : x = M := by simpa using HXM.out
            have HV := Lib.hid (intV_in (x := x) (by omega) hb)
            clear hq hq2
            go_wp2
            go_ret2
            exact ⟨by rw [HV.out]; rfl, HTT.out⟩
        · have hb3 : 9223372036854775808 ≤ M := by omega
          cases ng with
          | true =>
            by_cases hb4 : M ≤ 9223372036854775808
            · obtain rfl : M = 9223372036854775808 := by omega
              obtain rfl : x = -9223372036854775808 := by simpa using HXM.out
              have HV := Lib.hid (intV_in (x := -9223372036854775808) (by omega) (by omega))
              clear hb hb3 hb4 h0 hlt hM0
              go_wp2
              go_ret2
              have hk : wrap64 (IntKind.u64.wrap (-9223372036854775808)) = -9223372036854775808 := by simp only [IntKind.wrap_u64]; unfold wrap64; omega
              exact ⟨by rw [HV.out]; show Ending.returned (.tuple #[.int .i64 (wrap64 (IntKind.u64.wrap (-9223372036854775808))), .bool true]) = _; rw [hk], HTT.out⟩
            · have HV := Lib.hid (intV_out (x := x) (by have := HXM.out; simp at this; omega))
              have hb5 : 9223372036854775808 < M := by omega
              clear hb4 hb
              go_wp2
              go_ret2
              exact ⟨by rw [HV.out]; rfl, HTT.out⟩
          | false =>
            have HV := Lib.hid (intV_out (x := x) (by have := HXM.out; simp at this; omega))
            clear hb
            go_wp2
            all_goals (go_ret2; exact ⟨by rw [HV.out]; rfl, HTT.out⟩)
      | succ j =>
        obtain rfl : I = (j : Int) := by have := hI.out; omega
        have hjx : j < X.length := by omega
        obtain ⟨gA, rfl, y, ey, cy⟩ := HR.out.read hjx
        have hyb : y < 65536 := by rw [← ey.out]; exact HO.out.getD (by decide) j
        have hMb : M ≤ 281474976710655 := by
          have h1 := dg_lt (HO.out.drop (j + 1))
          rw [List.length_drop] at h1
          have h2 : 65536 ^ (X.length - (j + 1)) ≤ 65536 ^ 3 := Nat.pow_le_pow_right (by omega) (by omega)
          have h3 : (65536 : Nat) ^ 3 = 281474976710656 := by decide
          have h4 := hM.out
          omega
        have HM2 : Hid (((dg 65536 (X.drop j) : Nat) : Int) = M * 65536 + (y : Int)) := Lib.hid (by
          rw [int_step hjx, ← hM.out, show X.getD j 0 = y from ey.out]; omega)
        clear hI hM h0 hlt HM
        go_wp2
        exact ⟨⟨j, _, M * 65536 + (y : Int), rfl, rfl, Lib.hid rfl, by omega, HM2, by omega⟩, by simp [intOf]⟩
  · have hge : 18446744073709551616 ≤ bv (sb s) := by
      rcases Nat.lt_or_ge (bv (sb s)) 18446744073709551616 with h2 | h2
      · have h3 := digs_length_le (b := 65536) (k := 4) (by decide) (show bv (sb s) < 65536 ^ 4 from h2)
        rw [← hXv, digs_dg (by decide) hXo hXt] at h3; omega
      · exact h2
    have HV := Lib.hid (intV_out (x := x) (by rw [← hx, zval_abs]; cases ng <;> simp <;> omega))
    have hL2 : 4 < X.length := by omega
    clear hge hx hXo hXv hXt hL
    go_enter Tryd.func33, Tryd.ntmps33
    go_wp2_with fail
    refine (C1.out _).mono ?_
    rintro e w3 ⟨⟨v1, rfl, hR1⟩, hT⟩
    obtain ⟨A1, k1, rfl, hR⟩ := Rd.of_row hR1 (Nat.le_refl _)
    have HTT := Lib.hid (((Tch.refl [] w).alloc (.cells #[.bool ng, .string s] 27)).trans hT (by simp))
    clear hT hR1 hR HC
    go_wp2
    go_ret2
    exact ⟨by rw [HV.out]; rfl, HTT.out⟩

end Go.Proofs.YtjknmcmniemigaaDoor
