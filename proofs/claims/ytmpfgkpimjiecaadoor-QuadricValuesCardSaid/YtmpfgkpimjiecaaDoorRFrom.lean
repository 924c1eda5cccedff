/- lithophaneref01.From. -/
import Derived.Test.YtmpfgkpimjiecaaDoorRefA
namespace Go.Proofs.YtmpfgkpimjiecaaDoor
open Go.RowKit Dg
theorem digs_step16 {M : Nat} (h : 0 < M) : digs 65536 M = (M % 65536) :: digs 65536 (M / 65536) := digs_pos (by decide) (by omega)

set_option maxHeartbeats 4000000 in
set_option maxRecDepth 100000 in
theorem rFrom (n : Int) (h1 : -9223372036854775808 ≤ n) (h2 : n ≤ 9223372036854775807) (w : World) :
    Calls Tryd.prog 40 #[.int .i64 n] w fun e w' => e = .returned (wz n) ∧ Tch [] w w' := by
  obtain ⟨i0, hi, hz0, hz1, hz2⟩ := info_parts info_int
  obtain ⟨br, sr, er⟩ : ∃ b s, wz n = .agg #[.bool b, .string s] := ⟨_, _, wz_mo _⟩
  have HE : Hid (wv (decide (n < 0)) n.natAbs = .agg #[.bool br, .string sr]) := Lib.hid (by rw [← er]; rfl)
  have ER := Lib.hid er
  clear er
  obtain ⟨m, hm⟩ : ∃ m : Int, m = (n.natAbs : Int) := ⟨_, rfl⟩
  have hm0 : 0 ≤ m := by omega
  have hm1 : m ≤ 9223372036854775808 := by omega
  have HM := Lib.hid hm
  have r1 : n < 0 → IntKind.u64.wrap (-(IntKind.u64.wrap n)) = m := by intro h; simp only [IntKind.wrap_u64]; omega
  have r2 : 0 ≤ n → IntKind.u64.wrap n = m := by intro h; simp only [IntKind.wrap_u64]; omega
  clear hm
  obtain ⟨w0, hw0⟩ : ∃ w0, w0 = w.alloc (.cells #[.bool false, .string ⟨#[]⟩] 26) := ⟨_, rfl⟩
  have hB0 : w0.heap[w.heap.size]? = some (.cells #[.bool false, .string ⟨#[]⟩] 26 (0, 0)) := by rw [hw0]; exact Below.heap_alloc_new' w _
  have hT0 : Tch [] w w0 := by rw [hw0]; exact (Tch.refl [] w).alloc _
  have fin : ∀ w1, Tch [] w0 w1 → w1.cell? ⟨w.heap.size, 0, none⟩ = some (.bool false) ∧ w1.cell? ⟨w.heap.size, 1, none⟩ = some (.string ⟨#[]⟩) ∧ w1.frozen? ⟨w.heap.size, 0, none⟩ = false ∧ w1.frozen? ⟨w.heap.size, 1, none⟩ = false ∧ Tch [] w w1 := by
    intro w1 h
    have hb := (h.block w.heap.size (by rw [hw0]; simp) (by simp)).trans hB0
    exact ⟨by rw [cell_of_row _ _ _ _ _ _ hb]; rfl, by rw [cell_of_row _ _ _ _ _ _ hb]; rfl, frozen_of_row _ _ _ _ _ hb, frozen_of_row _ _ _ _ _ hb, hT0.trans h (by simp)⟩
  have FIN := Lib.hid fin
  have HW := Lib.hid hw0
  clear fin hB0 hT0 hw0
  rcases (show n < 0 ∨ 0 ≤ n from by omega) with hn | hn
  · have R := r1 hn
    have HD : Hid (decide (n < 0) = true) := Lib.hid (by simpa using hn)
    clear r1 r2
    go_enter Tryd.func40, Tryd.ntmps40
    go_wp2
    rw [← HW.out]
    go_loopw [3, 4] (fun ul um wr => ∃ (ws : List Nat) (M : Nat) (mi : Int) (v : Value), v = ul ∧ um = .int .u64 mi ∧ Hid (mi = (M : Int)) ∧ 0 ≤ mi ∧ mi ≤ 9223372036854775808 ∧ Hid (ws ++ digs 65536 M = digs 65536 n.natAbs) ∧ Hid (Row w0.heap.size wr 3 .i64 v ws) ∧ Hid (Tch [] w0 wr)) (fun _ um _ => (intOf um).toNat)
    case atStart => exact ⟨[], n.natAbs, m, _, rfl, rfl, HM, hm0, hm1, Lib.hid rfl, Lib.hid Row.nil, Lib.hid (Tch.refl [] w0)⟩
    case round =>
      obtain ⟨ws, M, mi, v, rfl, rfl, hM, hp, hq, hD, hR, hT⟩ := hrel
      clear R hm0 hm1
      by_cases h0 : 0 < mi
      · have hMp : 0 < M := by have := hM.out; omega
        obtain ⟨y, hy⟩ : ∃ y : Nat, mi % 65536 = (y : Int) := ⟨(mi % 65536).toNat, by omega⟩
        have hy1 : y < 65536 := by omega
        have HY : Hid (y = M % 65536) := Lib.hid (by have := hM.out; omega)
        have HZ : Hid (mi / 65536 = ((M / 65536 : Nat) : Int)) := Lib.hid (by have := hM.out; omega)
        have HMS : Hid ((mi / 65536).toNat < mi.toNat) := Lib.hid (by omega)
        have HQ : Hid (0 ≤ mi / 65536 ∧ mi / 65536 ≤ 9223372036854775808) := Lib.hid (by omega)
        have HD2 : Hid ((ws ++ [y]) ++ digs 65536 (M / 65536) = digs 65536 n.natAbs) := Lib.hid (by rw [← hD.out, digs_step16 hMp, List.append_assoc, HY.out]; rfl)
        have HL : Hid (ws.length ≤ 100) := Lib.hid (by
          have e1 := congrArg List.length hD.out
          have e2 := digs_length_le (b := 65536) (k := 4) (by decide) (show n.natAbs < 65536 ^ 4 from by omega)
          rw [List.length_append] at e1; omega)
        clear hM hD
        go_wp2_with (at_builtin; refine wpList_app_row _ rfl _ _ 45 rfl 3 .i64 i0 Tryd.underlying45 hi hz0 hz1 (by omega) w0 v ws (hT.out.alloc _) (hR.out.kept ((Tch.refl [] wr).alloc _)) rfl ⟨wr.heap.size, 0, none⟩ 1 y rfl (by simp) (by have := HL.out; omega) ?_)
        intro v' w3 hR2 hT2
        have HR2 := Lib.hid hR2
        have HT2 := Lib.hid hT2
        clear hR2 hT2
        go_wp2
        refine ⟨⟨ws ++ [y], M / 65536, mi / 65536, v', rfl, rfl, HZ, HQ.out.1, HQ.out.2, HD2, HR2, HT2⟩, by simp [intOf]; omega⟩
      · obtain rfl : mi = 0 := by omega
        have hM0 : M = 0 := by have := hM.out; omega
        have HD3 : Hid (ws = digs 65536 n.natAbs) := Lib.hid (by rw [← hD.out, hM0, digs_zero, List.append_nil])
        have HR3 : Hid (Row w0.heap.size wr 3 .i64 v (digs 65536 n.natAbs)) := Lib.hid (by rw [← HD3.out]; exact hR.out)
        have CW := Lib.hid (rwide (decide (n < 0)) n.natAbs v wr HR3.out (by
          have e2 := digs_length_le (b := 65536) (k := 4) (by decide) (show n.natAbs < 65536 ^ 4 from by omega)
          omega))
        rw [HE.out, HD.out] at CW
        clear hM hD hR HD3 HR3 hM0 h0 hp hq
        go_wp2_with fail
        refine CW.out.mono ?_
        rintro e w6 ⟨rfl, hT6⟩
        obtain ⟨c0, c1, f0, f1, hT9⟩ := FIN.out w6 (hT.out.trans hT6 (by simp))
        have HT9 := Lib.hid hT9
        clear hT6 hT9
        go_wp2
        refine bodyPost_ret (v := .agg #[.bool br, .string sr]) (by simp [results, Tryd.results40, go_sem, c0, c1]) rfl ⟨by rw [ER.out], ?_⟩
        exact (HT9.out.setCell (.inr (by simp)) _).setCell (.inr (by simp)) _
  · have R := r2 hn
    clear r1 r2
    go_enter Tryd.func40, Tryd.ntmps40
    go_wp2
    rw [← HW.out]
    go_loopw [3, 4] (fun ul um wr => ∃ (ws : List Nat) (M : Nat) (mi : Int) (v : Value), v = ul ∧ um = .int .u64 mi ∧ Hid (mi = (M : Int)) ∧ 0 ≤ mi ∧ mi ≤ 9223372036854775808 ∧ Hid (ws ++ digs 65536 M = digs 65536 n.natAbs) ∧ Hid (Row w0.heap.size wr 3 .i64 v ws) ∧ Hid (Tch [] w0 wr)) (fun _ um _ => (intOf um).toNat)
    case atStart => exact ⟨[], n.natAbs, m, _, rfl, rfl, HM, hm0, hm1, Lib.hid rfl, Lib.hid Row.nil, Lib.hid (Tch.refl [] w0)⟩
    case round =>
      obtain ⟨ws, M, mi, v, rfl, rfl, hM, hp, hq, hD, hR, hT⟩ := hrel
      clear R hm0 hm1
      by_cases h0 : 0 < mi
      · have hMp : 0 < M := by have := hM.out; omega
        obtain ⟨y, hy⟩ : ∃ y : Nat, mi % 65536 = (y : Int) := ⟨(mi % 65536).toNat, by omega⟩
        have hy1 : y < 65536 := by omega
        have HY : Hid (y = M % 65536) := Lib.hid (by have := hM.out; omega)
        have HZ : Hid (mi / 65536 = ((M / 65536 : Nat) : Int)) := Lib.hid (by have := hM.out; omega)
        have HMS : Hid ((mi / 65536).toNat < mi.toNat) := Lib.hid (by omega)
        have HQ : Hid (0 ≤ mi / 65536 ∧ mi / 65536 ≤ 9223372036854775808) := Lib.hid (by omega)
        have HD2 : Hid ((ws ++ [y]) ++ digs 65536 (M / 65536) = digs 65536 n.natAbs) := Lib.hid (by rw [← hD.out, digs_step16 hMp, List.append_assoc, HY.out]; rfl)
        have HL : Hid (ws.length ≤ 100) := Lib.hid (by
          have e1 := congrArg List.length hD.out
          have e2 := digs_length_le (b := 65536) (k := 4) (by decide) (show n.natAbs < 65536 ^ 4 from by omega)
          rw [List.length_append] at e1; omega)
        clear hM hD
        go_wp2_with (at_builtin; refine wpList_app_row _ rfl _ _ 45 rfl 3 .i64 i0 Tryd.underlying45 hi hz0 hz1 (by omega) w0 v ws (hT.out.alloc _) (hR.out.kept ((Tch.refl [] wr).alloc _)) rfl ⟨wr.heap.size, 0, none⟩ 1 y rfl (by simp) (by have := HL.out; omega) ?_)
        intro v' w3 hR2 hT2
        have HR2 := Lib.hid hR2
        have HT2 := Lib.hid hT2
        clear hR2 hT2
        go_wp2
        refine ⟨⟨ws ++ [y], M / 65536, mi / 65536, v', rfl, rfl, HZ, HQ.out.1, HQ.out.2, HD2, HR2, HT2⟩, by simp [intOf]; omega⟩
      · obtain rfl : mi = 0 := by omega
        have hM0 : M = 0 := by have := hM.out; omega
        have HD3 : Hid (ws = digs 65536 n.natAbs) := Lib.hid (by rw [← hD.out, hM0, digs_zero, List.append_nil])
        have HR3 : Hid (Row w0.heap.size wr 3 .i64 v (digs 65536 n.natAbs)) := Lib.hid (by rw [← HD3.out]; exact hR.out)
        have CW := Lib.hid (rwide (decide (n < 0)) n.natAbs v wr HR3.out (by
          have e2 := digs_length_le (b := 65536) (k := 4) (by decide) (show n.natAbs < 65536 ^ 4 from by omega)
          omega))
        rw [HE.out] at CW
        clear hM hD hR HD3 HR3 hM0 h0 hp hq
        go_wp2_with fail
        refine CW.out.mono ?_
        rintro e w6 ⟨rfl, hT6⟩
        obtain ⟨c0, c1, f0, f1, hT9⟩ := FIN.out w6 (hT.out.trans hT6 (by simp))
        have HT9 := Lib.hid hT9
        clear hT6 hT9
        go_wp2
        refine bodyPost_ret (v := .agg #[.bool br, .string sr]) (by simp [results, Tryd.results40, go_sem, c0, c1]) rfl ⟨by rw [ER.out], ?_⟩
        exact (HT9.out.setCell (.inr (by simp)) _).setCell (.inr (by simp)) _

end Go.Proofs.YtmpfgkpimjiecaaDoor
