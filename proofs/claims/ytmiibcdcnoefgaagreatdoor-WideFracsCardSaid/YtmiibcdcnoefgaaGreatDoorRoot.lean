/- wide.Root. -/
import Derived.Test.YtmiibcdcnoefgaaGreatDoorRootW
namespace Go.Proofs.YtmiibcdcnoefgaaGreatDoor
open Go.RowKit Dg

/-- What Root answers, s the root of n. -/
def rootV (ng : Bool) (n s : Nat) : Value :=
  if n ≠ 0 ∧ ng = true then .tuple #[.agg #[.bool false, .string ⟨#[]⟩], .bool false] else .tuple #[wv false s, .bool true]

theorem boxesRoot (w : World) (o1 o2 : Obj) : ((w.alloc o1).alloc o2).heap[w.heap.size]? = some o1 ∧ ((w.alloc o1).alloc o2).heap[w.heap.size + 1]? = some o2 := by
  refine ⟨?_, ?_⟩
  · rw [Below.heap_alloc _ _ _ (by simp)]; exact Below.heap_alloc_new' w o1
  · have h := Below.heap_alloc_new' (w.alloc o1) o2
    rwa [World.size_alloc] at h

theorem wv_zero (b : Bool) : wv b 0 = .agg #[.bool false, .string ⟨#[]⟩] := by simp [wv]

set_option maxHeartbeats 4000000 in
set_option maxRecDepth 100000 in
theorem Root (ng : Bool) (sa : ByteArray) (s : Nat) (w : World) (ha : sa.size ≤ 400000) (hs : s * s ≤ bv (sb sa)) (hs2 : bv (sb sa) < (s + 1) * (s + 1)) :
    Calls Tryz.prog 17 #[.agg #[.bool ng, .string sa]] w fun e w' => e = .returned (rootV ng (bv (sb sa)) s) ∧ Tch [] w w' := by
  have CS := Lib.hid (fun w1 => Sign ng sa w1)
  have CD := Lib.hid (fun w1 => decode ng sa w1 (by omega))
  obtain ⟨w0, hw0⟩ : ∃ w0, w0 = (w.alloc (.cells #[.bool ng, .string sa] 28)).alloc (.cells #[.bool false, .string ⟨#[]⟩] 28) := ⟨_, rfl⟩
  have hT0 : Tch [] w w0 := by rw [hw0]; exact ((Tch.refl [] w).alloc _).alloc _
  obtain ⟨hA0, hR0⟩ := boxesRoot w (.cells #[.bool ng, .string sa] 28) (.cells #[.bool false, .string ⟨#[]⟩] 28)
  rw [← hw0] at hA0 hR0
  obtain ⟨A, hA⟩ : ∃ A, A = w.heap.size := ⟨_, rfl⟩
  have hz0 : w0.heap.size = A + 2 := by rw [hw0, hA]; simp
  rw [← hA] at hA0 hR0
  have HA := Lib.hid hA
  have HA0 := Lib.hid hA0
  have HR0 := Lib.hid hR0
  have fin : ∀ w1, Tch [] w0 w1 → w1.cell? ⟨A, 0, none⟩ = some (.bool ng) ∧ w1.cell? ⟨A, 1, none⟩ = some (.string sa) ∧ w1.cell? ⟨A + 1, 0, none⟩ = some (.bool false) ∧ w1.cell? ⟨A + 1, 1, none⟩ = some (.string ⟨#[]⟩) ∧ w1.frozen? ⟨A + 1, 0, none⟩ = false ∧ w1.frozen? ⟨A + 1, 1, none⟩ = false ∧ Tch [] w w1 := by
    intro w1 h
    have hb := (h.block A (by omega) (by simp)).trans hA0
    have hc := (h.block (A + 1) (by omega) (by simp)).trans hR0
    exact ⟨by rw [cell_of_row _ _ _ _ _ _ hb]; rfl, by rw [cell_of_row _ _ _ _ _ _ hb]; rfl, by rw [cell_of_row _ _ _ _ _ _ hc]; rfl, by rw [cell_of_row _ _ _ _ _ _ hc]; rfl, frozen_of_row _ _ _ _ _ hc, frozen_of_row _ _ _ _ _ hc, hT0.trans h (by simp)⟩
  have FIN := Lib.hid fin
  have HW0 := Lib.hid hw0
  clear fin hA0 hR0 hz0 hT0 hw0 hA
  go_enter Tryz.func17, Tryz.ntmps17
  go_wp2_with fail
  rw [← HW0.out, ← HA.out]
  refine (CS.out _).mono ?_
  rintro e w1 ⟨rfl, hT1⟩
  obtain ⟨a0, a1, c0, c1, f0, f1, hT9⟩ := FIN.out w1 hT1
  have HT9 := Lib.hid hT9
  have HT1 := Lib.hid hT1
  obtain ⟨n, hn⟩ : ∃ n, n = bv (sb sa) := ⟨_, rfl⟩
  have HN := Lib.hid hn
  clear hT9 hT1
  rw [← hn] at hs hs2 ⊢
  by_cases h0 : n = 0
  · have hs0 : s = 0 := by
      rcases Nat.eq_zero_or_pos s with h | h
      · exact h
      · have := Nat.mul_le_mul h h; omega
    have hsg : sgn ng n = 0 := by unfold sgn; rw [if_pos h0]
    have HV : Hid (rootV ng n s = .tuple #[.agg #[.bool false, .string ⟨#[]⟩], .bool true]) := Lib.hid (by unfold rootV; rw [if_neg (by omega), hs0, wv_zero])
    rw [hsg]
    clear hsg hs0 h0 hn hs hs2
    go_wp2
    refine bodyPost_ret (v := .tuple #[.agg #[.bool false, .string ⟨#[]⟩], .bool true]) (by simp [results, Tryz.results17, go_sem, c0, c1]) rfl ⟨by rw [← HN.out, HV.out], ?_⟩
    have hAe := HA.out
    exact (HT9.out.setCell (.inr (by simp; omega)) _).setCell (.inr (by simp; omega)) _
  · cases ng
    · have hsg : sgn false n = 1 := by unfold sgn; rw [if_neg h0, if_neg (by simp)]
      obtain ⟨X, hX⟩ : ∃ X, X = digs BB n := ⟨_, rfl⟩
      obtain ⟨bz, sz, ez⟩ := wv_agg false s
      have HV : Hid (rootV false n s = .tuple #[.agg #[.bool bz, .string sz], .bool true]) := Lib.hid (by unfold rootV; rw [if_neg (by simp), ez])
      have EZ := Lib.hid ez
      have hXd : dg BB X = n := by rw [hX, dg_digs BB2]
      have hXo : Ok BB X := by rw [hX]; exact digs_ok BB2 _
      have hXt : Trim X := by rw [hX]; exact digs_trim BB2 _
      have hXl : X.length ≤ 400000 := by rw [hX, hn]; exact Nat.le_trans (dec_len sa) ha
      have hXn : X ≠ [] := by
        intro h
        rw [h, dg_nil] at hXd
        omega
      have CR := fun g cap rest w1 hW => rootOfWords g cap 0 s [] rest X w1 hXo hXt hXn hXl (by rw [hXd]; exact hs) (by rw [hXd]; exact hs2) hW
      have CD2 := CD.out
      rw [← HN.out, ← hX] at CD2
      have hsl : (digs BB s).length ≤ 1000000 := by
        have h1 : s ≤ n := Nat.le_trans (Nat.le_mul_self s) hs
        have h2 := digs_length_mono BB2 h1
        rw [← hX] at h2
        omega
      have CE := fun g cap rest w1 hc hW => encode false g cap 0 [] rest (digs BB s) w1 (digs_ok BB2 _) hsl hc hW
      rw [dg_digs BB2, ez] at CE
      have HCR := Lib.hid CR
      have HCD := Lib.hid CD2
      have HCE := Lib.hid CE
      obtain ⟨S, hS⟩ : ∃ S, S = digs BB s := ⟨_, rfl⟩
      rw [← hS] at HCR HCE
      have HW9 := Lib.hid (fun w2 => FIN.out w2)
      rw [hsg]
      clear hsg h0 hn hX hs hs2 ez hXd hXo hXt hXn hXl hsl CR CD2 CE hS
      go_wp2_with fail
      refine (HCD.out _).mono ?_
      rintro e w2 ⟨g, cap, rfl, hO, hg, hT2⟩
      obtain ⟨rest, Wx⟩ := hO.win
      have HT2 := Lib.hid hT2
      clear hO hT2
      go_wp2_with fail
      refine (HCR.out g cap rest _ Wx).mono ?_
      rintro e w3 ⟨g3, cap3, rfl, hO3, hg3, hT3⟩
      obtain ⟨rest3, W3⟩ := hO3.win
      have HT3 := Lib.hid hT3
      have hle := hO3.le
      clear hO3 hT3 Wx
      go_wp2_with fail
      refine (HCE.out g3 cap3 rest3 _ hle W3).mono ?_
      rintro e w4 ⟨rfl, hT4⟩
      clear c0 c1 f0 f1
      obtain ⟨_, _, c0, c1, f0, f1, hT9⟩ := FIN.out w4 (((HT1.out.trans HT2.out (by simp)).trans HT3.out (by simp)).trans hT4 (by simp))
      clear hT4 W3
      go_wp2
      refine bodyPost_ret (v := .tuple #[.agg #[.bool bz, .string sz], .bool true]) (by simp [results, Tryz.results17, go_sem, c0, c1]) rfl ⟨by rw [← HN.out, HV.out], ?_⟩
      have hAe := HA.out
      exact (hT9.setCell (.inr (by simp; omega)) _).setCell (.inr (by simp; omega)) _
    · have hsg : sgn true n = -1 := by unfold sgn; rw [if_neg h0, if_pos rfl]
      have HV : Hid (rootV true n s = .tuple #[.agg #[.bool false, .string ⟨#[]⟩], .bool false]) := Lib.hid (by unfold rootV; rw [if_pos ⟨h0, rfl⟩])
      rw [hsg]
      clear hsg h0 hn hs hs2
      go_wp2
      refine bodyPost_ret (v := .tuple #[.agg #[.bool false, .string ⟨#[]⟩], .bool false]) (by simp [results, Tryz.results17, go_sem, c0, c1]) rfl ⟨by rw [← HN.out, HV.out], ?_⟩
      have hAe := HA.out
      exact (HT9.out.setCell (.inr (by simp; omega)) _).setCell (.inr (by simp; omega)) _

end Go.Proofs.YtmiibcdcnoefgaaGreatDoor
