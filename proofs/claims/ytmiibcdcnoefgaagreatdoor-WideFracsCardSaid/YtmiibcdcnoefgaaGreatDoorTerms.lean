/- wide.terms. -/
import Derived.Test.YtmiibcdcnoefgaaGreatDoorRoot
namespace Go.Proofs.YtmiibcdcnoefgaaGreatDoor
open Go.RowKit Dg

/-- What terms answers: a numerator and a positive denominator. -/
def termsV (nn nd : Bool) (sn sd : ByteArray) : Value :=
  if 0 < sgn nd (bv (sb sd)) then .tuple #[.agg #[.bool nn, .string sn], .agg #[.bool nd, .string sd]] else .tuple #[.agg #[.bool false, .string ⟨#[]⟩], wv false 1]

set_option maxHeartbeats 4000000 in
set_option maxRecDepth 100000 in
theorem terms (nn nd : Bool) (sn sd : ByteArray) (w : World) :
    Calls Tryz.prog 27 #[.agg #[.bool nn, .string sn, .bool nd, .string sd]] w fun e w' => e = .returned (termsV nn nd sn sd) ∧ Tch [] w w' := by
  have CS := Lib.hid (fun w1 => Sign nd sd w1)
  have hF : ∀ w1, Calls Tryz.prog 15 #[.int .i64 1] w1 fun e w' => e = .returned (wv false 1) ∧ Tch [] w1 w' := fun w1 => From 1 (by omega) (by omega) w1
  obtain ⟨bz, sz, ez⟩ := wv_agg false 1
  rw [ez] at hF
  have HF := Lib.hid hF
  have EZ := Lib.hid ez
  clear hF ez
  obtain ⟨w0, hw0⟩ : ∃ w0, w0 = ((w.alloc (.cells #[.bool nn, .string sn, .bool nd, .string sd] 30)).alloc (.cells #[.bool false, .string ⟨#[]⟩] 28)).alloc (.cells #[.bool false, .string ⟨#[]⟩] 28) := ⟨_, rfl⟩
  have hT0 : Tch [] w w0 := by rw [hw0]; exact (((Tch.refl [] w).alloc _).alloc _).alloc _
  obtain ⟨hA0, hA1, hA2⟩ := boxes3 w (.cells #[.bool nn, .string sn, .bool nd, .string sd] 30) (.cells #[.bool false, .string ⟨#[]⟩] 28) (.cells #[.bool false, .string ⟨#[]⟩] 28)
  rw [← hw0] at hA0 hA1 hA2
  obtain ⟨A, hA⟩ : ∃ A, A = w.heap.size := ⟨_, rfl⟩
  have hz0 : w0.heap.size = A + 3 := by rw [hw0, hA]; simp
  rw [← hA] at hA0 hA1 hA2
  have fin : ∀ w1, Tch [] w0 w1 → (w1.cell? ⟨A, 0, none⟩ = some (.bool nn) ∧ w1.cell? ⟨A, 1, none⟩ = some (.string sn) ∧ w1.cell? ⟨A, 2, none⟩ = some (.bool nd) ∧ w1.cell? ⟨A, 3, none⟩ = some (.string sd)) ∧
      (w1.cell? ⟨A + 1, 0, none⟩ = some (.bool false) ∧ w1.cell? ⟨A + 1, 1, none⟩ = some (.string ⟨#[]⟩) ∧ w1.frozen? ⟨A + 1, 0, none⟩ = false ∧ w1.frozen? ⟨A + 1, 1, none⟩ = false) ∧
      (w1.cell? ⟨A + 1 + 1, 0, none⟩ = some (.bool false) ∧ w1.cell? ⟨A + 1 + 1, 1, none⟩ = some (.string ⟨#[]⟩) ∧ w1.frozen? ⟨A + 1 + 1, 0, none⟩ = false ∧ w1.frozen? ⟨A + 1 + 1, 1, none⟩ = false) ∧ Tch [] w w1 := by
    intro w1 h
    have hb := (h.block A (by omega) (by simp)).trans hA0
    have hc := (h.block (A + 1) (by omega) (by simp)).trans hA1
    have hd := (h.block (A + 1 + 1) (by omega) (by simp)).trans hA2
    exact ⟨⟨by rw [cell_of_row _ _ _ _ _ _ hb]; rfl, by rw [cell_of_row _ _ _ _ _ _ hb]; rfl, by rw [cell_of_row _ _ _ _ _ _ hb]; rfl, by rw [cell_of_row _ _ _ _ _ _ hb]; rfl⟩,
      ⟨by rw [cell_of_row _ _ _ _ _ _ hc]; rfl, by rw [cell_of_row _ _ _ _ _ _ hc]; rfl, frozen_of_row _ _ _ _ _ hc, frozen_of_row _ _ _ _ _ hc⟩,
      ⟨by rw [cell_of_row _ _ _ _ _ _ hd]; rfl, by rw [cell_of_row _ _ _ _ _ _ hd]; rfl, frozen_of_row _ _ _ _ _ hd, frozen_of_row _ _ _ _ _ hd⟩, hT0.trans h (by simp)⟩
  have FIN := Lib.hid fin
  have HA := Lib.hid hA
  have HW0 := Lib.hid hw0
  clear fin hA0 hA1 hA2 hz0 hT0 hw0 hA
  go_enter Tryz.func27, Tryz.ntmps27
  go_wp2_with fail
  rw [← HW0.out, ← HA.out]
  refine (CS.out _).mono ?_
  rintro e w1 ⟨rfl, hT1⟩
  obtain ⟨⟨a0, a1, a2, a3⟩, ⟨c0, c1, f0, f1⟩, ⟨d0, d1, g0, g1⟩, hT9⟩ := FIN.out w1 hT1
  have HT9 := Lib.hid hT9
  have HT1 := Lib.hid hT1
  clear hT9 hT1
  obtain ⟨E, hE⟩ : ∃ E, E = sgn nd (bv (sb sd)) := ⟨_, rfl⟩
  rw [← hE]
  by_cases hp : 0 < E
  · have HV : Hid (termsV nn nd sn sd = .tuple #[.agg #[.bool nn, .string sn], .agg #[.bool nd, .string sd]]) := Lib.hid (by unfold termsV; rw [← hE, if_pos hp])
    have hq : ¬ E ≤ 0 := by omega
    clear hE hp
    go_wp2
    go_region
    go_wp2
    refine bodyPost_ret (v := .tuple #[.agg #[.bool nn, .string sn], .agg #[.bool nd, .string sd]]) (by simp [results, Tryz.results27, go_sem, c0, c1, d0, d1]) rfl ⟨by rw [HV.out], ?_⟩
    have hAe := HA.out
    exact ((((HT9.out.setCell (.inr (by simp; omega)) _).setCell (.inr (by simp; omega)) _).setCell (.inr (by simp; omega)) _).setCell (.inr (by simp; omega)) _).drew
  · have hp0 : E ≤ 0 := by omega
    have HV : Hid (termsV nn nd sn sd = .tuple #[.agg #[.bool false, .string ⟨#[]⟩], .agg #[.bool bz, .string sz]]) := Lib.hid (by unfold termsV; rw [← hE, if_neg hp, EZ.out])
    clear hE hp
    go_wp2_with fail
    refine (HF.out _).mono ?_
    rintro e w2 ⟨rfl, hT2⟩
    clear a0 a1 a2 a3 c0 c1 f0 f1 d0 d1 g0 g1
    obtain ⟨⟨a0, a1, a2, a3⟩, ⟨c0, c1, f0, f1⟩, ⟨d0, d1, g0, g1⟩, hT9⟩ := FIN.out w2 (HT1.out.trans hT2 (by simp))
    clear hT2
    go_wp2
    refine bodyPost_ret (v := .tuple #[.agg #[.bool false, .string ⟨#[]⟩], .agg #[.bool bz, .string sz]]) (by simp [results, Tryz.results27, go_sem, c0, c1, d0, d1]) rfl ⟨by rw [HV.out], ?_⟩
    have hAe := HA.out
    exact (((hT9.setCell (.inr (by simp; omega)) _).setCell (.inr (by simp; omega)) _).setCell (.inr (by simp; omega)) _).setCell (.inr (by simp; omega)) _

end Go.Proofs.YtmiibcdcnoefgaaGreatDoor
