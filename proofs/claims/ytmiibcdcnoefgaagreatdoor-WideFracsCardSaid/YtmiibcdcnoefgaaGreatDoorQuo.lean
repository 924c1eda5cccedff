/- wide.Quo. -/
import Derived.Test.YtmiibcdcnoefgaaGreatDoorAddSub
import Derived.Test.YtmiibcdcnoefgaaGreatDoorDivide
namespace Go.Proofs.YtmiibcdcnoefgaaGreatDoor
open Go.RowKit Dg

theorem boxes4 (w : World) (o1 o2 o3 o4 : Obj) : ((((w.alloc o1).alloc o2).alloc o3).alloc o4).heap[w.heap.size]? = some o1 ∧ ((((w.alloc o1).alloc o2).alloc o3).alloc o4).heap[w.heap.size + 1]? = some o2 ∧
    ((((w.alloc o1).alloc o2).alloc o3).alloc o4).heap[w.heap.size + 1 + 1]? = some o3 ∧ ((((w.alloc o1).alloc o2).alloc o3).alloc o4).heap[w.heap.size + 1 + 1 + 1]? = some o4 := by
  obtain ⟨a, b, c⟩ := boxes3 w o1 o2 o3
  refine ⟨?_, ?_, ?_, ?_⟩
  · rw [Below.heap_alloc _ _ _ (by simp; omega)]; exact a
  · rw [Below.heap_alloc _ _ _ (by simp)]; exact b
  · rw [Below.heap_alloc _ _ _ (by simp)]; exact c
  · have h := Below.heap_alloc_new' (((w.alloc o1).alloc o2).alloc o3) o4
    rwa [World.size_alloc, World.size_alloc, World.size_alloc] at h

theorem kept_storeR {w : World} {A : Nat} {x y v0 v1 u0 u1 : Value} (h : w.cell? ⟨A, 0, none⟩ = some v0 ∧ w.cell? ⟨A, 1, none⟩ = some v1 ∧ w.cell? ⟨A + 1, 0, none⟩ = some u0 ∧ w.cell? ⟨A + 1, 1, none⟩ = some u1) :
    ((w.setCell ⟨A + 1 + 1 + 1, 0, none⟩ x).setCell ⟨A + 1 + 1 + 1, 1, none⟩ y).cell? ⟨A, 0, none⟩ = some v0 ∧ ((w.setCell ⟨A + 1 + 1 + 1, 0, none⟩ x).setCell ⟨A + 1 + 1 + 1, 1, none⟩ y).cell? ⟨A, 1, none⟩ = some v1 ∧
    ((w.setCell ⟨A + 1 + 1 + 1, 0, none⟩ x).setCell ⟨A + 1 + 1 + 1, 1, none⟩ y).cell? ⟨A + 1, 0, none⟩ = some u0 ∧ ((w.setCell ⟨A + 1 + 1 + 1, 0, none⟩ x).setCell ⟨A + 1 + 1 + 1, 1, none⟩ y).cell? ⟨A + 1, 1, none⟩ = some u1 := by
  obtain ⟨a, b, c, d⟩ := h
  refine ⟨?_, ?_, ?_, ?_⟩
  all_goals rw [World.cell?_setCell_other _ _ _ _ (by simp <;> omega), World.cell?_setCell_other _ _ _ _ (by simp <;> omega)]
  all_goals assumption

/-- What Quo answers. -/
def quoV (na nb : Bool) (a b : Nat) : Value :=
  if b = 0 then .tuple #[.agg #[.bool false, .string ⟨#[]⟩], .agg #[.bool false, .string ⟨#[]⟩], .bool false] else .tuple #[wv (!(na == nb)) (a / b), wv na (a % b), .bool true]

set_option maxHeartbeats 4000000 in
set_option maxRecDepth 100000 in
theorem Quo (na nb : Bool) (sa sc : ByteArray) (w : World) (ha : sa.size ≤ 400000) (hb : sc.size ≤ 400000) :
    Calls Tryz.prog 16 #[.agg #[.bool na, .string sa], .agg #[.bool nb, .string sc]] w fun e w' => e = .returned (quoV na nb (bv (sb sa)) (bv (sb sc))) ∧ Tch [] w w' := by
  obtain ⟨ys, hys⟩ : ∃ ys, ys = digs BB (bv (sb sc)) := ⟨_, rfl⟩
  have D2 := Lib.hid (fun w1 => decode nb sc w1 (by omega))
  rw [← hys] at D2
  have HYS := Lib.hid hys
  go_enter Tryz.func16, Tryz.ntmps16
  go_wp2_with fail
  refine (D2.out _).mono ?_
  rintro e w1 ⟨gy, capy, rfl, hOy, hgy, hTy⟩
  obtain ⟨w0, hw0⟩ : ∃ w0, w0 = (((w.alloc (.cells #[.bool na, .string sa] 28)).alloc (.cells #[.bool nb, .string sc] 28)).alloc (.cells #[.bool false, .string ⟨#[]⟩] 28)).alloc (.cells #[.bool false, .string ⟨#[]⟩] 28) := ⟨_, rfl⟩
  obtain ⟨hA0, hA1, hR0, hR1⟩ := boxes4 w (.cells #[.bool na, .string sa] 28) (.cells #[.bool nb, .string sc] 28) (.cells #[.bool false, .string ⟨#[]⟩] 28) (.cells #[.bool false, .string ⟨#[]⟩] 28)
  rw [← hw0] at hA0 hA1 hR0 hR1 hgy hTy
  have hT0 : Tch [] w w0 := by rw [hw0]; exact ((((Tch.refl [] w).alloc _).alloc _).alloc _).alloc _
  have hz0 : w0.heap.size = w.heap.size + 4 := by rw [hw0]; simp
  have kA := (hTy.block _ (by rw [hz0]; omega) (by simp)).trans hA0
  have kB := (hTy.block _ (by rw [hz0]; omega) (by simp)).trans hA1
  have kQ := (hTy.block _ (by rw [hz0]; omega) (by simp)).trans hR0
  have kR := (hTy.block _ (by rw [hz0]; omega) (by simp)).trans hR1
  have hT1 := hT0.trans hTy (by simp)
  obtain ⟨A, hA⟩ : ∃ A, A = w.heap.size := ⟨_, rfl⟩
  rw [← hA] at kA kB kQ kR hz0 ⊢
  have HA := Lib.hid hA
  have hgA : A + 4 ≤ gy := by rw [← hz0]; exact hgy
  have hz1 : A + 4 ≤ w1.heap.size := by rw [← hz0]; exact hTy.size
  have HT1 := Lib.hid hT1
  have S1 : Hid (w1.cell? ⟨A, 0, none⟩ = some (.bool na) ∧ w1.cell? ⟨A, 1, none⟩ = some (.string sa) ∧ w1.cell? ⟨A + 1, 0, none⟩ = some (.bool nb) ∧ w1.cell? ⟨A + 1, 1, none⟩ = some (.string sc)) := by
    refine Lib.hid ⟨?_, ?_, ?_, ?_⟩
    · rw [cell_of_row _ _ _ _ _ _ kA]; rfl
    · rw [cell_of_row _ _ _ _ _ _ kA]; rfl
    · rw [cell_of_row _ _ _ _ _ _ kB]; rfl
    · rw [cell_of_row _ _ _ _ _ _ kB]; rfl
  have KQ := Lib.hid kQ
  have KR := Lib.hid kR
  have fin : ∀ w', Tch [gy] w1 w' → w'.cell? ⟨A + 1 + 1, 0, none⟩ = some (.bool false) ∧ w'.cell? ⟨A + 1 + 1, 1, none⟩ = some (.string ⟨#[]⟩) ∧ w'.frozen? ⟨A + 1 + 1, 0, none⟩ = false ∧ w'.frozen? ⟨A + 1 + 1, 1, none⟩ = false ∧
      w'.cell? ⟨A + 1 + 1 + 1, 0, none⟩ = some (.bool false) ∧ w'.cell? ⟨A + 1 + 1 + 1, 1, none⟩ = some (.string ⟨#[]⟩) ∧ w'.frozen? ⟨A + 1 + 1 + 1, 0, none⟩ = false ∧ w'.frozen? ⟨A + 1 + 1 + 1, 1, none⟩ = false ∧ Tch [] w w' := by
    intro w' h
    have hq := (h.block (A + 1 + 1) (by omega) (by simp; omega)).trans KQ.out
    have hr := (h.block (A + 1 + 1 + 1) (by omega) (by simp; omega)).trans KR.out
    exact ⟨by rw [cell_of_row _ _ _ _ _ _ hq]; rfl, by rw [cell_of_row _ _ _ _ _ _ hq]; rfl, frozen_of_row _ _ _ _ _ hq, frozen_of_row _ _ _ _ _ hq, by rw [cell_of_row _ _ _ _ _ _ hr]; rfl, by rw [cell_of_row _ _ _ _ _ _ hr]; rfl, frozen_of_row _ _ _ _ _ hr, frozen_of_row _ _ _ _ _ hr,
      HT1.out.trans h (by intro k hk; simp at hk; have := HA.out; exact .inr (by omega))⟩
  have FIN := Lib.hid fin
  clear fin kA kB kQ kR hA0 hA1 hR0 hR1 hw0 hTy hT0 hz0 hA hT1 hgy hys D2
  by_cases hy0 : ys = []
  · have h0 : Hid (bv (sb sc) = 0) := Lib.hid ((digs_eq_nil (b := BB) (by decide)).1 (HYS.out ▸ hy0))
    subst hy0
    obtain ⟨q0, q1, f0, f1, r0, r1, g0, g1, hT9⟩ := FIN.out w1 (Tch.refl _ _)
    have HT9 := Lib.hid hT9
    clear hT9
    go_wp2
    refine bodyPost_ret (v := .tuple #[.agg #[.bool false, .string ⟨#[]⟩], .agg #[.bool false, .string ⟨#[]⟩], .bool false]) (by simp [results, Tryz.results16, go_sem, q0, q1, r0, r1]) rfl ⟨?_, ?_⟩
    · unfold quoV; rw [if_pos h0.out]
    · exact (((HT9.out.setCell (.inr (by have := HA.out; simp; omega)) _).setCell (.inr (by have := HA.out; simp; omega)) _).setCell (.inr (by have := HA.out; simp; omega)) _).setCell (.inr (by have := HA.out; simp; omega)) _
  · have hyl : 0 < ys.length := List.length_pos_iff.2 hy0
    have hyl0 : ((ys.length : Int) == 0) = false := by simp; omega
    obtain ⟨xs, hxs⟩ : ∃ xs, xs = digs BB (bv (sb sa)) := ⟨_, rfl⟩
    have D1 := fun w2 => decode na sa w2 (by omega)
    rw [← hxs] at D1
    have HD1 := Lib.hid D1
    have hxo : Ok BB xs := by rw [hxs]; exact digs_ok (by decide) _
    have hxt : Trim xs := by rw [hxs]; exact digs_trim (by decide) _
    have hyo : Ok BB ys := by rw [HYS.out]; exact digs_ok (by decide) _
    have hyt : Trim ys := by rw [HYS.out]; exact digs_trim (by decide) _
    have hxl : xs.length ≤ 400000 := by rw [hxs]; exact Nat.le_trans (dec_len sa) ha
    have hyl' : ys.length ≤ 400000 := by rw [HYS.out]; exact Nat.le_trans (dec_len sc) hb
    have HVX : Hid (dg BB xs = bv (sb sa)) := Lib.hid (by rw [hxs, dg_digs (by decide)])
    have HVY : Hid (dg BB ys = bv (sb sc)) := Lib.hid (by rw [HYS.out, dg_digs (by decide)])
    have HY0 := Lib.hid hy0
    obtain ⟨ry, Wy⟩ := hOy.win
    have s0 := S1.out.1; have s1 := S1.out.2.1; have s2 := S1.out.2.2.1; have s3 := S1.out.2.2.2
    clear D1 hxs hy0
    go_wp2_with fail
    go_region_held3 (fun w' => w'.cell? ⟨A, 0, none⟩ = some (.bool na) ∧ w'.cell? ⟨A, 1, none⟩ = some (.string sa) ∧ w'.cell? ⟨A + 1, 0, none⟩ = some (.bool nb) ∧ w'.cell? ⟨A + 1, 1, none⟩ = some (.string sc)) (first | exact ⟨s0, s1, s2, s3⟩ | exact K1.out | exact K2.out | exact K3.out) (first | (go_at_call 36; refine (newWords _).mono ?_; rintro e w2 ⟨g0, rfl, hO0, hg0, hT2⟩; have K1 := Lib.hid (two_kept (by exact S1.out) hT2 (by simp) (by simp))) | (go_at_call 37; refine (HD1.out _).mono ?_; rintro e w3 ⟨g1, cap1, rfl, hO1, hg1, hT3⟩; have K2 := Lib.hid (two_kept K1.out hT3 (by simp) (by simp))) | (go_at_call 38; have hl0 := hO0.lt; have hly := hOy.lt; have O0' := hO0.kept hT3 (by simp); have Wy' := (((Wy.drew).kept hT2 (by simp)).kept hT3 (by simp)); have hg0' : w1.heap.size ≤ g0 := hg0; refine (divide g0 0 8 g1 cap1 gy capy 0 [] ry [] xs ys _ (by omega) (by omega) (by have := hT2.size; simp at this; omega) hxo hxt hyo hyt HY0.out (by omega) (by omega) O0' hO1 Wy').mono ?_; rintro e w4 ⟨⟨gq, capq, gr, capr, rfl, hOq, hOr, hgq, hgr, hqr, hT4⟩, _⟩; have K3 := Lib.hid (two_kept K2.out hT4 (by have := hT2.size; simp at this; simp; omega) (by have := hT2.size; simp at this; simp; omega))))
    have hsz12 : w1.heap.size ≤ w2.heap.size := hT2.size
    have hg1' : w1.heap.size ≤ g1 := by have := hg1; omega
    have hT14 : Tch [gy] w1 w4 := (((((Tch.refl [gy] w1).drew).trans hT2 (by simp)).trans hT3 (by simp)).trans hT4 (by intro k hk; simp at hk; simp; omega))
    have HT14 := Lib.hid hT14
    have HQV : Hid (digs BB (dg BB xs / dg BB ys) = digs BB (bv (sb sa) / bv (sb sc))) := Lib.hid (by rw [HVX.out, HVY.out])
    have HRV : Hid (digs BB (dg BB xs % dg BB ys) = digs BB (bv (sb sa) % bv (sb sc))) := Lib.hid (by rw [HVX.out, HVY.out])
    rw [HQV.out, HRV.out]
    rw [HQV.out] at hOq
    rw [HRV.out] at hOr
    obtain ⟨Q, hQ⟩ : ∃ Q, Q = digs BB (bv (sb sa) / bv (sb sc)) := ⟨_, rfl⟩
    obtain ⟨R, hR⟩ : ∃ R, R = digs BB (bv (sb sa) % bv (sb sc)) := ⟨_, rfl⟩
    rw [← hQ] at hOq ⊢
    rw [← hR] at hOr ⊢
    obtain ⟨rq, Wq⟩ := hOq.win
    obtain ⟨rr, Wr⟩ := hOr.win
    have hQl : Q.length ≤ 1000000 := by rw [hQ]; exact Nat.le_trans (digs_length_mono (by decide) (Nat.div_le_self _ _)) (Nat.le_trans (dec_len sa) (by omega))
    have hRl : R.length ≤ 1000000 := by rw [hR]; exact Nat.le_trans (digs_length_mono (by decide) (Nat.mod_le _ _)) (Nat.le_trans (dec_len sa) (by omega))
    obtain ⟨bq, sq, eq1⟩ := wv_agg (!(na == nb)) (bv (sb sa) / bv (sb sc))
    obtain ⟨br, sr, er1⟩ := wv_agg na (bv (sb sa) % bv (sb sc))
    have E1 := fun w5 h => encode (!(na == nb)) gq capq 0 [] rq Q w5 (by rw [hQ]; exact digs_ok (by decide) _) hQl hOq.le h
    have E2 := fun w5 h => encode na gr capr 0 [] rr R w5 (by rw [hR]; exact digs_ok (by decide) _) hRl hOr.le h
    rw [show dg BB Q = bv (sb sa) / bv (sb sc) from by rw [hQ, dg_digs (by decide)], eq1] at E1
    rw [show dg BB R = bv (sb sa) % bv (sb sc) from by rw [hR, dg_digs (by decide)], er1] at E2
    have HE1 := Lib.hid E1
    have HE2 := Lib.hid E2
    have EQ := Lib.hid eq1
    have ER := Lib.hid er1
    have t0 := K3.out.1; have t1 := K3.out.2.1; have t2 := K3.out.2.2.1; have t3 := K3.out.2.2.2
    clear hQ hR E1 E2 eq1 er1 hT14 hT2 hT3 hT4 K1 K2 hO0 hO1 hOq hOr O0' Wy' Wy hOy s0 s1 s2 s3
    go_wp2_with fail
    go_region_held3 (fun w' => w'.cell? ⟨A, 0, none⟩ = some (.bool na) ∧ w'.cell? ⟨A, 1, none⟩ = some (.string sa) ∧ w'.cell? ⟨A + 1, 0, none⟩ = some (.bool nb) ∧ w'.cell? ⟨A + 1, 1, none⟩ = some (.string sc)) (first | exact ⟨t0, t1, t2, t3⟩ | with_reducible exact K5.out | with_reducible exact K6.out | with_reducible exact kept_store K6.out | with_reducible exact kept_storeR K6.out | with_reducible exact kept_storeR (kept_store K6.out) | with_reducible exact kept_store (kept_storeR K6.out)) (first | (go_at_call_of 34 (Value.slice (some ⟨gq, 0, none⟩) Q.length capq); refine (HE1.out _ (by exact Wq)).mono ?_; rintro e w5 ⟨rfl, hT5⟩; have K5 := Lib.hid (two_kept K3.out (((Tch.refl [] w4).drew).trans hT5 (by simp)) (by simp) (by simp)); have Wr' := Wr.kept (((Tch.refl [] w4).drew).trans hT5 (by simp)) (by simp)) | (go_at_call_of 34 (Value.slice (some ⟨gr, 0, none⟩) R.length capr); refine (HE2.out _ (by exact Wr')).mono ?_; rintro e w6 ⟨rfl, hT6⟩; have K6 := Lib.hid (two_kept K5.out hT6 (by simp) (by simp)); have HT6 := Lib.hid (HT14.out.trans (((((Tch.refl [gy] w4).drew).trans hT5 (by simp)).trans hT6 (by simp))) (by simp)); obtain ⟨q0, q1, f0, f1, r0, r1, g00, g11, hT9⟩ := FIN.out _ HT6.out; have HT9 := Lib.hid hT9))
    go_wp2
    refine bodyPost_ret (v := .tuple #[.agg #[.bool bq, .string sq], .agg #[.bool br, .string sr], .bool true]) (by simp [results, Tryz.results16, go_sem, q0, q1, r0, r1]) rfl ⟨?_, ?_⟩
    · have hb0 : bv (sb sc) ≠ 0 := by
        intro h
        exact HY0.out (HYS.out.trans (by rw [h]; exact digs_zero BB))
      unfold quoV; rw [if_neg hb0, EQ.out, ER.out]
    · exact (((HT9.out.setCell (.inr (by have := HA.out; simp; omega)) _).setCell (.inr (by have := HA.out; simp; omega)) _).setCell (.inr (by have := HA.out; simp; omega)) _).setCell (.inr (by have := HA.out; simp; omega)) _

end Go.Proofs.YtmiibcdcnoefgaaGreatDoor
