/- wide.Add, wide.Sub. -/
import Derived.Test.YtmiibcdcnoefgaaDoorAddS
namespace Go.Proofs.YtmiibcdcnoefgaaDoor
open Go.RowKit Dg

theorem wz_agg (z : Int) : ∃ bz sz, wz z = .agg #[.bool bz, .string sz] := wv_agg _ _

/-- Behind a call that was handed what three new boxes hold. -/
theorem boxes_after {w w' : World} {na nb : Bool} {sa sc : ByteArray} (h : Tch [] (((w.alloc (.cells #[.bool na, .string sa] 27)).alloc (.cells #[.bool nb, .string sc] 27)).alloc (.cells #[.bool false, .string ⟨#[]⟩] 27)) w') :
    w'.cell? ⟨w.heap.size + 1 + 1, 0, none⟩ = some (.bool false) ∧ w'.cell? ⟨w.heap.size + 1 + 1, 1, none⟩ = some (.string ⟨#[]⟩) ∧ w'.frozen? ⟨w.heap.size + 1 + 1, 0, none⟩ = false ∧ w'.frozen? ⟨w.heap.size + 1 + 1, 1, none⟩ = false ∧ Tch [] w w' := by
  obtain ⟨_, _, hR0⟩ := boxes3 w (.cells #[.bool na, .string sa] 27) (.cells #[.bool nb, .string sc] 27) (.cells #[.bool false, .string ⟨#[]⟩] 27)
  have hb := (h.block (w.heap.size + 1 + 1) (by simp) (by simp)).trans hR0
  exact ⟨by rw [cell_of_row _ _ _ _ _ _ hb]; rfl, by rw [cell_of_row _ _ _ _ _ _ hb]; rfl, frozen_of_row _ _ _ _ _ hb, frozen_of_row _ _ _ _ _ hb, ((((Tch.refl [] w).alloc _).alloc _).alloc _).trans h (by simp)⟩

set_option maxHeartbeats 1000000 in
set_option maxRecDepth 100000 in
theorem Add (na nb : Bool) (sa sc : ByteArray) (w : World) (ha : sa.size ≤ 400000) (hb : sc.size ≤ 400000) :
    Calls Tryd.prog 16 #[.agg #[.bool na, .string sa], .agg #[.bool nb, .string sc]] w fun e w' => e = .returned (wz (zval na (bv (sb sa)) + zval nb (bv (sb sc)))) ∧ Tch [] w w' := by
  have C := fun w1 => addSigned na nb nb sa sc w1 ha hb
  obtain ⟨bz, sz, ez⟩ := wz_agg (zval na (bv (sb sa)) + zval nb (bv (sb sc)))
  rw [ez] at C
  have HC := Lib.hid C
  have EZ := Lib.hid ez
  clear C ez
  go_enter Tryd.func16, Tryd.ntmps16
  go_wp2_with fail
  refine (HC.out _).mono ?_
  rintro e w1 ⟨rfl, hT⟩
  obtain ⟨c0, c1, f0, f1, hT1⟩ := boxes_after hT
  have HT := Lib.hid hT1
  clear hT hT1
  go_wp2
  refine bodyPost_ret (v := .agg #[.bool bz, .string sz]) (by simp [results, Tryd.results16, go_sem, c0, c1]) rfl ⟨by rw [EZ.out], ?_⟩
  exact (HT.out.setCell (.inr (by simp; omega)) _).setCell (.inr (by simp; omega)) _

theorem zval_not (b : Bool) (n : Nat) : zval (!b) n = -zval b n := by
  unfold zval; cases b <;> simp

set_option maxHeartbeats 1000000 in
set_option maxRecDepth 100000 in
theorem Sub (na nb : Bool) (sa sc : ByteArray) (w : World) (ha : sa.size ≤ 400000) (hb : sc.size ≤ 400000) :
    Calls Tryd.prog 18 #[.agg #[.bool na, .string sa], .agg #[.bool nb, .string sc]] w fun e w' => e = .returned (wz (zval na (bv (sb sa)) - zval nb (bv (sb sc)))) ∧ Tch [] w w' := by
  have C := fun w1 => addSigned na nb (!nb) sa sc w1 ha hb
  obtain ⟨bz, sz, ez⟩ := wz_agg (zval na (bv (sb sa)) - zval nb (bv (sb sc)))
  rw [zval_not, ← Int.sub_eq_add_neg, ez] at C
  have HC := Lib.hid C
  have EZ := Lib.hid ez
  clear C ez
  go_enter Tryd.func18, Tryd.ntmps18
  go_wp2_with fail
  refine (HC.out _).mono ?_
  rintro e w1 ⟨rfl, hT⟩
  obtain ⟨c0, c1, f0, f1, hT1⟩ := boxes_after hT
  have HT := Lib.hid hT1
  clear hT hT1
  go_wp2
  refine bodyPost_ret (v := .agg #[.bool bz, .string sz]) (by simp [results, Tryd.results18, go_sem, c0, c1]) rfl ⟨by rw [EZ.out], ?_⟩
  exact (HT.out.setCell (.inr (by simp; omega)) _).setCell (.inr (by simp; omega)) _

end Go.Proofs.YtmiibcdcnoefgaaDoor
