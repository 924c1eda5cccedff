/- slices.Index and slices.Contains of the corners of a triangle. -/
import Derived.Test.YtmpfgkpimjiecaaDoorQa
namespace Go.Proofs.YtmpfgkpimjiecaaDoor
open Go Go.RowKit Dg

/-- Which corner of a triangle a point is. -/
def whichI (e f g : Bool) : Int := if e then 0 else if f then 1 else if g then 2 else -1
/-- A point is a corner. -/
def hasC (a b c v : P3) : Bool := ptE v a || ptE v b || ptE v c
theorem whichI_pos (e f g : Bool) : decide (0 ≤ whichI e f g) = (e || f || g) := by cases e <;> cases f <;> cases g <;> rfl
attribute [local go_sem ↓] eqlPt

set_option maxHeartbeats 4000000 in
set_option maxRecDepth 100000 in
theorem indexP (a b c v : P3) (g : Nat) (w : World) (hg : w.heap[g]? = some (.cells #[.int .i64 a.x, .int .i64 a.y, .int .i64 a.z, .int .i64 b.x, .int .i64 b.y, .int .i64 b.z, .int .i64 c.x, .int .i64 c.y, .int .i64 c.z] 31 (0, 0))) :
    Calls Tryd.prog 65 #[.slice (some ⟨g, 0, none⟩) 3 3, .agg #[.int .i64 v.x, .int .i64 v.y, .int .i64 v.z]] w fun e w' => e = .returned (.int .i64 (whichI (ptE v a) (ptE v b) (ptE v c))) ∧ Tch [] w w' := by
  obtain ⟨e1, h1⟩ : ∃ e1, e1 = ptE v a := ⟨_, rfl⟩
  obtain ⟨e2, h2⟩ : ∃ e2, e2 = ptE v b := ⟨_, rfl⟩
  obtain ⟨e3, h3⟩ : ∃ e3, e3 = ptE v c := ⟨_, rfl⟩
  have hl := (Array.getElem?_eq_some_iff.1 hg).1
  have F : Hid (Fr w (w.alloc (.cells #[.int .i64 v.x, .int .i64 v.y, .int .i64 v.z] 23)) [(w.heap.size, .cells #[.int .i64 v.x, .int .i64 v.y, .int .i64 v.z] 23 (0, 0))]) := Lib.hid ((Fr.nil w).add (.cells #[.int .i64 v.x, .int .i64 v.y, .int .i64 v.z] 23) w.heap.size rfl)
  have HG := Lib.hid (fun (w' : World) (h : Tch [] w w') => (h.block g hl (by simp)).trans hg)
  rw [← h1, ← h2, ← h3]
  have q1 := h1.symm
  have q2 := h2.symm
  have q3 := h3.symm
  clear hg hl h1 h2 h3
  go_enter Tryd.func65, Tryd.ntmps65
  go_wp2
  go_loopw [8] (fun i wr => ∃ k : Nat, k ≤ 3 ∧ i = .int .i64 (k : Int) ∧ Hid (Fr w wr [(w.heap.size, .cells #[.int .i64 v.x, .int .i64 v.y, .int .i64 v.z] 23 (0, 0))]) ∧ Hid ((0 < k → e1 = false) ∧ (1 < k → e2 = false) ∧ (2 < k → e3 = false)))
    (fun i _ => 3 - (intOf i).toNat)
  case atStart => exact ⟨0, by omega, rfl, F, Lib.hid ⟨fun h => absurd h (by omega), fun h => absurd h (by omega), fun h => absurd h (by omega)⟩⟩
  case round =>
    clear F
    obtain ⟨k, hk, rfl, F, HE⟩ := hrel
    have hb := HG.out wr F.out.t
    rcases (show k = 0 ∨ k = 1 ∨ k = 2 ∨ k = 3 by omega) with rfl | rfl | rfl | rfl
    · obtain ⟨a0, a1, a2⟩ := F.out.three 0 rfl
      have b0 : wr.cell? ⟨g, 0, none⟩ = some (.int .i64 a.x) := cell_of_row _ _ _ _ _ _ hb
      have b1 : wr.cell? ⟨g, 1, none⟩ = some (.int .i64 a.y) := cell_of_row _ _ _ _ _ _ hb
      have b2 : wr.cell? ⟨g, 2, none⟩ = some (.int .i64 a.z) := cell_of_row _ _ _ _ _ _ hb
      clear hb
      cases e1
      · have HE2 : Hid ((0 < 1 → false = false) ∧ (1 < 1 → e2 = false) ∧ (2 < 1 → e3 = false)) := Lib.hid ⟨fun h => rfl, fun h => absurd h (by omega), fun h => absurd h (by omega)⟩
        clear HE
        go_upto_region 4 with (fail)
        go_quiet (fail)
        go_wp2
        go_roundw
        case rel => exact ⟨1, by omega, by go_num, Lib.hid (F.out.drewN _), Lib.hid (by first | exact HE2.out | (have h := HE2.out; simp at h ⊢; done) | (have h := HE2.out; simp at h ⊢; exact h))⟩
        case measure => simp [intOf]
      · have HR : Hid (whichI true e2 e3 = 0) := Lib.hid (by rfl)
        clear HE
        go_upto_region 4 with (fail)
        go_quiet (fail)
        go_wp2
        go_ret
        exact ⟨by rw [HR.out]; rfl, F.out.t.drewN _⟩
    · obtain ⟨a0, a1, a2⟩ := F.out.three 0 rfl
      have b0 : wr.cell? ⟨g, 3, none⟩ = some (.int .i64 b.x) := cell_of_row _ _ _ _ _ _ hb
      have b1 : wr.cell? ⟨g, 4, none⟩ = some (.int .i64 b.y) := cell_of_row _ _ _ _ _ _ hb
      have b2 : wr.cell? ⟨g, 5, none⟩ = some (.int .i64 b.z) := cell_of_row _ _ _ _ _ _ hb
      have E1 := HE.out.1 (by omega)
      clear hb
      cases e2
      · have HE2 : Hid ((0 < 2 → e1 = false) ∧ (1 < 2 → false = false) ∧ (2 < 2 → e3 = false)) := Lib.hid ⟨fun h => E1, fun h => rfl, fun h => absurd h (by omega)⟩
        clear HE
        go_upto_region 4 with (fail)
        go_quiet (fail)
        go_wp2
        go_roundw
        case rel => exact ⟨2, by omega, by go_num, Lib.hid (F.out.drewN _), Lib.hid (by first | exact HE2.out | (have h := HE2.out; simp at h ⊢; done) | (have h := HE2.out; simp at h ⊢; exact h))⟩
        case measure => simp [intOf]
      · have HR : Hid (whichI e1 true e3 = 1) := Lib.hid (by rw [E1]; rfl)
        clear HE
        go_upto_region 4 with (fail)
        go_quiet (fail)
        go_wp2
        go_ret
        exact ⟨by rw [HR.out]; rfl, F.out.t.drewN _⟩
    · obtain ⟨a0, a1, a2⟩ := F.out.three 0 rfl
      have b0 : wr.cell? ⟨g, 6, none⟩ = some (.int .i64 c.x) := cell_of_row _ _ _ _ _ _ hb
      have b1 : wr.cell? ⟨g, 7, none⟩ = some (.int .i64 c.y) := cell_of_row _ _ _ _ _ _ hb
      have b2 : wr.cell? ⟨g, 8, none⟩ = some (.int .i64 c.z) := cell_of_row _ _ _ _ _ _ hb
      have E1 := HE.out.1 (by omega)
      have E2 := HE.out.2.1 (by omega)
      clear hb
      cases e3
      · have HE2 : Hid ((0 < 3 → e1 = false) ∧ (1 < 3 → e2 = false) ∧ (2 < 3 → false = false)) := Lib.hid ⟨fun h => E1, fun h => E2, fun h => rfl⟩
        clear HE
        go_upto_region 4 with (fail)
        go_quiet (fail)
        go_wp2
        go_roundw
        case rel => exact ⟨3, by omega, by go_num, Lib.hid (F.out.drewN _), Lib.hid (by first | exact HE2.out | (have h := HE2.out; simp at h ⊢; done) | (have h := HE2.out; simp at h ⊢; exact h))⟩
        case measure => simp [intOf]
      · have HR : Hid (whichI e1 e2 true = 2) := Lib.hid (by rw [E1, E2]; rfl)
        clear HE
        go_upto_region 4 with (fail)
        go_quiet (fail)
        go_wp2
        go_ret
        exact ⟨by rw [HR.out]; rfl, F.out.t.drewN _⟩
    · have HR : Hid (whichI e1 e2 e3 = -1) := Lib.hid (by rw [HE.out.1 (by omega), HE.out.2.1 (by omega), HE.out.2.2 (by omega)]; rfl)
      clear HE hb
      go_wp2
      go_ret
      exact ⟨by rw [HR.out]; rfl, F.out.t⟩

set_option maxHeartbeats 2000000 in
set_option maxRecDepth 100000 in
theorem containsP (a b c v : P3) (g : Nat) (w : World) (hg : w.heap[g]? = some (.cells #[.int .i64 a.x, .int .i64 a.y, .int .i64 a.z, .int .i64 b.x, .int .i64 b.y, .int .i64 b.z, .int .i64 c.x, .int .i64 c.y, .int .i64 c.z] 31 (0, 0))) :
    Calls Tryd.prog 48 #[.slice (some ⟨g, 0, none⟩) 3 3, .agg #[.int .i64 v.x, .int .i64 v.y, .int .i64 v.z]] w fun e w' => e = .returned (.bool (hasC a b c v)) ∧ Tch [] w w' := by
  have hl := (Array.getElem?_eq_some_iff.1 hg).1
  have c1 := indexP a b c v g (w.alloc (.cells #[.int .i64 v.x, .int .i64 v.y, .int .i64 v.z] 23)) ((((Tch.refl [] w).alloc (.cells #[.int .i64 v.x, .int .i64 v.y, .int .i64 v.z] 23)).block g hl (by simp)).trans hg)
  have hr := whichI_pos (ptE v a) (ptE v b) (ptE v c)
  obtain ⟨x, hx⟩ : ∃ x, x = whichI (ptE v a) (ptE v b) (ptE v c) := ⟨_, rfl⟩
  rw [← hx] at c1 hr
  have C1 := Lib.hid c1
  have HR : Hid (hasC a b c v = decide (0 ≤ x)) := Lib.hid hr.symm
  have F : Hid (Fr w (w.alloc (.cells #[.int .i64 v.x, .int .i64 v.y, .int .i64 v.z] 23)) [(w.heap.size, .cells #[.int .i64 v.x, .int .i64 v.y, .int .i64 v.z] 23 (0, 0))]) := Lib.hid ((Fr.nil w).add (.cells #[.int .i64 v.x, .int .i64 v.y, .int .i64 v.z] 23) w.heap.size rfl)
  clear c1 hr hg hl hx
  obtain ⟨a0, a1, a2⟩ := F.out.three 0 rfl
  go_enter Tryd.func48, Tryd.ntmps48
  go_wp2_with fail
  refine C1.out.mono ?_
  rintro e w1 ⟨rfl, hT⟩
  have F := Lib.hid (F.out.keep hT)
  clear hT a0 a1 a2
  go_wp2
  go_ret
  exact ⟨by rw [HR.out]; rfl, F.out.t⟩

end Go.Proofs.YtmpfgkpimjiecaaDoor
