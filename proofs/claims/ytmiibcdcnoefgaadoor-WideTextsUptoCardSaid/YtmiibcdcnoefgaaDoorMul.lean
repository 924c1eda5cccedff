/- wide.Mul. -/
import Derived.Test.YtmiibcdcnoefgaaDoorDecode
import Derived.Test.YtmiibcdcnoefgaaDoorEncode
import Derived.Test.YtmiibcdcnoefgaaDoorMulW
namespace Go.Proofs.YtmiibcdcnoefgaaDoor
open Go.RowKit Dg

theorem two_kept {w w' : World} {S : List Nat} {B C : Nat} {v0 v1 u0 u1 : Value} (h : w.cell? ⟨B, 0, none⟩ = some v0 ∧ w.cell? ⟨B, 1, none⟩ = some v1 ∧ w.cell? ⟨C, 0, none⟩ = some u0 ∧ w.cell? ⟨C, 1, none⟩ = some u1) (ht : Tch S w w') (hB : B ∉ S) (hC : C ∉ S) :
    w'.cell? ⟨B, 0, none⟩ = some v0 ∧ w'.cell? ⟨B, 1, none⟩ = some v1 ∧ w'.cell? ⟨C, 0, none⟩ = some u0 ∧ w'.cell? ⟨C, 1, none⟩ = some u1 :=
  ⟨cell_kept2 h.1 ht hB, cell_kept2 h.2.1 ht hB, cell_kept2 h.2.2.1 ht hC, cell_kept2 h.2.2.2 ht hC⟩

theorem boxes3 (w : World) (o1 o2 o3 : Obj) : (((w.alloc o1).alloc o2).alloc o3).heap[w.heap.size]? = some o1 ∧ (((w.alloc o1).alloc o2).alloc o3).heap[w.heap.size + 1]? = some o2 ∧ (((w.alloc o1).alloc o2).alloc o3).heap[w.heap.size + 1 + 1]? = some o3 := by
  refine ⟨?_, ?_, ?_⟩
  · rw [Below.heap_alloc _ _ _ (by simp; omega), Below.heap_alloc _ _ _ (by simp)]; exact Below.heap_alloc_new' w o1
  · rw [Below.heap_alloc _ _ _ (by simp)]
    have h := Below.heap_alloc_new' (w.alloc o1) o2
    rwa [World.size_alloc] at h
  · have h := Below.heap_alloc_new' ((w.alloc o1).alloc o2) o3
    rwa [World.size_alloc, World.size_alloc] at h

theorem mul_tch {w0 w1 w2 w3 w4 w5 : World} {g : Nat} (h1 : Tch [] w0.drew w1) (h2 : Tch [] w1 w2) (h3 : Tch [] w2 w3) (h4 : Tch [g] w3 w4) (h5 : Tch [] w4 w5) : Tch [g] w0 w5 :=
  (((((Tch.drew (Tch.refl [g] w0)).trans h1 (by simp)).trans h2 (by simp)).trans h3 (by simp)).trans h4 (by simp)).trans h5 (by simp)

theorem kept_store {w : World} {A : Nat} {x y v0 v1 u0 u1 : Value} (h : w.cell? ⟨A, 0, none⟩ = some v0 ∧ w.cell? ⟨A, 1, none⟩ = some v1 ∧ w.cell? ⟨A + 1, 0, none⟩ = some u0 ∧ w.cell? ⟨A + 1, 1, none⟩ = some u1) :
    ((w.setCell ⟨A + 1 + 1, 0, none⟩ x).setCell ⟨A + 1 + 1, 1, none⟩ y).cell? ⟨A, 0, none⟩ = some v0 ∧ ((w.setCell ⟨A + 1 + 1, 0, none⟩ x).setCell ⟨A + 1 + 1, 1, none⟩ y).cell? ⟨A, 1, none⟩ = some v1 ∧
    ((w.setCell ⟨A + 1 + 1, 0, none⟩ x).setCell ⟨A + 1 + 1, 1, none⟩ y).cell? ⟨A + 1, 0, none⟩ = some u0 ∧ ((w.setCell ⟨A + 1 + 1, 0, none⟩ x).setCell ⟨A + 1 + 1, 1, none⟩ y).cell? ⟨A + 1, 1, none⟩ = some u1 := by
  obtain ⟨a, b, c, d⟩ := h
  refine ⟨?_, ?_, ?_, ?_⟩
  all_goals rw [World.cell?_setCell_other _ _ _ _ (by simp), World.cell?_setCell_other _ _ _ _ (by simp)]
  all_goals assumption

theorem dec_len (s : ByteArray) : (digs BB (bv (sb s))).length ≤ s.size := by
  refine digs_length_le (by decide) (Nat.lt_of_lt_of_le (bv_lt (sb_ok s)) ?_)
  rw [sb_length]
  exact Nat.pow_le_pow_left (by decide) _

theorem wv_agg (b : Bool) (n : Nat) : ∃ bz sz, wv b n = .agg #[.bool bz, .string sz] := by
  unfold wv
  split
  · exact ⟨_, _, rfl⟩
  · exact ⟨_, _, rfl⟩

set_option maxHeartbeats 4000000 in
set_option maxRecDepth 100000 in
theorem Mul (na nb : Bool) (sa sb' : ByteArray) (w : World) (ha : sa.size ≤ 400000) (hb : sb'.size ≤ 400000) :
    Calls Tryd.prog 26 #[.agg #[.bool na, .string sa], .agg #[.bool nb, .string sb']] w fun e w' => e = .returned (wv (!(na == nb)) (bv (sb sa) * bv (sb sb'))) ∧ Tch [] w w' := by
  go_enter Tryd.func26, Tryd.ntmps26
  go_wp2_with fail
  obtain ⟨w0, hw0⟩ : ∃ w0, w0 = ((w.alloc (.cells #[.bool na, .string sa] 27)).alloc (.cells #[.bool nb, .string sb'] 27)).alloc (.cells #[.bool false, .string ⟨#[]⟩] 27) := ⟨_, rfl⟩
  have hT0 : Tch [] w w0 := by rw [hw0]; exact (((Tch.refl [] w).alloc _).alloc _).alloc _
  obtain ⟨hA0, hA1, hR0⟩ := boxes3 w (.cells #[.bool na, .string sa] 27) (.cells #[.bool nb, .string sb'] 27) (.cells #[.bool false, .string ⟨#[]⟩] 27)
  rw [← hw0] at hA0 hA1 hR0
  have hS0 : w0.cell? ⟨w.heap.size, 0, none⟩ = some (.bool na) ∧ w0.cell? ⟨w.heap.size, 1, none⟩ = some (.string sa) ∧ w0.cell? ⟨w.heap.size + 1, 0, none⟩ = some (.bool nb) ∧ w0.cell? ⟨w.heap.size + 1, 1, none⟩ = some (.string sb') := by
    refine ⟨?_, ?_, ?_, ?_⟩
    · rw [cell_of_row _ _ _ _ _ _ hA0]; rfl
    · rw [cell_of_row _ _ _ _ _ _ hA0]; rfl
    · rw [cell_of_row _ _ _ _ _ _ hA1]; rfl
    · rw [cell_of_row _ _ _ _ _ _ hA1]; rfl
  have hz0 : w0.heap.size = w.heap.size + 3 := by rw [hw0]; simp
  obtain ⟨A, hA⟩ : ∃ A, A = w.heap.size := ⟨_, rfl⟩
  rw [← hw0, ← hA]
  rw [← hA] at hS0 hR0 hz0
  have HA := Lib.hid hA
  have HZ := Lib.hid hz0
  obtain ⟨xs, hxs⟩ : ∃ xs, xs = digs BB (bv (sb sa)) := ⟨_, rfl⟩
  obtain ⟨ys, hys⟩ : ∃ ys, ys = digs BB (bv (sb sb')) := ⟨_, rfl⟩
  have D1 := Lib.hid (fun w1 => decode na sa w1 (by omega))
  have D2 := Lib.hid (fun w1 => decode nb sb' w1 (by omega))
  rw [← hxs] at D1
  rw [← hys] at D2
  have hxo : Ok BB xs := by rw [hxs]; exact digs_ok (by decide) _
  have hyo : Ok BB ys := by rw [hys]; exact digs_ok (by decide) _
  have hxl : xs.length ≤ 400000 := by rw [hxs]; exact Nat.le_trans (dec_len sa) ha
  have hyl : ys.length ≤ 400000 := by rw [hys]; exact Nat.le_trans (dec_len sb') hb
  have hval : dg BB xs * dg BB ys = bv (sb sa) * bv (sb sb') := by rw [hxs, hys, dg_digs (by decide), dg_digs (by decide)]
  obtain ⟨bz, sz, ez⟩ := wv_agg (!(na == nb)) (bv (sb sa) * bv (sb sb'))
  have HV := Lib.hid hval
  have EZ := Lib.hid ez
  have hS0' := Lib.hid hS0
  clear hA0 hA1 hw0 hA hxs hys hval ez hz0
  have b0 := hS0.1; have b1 := hS0.2.1; have b2 := hS0.2.2.1; have b3 := hS0.2.2.2
  clear hS0
  go_region_held3 (fun w' => w'.cell? ⟨A, 0, none⟩ = some (.bool na) ∧ w'.cell? ⟨A, 1, none⟩ = some (.string sa) ∧ w'.cell? ⟨A + 1, 0, none⟩ = some (.bool nb) ∧ w'.cell? ⟨A + 1, 1, none⟩ = some (.string sb')) (first | exact ⟨b0, b1, b2, b3⟩ | exact K1.out | exact K2.out | exact K3.out | exact K4.out | exact K5.out | exact kept_store K5.out) (first | (go_at_call 61; refine (newWords _).mono ?_; rintro e w1 ⟨g0, rfl, hO0, hg0, hT1⟩; have K1 := Lib.hid (two_kept (by exact hS0'.out) hT1 (by simp) (by simp))) | (go_at_call_of 62 (Value.agg #[.bool na, .string sa]); refine (D1.out _).mono ?_; rintro e w2 ⟨g1, cap1, rfl, hO1, hg1, hT2⟩; have K2 := Lib.hid (two_kept K1.out hT2 (by simp) (by simp))) | (go_at_call_of 62 (Value.agg #[.bool nb, .string sb']); refine (D2.out _).mono ?_; rintro e w3 ⟨g2, cap2, rfl, hO2, hg2, hT3⟩; have K3 := Lib.hid (two_kept K2.out hT3 (by simp) (by simp))) | (go_at_call 60; obtain ⟨r1, W1⟩ := hO1.win; obtain ⟨r2, W2⟩ := hO2.win; have O0' := (hO0.kept hT2 (by simp)).kept hT3 (by simp); have W1' := W1.kept hT3 (by simp); have hG0 : A + 3 ≤ g0 := (by rw [← HZ.out]; exact hg0); have hl0 := hO0.lt; have hl1 := hO1.lt; refine (multiply g0 0 8 g1 cap1 0 g2 cap2 0 [] r1 [] r2 [] xs ys _ (by omega) (by have := hT2.size; omega) hxo hyo (by omega) (by omega) O0' W1' W2).mono ?_; rintro e w4 ⟨v, zs, rfl, hzo, hzl, hzv, g3, cap3, rfl, hO3, hg3, hT4⟩; have K4 := Lib.hid (two_kept K3.out hT4 (by rw [List.mem_singleton]; omega) (by rw [List.mem_singleton]; omega))) | (go_at_call 59; obtain ⟨r3, W3⟩ := hO3.win; have cE := encode (!(na == nb)) g3 cap3 0 [] r3 zs w4 hzo (by rw [hzl]; omega) hO3.le W3; rw [hzl, hzv, HV.out, EZ.out] at cE; refine cE.mono ?_; rintro e w5 ⟨rfl, hT5⟩; have K5 := Lib.hid (two_kept K4.out hT5 (by simp) (by simp)); have HT5 := Lib.hid (mul_tch hT1 hT2 hT3 hT4 hT5); have hBk := (HT5.out.block (A + 1 + 1) (by rw [HZ.out]; omega) (by rw [List.mem_singleton]; omega)).trans hR0; have c0 := cell_of_row w5 (A + 1 + 1) 0 _ _ _ hBk; have c1 := cell_of_row w5 (A + 1 + 1) 1 _ _ _ hBk; have f0 := frozen_of_row w5 (A + 1 + 1) 0 _ _ hBk; have f1 := frozen_of_row w5 (A + 1 + 1) 1 _ _ hBk))
  go_wp2
  refine bodyPost_ret (v := .agg #[.bool bz, .string sz]) (by simp [results, Tryd.results26, go_sem, c0, c1]) rfl ⟨?_, ?_⟩
  · rw [EZ.out]
  · have hAe := HA.out
    have h6 := hT0.trans HT5.out (by intro k hk; rw [List.mem_singleton] at hk; exact .inr (by omega))
    exact (h6.setCell (.inr (by simp; omega)) _).setCell (.inr (by simp; omega)) _

end Go.Proofs.YtmiibcdcnoefgaaDoor
