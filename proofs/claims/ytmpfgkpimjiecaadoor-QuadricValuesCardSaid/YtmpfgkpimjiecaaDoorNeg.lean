/- wide.Neg. -/
import Derived.Test.YtmpfgkpimjiecaaDoorZ
namespace Go.Proofs.YtmpfgkpimjiecaaDoor
open Go.RowKit Dg
theorem mg_mo (s : ByteArray) : mg s = mo (bv (sb s)) := by
  apply sb_inj
  rw [sb_mo]
  have h := digs_dg (b := 256) (by omega) ((sb_ok (mg s)).reverse) (trim_mg s)
  have h2 : dg 256 (sb (mg s)).reverse = bv (sb s) := bv_mg s
  rw [h2] at h
  rw [h, List.reverse_reverse]

set_option maxHeartbeats 1000000 in
set_option maxRecDepth 100000 in
theorem clone (s : ByteArray) (hs : s.size ≤ 1000000) (w : World) :
    Calls Tryd.prog 69 #[.string s] w fun e w' => e = .returned (.string s) ∧ Tch [] w w' := by
  have C := Lib.hid (fun w1 => Tryd.stringslite_Clone s w1 (by omega))
  go_enter Tryd.func69, Tryd.ntmps69
  go_wp2_with fail
  refine (C.out _).mono ?_
  rintro e w1 ⟨rfl, hb⟩
  have hT := Tch.of_below hb
  clear hb
  go_wp2
  go_ret
  exact ⟨rfl, hT⟩

set_option maxHeartbeats 1000000 in
set_option maxRecDepth 100000 in
theorem Neg (ng : Bool) (s : ByteArray) (hs : s.size ≤ 1000000) (w : World) :
    Calls Tryd.prog 50 #[.agg #[.bool ng, .string s]] w fun e w' => e = .returned (wv (!ng) (bv (sb s))) ∧ Tch [] w w' := by
  have CM := Lib.hid (fun w1 => magnitude ng s w1)
  have CC := Lib.hid (fun w1 => clone (mg s) (Nat.le_trans (size_mg s) hs) w1)
  go_enter Tryd.func50, Tryd.ntmps50
  go_wp2_with fail
  refine (CM.out _).mono ?_
  rintro e w1 ⟨rfl, hT⟩
  have h0 : ((w.alloc (.cells #[.bool ng, .string s] 26)).alloc (.cells #[.bool false, .string ⟨#[]⟩] 26)).cell? ⟨w.heap.size, 0, none⟩ = some (.bool ng) := by simp [World.cell?_alloc_past]
  have hB : ((w.alloc (.cells #[.bool ng, .string s] 26)).alloc (.cells #[.bool false, .string ⟨#[]⟩] 26)).heap[w.heap.size + 1]? = some (.cells #[.bool false, .string ⟨#[]⟩] 26 (0, 0)) := by
    have h := Below.heap_alloc_new' (w.alloc (.cells #[.bool ng, .string s] 26)) (.cells #[.bool false, .string ⟨#[]⟩] 26)
    rwa [World.size_alloc] at h
  have c0 := cell_kept0 h0 hT
  have HB1 := Lib.hid ((hT.block (w.heap.size + 1) (by simp) (by simp)).trans hB)
  have HT1 := Lib.hid ((((Tch.refl [] w).alloc _).alloc _).trans hT (by simp))
  clear h0 hB hT
  have fin : ∀ w2, Tch [] w1 w2 → w2.cell? ⟨w.heap.size + 1, 0, none⟩ = some (.bool false) ∧ w2.cell? ⟨w.heap.size + 1, 1, none⟩ = some (.string ⟨#[]⟩) ∧ w2.frozen? ⟨w.heap.size + 1, 0, none⟩ = false ∧ w2.frozen? ⟨w.heap.size + 1, 1, none⟩ = false ∧ Tch [] w w2 := by
    intro w2 h
    have hl : w.heap.size + 1 < w1.heap.size := (Array.getElem?_eq_some_iff.1 HB1.out).1
    have hb := (h.block (w.heap.size + 1) hl (by simp)).trans HB1.out
    exact ⟨by rw [cell_of_row _ _ _ _ _ _ hb]; rfl, by rw [cell_of_row _ _ _ _ _ _ hb]; rfl, frozen_of_row _ _ _ _ _ hb, frozen_of_row _ _ _ _ _ hb, HT1.out.trans h (by simp)⟩
  have FIN := Lib.hid fin
  clear fin
  by_cases hz : bv (sb s) = 0
  · have HZ := Lib.hid hz
    have h1 := mg_nil hz
    have h2 : (mg s).toList.isEmpty = true := by rw [h1]; rfl
    have hm : Hid (mg s = ⟨#[]⟩) := Lib.hid (by
      apply sb_inj
      have h3 : (mg s).data.toList = [] := by rw [← ByteArray.toList_eq]; exact h1
      simp [sb, h3])
    clear hz
    cases ng with
    | true =>
      go_wp2_with fail
      refine (CC.out _).mono ?_
      rintro e w2 ⟨rfl, hT2⟩
      obtain ⟨d0, d1, f0, f1, hT3⟩ := FIN.out w2 hT2
      have HT3 := Lib.hid hT3
      clear hT2 hT3
      go_wp2
      refine bodyPost_ret (v := .agg #[.bool false, .string (mg s)]) (by simp [results, Tryd.results50, go_sem, d0, d1]) rfl ⟨?_, ?_⟩
      · unfold wv; rw [if_pos HZ.out, hm.out]
      · exact (HT3.out.setCell (.inr (by simp)) _).setCell (.inr (by simp)) _
    | false =>
      go_wp2_with fail
      refine (CC.out _).mono ?_
      rintro e w2 ⟨rfl, hT2⟩
      obtain ⟨d0, d1, f0, f1, hT3⟩ := FIN.out w2 hT2
      have HT3 := Lib.hid hT3
      clear hT2 hT3
      go_wp2
      refine bodyPost_ret (v := .agg #[.bool false, .string (mg s)]) (by simp [results, Tryd.results50, go_sem, d0, d1]) rfl ⟨?_, ?_⟩
      · unfold wv; rw [if_pos HZ.out, hm.out]
      · exact (HT3.out.setCell (.inr (by simp)) _).setCell (.inr (by simp)) _
  · have HZ := Lib.hid hz
    have h1 : ((mg s).toList == []) = false := by simpa using mg_cons hz
    have h2 : (mg s).toList.isEmpty = false := by simpa using mg_cons hz
    clear hz
    cases ng with
    | true =>
      go_wp2_with fail
      refine (CC.out _).mono ?_
      rintro e w2 ⟨rfl, hT2⟩
      obtain ⟨d0, d1, f0, f1, hT3⟩ := FIN.out w2 hT2
      have HT3 := Lib.hid hT3
      clear hT2 hT3
      go_wp2
      refine bodyPost_ret (v := .agg #[.bool false, .string (mg s)]) (by simp [results, Tryd.results50, go_sem, d0, d1]) rfl ⟨?_, ?_⟩
      · unfold wv; rw [if_neg HZ.out, ← mg_mo]; rfl
      · exact (HT3.out.setCell (.inr (by simp)) _).setCell (.inr (by simp)) _
    | false =>
      go_wp2_with fail
      refine (CC.out _).mono ?_
      rintro e w2 ⟨rfl, hT2⟩
      obtain ⟨d0, d1, f0, f1, hT3⟩ := FIN.out w2 hT2
      have HT3 := Lib.hid hT3
      clear hT2 hT3
      go_wp2
      refine bodyPost_ret (v := .agg #[.bool true, .string (mg s)]) (by simp [results, Tryd.results50, go_sem, d0, d1]) rfl ⟨?_, ?_⟩
      · unfold wv; rw [if_neg HZ.out, ← mg_mo]; rfl
      · exact (HT3.out.setCell (.inr (by simp)) _).setCell (.inr (by simp)) _

end Go.Proofs.YtmpfgkpimjiecaaDoor
