/- lithophanelaw01.frac: a fraction that is made of arguments. -/
import Derived.Test.YtmiibcdcnoefgaaGreatDoorNum
namespace Go.Proofs.YtmiibcdcnoefgaaGreatDoor
open Go.RowKit Dg

theorem Src.short {w : World} {A : Option Addr} {ys : List Nat} (h : Src w A ys) (m : Nat) : Src w A (ys.take m) := fun j u hu => by
  refine h j u ?_
  rw [← ints_take, List.getElem?_take] at hu
  split at hu
  · exact hu
  · cases hu

set_option maxHeartbeats 4000000 in
set_option maxRecDepth 100000 in
theorem FraW (b1 : Bool) (z1 : Int) (A1 : Option Addr) (len1 cap1 : Nat) (ys1 : List Nat) (b2 : Bool) (z2 : Int) (A2 : Option Addr) (len2 cap2 : Nat) (ys2 : List Nat) (w : World)
    (hy1 : ys1.length = len1) (hc1 : len1 ≤ cap1) (hm1 : cap1 ≤ 9223372036854775807) (hA1 : Src w A1 ys1) (hy2 : ys2.length = len2) (hc2 : len2 ≤ cap2) (hm2 : cap2 ≤ 9223372036854775807) (hA2 : Src w A2 ys2) :
    Calls Tryz.prog 5 #[.agg #[.bool b1, .slice A1 len1 cap1, .int .i64 z1], .agg #[.bool b2, .slice A2 len2 cap2, .int .i64 z2]] w fun e w' => ∃ s t, (s.size ≤ 40 ∧ t.size ≤ 40 ∧ e = .returned (.agg #[.bool b1, .string s, .bool b2, .string t])) ∧ Tch [] w w' := by
  have hb1 : (0 : Int) ≤ min (len1 : Int) 12 ∧ min (len1 : Int) 12 ≤ (cap1 : Int) := by omega
  have hb2 : (0 : Int) ≤ min (len2 : Int) 12 ∧ min (len2 : Int) 12 ≤ (cap2 : Int) := by omega
  have N1 := Lib.hid (fun w' (h : Tch [] w w') => NumW b1 z1 A1 (min (len1 : Int) 12).toNat cap1 (ys1.take (min (len1 : Int) 12).toNat) w' (by rw [List.length_take]; omega) (by omega) ((hA1.kept h).short _))
  have N2 := Lib.hid (fun w' (h : Tch [] w w') => NumW b2 z2 A2 (min (len2 : Int) 12).toNat cap2 (ys2.take (min (len2 : Int) 12).toNat) w' (by rw [List.length_take]; omega) (by omega) ((hA2.kept h).short _))
  have F0 := (((Fr.nil w).add (.cells #[.bool b1, .slice A1 (min (len1 : Int) 12).toNat cap1, .int .i64 z1] 24) w.heap.size rfl).add (.cells #[.bool b2, .slice A2 (min (len2 : Int) 12).toNat cap2, .int .i64 z2] 24) (w.heap.size + 1) (by simp)).add (.cells #[.bool false, .string ⟨#[]⟩, .bool false, .string ⟨#[]⟩] 30) (w.heap.size + 1 + 1) (by simp)
  obtain ⟨w0, l, hw0, G0, SF0, ST0, RB0⟩ : ∃ w0 l, w0 = (((w.alloc (.cells #[.bool b1, .slice A1 (min (len1 : Int) 12).toNat cap1, .int .i64 z1] 24)).alloc (.cells #[.bool b2, .slice A2 (min (len2 : Int) 12).toNat cap2, .int .i64 z2] 24)).alloc (.cells #[.bool false, .string ⟨#[]⟩, .bool false, .string ⟨#[]⟩] 30)) ∧ Fr w w0 l ∧
      (∀ w3, Fr w w3 l → w3.cell? ⟨w.heap.size, 0, none⟩ = some (.bool b1) ∧ w3.cell? ⟨w.heap.size, 1, none⟩ = some (.slice A1 (min (len1 : Int) 12).toNat cap1) ∧ w3.cell? ⟨w.heap.size, 2, none⟩ = some (.int .i64 z1) ∧ w3.cell? ⟨w.heap.size + 1, 0, none⟩ = some (.bool b2) ∧ w3.cell? ⟨w.heap.size + 1, 1, none⟩ = some (.slice A2 (min (len2 : Int) 12).toNat cap2) ∧ w3.cell? ⟨w.heap.size + 1, 2, none⟩ = some (.int .i64 z2)) ∧
      (∀ w3, Fr w w3 l → ∀ x y z u, ((((w3.setCell ⟨w.heap.size + 1 + 1, 0, none⟩ x).setCell ⟨w.heap.size + 1 + 1, 1, none⟩ y).setCell ⟨w.heap.size + 1 + 1, 2, none⟩ z).setCell ⟨w.heap.size + 1 + 1, 3, none⟩ u).cell? ⟨w.heap.size, 0, none⟩ = some (.bool b1) ∧ ((((w3.setCell ⟨w.heap.size + 1 + 1, 0, none⟩ x).setCell ⟨w.heap.size + 1 + 1, 1, none⟩ y).setCell ⟨w.heap.size + 1 + 1, 2, none⟩ z).setCell ⟨w.heap.size + 1 + 1, 3, none⟩ u).cell? ⟨w.heap.size, 1, none⟩ = some (.slice A1 (min (len1 : Int) 12).toNat cap1) ∧ ((((w3.setCell ⟨w.heap.size + 1 + 1, 0, none⟩ x).setCell ⟨w.heap.size + 1 + 1, 1, none⟩ y).setCell ⟨w.heap.size + 1 + 1, 2, none⟩ z).setCell ⟨w.heap.size + 1 + 1, 3, none⟩ u).cell? ⟨w.heap.size, 2, none⟩ = some (.int .i64 z1) ∧ ((((w3.setCell ⟨w.heap.size + 1 + 1, 0, none⟩ x).setCell ⟨w.heap.size + 1 + 1, 1, none⟩ y).setCell ⟨w.heap.size + 1 + 1, 2, none⟩ z).setCell ⟨w.heap.size + 1 + 1, 3, none⟩ u).cell? ⟨w.heap.size + 1, 0, none⟩ = some (.bool b2) ∧ ((((w3.setCell ⟨w.heap.size + 1 + 1, 0, none⟩ x).setCell ⟨w.heap.size + 1 + 1, 1, none⟩ y).setCell ⟨w.heap.size + 1 + 1, 2, none⟩ z).setCell ⟨w.heap.size + 1 + 1, 3, none⟩ u).cell? ⟨w.heap.size + 1, 1, none⟩ = some (.slice A2 (min (len2 : Int) 12).toNat cap2) ∧ ((((w3.setCell ⟨w.heap.size + 1 + 1, 0, none⟩ x).setCell ⟨w.heap.size + 1 + 1, 1, none⟩ y).setCell ⟨w.heap.size + 1 + 1, 2, none⟩ z).setCell ⟨w.heap.size + 1 + 1, 3, none⟩ u).cell? ⟨w.heap.size + 1, 2, none⟩ = some (.int .i64 z2)) ∧
      (∀ w3, Fr w w3 l → Fr w w3 [(w.heap.size + 1 + 1, .cells #[.bool false, .string ⟨#[]⟩, .bool false, .string ⟨#[]⟩] 30 (0, 0))]) :=
    ⟨_, _, rfl, F0, fun w3 F => ⟨F.cell 0 0 rfl rfl, F.cell 0 1 rfl rfl, F.cell 0 2 rfl rfl, F.cell 1 0 rfl rfl, F.cell 1 1 rfl rfl, F.cell 1 2 rfl rfl⟩,
      fun w3 F x y z u => ⟨by rw [World.cell?_setCell_other _ _ _ _ (by simp), World.cell?_setCell_other _ _ _ _ (by simp), World.cell?_setCell_other _ _ _ _ (by simp), World.cell?_setCell_other _ _ _ _ (by simp)]; exact F.cell 0 0 rfl rfl, by rw [World.cell?_setCell_other _ _ _ _ (by simp), World.cell?_setCell_other _ _ _ _ (by simp), World.cell?_setCell_other _ _ _ _ (by simp), World.cell?_setCell_other _ _ _ _ (by simp)]; exact F.cell 0 1 rfl rfl, by rw [World.cell?_setCell_other _ _ _ _ (by simp), World.cell?_setCell_other _ _ _ _ (by simp), World.cell?_setCell_other _ _ _ _ (by simp), World.cell?_setCell_other _ _ _ _ (by simp)]; exact F.cell 0 2 rfl rfl, by rw [World.cell?_setCell_other _ _ _ _ (by simp), World.cell?_setCell_other _ _ _ _ (by simp), World.cell?_setCell_other _ _ _ _ (by simp), World.cell?_setCell_other _ _ _ _ (by simp)]; exact F.cell 1 0 rfl rfl, by rw [World.cell?_setCell_other _ _ _ _ (by simp), World.cell?_setCell_other _ _ _ _ (by simp), World.cell?_setCell_other _ _ _ _ (by simp), World.cell?_setCell_other _ _ _ _ (by simp)]; exact F.cell 1 1 rfl rfl, by rw [World.cell?_setCell_other _ _ _ _ (by simp), World.cell?_setCell_other _ _ _ _ (by simp), World.cell?_setCell_other _ _ _ _ (by simp), World.cell?_setCell_other _ _ _ _ (by simp)]; exact F.cell 1 2 rfl rfl⟩,
      fun w3 F => ⟨fun p hp => F.row p (by rw [List.mem_singleton] at hp; subst hp; simp), fun p hp => F.new p (by rw [List.mem_singleton] at hp; subst hp; simp), F.t⟩⟩
  have F1 := Lib.hid G0
  have SF := Lib.hid SF0
  have RB := Lib.hid RB0
  have ST := Lib.hid ST0
  have HW := Lib.hid hw0
  clear F0 G0 SF0 ST0 RB0 hw0 hA1 hA2 hy1 hy2
  go_enter Tryz.func5, Tryz.ntmps5
  go_wp2_with fail
  rw [← HW.out]
  go_region_held3 (fun w3 => w3.cell? ⟨w.heap.size, 0, none⟩ = some (.bool b1) ∧ w3.cell? ⟨w.heap.size, 1, none⟩ = some (.slice A1 (min (len1 : Int) 12).toNat cap1) ∧ w3.cell? ⟨w.heap.size, 2, none⟩ = some (.int .i64 z1) ∧ w3.cell? ⟨w.heap.size + 1, 0, none⟩ = some (.bool b2) ∧ w3.cell? ⟨w.heap.size + 1, 1, none⟩ = some (.slice A2 (min (len2 : Int) 12).toNat cap2) ∧ w3.cell? ⟨w.heap.size + 1, 2, none⟩ = some (.int .i64 z2)) (first | with_reducible exact SF.out _ F3.out | exact SF.out _ F1.out | exact SF.out _ F1.out.drew | exact ST.out _ F3.out _ _ _ _) (first
    | (go_at_call_of 20 (Value.bool b1); refine (N1.out _ F1.out.drew.t).mono ?_; rintro e w3 ⟨s, ⟨hs, rfl⟩, hT⟩; have F3 := Lib.hid (F1.out.drew.keep hT); have HS := Lib.hid hs; clear hs hT)
    | (go_at_call 20; refine (N2.out _ F3.out.t).mono ?_; rintro e w6 ⟨t, ⟨ht, rfl⟩, hT⟩; have HT := Lib.hid ht; have F3 := Lib.hid (F3.out.keep hT); obtain ⟨r0, r1, r2, r3⟩ := (RB.out _ F3.out).four 0 rfl; obtain ⟨t0, t1, t2, t3⟩ := (RB.out _ F3.out).fro4 0 rfl; clear hT ht))
  go_wp2
  refine bodyPost_ret (v := .agg #[.bool b1, .string s, .bool b2, .string t]) (by simp [results, Tryz.results5, go_sem, r0, r1, r2, r3]) rfl ⟨s, t, ⟨HS.out, HT.out, rfl⟩, ?_⟩
  exact (RB.out _ F3.out).fin4 0 rfl _ _ _ _

end Go.Proofs.YtmiibcdcnoefgaaGreatDoor
