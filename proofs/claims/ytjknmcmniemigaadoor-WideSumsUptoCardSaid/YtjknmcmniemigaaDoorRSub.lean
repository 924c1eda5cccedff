/- lithophaneref01.Sub. -/
import Derived.Test.YtjknmcmniemigaaDoorRAdd
import Derived.Test.YtjknmcmniemigaaDoorRNeg
import Derived.Test.YtjknmcmniemigaaDoorAddF
import Derived.Deep.RegionHeld3
namespace Go.Proofs.YtjknmcmniemigaaDoor
open Go.RowKit Dg

set_option maxHeartbeats 4000000 in
set_option maxRecDepth 100000 in
theorem rSub {na nb : Bool} {sa sc : ByteArray} {x y : Int} (hx : Rep 1000 na sa x) (hy : Rep 1000 nb sc y) (w : World) :
    Calls Tryd.prog 17 #[.agg #[.bool na, .string sa], .agg #[.bool nb, .string sc]] w fun e w' => e = .returned (wz (x - y)) ∧ Tch [] w w' := by
  obtain ⟨bn, sn, en⟩ : ∃ b s, wz (-y) = .agg #[.bool b, .string s] := ⟨_, _, wz_mo _⟩
  have rn : Rep 1000 bn sn (-y) := Rep.of_wz en (by rw [Int.natAbs_neg]; exact hy.lt)
  obtain ⟨br, sr, er⟩ : ∃ b s, wz (x - y) = .agg #[.bool b, .string s] := ⟨_, _, wz_mo _⟩
  have c1 := fun w1 => rNeg hy w1
  rw [en] at c1
  have c2 := fun w1 => rAdd hx rn w1
  rw [show x + -y = x - y from by omega, er] at c2
  have C1 := Lib.hid c1
  have C2 := Lib.hid c2
  have ER := Lib.hid er
  have F0 := (((Fr.nil w).add (.cells #[.bool na, .string sa] 27) w.heap.size rfl).add (.cells #[.bool nb, .string sc] 27) (w.heap.size + 1) (by simp)).add (.cells #[.bool false, .string ⟨#[]⟩] 27) (w.heap.size + 1 + 1) (by simp)
  obtain ⟨w0, l, hw0, G0, SF0, ST0, RB0⟩ : ∃ w0 l, w0 = (((w.alloc (.cells #[.bool na, .string sa] 27)).alloc (.cells #[.bool nb, .string sc] 27)).alloc (.cells #[.bool false, .string ⟨#[]⟩] 27)) ∧ Fr w w0 l ∧
      (∀ w3, Fr w w3 l → w3.cell? ⟨w.heap.size, 0, none⟩ = some (.bool na) ∧ w3.cell? ⟨w.heap.size, 1, none⟩ = some (.string sa) ∧ w3.cell? ⟨w.heap.size + 1, 0, none⟩ = some (.bool nb) ∧ w3.cell? ⟨w.heap.size + 1, 1, none⟩ = some (.string sc)) ∧
      (∀ w3, Fr w w3 l → ∀ u v, ((w3.setCell ⟨w.heap.size + 1 + 1, 0, none⟩ u).setCell ⟨w.heap.size + 1 + 1, 1, none⟩ v).cell? ⟨w.heap.size, 0, none⟩ = some (.bool na) ∧ ((w3.setCell ⟨w.heap.size + 1 + 1, 0, none⟩ u).setCell ⟨w.heap.size + 1 + 1, 1, none⟩ v).cell? ⟨w.heap.size, 1, none⟩ = some (.string sa) ∧ ((w3.setCell ⟨w.heap.size + 1 + 1, 0, none⟩ u).setCell ⟨w.heap.size + 1 + 1, 1, none⟩ v).cell? ⟨w.heap.size + 1, 0, none⟩ = some (.bool nb) ∧ ((w3.setCell ⟨w.heap.size + 1 + 1, 0, none⟩ u).setCell ⟨w.heap.size + 1 + 1, 1, none⟩ v).cell? ⟨w.heap.size + 1, 1, none⟩ = some (.string sc)) ∧
      (∀ w3, Fr w w3 l → Fr w w3 [(w.heap.size + 1 + 1, .cells #[.bool false, .string ⟨#[]⟩] 27 (0, 0))]) :=
    ⟨_, _, rfl, F0, fun w3 F => ⟨F.cell 0 0 rfl rfl, F.cell 0 1 rfl rfl, F.cell 1 0 rfl rfl, F.cell 1 1 rfl rfl⟩,
      fun w3 F u v => ⟨by rw [World.cell?_setCell_other _ _ _ _ (by simp), World.cell?_setCell_other _ _ _ _ (by simp)]; exact F.cell 0 0 rfl rfl, by rw [World.cell?_setCell_other _ _ _ _ (by simp), World.cell?_setCell_other _ _ _ _ (by simp)]; exact F.cell 0 1 rfl rfl, by rw [World.cell?_setCell_other _ _ _ _ (by simp), World.cell?_setCell_other _ _ _ _ (by simp)]; exact F.cell 1 0 rfl rfl, by rw [World.cell?_setCell_other _ _ _ _ (by simp), World.cell?_setCell_other _ _ _ _ (by simp)]; exact F.cell 1 1 rfl rfl⟩,
      fun w3 F => ⟨fun p hp => F.row p (by rw [List.mem_singleton] at hp; subst hp; simp), fun p hp => F.new p (by rw [List.mem_singleton] at hp; subst hp; simp), F.t⟩⟩
  have F1 := Lib.hid G0
  have SF := Lib.hid SF0
  have RB := Lib.hid RB0
  have ST := Lib.hid ST0
  have HW := Lib.hid hw0
  clear c1 c2 en er rn hx hy F0 G0 SF0 ST0 RB0 hw0
  go_enter Tryd.func17, Tryd.ntmps17
  go_wp2_with fail
  rw [← HW.out]
  go_region_held3 (fun w3 => w3.cell? ⟨w.heap.size, 0, none⟩ = some (.bool na) ∧ w3.cell? ⟨w.heap.size, 1, none⟩ = some (.string sa) ∧ w3.cell? ⟨w.heap.size + 1, 0, none⟩ = some (.bool nb) ∧ w3.cell? ⟨w.heap.size + 1, 1, none⟩ = some (.string sc)) (first | with_reducible exact SF.out _ F3.out | exact SF.out _ F1.out | exact SF.out _ F1.out.drew | exact ST.out _ F3.out _ _) (first
    | (go_at_call 19; refine (C1.out _).mono ?_; rintro e w3 ⟨rfl, hT⟩; have F3 := Lib.hid (F1.out.drew.keep hT); clear hT)
    | (go_at_call 15; refine (C2.out _).mono ?_; rintro e w6 ⟨rfl, hT⟩; have F3 := Lib.hid (F3.out.keep hT); obtain ⟨r0, r1⟩ := (RB.out _ F3.out).two 0 rfl; obtain ⟨t0, t1⟩ := (RB.out _ F3.out).fro2 0 rfl; clear hT))
  go_wp2
  refine bodyPost_ret (v := .agg #[.bool br, .string sr]) (by simp [results, Tryd.results17, go_sem, r0, r1]) rfl ⟨by rw [ER.out], ?_⟩
  exact (RB.out _ F3.out).fin2 0 rfl _ _

end Go.Proofs.YtjknmcmniemigaaDoor

/- lithophaneref01.Cmp. -/
namespace Go.Proofs.YtjknmcmniemigaaDoor
open Go.RowKit Dg

set_option maxHeartbeats 4000000 in
set_option maxRecDepth 100000 in
theorem rCmp {na nb : Bool} {sa sc : ByteArray} {x y : Int} (hx : Rep 400 na sa x) (hy : Rep 400 nb sc y) {K : Nat} (hK : K ≤ 1000) (hd : (x - y).natAbs < 256 ^ K) (w : World) :
    Calls Tryd.prog 23 #[.agg #[.bool na, .string sa], .agg #[.bool nb, .string sc]] w fun e w' => e = .returned (.int .i64 (cmpI x y)) ∧ Tch [] w w' := by
  obtain ⟨bn, sn, en⟩ : ∃ b s, wz (x - y) = .agg #[.bool b, .string s] := ⟨_, _, wz_mo _⟩
  have rn : Rep 1000 bn sn (x - y) := (Rep.of_wz en hd).mono hK
  have c1 := fun w1 => rSub (hx.mono (by omega)) (hy.mono (by omega)) w1
  rw [en] at c1
  have c2 := fun w1 => rSign rn w1
  have e2 : (x - y).sign = cmpI x y := by
    unfold cmpI
    split
    · rw [Int.sign_eq_neg_one_of_neg (by omega)]
    · split
      · rw [Int.sign_eq_one_of_pos (by omega)]
      · rw [show x - y = 0 from by omega]; rfl
  rw [e2] at c2
  have C1 := Lib.hid c1
  have C2 := Lib.hid c2
  have F0 := ((Fr.nil w).add (.cells #[.bool na, .string sa] 27) w.heap.size rfl).add (.cells #[.bool nb, .string sc] 27) (w.heap.size + 1) (by simp)
  obtain ⟨w0, l, hw0, G0, SF0⟩ : ∃ w0 l, w0 = ((w.alloc (.cells #[.bool na, .string sa] 27)).alloc (.cells #[.bool nb, .string sc] 27)) ∧ Fr w w0 l ∧
      (∀ w3, Fr w w3 l → w3.cell? ⟨w.heap.size, 0, none⟩ = some (.bool na) ∧ w3.cell? ⟨w.heap.size, 1, none⟩ = some (.string sa) ∧ w3.cell? ⟨w.heap.size + 1, 0, none⟩ = some (.bool nb) ∧ w3.cell? ⟨w.heap.size + 1, 1, none⟩ = some (.string sc)) :=
    ⟨_, _, rfl, F0, fun w3 F => ⟨F.cell 0 0 rfl rfl, F.cell 0 1 rfl rfl, F.cell 1 0 rfl rfl, F.cell 1 1 rfl rfl⟩⟩
  have F1 := Lib.hid G0
  have SF := Lib.hid SF0
  have HW := Lib.hid hw0
  clear c1 c2 e2 en rn hx hy hd hK F0 G0 SF0 hw0
  go_enter Tryd.func23, Tryd.ntmps23
  go_wp2_with fail
  refine (C1.out _).mono ?_
  rintro e w3 ⟨rfl, hT⟩
  rw [← HW.out] at hT
  have F3 := Lib.hid (F1.out.keep hT)
  clear hT
  go_wp2_with fail
  refine (C2.out _).mono ?_
  rintro e w6 ⟨rfl, hT⟩
  have F4 := Lib.hid (F3.out.keep hT)
  clear hT
  go_wp2
  go_ret
  exact ⟨rfl, F4.out.t⟩

end Go.Proofs.YtjknmcmniemigaaDoor
