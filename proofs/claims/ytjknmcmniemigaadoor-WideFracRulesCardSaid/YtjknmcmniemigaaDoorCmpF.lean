/- wide.CmpFrac. -/
import Derived.Test.YtjknmcmniemigaaDoorAddF
import Derived.Test.YtjknmcmniemigaaDoorCmpW
namespace Go.Proofs.YtjknmcmniemigaaDoor
open Go.RowKit Dg

set_option maxHeartbeats 4000000 in
set_option maxRecDepth 100000 in
theorem CmpFrac {K : Nat} {an ad bn bd : Bool} {sn sd tn td : ByteArray} {n d m e' : Int} (hK1 : 1 ≤ K) (hK : K ≤ 1000) (hn : Rep K an sn n) (hd : Rep K ad sd d) (hm : Rep K bn tn m) (he : Rep K bd td e') (w : World) :
    Calls Tryd.prog 43 #[.agg #[.bool an, .string sn, .bool ad, .string sd], .agg #[.bool bn, .string tn, .bool bd, .string td]] w fun e w' => e = .returned (.int .i64 (tmn n d * tmd m e' - tmn m e' * tmd n d).sign) ∧ Tch [] w w' := by
  obtain ⟨p1, q1, p2, q2, R1, R2, T1⟩ := ZTerms hK1 hn hd
  obtain ⟨p3, q3, p4, q4, R3, R4, T2⟩ := ZTerms hK1 hm he
  have l1 := mul_lt R1.lt R4.lt
  have l2 := mul_lt R3.lt R2.lt
  obtain ⟨u1, v1, e1⟩ : ∃ b s, wz (tmn n d * tmd m e') = .agg #[.bool b, .string s] := ⟨_, _, wz_mo _⟩
  obtain ⟨u2, v2, e2⟩ : ∃ b s, wz (tmn m e' * tmd n d) = .agg #[.bool b, .string s] := ⟨_, _, wz_mo _⟩
  have c1 := fun w1 => ZMul (R1.mono (L := 400000) (by omega)) (R4.mono (L := 400000) (by omega)) w1
  have c2 := fun w1 => ZMul (R3.mono (L := 400000) (by omega)) (R2.mono (L := 400000) (by omega)) w1
  rw [e1] at c1
  rw [e2] at c2
  have c3 := fun w1 => ZCmp (Rep.of_wz e1 l1).val (Rep.of_wz e2 l2).val w1
  obtain ⟨r, hr⟩ : ∃ r, (tmn n d * tmd m e' - tmn m e' * tmd n d).sign = r := ⟨_, rfl⟩
  rw [hr] at c3 ⊢
  have C1 := Lib.hid c1
  have C2 := Lib.hid c2
  have C3 := Lib.hid c3
  have D1' := Lib.hid T1
  have D2' := Lib.hid T2
  clear c1 c2 c3 T1 T2 e1 e2 l1 l2 R1 R2 R3 R4 hn hd hm he hK hK1 hr
  go_enter Tryd.func43, Tryd.ntmps43
  go_wp2_with fail
  refine (D1'.out _).mono ?_
  rintro e w1 ⟨rfl, h1⟩
  have F0 := ((Fr.nil w).add (.cells #[.bool an, .string sn, .bool ad, .string sd] 52) w.heap.size rfl).add (.cells #[.bool bn, .string tn, .bool bd, .string td] 52) (w.heap.size + 1) (by simp)
  have F1 := Lib.hid (((F0.keep h1).add (.cells #[.bool p1, .string q1] 27) w1.heap.size rfl).add (.cells #[.bool p2, .string q2] 27) (w1.heap.size + 1) (by simp))
  clear h1 F0
  obtain ⟨a0, a1, a2, a3⟩ := F1.out.four 1 rfl
  go_wp2_with fail
  refine (D2'.out _).mono ?_
  rintro e w2 ⟨rfl, h2⟩
  have F2 := Lib.hid (((F1.out.keep h2).add (.cells #[.bool p3, .string q3] 27) w2.heap.size rfl).add (.cells #[.bool p4, .string q4] 27) (w2.heap.size + 1) (by simp))
  clear h2 a0 a1 a2 a3
  obtain ⟨l, G, SA0⟩ : ∃ l, Fr w ((w2.alloc (.cells #[.bool p3, .string q3] 27)).alloc (.cells #[.bool p4, .string q4] 27)) l ∧ (∀ w3, Fr w w3 l → w3.cell? ⟨w1.heap.size, 0, none⟩ = some (.bool p1) ∧ w3.cell? ⟨w1.heap.size, 1, none⟩ = some (.string q1) ∧ w3.cell? ⟨w1.heap.size + 1, 0, none⟩ = some (.bool p2) ∧ w3.cell? ⟨w1.heap.size + 1, 1, none⟩ = some (.string q2) ∧
    w3.cell? ⟨w2.heap.size, 0, none⟩ = some (.bool p3) ∧ w3.cell? ⟨w2.heap.size, 1, none⟩ = some (.string q3) ∧ w3.cell? ⟨w2.heap.size + 1, 0, none⟩ = some (.bool p4) ∧ w3.cell? ⟨w2.heap.size + 1, 1, none⟩ = some (.string q4)) :=
    ⟨_, F2.out, fun w3 F => ⟨F.cell 2 0 rfl rfl, F.cell 2 1 rfl rfl, F.cell 3 0 rfl rfl, F.cell 3 1 rfl rfl, F.cell 4 0 rfl rfl, F.cell 4 1 rfl rfl, F.cell 5 0 rfl rfl, F.cell 5 1 rfl rfl⟩⟩
  have F := Lib.hid G
  have SA := Lib.hid SA0
  clear G SA0 F1 F2
  go_wp2_with fail
  go_region_held3 (fun w3 => w3.cell? ⟨w1.heap.size, 0, none⟩ = some (.bool p1) ∧ w3.cell? ⟨w1.heap.size, 1, none⟩ = some (.string q1) ∧ w3.cell? ⟨w1.heap.size + 1, 0, none⟩ = some (.bool p2) ∧ w3.cell? ⟨w1.heap.size + 1, 1, none⟩ = some (.string q2) ∧
    w3.cell? ⟨w2.heap.size, 0, none⟩ = some (.bool p3) ∧ w3.cell? ⟨w2.heap.size, 1, none⟩ = some (.string q3) ∧ w3.cell? ⟨w2.heap.size + 1, 0, none⟩ = some (.bool p4) ∧ w3.cell? ⟨w2.heap.size + 1, 1, none⟩ = some (.string q4)) (first | with_reducible exact SA.out _ F.out | exact SA.out _ F.out.drew) (first
    | (go_at_call 27; (first | (with_reducible refine (C1.out _).mono ?_) | (with_reducible refine (C2.out _).mono ?_)); rintro e w' ⟨rfl, h1⟩; (first | (with_reducible have F := Lib.hid (F.out.keep h1)) | (with_reducible have F := Lib.hid (F.out.drew.keep h1))); clear h1)
    | (go_at_call 22; refine (C3.out _).mono ?_; rintro e w' ⟨rfl, h1⟩; (first | (with_reducible have F := Lib.hid (F.out.keep h1)) | (with_reducible have F := Lib.hid (F.out.drew.keep h1))); clear h1))
  go_wp2
  go_ret
  exact ⟨rfl, F.out.t⟩

end Go.Proofs.YtjknmcmniemigaaDoor
