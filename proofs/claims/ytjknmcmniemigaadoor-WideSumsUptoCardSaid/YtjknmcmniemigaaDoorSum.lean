/- The walk of WideSums. -/
import Derived.Test.YtjknmcmniemigaaDoorNum
import Derived.Test.YtjknmcmniemigaaDoorSan
import Derived.Test.YtjknmcmniemigaaDoorRSub
import Derived.Test.YtjknmcmniemigaaDoorCmpW
namespace Go.Proofs.YtjknmcmniemigaaDoor
open Go.RowKit Dg


set_option maxHeartbeats 4000000 in
set_option maxRecDepth 100000 in
theorem sums_walk (w : World) (n1 : Bool) (A1 : Option Addr) (len1 cap1 : Nat) (z1 : Int) (ys1 : List Nat) (hy1 : ys1.length = len1) (hl1 : len1 ≤ 1048576) (hA1 : Src w A1 ys1) (n2 : Bool) (A2 : Option Addr) (len2 cap2 : Nat) (z2 : Int) (ys2 : List Nat) (hy2 : ys2.length = len2) (hl2 : len2 ≤ 1048576) (hA2 : Src w A2 ys2) :
    Calls Tryd.prog 3 #[.agg #[.bool n1, .slice A1 len1 cap1, .int .i64 z1], .agg #[.bool n2, .slice A2 len2 cap2, .int .i64 z2]] w fun e w' => e = .returned (.bool true) ∧ Tch [] w w' := by
  have F := Lib.hid (Fr.nil w)
  have N1 : Hid (∀ w' l, Fr w w' l → Calls Tryd.prog 13 #[.agg #[.bool n1, .slice A1 len1 cap1, .int .i64 z1]] w' fun e w2 => ∃ s, (s.size ≤ 40 ∧ e = .returned (.agg #[.bool n1, .string s])) ∧ Tch [] w' w2) := Lib.hid (fun w' l h => NumW n1 z1 A1 len1 cap1 ys1 w' hy1 hl1 (hA1.kept h.t))
  have N2 : Hid (∀ w' l, Fr w w' l → Calls Tryd.prog 13 #[.agg #[.bool n2, .slice A2 len2 cap2, .int .i64 z2]] w' fun e w2 => ∃ s, (s.size ≤ 40 ∧ e = .returned (.agg #[.bool n2, .string s])) ∧ Tch [] w' w2) := Lib.hid (fun w' l h => NumW n2 z2 A2 len2 cap2 ys2 w' hy2 hl2 (hA2.kept h.t))
  clear hA1 hA2 hy1 hy2 hl1 hl2
  go_enter Tryd.func3, Tryd.ntmps3
  go_wp2_with fail
  refine (sanity _).mono ?_
  rintro e w1 ⟨rfl, h1⟩
  have F := Lib.hid ((((F.out.add (.cells #[.bool n1, .slice A1 len1 cap1, .int .i64 z1] 24) w.heap.size rfl).add (.cells #[.bool n2, .slice A2 len2 cap2, .int .i64 z2] 24) (w.heap.size + 1) (by simp))).keep h1)
  clear h1
  have c0 := F.out.cell 0 0 rfl rfl
  have c1 := F.out.cell 0 1 rfl rfl
  have c2 := F.out.cell 0 2 rfl rfl
  go_wp2_with fail
  refine (N1.out _ _ F.out).mono ?_
  rintro e w2 ⟨s1, ⟨hs1, rfl⟩, h1⟩
  have F := Lib.hid ((F.out.keep h1).add (.cells #[.bool n1, .string s1] 27) w2.heap.size rfl)
  clear h1 c0 c1 c2
  have c0 := F.out.cell 1 0 rfl rfl
  have c1 := F.out.cell 1 1 rfl rfl
  have c2 := F.out.cell 1 2 rfl rfl
  go_wp2_with fail
  refine (N2.out _ _ F.out).mono ?_
  rintro e w3 ⟨s2, ⟨hs2, rfl⟩, h1⟩
  have F := Lib.hid ((F.out.keep h1).add (.cells #[.bool n2, .string s2] 27) w3.heap.size rfl)
  clear h1 c0 c1 c2
  clear N1 N2
  obtain ⟨l, G, SA0⟩ : ∃ l, Fr w (w3.alloc (.cells #[.bool n2, .string s2] 27)) l ∧ (∀ w', Fr w w' l → w'.cell? ⟨w2.heap.size, 0, none⟩ = some (.bool n1) ∧ w'.cell? ⟨w2.heap.size, 1, none⟩ = some (.string s1) ∧ w'.cell? ⟨w3.heap.size, 0, none⟩ = some (.bool n2) ∧ w'.cell? ⟨w3.heap.size, 1, none⟩ = some (.string s2)) :=
    ⟨_, F.out, fun w' F => ⟨F.cell 2 0 rfl rfl, F.cell 2 1 rfl rfl, F.cell 3 0 rfl rfl, F.cell 3 1 rfl rfl⟩⟩
  have F := Lib.hid G
  have SA := Lib.hid SA0
  obtain ⟨x, hx⟩ : ∃ x, zval n1 (bv (sb s1)) = x := ⟨_, rfl⟩
  obtain ⟨y, hy⟩ : ∃ y, zval n2 (bv (sb s2)) = y := ⟨_, rfl⟩
  have ra : Rep 1000 n1 s1 x := ⟨hx, by omega⟩
  have rb : Rep 1000 n2 s2 y := ⟨hy, by omega⟩
  have lx : x.natAbs < 256 ^ 40 := Rep.lt ⟨hx, hs1⟩
  have ly : y.natAbs < 256 ^ 40 := Rep.lt ⟨hy, hs2⟩
  have qa : Rep 400 n1 s1 x := ⟨hx, by omega⟩
  have qb : Rep 400 n2 s2 y := ⟨hy, by omega⟩
  have h0 : (x - y).natAbs < 256 ^ 41 := by
    have h1 : (x - y).natAbs ≤ x.natAbs + y.natAbs := by omega
    have h2 : (256 : Nat) ^ 40 + 256 ^ 40 ≤ 256 ^ 41 := by decide
    omega
  have k1 := fun w' => ZAdd (ra.mono (L := 400000) (by omega)) (rb.mono (L := 400000) (by omega)) w'
  have k2 := fun w' => rAdd ra rb w'
  have k3 := fun w' => ZSub (ra.mono (L := 400000) (by omega)) (rb.mono (L := 400000) (by omega)) w'
  have k4 := fun w' => rSub ra rb w'
  have k5 := fun w' => ZNeg (ra.mono (L := 1000000) (by omega)) w'
  have k6 := fun w' => rNeg ra w'
  have k7 := fun w' => ZSign hx w'
  have k8 := fun w' => rSign ra w'
  have k9 := fun w' => ZCmp hx hy w'
  have k10 := fun w' => rCmp qa qb (K := 41) (by decide) h0 w'
  have k11 := fun w' => ZCmp hx hx w'
  rw [show (x - x).sign = 0 from by rw [Int.sub_self]; rfl] at k11
  have e5 : (x - y).sign = cmpI x y := by
    unfold cmpI
    split
    · rw [Int.sign_eq_neg_one_of_neg (by omega)]
    · split
      · rw [Int.sign_eq_one_of_pos (by omega)]
      · rw [show x - y = 0 from by omega]; rfl
  rw [← e5] at k10
  obtain ⟨b1, t1, e1⟩ : ∃ b s, wz (x + y) = .agg #[.bool b, .string s] := ⟨_, _, wz_mo _⟩
  obtain ⟨b2, t2, e2⟩ : ∃ b s, wz (x - y) = .agg #[.bool b, .string s] := ⟨_, _, wz_mo _⟩
  obtain ⟨b3, t3, e3⟩ : ∃ b s, wz (-x) = .agg #[.bool b, .string s] := ⟨_, _, wz_mo _⟩
  obtain ⟨g1, e6⟩ : ∃ g, x.sign = g := ⟨_, rfl⟩
  obtain ⟨g2, e7⟩ : ∃ g, (x - y).sign = g := ⟨_, rfl⟩
  rw [e1] at k1 k2
  rw [e2] at k3 k4
  rw [e3] at k5 k6
  rw [e6] at k7 k8
  rw [e7] at k9 k10
  have K1 := Lib.hid k1
  have K2 := Lib.hid k2
  have K3 := Lib.hid k3
  have K4 := Lib.hid k4
  have K5 := Lib.hid k5
  have K6 := Lib.hid k6
  have K7 := Lib.hid k7
  have K8 := Lib.hid k8
  have K9 := Lib.hid k9
  have K10 := Lib.hid k10
  have K11 := Lib.hid k11
  clear G SA0 k1 k2 k3 k4 k5 k6 k7 k8 k9 k10 k11 e1 e2 e3 e5 e6 e7 ra rb hx hy hs1 hs2 h0 qa qb lx ly
  go_wp2_with fail
  go_region_held3 (fun w' => w'.cell? ⟨w2.heap.size, 0, none⟩ = some (.bool n1) ∧ w'.cell? ⟨w2.heap.size, 1, none⟩ = some (.string s1) ∧ w'.cell? ⟨w3.heap.size, 0, none⟩ = some (.bool n2) ∧ w'.cell? ⟨w3.heap.size, 1, none⟩ = some (.string s2)) (first | with_reducible exact SA.out _ F.out | exact SA.out _ F.out.drew) (first | (go_at_call 14; (first | (with_reducible refine (K1.out _).mono ?_)); rintro e w' ⟨rfl, h1⟩; (first | (with_reducible have F := Lib.hid (F.out.keep h1)) | (with_reducible have F := Lib.hid (F.out.drew.keep h1))); clear h1) | (go_at_call 15; (first | (with_reducible refine (K2.out _).mono ?_)); rintro e w' ⟨rfl, h1⟩; (first | (with_reducible have F := Lib.hid (F.out.keep h1)) | (with_reducible have F := Lib.hid (F.out.drew.keep h1))); clear h1) | (go_at_call 16; (first | (with_reducible refine (K3.out _).mono ?_)); rintro e w' ⟨rfl, h1⟩; (first | (with_reducible have F := Lib.hid (F.out.keep h1)) | (with_reducible have F := Lib.hid (F.out.drew.keep h1))); clear h1) | (go_at_call 17; (first | (with_reducible refine (K4.out _).mono ?_)); rintro e w' ⟨rfl, h1⟩; (first | (with_reducible have F := Lib.hid (F.out.keep h1)) | (with_reducible have F := Lib.hid (F.out.drew.keep h1))); clear h1) | (go_at_call 18; (first | (with_reducible refine (K5.out _).mono ?_)); rintro e w' ⟨rfl, h1⟩; (first | (with_reducible have F := Lib.hid (F.out.keep h1)) | (with_reducible have F := Lib.hid (F.out.drew.keep h1))); clear h1) | (go_at_call 19; (first | (with_reducible refine (K6.out _).mono ?_)); rintro e w' ⟨rfl, h1⟩; (first | (with_reducible have F := Lib.hid (F.out.keep h1)) | (with_reducible have F := Lib.hid (F.out.drew.keep h1))); clear h1) | (go_at_call 20; (first | (with_reducible refine (K7.out _).mono ?_)); rintro e w' ⟨rfl, h1⟩; (first | (with_reducible have F := Lib.hid (F.out.keep h1)) | (with_reducible have F := Lib.hid (F.out.drew.keep h1))); clear h1) | (go_at_call 21; (first | (with_reducible refine (K8.out _).mono ?_)); rintro e w' ⟨rfl, h1⟩; (first | (with_reducible have F := Lib.hid (F.out.keep h1)) | (with_reducible have F := Lib.hid (F.out.drew.keep h1))); clear h1) | (go_at_call 22; (first | (with_reducible refine (K9.out _).mono ?_) | (with_reducible refine (K11.out _).mono ?_)); rintro e w' ⟨rfl, h1⟩; (first | (with_reducible have F := Lib.hid (F.out.keep h1)) | (with_reducible have F := Lib.hid (F.out.drew.keep h1))); clear h1) | (go_at_call 23; (first | (with_reducible refine (K10.out _).mono ?_)); rintro e w' ⟨rfl, h1⟩; (first | (with_reducible have F := Lib.hid (F.out.keep h1)) | (with_reducible have F := Lib.hid (F.out.drew.keep h1))); clear h1))
  go_wp2
  go_ret
  exact ⟨rfl, F.out.t⟩

end Go.Proofs.YtjknmcmniemigaaDoor
