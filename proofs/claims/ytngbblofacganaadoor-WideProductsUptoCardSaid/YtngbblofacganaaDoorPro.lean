/- The walk of WideProducts. -/
import Derived.Test.YtngbblofacganaaDoorNum
import Derived.Test.YtngbblofacganaaDoorSan
import Derived.Test.YtngbblofacganaaDoorRef
namespace Go.Proofs.YtngbblofacganaaDoor
open Go.RowKit Dg


set_option maxHeartbeats 4000000 in
set_option maxRecDepth 100000 in
theorem pro_walk (w : World) (n1 : Bool) (A1 : Option Addr) (len1 cap1 : Nat) (z1 : Int) (ys1 : List Nat) (hy1 : ys1.length = len1) (hl1 : len1 ≤ 1048576) (hA1 : Src w A1 ys1) (n2 : Bool) (A2 : Option Addr) (len2 cap2 : Nat) (z2 : Int) (ys2 : List Nat) (hy2 : ys2.length = len2) (hl2 : len2 ≤ 1048576) (hA2 : Src w A2 ys2) :
    Calls Tryd.prog 4 #[.agg #[.bool n1, .slice A1 len1 cap1, .int .i64 z1], .agg #[.bool n2, .slice A2 len2 cap2, .int .i64 z2]] w fun e w' => e = .returned (.bool true) ∧ Tch [] w w' := by
  have F := Lib.hid (Fr.nil w)
  have N1 : Hid (∀ w' l, Fr w w' l → Calls Tryd.prog 15 #[.agg #[.bool n1, .slice A1 len1 cap1, .int .i64 z1]] w' fun e w2 => ∃ s, (s.size ≤ 40 ∧ e = .returned (.agg #[.bool n1, .string s])) ∧ Tch [] w' w2) := Lib.hid (fun w' l h => NumW n1 z1 A1 len1 cap1 ys1 w' hy1 hl1 (hA1.kept h.t))
  have N2 : Hid (∀ w' l, Fr w w' l → Calls Tryd.prog 15 #[.agg #[.bool n2, .slice A2 len2 cap2, .int .i64 z2]] w' fun e w2 => ∃ s, (s.size ≤ 40 ∧ e = .returned (.agg #[.bool n2, .string s])) ∧ Tch [] w' w2) := Lib.hid (fun w' l h => NumW n2 z2 A2 len2 cap2 ys2 w' hy2 hl2 (hA2.kept h.t))
  clear hA1 hA2 hy1 hy2 hl1 hl2
  go_enter Tryd.func4, Tryd.ntmps4
  go_wp2_with fail
  refine (sanity _).mono ?_
  rintro e w1 ⟨rfl, h1⟩
  have F := Lib.hid ((((F.out.add (.cells #[.bool n1, .slice A1 len1 cap1, .int .i64 z1] 24) w.heap.size rfl).add (.cells #[.bool n2, .slice A2 len2 cap2, .int .i64 z2] 24) (w.heap.size + 1) (by simp))).keep h1)
  clear h1
  have c0 := F.out.cell 0 0 rfl rfl
  have c1 := F.out.cell 0 1 rfl rfl
  have c2 := F.out.cell 0 2 rfl rfl
  go_wp2_with fail
  refine (N1.out _ _ F.out).mono ?_
  rintro e w2 ⟨s1, ⟨hs1, rfl⟩, h1⟩
  have F := Lib.hid ((F.out.keep h1).add (.cells #[.bool n1, .string s1] 27) w2.heap.size rfl)
  clear h1 c0 c1 c2
  have c0 := F.out.cell 1 0 rfl rfl
  have c1 := F.out.cell 1 1 rfl rfl
  have c2 := F.out.cell 1 2 rfl rfl
  go_wp2_with fail
  refine (N2.out _ _ F.out).mono ?_
  rintro e w3 ⟨s2, ⟨hs2, rfl⟩, h1⟩
  have F := Lib.hid ((F.out.keep h1).add (.cells #[.bool n2, .string s2] 27) w3.heap.size rfl)
  clear h1 c0 c1 c2
  clear N1 N2
  obtain ⟨l, G, SA0⟩ : ∃ l, Fr w (w3.alloc (.cells #[.bool n2, .string s2] 27)) l ∧ (∀ w', Fr w w' l → w'.cell? ⟨w2.heap.size, 0, none⟩ = some (.bool n1) ∧ w'.cell? ⟨w2.heap.size, 1, none⟩ = some (.string s1) ∧ w'.cell? ⟨w3.heap.size, 0, none⟩ = some (.bool n2) ∧ w'.cell? ⟨w3.heap.size, 1, none⟩ = some (.string s2)) :=
    ⟨_, F.out, fun w' F => ⟨F.cell 2 0 rfl rfl, F.cell 2 1 rfl rfl, F.cell 3 0 rfl rfl, F.cell 3 1 rfl rfl⟩⟩
  have F := Lib.hid G
  have SA := Lib.hid SA0
  obtain ⟨x, hx⟩ : ∃ x, zval n1 (bv (sb s1)) = x := ⟨_, rfl⟩
  obtain ⟨y, hy⟩ : ∃ y, zval n2 (bv (sb s2)) = y := ⟨_, rfl⟩
  have ra : Rep 1000 n1 s1 x := ⟨hx, by omega⟩
  have rb : Rep 1000 n2 s2 y := ⟨hy, by omega⟩
  have k1 := fun w' => ZMul (ra.mono (L := 400000) (by omega)) (rb.mono (L := 400000) (by omega)) w'
  have k2 := fun w' => rMul ra rb w'
  have k3 := fun w' => ZMul (ra.mono (L := 400000) (by omega)) (ra.mono (L := 400000) (by omega)) w'
  have k4 := fun w' => rMul ra ra w'
  obtain ⟨b1, t1, e1⟩ : ∃ b s, wz (x * y) = .agg #[.bool b, .string s] := ⟨_, _, wz_mo _⟩
  obtain ⟨b2, t2, e2⟩ : ∃ b s, wz (x * x) = .agg #[.bool b, .string s] := ⟨_, _, wz_mo _⟩
  rw [e1] at k1 k2
  rw [e2] at k3 k4
  have K1 := Lib.hid k1
  have K2 := Lib.hid k2
  have K3 := Lib.hid k3
  have K4 := Lib.hid k4
  clear G SA0 k1 k2 k3 k4 e1 e2 ra rb hx hy hs1 hs2
  go_wp2_with fail
  go_region_held3 (fun w' => w'.cell? ⟨w2.heap.size, 0, none⟩ = some (.bool n1) ∧ w'.cell? ⟨w2.heap.size, 1, none⟩ = some (.string s1) ∧ w'.cell? ⟨w3.heap.size, 0, none⟩ = some (.bool n2) ∧ w'.cell? ⟨w3.heap.size, 1, none⟩ = some (.string s2)) (first | with_reducible exact SA.out _ F.out | exact SA.out _ F.out.drew) (first | (go_at_call 26; (first | (with_reducible refine (K1.out _).mono ?_) | (with_reducible refine (K3.out _).mono ?_)); rintro e w' ⟨rfl, h1⟩; (first | (with_reducible have F := Lib.hid (F.out.keep h1)) | (with_reducible have F := Lib.hid (F.out.drew.keep h1))); clear h1) | (go_at_call 27; (first | (with_reducible refine (K2.out _).mono ?_) | (with_reducible refine (K4.out _).mono ?_)); rintro e w' ⟨rfl, h1⟩; (first | (with_reducible have F := Lib.hid (F.out.keep h1)) | (with_reducible have F := Lib.hid (F.out.drew.keep h1))); clear h1))
  go_wp2
  go_ret
  exact ⟨rfl, F.out.t⟩

end Go.Proofs.YtngbblofacganaaDoor
