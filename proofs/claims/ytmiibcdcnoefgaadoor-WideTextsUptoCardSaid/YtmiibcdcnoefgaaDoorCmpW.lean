/- wide.compareMagnitudes, wide.Cmp. -/
import Derived.Test.YtmiibcdcnoefgaaDoorCmp
import Derived.Test.YtmiibcdcnoefgaaDoorFr
namespace Go.Proofs.YtmiibcdcnoefgaaDoor
open Go.RowKit Dg

set_option maxHeartbeats 4000000 in
set_option maxRecDepth 100000 in
theorem cmpMag (m n : Nat) (w : World) :
    Calls Tryd.prog 58 #[.string (mo m), .string (mo n)] w fun e w' => e = .returned (.int .i64 (cmpI (m : Int) (n : Int))) ∧ Tch [] w w' := by
  have hC := cmp_mo m n
  have C1 := Lib.hid (fun w1 => compareInt ((mo m).size : Int) ((mo n).size : Int) w1)
  have C2 := Lib.hid (fun w1 => Tryd.strings_Compare (mo m) (mo n) w1)
  obtain ⟨s, hs⟩ : ∃ s, mo m = s := ⟨_, rfl⟩
  obtain ⟨t, ht⟩ : ∃ t, mo n = t := ⟨_, rfl⟩
  rw [hs, ht] at C1 C2 hC ⊢
  obtain ⟨o, ho⟩ : ∃ o, cmpI (s.size : Int) (t.size : Int) = o := ⟨_, rfl⟩
  rw [ho] at C1 hC
  have HC := Lib.hid hC
  clear hC ho hs ht
  by_cases h : o = 0
  · subst h
    go_enter Tryd.func58, Tryd.ntmps58
    go_wp2_with fail
    refine (C1.out _).mono ?_
    rintro e w1 ⟨rfl, rfl⟩
    go_wp2_with fail
    refine (C2.out _).mono ?_
    rintro e w1 ⟨rfl, rfl⟩
    go_wp2
    go_ret
    exact ⟨by rw [← HC.out, if_neg (by simp)]; rfl, Tch.refl _ _⟩
  · have h1 : (o == 0) = false := by simpa using h
    have H := Lib.hid h
    clear h
    go_enter Tryd.func58, Tryd.ntmps58
    go_wp2_with fail
    refine (C1.out _).mono ?_
    rintro e w1 ⟨rfl, rfl⟩
    go_wp2
    go_ret
    exact ⟨by rw [← HC.out, if_pos H.out]; rfl, Tch.refl _ _⟩

theorem sign_le (z : Int) : -1 ≤ z.sign ∧ z.sign ≤ 1 := by
  rcases Int.lt_trichotomy z 0 with h | h | h
  · rw [Int.sign_eq_neg_one_of_neg h]; omega
  · rw [h]; decide
  · rw [Int.sign_eq_one_of_pos h]; omega

set_option maxHeartbeats 4000000 in
set_option maxRecDepth 100000 in
theorem ZCmp {na nb : Bool} {sa sc : ByteArray} {x y : Int} (hx : zval na (bv (sb sa)) = x) (hy : zval nb (bv (sb sc)) = y) (w : World) :
    Calls Tryd.prog 24 #[.agg #[.bool na, .string sa], .agg #[.bool nb, .string sc]] w fun e w' => e = .returned (.int .i64 (x - y).sign) ∧ Tch [] w w' := by
  have C1 := Lib.hid (fun w1 => ZSign hx w1)
  have C2 := Lib.hid (fun w1 => ZSign hy w1)
  have hC := cmp_sign x y
  have c4 := fun w1 => magnitude na sa w1
  have c5 := fun w1 => magnitude nb sc w1
  have e1 : mg sa = mo x.natAbs := by rw [mg_mo, ← hx, natAbs_zval]
  have e2 : mg sc = mo y.natAbs := by rw [mg_mo, ← hy, natAbs_zval]
  rw [e1] at c4
  rw [e2] at c5
  have c6 := fun w1 => cmpMag x.natAbs y.natAbs w1
  obtain ⟨s, hs⟩ : ∃ s, mo x.natAbs = s := ⟨_, rfl⟩
  obtain ⟨t, ht⟩ : ∃ t, mo y.natAbs = t := ⟨_, rfl⟩
  rw [hs] at c4 c6
  rw [ht] at c5 c6
  have C3 := Lib.hid (fun w1 => compareInt x.sign y.sign w1)
  obtain ⟨c, hc⟩ : ∃ c, cmpI (x.natAbs : Int) (y.natAbs : Int) = c := ⟨_, rfl⟩
  rw [hc] at c6 hC
  obtain ⟨r, hr⟩ : ∃ r, (x - y).sign = r := ⟨_, rfl⟩
  have hr1 := sign_le (x - y)
  rw [hr] at hC hr1 ⊢
  obtain ⟨p, hp⟩ : ∃ p, x.sign = p := ⟨_, rfl⟩
  obtain ⟨q, hq⟩ : ∃ q, y.sign = q := ⟨_, rfl⟩
  rw [hp] at C1 C3 hC
  rw [hq] at C2 C3 hC
  obtain ⟨o, ho⟩ : ∃ o, cmpI p q = o := ⟨_, rfl⟩
  rw [ho] at C3 hC
  have HC := Lib.hid hC
  have HR := Lib.hid hr1
  have C4 := Lib.hid c4
  have C5 := Lib.hid c5
  have C6 := Lib.hid c6
  clear hC hr1 c4 c5 c6 hr hp hq ho hc hs ht e1 e2 hx hy
  by_cases h : o = 0
  · subst h
    have HP : Hid (p * c = r) := Lib.hid (by rw [← HC.out, if_neg (by simp)])
    go_enter Tryd.func24, Tryd.ntmps24
    go_wp2_with fail
    refine (C1.out _).mono ?_
    rintro e w1 ⟨rfl, h1⟩
    have F := Lib.hid ((((Fr.nil w).add (.cells #[.bool na, .string sa] 27) w.heap.size rfl).add (.cells #[.bool nb, .string sc] 27) (w.heap.size + 1) (by simp)).keep h1)
    clear h1
    obtain ⟨b0, b1⟩ := F.out.two 1 rfl
    go_wp2_with fail
    refine (C2.out _).mono ?_
    rintro e w2 ⟨rfl, h1⟩
    have F := Lib.hid (F.out.keep h1)
    clear h1 b0 b1
    go_wp2_with fail
    refine (C3.out _).mono ?_
    rintro e w3 ⟨rfl, rfl⟩
    obtain ⟨b0, b1⟩ := F.out.two 1 rfl
    obtain ⟨a0, a1⟩ := F.out.two 0 rfl
    obtain ⟨l, G, SA0⟩ : ∃ l, Fr w w2 l ∧ (∀ w', Fr w w' l → w'.cell? ⟨w.heap.size, 0, none⟩ = some (.bool na) ∧ w'.cell? ⟨w.heap.size, 1, none⟩ = some (.string sa) ∧ w'.cell? ⟨w.heap.size + 1, 0, none⟩ = some (.bool nb) ∧ w'.cell? ⟨w.heap.size + 1, 1, none⟩ = some (.string sc)) := ⟨_, F.out, fun w' F => ⟨F.cell 0 0 rfl rfl, F.cell 0 1 rfl rfl, F.cell 1 0 rfl rfl, F.cell 1 1 rfl rfl⟩⟩
    have F := Lib.hid G
    have SA := Lib.hid SA0
    clear G SA0 b0 b1 a0 a1
    have HW : Hid (IntKind.i64.wrap (p * c) = r) := Lib.hid (by have := HR.out; rw [HP.out, IntKind.wrap_i64]; omega)
    go_wp2_with fail
    go_region_held3 (fun w' => w'.cell? ⟨w.heap.size, 0, none⟩ = some (.bool na) ∧ w'.cell? ⟨w.heap.size, 1, none⟩ = some (.string sa) ∧ w'.cell? ⟨w.heap.size + 1, 0, none⟩ = some (.bool nb) ∧ w'.cell? ⟨w.heap.size + 1, 1, none⟩ = some (.string sc)) (first | with_reducible exact SA.out _ F.out | exact SA.out _ F.out.drew) (first
      | (go_at_call 55; (first | (with_reducible refine (C4.out _).mono ?_) | (with_reducible refine (C5.out _).mono ?_)); rintro e w' ⟨rfl, h1⟩; (first | (with_reducible have F := Lib.hid (F.out.keep h1)) | (with_reducible have F := Lib.hid (F.out.drew.keep h1))); clear h1)
      | (go_at_call 58; refine (C6.out _).mono ?_; rintro e w' ⟨rfl, h1⟩; (first | (with_reducible have F := Lib.hid (F.out.keep h1)) | (with_reducible have F := Lib.hid (F.out.drew.keep h1))); clear h1))
    go_wp2
    go_ret
    exact ⟨by rw [← HW.out]; rfl, F.out.t⟩
  · have hob : (o == 0) = false := by simpa using h
    have HP : Hid (o = r) := Lib.hid (by rw [← HC.out, if_pos h])
    clear h
    go_enter Tryd.func24, Tryd.ntmps24
    go_wp2_with fail
    refine (C1.out _).mono ?_
    rintro e w1 ⟨rfl, h1⟩
    have F := Lib.hid ((((Fr.nil w).add (.cells #[.bool na, .string sa] 27) w.heap.size rfl).add (.cells #[.bool nb, .string sc] 27) (w.heap.size + 1) (by simp)).keep h1)
    clear h1
    obtain ⟨b0, b1⟩ := F.out.two 1 rfl
    go_wp2_with fail
    refine (C2.out _).mono ?_
    rintro e w2 ⟨rfl, h1⟩
    have F := Lib.hid (F.out.keep h1)
    clear h1 b0 b1
    go_wp2_with fail
    refine (C3.out _).mono ?_
    rintro e w3 ⟨rfl, rfl⟩
    go_wp2
    go_ret
    exact ⟨by rw [← HP.out]; rfl, F.out.t⟩

end Go.Proofs.YtmiibcdcnoefgaaDoor
