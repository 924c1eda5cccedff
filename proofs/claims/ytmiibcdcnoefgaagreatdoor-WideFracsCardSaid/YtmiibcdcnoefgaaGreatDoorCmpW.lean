/- wide.compareMagnitudes, wide.Cmp. -/
import Derived.Test.YtmiibcdcnoefgaaGreatDoorFr
namespace Go.Proofs.YtmiibcdcnoefgaaGreatDoor
open Go.RowKit Dg

theorem bv_cons (x : Nat) (l : List Nat) : bv (x :: l) = bv l + 256 ^ l.length * x := by
  unfold bv; rw [List.reverse_cons, dg_snoc, List.length_reverse]

theorem map_toNat_ok (l : List UInt8) : Ok 256 (l.map UInt8.toNat) := by
  intro x hx
  obtain ⟨b, _, rfl⟩ := List.mem_map.1 hx
  exact b.toNat_lt

theorem cmpI_casts {p q : Nat} : (p < q → cmpI (p : Int) (q : Int) = -1) ∧ (p = q → cmpI (p : Int) (q : Int) = 0) ∧ (q < p → cmpI (p : Int) (q : Int) = 1) := by
  refine ⟨fun h => ?_, fun h => ?_, fun h => ?_⟩
  · unfold cmpI; rw [if_pos (by omega)]
  · unfold cmpI; rw [if_neg (by omega), if_neg (by omega)]
  · unfold cmpI; rw [if_neg (by omega), if_pos (by omega)]

/-- Strings of one length are ordered as their numbers. -/
theorem cmpB_eq : ∀ a b : List UInt8, a.length = b.length → Lib.compareBytes a b = cmpI (bv (a.map UInt8.toNat) : Nat) (bv (b.map UInt8.toNat) : Nat)
  | [], [], _ => by rfl
  | a :: la, b :: lb, h => by
    have hl : la.length = lb.length := by simpa using h
    have ih := cmpB_eq la lb hl
    have ha := bv_lt (map_toNat_ok la)
    have hb := bv_lt (map_toNat_ok lb)
    rw [List.length_map] at ha hb
    rw [← hl] at hb
    unfold Lib.compareBytes
    rw [List.map_cons, List.map_cons, bv_cons, bv_cons, List.length_map, List.length_map, ← hl, ih]
    generalize 256 ^ la.length = P at *
    generalize bv (la.map UInt8.toNat) = A at *
    generalize bv (lb.map UInt8.toNat) = B at *
    by_cases h1 : a < b
    · have h2 : a.toNat + 1 ≤ b.toNat := UInt8.lt_iff_toNat_lt.1 h1
      have h3 := Nat.mul_le_mul_left P h2
      rw [Nat.mul_add, Nat.mul_one] at h3
      rw [if_pos h1, cmpI_casts.1 (by omega)]
    · rw [if_neg h1]
      by_cases h4 : b < a
      · have h2 : b.toNat + 1 ≤ a.toNat := UInt8.lt_iff_toNat_lt.1 h4
        have h3 := Nat.mul_le_mul_left P h2
        rw [Nat.mul_add, Nat.mul_one] at h3
        rw [if_pos h4, cmpI_casts.2.2 (by omega)]
      · have e : a.toNat = b.toNat := by
          have h5 : ¬ a.toNat < b.toNat := fun h => h1 (UInt8.lt_iff_toNat_lt.2 h)
          have h6 : ¬ b.toNat < a.toNat := fun h => h4 (UInt8.lt_iff_toNat_lt.2 h)
          omega
        rw [if_neg h4, e]
        generalize P * b.toNat = Q
        rcases Nat.lt_trichotomy A B with h7 | h7 | h7
        · rw [cmpI_casts.1 h7, cmpI_casts.1 (by omega)]
        · rw [cmpI_casts.2.1 h7, cmpI_casts.2.1 (by omega)]
        · rw [cmpI_casts.2.2 h7, cmpI_casts.2.2 (by omega)]

theorem size_mo_eq (n : Nat) : (mo n).size = (digs 256 n).length := by rw [← sb_length, sb_mo, List.length_reverse]

theorem lt_of_size {m n : Nat} (h : (mo m).size < (mo n).size) : m < n := by
  rw [size_mo_eq, size_mo_eq] at h
  rcases Nat.lt_or_ge m n with h1 | h1
  · exact h1
  · have := digs_length_mono (b := 256) (by decide) h1; omega

/-- The order of magnitudes. -/
theorem cmp_mo (m n : Nat) : (if cmpI ((mo m).size : Int) ((mo n).size : Int) ≠ 0 then cmpI ((mo m).size : Int) ((mo n).size : Int) else Lib.compareBytes (mo m).data.toList (mo n).data.toList) = cmpI (m : Int) (n : Int) := by
  have hb : (mo m).size = (mo n).size → Lib.compareBytes (mo m).data.toList (mo n).data.toList = cmpI (m : Int) (n : Int) := by
    intro h
    rw [cmpB_eq _ _ (by simpa using h)]
    have h1 := bv_mo m
    have h2 := bv_mo n
    unfold sb at h1 h2
    rw [h1, h2]
  have hl := @lt_of_size m n
  have hg := @lt_of_size n m
  generalize Lib.compareBytes (mo m).data.toList (mo n).data.toList = c at *
  generalize (mo m).size = p at *
  generalize (mo n).size = q at *
  rcases Nat.lt_trichotomy p q with h | h | h
  · rw [cmpI_casts.1 h, if_pos (by decide), cmpI_casts.1 (hl h)]
  · rw [cmpI_casts.2.1 h, if_neg (by decide), hb h]
  · rw [cmpI_casts.2.2 h, if_pos (by decide), cmpI_casts.2.2 (hg h)]

/-- The order of integers, by their signs and sizes. -/
theorem cmp_sign (x y : Int) : (if cmpI x.sign y.sign ≠ 0 then cmpI x.sign y.sign else x.sign * cmpI (x.natAbs : Int) (y.natAbs : Int)) = (x - y).sign := by
  have neg : ∀ z : Int, z < 0 → z.sign = -1 := fun z h => Int.sign_eq_neg_one_of_neg h
  have pos : ∀ z : Int, 0 < z → z.sign = 1 := fun z h => Int.sign_eq_one_of_pos h
  have zer : ∀ z : Int, z = 0 → z.sign = 0 := fun z h => by rw [h]; rfl
  rcases Int.lt_trichotomy x 0 with hx | hx | hx <;> rcases Int.lt_trichotomy y 0 with hy | hy | hy
  · rw [neg x hx, neg y hy, if_neg (by decide)]
    rcases Nat.lt_trichotomy x.natAbs y.natAbs with h | h | h
    · rw [cmpI_casts.1 h, pos (x - y) (by omega)]; rfl
    · rw [cmpI_casts.2.1 h, zer (x - y) (by omega)]; rfl
    · rw [cmpI_casts.2.2 h, neg (x - y) (by omega)]; rfl
  · rw [neg x hx, zer y hy, if_pos (by decide), neg (x - y) (by omega)]; rfl
  · rw [neg x hx, pos y hy, if_pos (by decide), neg (x - y) (by omega)]; rfl
  · rw [zer x hx, neg y hy, if_pos (by decide), pos (x - y) (by omega)]; rfl
  · rw [zer x hx, zer y hy, if_neg (by decide), zer (x - y) (by omega)]; simp
  · rw [zer x hx, pos y hy, if_pos (by decide), neg (x - y) (by omega)]; rfl
  · rw [pos x hx, neg y hy, if_pos (by decide), pos (x - y) (by omega)]; rfl
  · rw [pos x hx, zer y hy, if_pos (by decide), pos (x - y) (by omega)]; rfl
  · rw [pos x hx, pos y hy, if_neg (by decide)]
    rcases Nat.lt_trichotomy x.natAbs y.natAbs with h | h | h
    · rw [cmpI_casts.1 h, neg (x - y) (by omega)]; rfl
    · rw [cmpI_casts.2.1 h, zer (x - y) (by omega)]; rfl
    · rw [cmpI_casts.2.2 h, pos (x - y) (by omega)]; rfl

end Go.Proofs.YtmiibcdcnoefgaaGreatDoor

/- wide.compareMagnitudes, wide.Cmp. -/
namespace Go.Proofs.YtmiibcdcnoefgaaGreatDoor
open Go.RowKit Dg

set_option maxHeartbeats 4000000 in
set_option maxRecDepth 100000 in
theorem cmpMag (m n : Nat) (w : World) :
    Calls Tryz.prog 54 #[.string (mo m), .string (mo n)] w fun e w' => e = .returned (.int .i64 (cmpI (m : Int) (n : Int))) ∧ Tch [] w w' := by
  have hC := cmp_mo m n
  have C1 := Lib.hid (fun w1 => compareInt ((mo m).size : Int) ((mo n).size : Int) w1)
  have C2 := Lib.hid (fun w1 => Tryz.strings_Compare (mo m) (mo n) w1)
  obtain ⟨s, hs⟩ : ∃ s, mo m = s := ⟨_, rfl⟩
  obtain ⟨t, ht⟩ : ∃ t, mo n = t := ⟨_, rfl⟩
  rw [hs, ht] at C1 C2 hC ⊢
  obtain ⟨o, ho⟩ : ∃ o, cmpI (s.size : Int) (t.size : Int) = o := ⟨_, rfl⟩
  rw [ho] at C1 hC
  have HC := Lib.hid hC
  clear hC ho hs ht
  by_cases h : o = 0
  · subst h
    go_enter Tryz.func54, Tryz.ntmps54
    go_wp2_with fail
    refine (C1.out _).mono ?_
    rintro e w1 ⟨rfl, rfl⟩
    go_wp2_with fail
    refine (C2.out _).mono ?_
    rintro e w1 ⟨rfl, rfl⟩
    go_wp2
    go_ret
    exact ⟨by rw [← HC.out, if_neg (by simp)]; rfl, Tch.refl _ _⟩
  · have h1 : (o == 0) = false := by simpa using h
    have H := Lib.hid h
    clear h
    go_enter Tryz.func54, Tryz.ntmps54
    go_wp2_with fail
    refine (C1.out _).mono ?_
    rintro e w1 ⟨rfl, rfl⟩
    go_wp2
    go_ret
    exact ⟨by rw [← HC.out, if_pos H.out]; rfl, Tch.refl _ _⟩

theorem sign_le (z : Int) : -1 ≤ z.sign ∧ z.sign ≤ 1 := by
  rcases Int.lt_trichotomy z 0 with h | h | h
  · rw [Int.sign_eq_neg_one_of_neg h]; omega
  · rw [h]; decide
  · rw [Int.sign_eq_one_of_pos h]; omega

set_option maxHeartbeats 4000000 in
set_option maxRecDepth 100000 in
theorem ZCmp {na nb : Bool} {sa sc : ByteArray} {x y : Int} (hx : zval na (bv (sb sa)) = x) (hy : zval nb (bv (sb sc)) = y) (w : World) :
    Calls Tryz.prog 28 #[.agg #[.bool na, .string sa], .agg #[.bool nb, .string sc]] w fun e w' => e = .returned (.int .i64 (x - y).sign) ∧ Tch [] w w' := by
  have C1 := Lib.hid (fun w1 => ZSign hx w1)
  have C2 := Lib.hid (fun w1 => ZSign hy w1)
  have hC := cmp_sign x y
  have c4 := fun w1 => magnitude na sa w1
  have c5 := fun w1 => magnitude nb sc w1
  have e1 : mg sa = mo x.natAbs := by rw [mg_mo, ← hx, natAbs_zval]
  have e2 : mg sc = mo y.natAbs := by rw [mg_mo, ← hy, natAbs_zval]
  rw [e1] at c4
  rw [e2] at c5
  have c6 := fun w1 => cmpMag x.natAbs y.natAbs w1
  obtain ⟨s, hs⟩ : ∃ s, mo x.natAbs = s := ⟨_, rfl⟩
  obtain ⟨t, ht⟩ : ∃ t, mo y.natAbs = t := ⟨_, rfl⟩
  rw [hs] at c4 c6
  rw [ht] at c5 c6
  have C3 := Lib.hid (fun w1 => compareInt x.sign y.sign w1)
  obtain ⟨c, hc⟩ : ∃ c, cmpI (x.natAbs : Int) (y.natAbs : Int) = c := ⟨_, rfl⟩
  rw [hc] at c6 hC
  obtain ⟨r, hr⟩ : ∃ r, (x - y).sign = r := ⟨_, rfl⟩
  have hr1 := sign_le (x - y)
  rw [hr] at hC hr1 ⊢
  obtain ⟨p, hp⟩ : ∃ p, x.sign = p := ⟨_, rfl⟩
  obtain ⟨q, hq⟩ : ∃ q, y.sign = q := ⟨_, rfl⟩
  rw [hp] at C1 C3 hC
  rw [hq] at C2 C3 hC
  obtain ⟨o, ho⟩ : ∃ o, cmpI p q = o := ⟨_, rfl⟩
  rw [ho] at C3 hC
  have HC := Lib.hid hC
  have HR := Lib.hid hr1
  have C4 := Lib.hid c4
  have C5 := Lib.hid c5
  have C6 := Lib.hid c6
  clear hC hr1 c4 c5 c6 hr hp hq ho hc hs ht e1 e2 hx hy
  by_cases h : o = 0
  · subst h
    have HP : Hid (p * c = r) := Lib.hid (by rw [← HC.out, if_neg (by simp)])
    go_enter Tryz.func28, Tryz.ntmps28
    go_wp2_with fail
    refine (C1.out _).mono ?_
    rintro e w1 ⟨rfl, h1⟩
    have F := Lib.hid ((((Fr.nil w).add (.cells #[.bool na, .string sa] 28) w.heap.size rfl).add (.cells #[.bool nb, .string sc] 28) (w.heap.size + 1) (by simp)).keep h1)
    clear h1
    obtain ⟨b0, b1⟩ := F.out.two 1 rfl
    go_wp2_with fail
    refine (C2.out _).mono ?_
    rintro e w2 ⟨rfl, h1⟩
    have F := Lib.hid (F.out.keep h1)
    clear h1 b0 b1
    go_wp2_with fail
    refine (C3.out _).mono ?_
    rintro e w3 ⟨rfl, rfl⟩
    obtain ⟨b0, b1⟩ := F.out.two 1 rfl
    obtain ⟨a0, a1⟩ := F.out.two 0 rfl
    obtain ⟨l, G, SA0⟩ : ∃ l, Fr w w2 l ∧ (∀ w', Fr w w' l → w'.cell? ⟨w.heap.size, 0, none⟩ = some (.bool na) ∧ w'.cell? ⟨w.heap.size, 1, none⟩ = some (.string sa) ∧ w'.cell? ⟨w.heap.size + 1, 0, none⟩ = some (.bool nb) ∧ w'.cell? ⟨w.heap.size + 1, 1, none⟩ = some (.string sc)) := ⟨_, F.out, fun w' F => ⟨F.cell 0 0 rfl rfl, F.cell 0 1 rfl rfl, F.cell 1 0 rfl rfl, F.cell 1 1 rfl rfl⟩⟩
    have F := Lib.hid G
    have SA := Lib.hid SA0
    clear G SA0 b0 b1 a0 a1
    have HW : Hid (IntKind.i64.wrap (p * c) = r) := Lib.hid (by have := HR.out; rw [HP.out, IntKind.wrap_i64]; omega)
    go_wp2_with fail
    go_region_held3 (fun w' => w'.cell? ⟨w.heap.size, 0, none⟩ = some (.bool na) ∧ w'.cell? ⟨w.heap.size, 1, none⟩ = some (.string sa) ∧ w'.cell? ⟨w.heap.size + 1, 0, none⟩ = some (.bool nb) ∧ w'.cell? ⟨w.heap.size + 1, 1, none⟩ = some (.string sc)) (first | with_reducible exact SA.out _ F.out | exact SA.out _ F.out.drew) (first
      | (go_at_call 48; (first | (with_reducible refine (C4.out _).mono ?_) | (with_reducible refine (C5.out _).mono ?_)); rintro e w' ⟨rfl, h1⟩; (first | (with_reducible have F := Lib.hid (F.out.keep h1)) | (with_reducible have F := Lib.hid (F.out.drew.keep h1))); clear h1)
      | (go_at_call 54; refine (C6.out _).mono ?_; rintro e w' ⟨rfl, h1⟩; (first | (with_reducible have F := Lib.hid (F.out.keep h1)) | (with_reducible have F := Lib.hid (F.out.drew.keep h1))); clear h1))
    go_wp2
    go_ret
    exact ⟨by rw [← HW.out]; rfl, F.out.t⟩
  · have hob : (o == 0) = false := by simpa using h
    have HP : Hid (o = r) := Lib.hid (by rw [← HC.out, if_pos h])
    clear h
    go_enter Tryz.func28, Tryz.ntmps28
    go_wp2_with fail
    refine (C1.out _).mono ?_
    rintro e w1 ⟨rfl, h1⟩
    have F := Lib.hid ((((Fr.nil w).add (.cells #[.bool na, .string sa] 28) w.heap.size rfl).add (.cells #[.bool nb, .string sc] 28) (w.heap.size + 1) (by simp)).keep h1)
    clear h1
    obtain ⟨b0, b1⟩ := F.out.two 1 rfl
    go_wp2_with fail
    refine (C2.out _).mono ?_
    rintro e w2 ⟨rfl, h1⟩
    have F := Lib.hid (F.out.keep h1)
    clear h1 b0 b1
    go_wp2_with fail
    refine (C3.out _).mono ?_
    rintro e w3 ⟨rfl, rfl⟩
    go_wp2
    go_ret
    exact ⟨by rw [← HP.out]; rfl, F.out.t⟩

end Go.Proofs.YtmiibcdcnoefgaaGreatDoor
