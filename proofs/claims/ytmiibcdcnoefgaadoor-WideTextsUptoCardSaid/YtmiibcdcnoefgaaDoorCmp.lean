/- wide.compareMagnitudes, wide.Cmp. -/
import Derived.Test.YtmiibcdcnoefgaaDoorFr
namespace Go.Proofs.YtmiibcdcnoefgaaDoor
open Go.RowKit Dg

theorem bv_cons (x : Nat) (l : List Nat) : bv (x :: l) = bv l + 256 ^ l.length * x := by
  unfold bv; rw [List.reverse_cons, dg_snoc, List.length_reverse]

theorem map_toNat_ok (l : List UInt8) : Ok 256 (l.map UInt8.toNat) := by
  intro x hx
  obtain ⟨b, _, rfl⟩ := List.mem_map.1 hx
  exact b.toNat_lt

theorem cmpI_casts {p q : Nat} : (p < q → cmpI (p : Int) (q : Int) = -1) ∧ (p = q → cmpI (p : Int) (q : Int) = 0) ∧ (q < p → cmpI (p : Int) (q : Int) = 1) := by
  refine ⟨fun h => ?_, fun h => ?_, fun h => ?_⟩
  · unfold cmpI; rw [if_pos (by omega)]
  · unfold cmpI; rw [if_neg (by omega), if_neg (by omega)]
  · unfold cmpI; rw [if_neg (by omega), if_pos (by omega)]

/-- Strings of one length are ordered as their numbers. -/
theorem cmpB_eq : ∀ a b : List UInt8, a.length = b.length → Lib.compareBytes a b = cmpI (bv (a.map UInt8.toNat) : Nat) (bv (b.map UInt8.toNat) : Nat)
  | [], [], _ => by rfl
  | a :: la, b :: lb, h => by
    have hl : la.length = lb.length := by simpa using h
    have ih := cmpB_eq la lb hl
    have ha := bv_lt (map_toNat_ok la)
    have hb := bv_lt (map_toNat_ok lb)
    rw [List.length_map] at ha hb
    rw [← hl] at hb
    unfold Lib.compareBytes
    rw [List.map_cons, List.map_cons, bv_cons, bv_cons, List.length_map, List.length_map, ← hl, ih]
    generalize 256 ^ la.length = P at *
    generalize bv (la.map UInt8.toNat) = A at *
    generalize bv (lb.map UInt8.toNat) = B at *
    by_cases h1 : a < b
    · have h2 : a.toNat + 1 ≤ b.toNat := UInt8.lt_iff_toNat_lt.1 h1
      have h3 := Nat.mul_le_mul_left P h2
      rw [Nat.mul_add, Nat.mul_one] at h3
      rw [if_pos h1, cmpI_casts.1 (by omega)]
    · rw [if_neg h1]
      by_cases h4 : b < a
      · have h2 : b.toNat + 1 ≤ a.toNat := UInt8.lt_iff_toNat_lt.1 h4
        have h3 := Nat.mul_le_mul_left P h2
        rw [Nat.mul_add, Nat.mul_one] at h3
        rw [if_pos h4, cmpI_casts.2.2 (by omega)]
      · have e : a.toNat = b.toNat := by
          have h5 : ¬ a.toNat < b.toNat := fun h => h1 (UInt8.lt_iff_toNat_lt.2 h)
          have h6 : ¬ b.toNat < a.toNat := fun h => h4 (UInt8.lt_iff_toNat_lt.2 h)
          omega
        rw [if_neg h4, e]
        generalize P * b.toNat = Q
        rcases Nat.lt_trichotomy A B with h7 | h7 | h7
        · rw [cmpI_casts.1 h7, cmpI_casts.1 (by omega)]
        · rw [cmpI_casts.2.1 h7, cmpI_casts.2.1 (by omega)]
        · rw [cmpI_casts.2.2 h7, cmpI_casts.2.2 (by omega)]

theorem size_mo_eq (n : Nat) : (mo n).size = (digs 256 n).length := by rw [← sb_length, sb_mo, List.length_reverse]

theorem lt_of_size {m n : Nat} (h : (mo m).size < (mo n).size) : m < n := by
  rw [size_mo_eq, size_mo_eq] at h
  rcases Nat.lt_or_ge m n with h1 | h1
  · exact h1
  · have := digs_length_mono (b := 256) (by decide) h1; omega

/-- The order of magnitudes. -/
theorem cmp_mo (m n : Nat) : (if cmpI ((mo m).size : Int) ((mo n).size : Int) ≠ 0 then cmpI ((mo m).size : Int) ((mo n).size : Int) else Lib.compareBytes (mo m).data.toList (mo n).data.toList) = cmpI (m : Int) (n : Int) := by
  have hb : (mo m).size = (mo n).size → Lib.compareBytes (mo m).data.toList (mo n).data.toList = cmpI (m : Int) (n : Int) := by
    intro h
    rw [cmpB_eq _ _ (by simpa using h)]
    have h1 := bv_mo m
    have h2 := bv_mo n
    unfold sb at h1 h2
    rw [h1, h2]
  have hl := @lt_of_size m n
  have hg := @lt_of_size n m
  generalize Lib.compareBytes (mo m).data.toList (mo n).data.toList = c at *
  generalize (mo m).size = p at *
  generalize (mo n).size = q at *
  rcases Nat.lt_trichotomy p q with h | h | h
  · rw [cmpI_casts.1 h, if_pos (by decide), cmpI_casts.1 (hl h)]
  · rw [cmpI_casts.2.1 h, if_neg (by decide), hb h]
  · rw [cmpI_casts.2.2 h, if_pos (by decide), cmpI_casts.2.2 (hg h)]

/-- The order of integers, by their signs and sizes. -/
theorem cmp_sign (x y : Int) : (if cmpI x.sign y.sign ≠ 0 then cmpI x.sign y.sign else x.sign * cmpI (x.natAbs : Int) (y.natAbs : Int)) = (x - y).sign := by
  have neg : ∀ z : Int, z < 0 → z.sign = -1 := fun z h => Int.sign_eq_neg_one_of_neg h
  have pos : ∀ z : Int, 0 < z → z.sign = 1 := fun z h => Int.sign_eq_one_of_pos h
  have zer : ∀ z : Int, z = 0 → z.sign = 0 := fun z h => by rw [h]; rfl
  rcases Int.lt_trichotomy x 0 with hx | hx | hx <;> rcases Int.lt_trichotomy y 0 with hy | hy | hy
  · rw [neg x hx, neg y hy, if_neg (by decide)]
    rcases Nat.lt_trichotomy x.natAbs y.natAbs with h | h | h
    · rw [cmpI_casts.1 h, pos (x - y) (by omega)]; rfl
    · rw [cmpI_casts.2.1 h, zer (x - y) (by omega)]; rfl
    · rw [cmpI_casts.2.2 h, neg (x - y) (by omega)]; rfl
  · rw [neg x hx, zer y hy, if_pos (by decide), neg (x - y) (by omega)]; rfl
  · rw [neg x hx, pos y hy, if_pos (by decide), neg (x - y) (by omega)]; rfl
  · rw [zer x hx, neg y hy, if_pos (by decide), pos (x - y) (by omega)]; rfl
  · rw [zer x hx, zer y hy, if_neg (by decide), zer (x - y) (by omega)]; simp
  · rw [zer x hx, pos y hy, if_pos (by decide), neg (x - y) (by omega)]; rfl
  · rw [pos x hx, neg y hy, if_pos (by decide), pos (x - y) (by omega)]; rfl
  · rw [pos x hx, zer y hy, if_pos (by decide), pos (x - y) (by omega)]; rfl
  · rw [pos x hx, pos y hy, if_neg (by decide)]
    rcases Nat.lt_trichotomy x.natAbs y.natAbs with h | h | h
    · rw [cmpI_casts.1 h, neg (x - y) (by omega)]; rfl
    · rw [cmpI_casts.2.1 h, zer (x - y) (by omega)]; rfl
    · rw [cmpI_casts.2.2 h, pos (x - y) (by omega)]; rfl

end Go.Proofs.YtmiibcdcnoefgaaDoor
