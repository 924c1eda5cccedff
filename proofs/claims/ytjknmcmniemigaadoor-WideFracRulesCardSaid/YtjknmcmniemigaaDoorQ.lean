/- Fractions as rational numbers: wide.AddFrac, MulFrac and CmpFrac by them. -/
import Derived.Test.YtjknmcmniemigaaDoorAddF
import Derived.Test.YtjknmcmniemigaaDoorMulF
import Derived.Test.YtjknmcmniemigaaDoorCmpF
namespace Go.Proofs.YtjknmcmniemigaaDoor
open Go.RowKit Dg

theorem quot_num {n d : Int} (h : 0 < d) : n.tdiv (fgc n d) = (Rat.divInt n d).num := by
  unfold fgc
  rw [if_neg (by omega), Rat.num_divInt, Int.sign_eq_one_of_pos h, Int.one_mul, Int.gcd_comm, Int.tdiv_eq_ediv_of_dvd (Int.gcd_dvd_right _ _)]

theorem quot_den {n d : Int} (h : 0 < d) : d.tdiv (fgc n d) = ((Rat.divInt n d).den : Int) := by
  unfold fgc
  rw [if_neg (by omega), Rat.den_divInt, if_neg (by omega), Int.gcd_comm, Int.tdiv_eq_ediv_of_dvd (Int.gcd_dvd_left _ _)]
  have : ((d.natAbs : Nat) : Int) = d := by omega
  simp [this]

theorem sign_num {n d : Int} (h : 0 < d) : (Rat.divInt n d).num.sign = n.sign := by
  rw [Rat.num_divInt, Int.sign_eq_one_of_pos h, Int.one_mul]
  have hg : 0 < d.gcd n := Int.gcd_pos_of_ne_zero_left n (by omega)
  obtain ⟨k, hk⟩ := Int.gcd_dvd_right d n
  obtain ⟨g, hgg⟩ : ∃ g : Int, ((d.gcd n : Nat) : Int) = g := ⟨_, rfl⟩
  rw [hgg] at hk ⊢
  have hg' : 0 < g := by omega
  rw [hk, Int.mul_ediv_cancel_left _ (by omega), Int.sign_mul, Int.sign_eq_one_of_pos hg', Int.one_mul]

theorem q_add (n1 n2 : Int) {d1 d2 : Int} (h1 : 0 < d1) (h2 : 0 < d2) : Rat.divInt (n1 * d2 + n2 * d1) (d1 * d2) = Rat.divInt n1 d1 + Rat.divInt n2 d2 := by
  rw [Rat.divInt_add_divInt _ _ (by omega) (by omega)]
theorem q_mul (n1 n2 : Int) {d1 d2 : Int}  : Rat.divInt (n1 * n2) (d1 * d2) = Rat.divInt n1 d1 * Rat.divInt n2 d2 := by
  rw [Rat.divInt_mul_divInt]
theorem q_cmp (n1 n2 : Int) {d1 d2 : Int} (h1 : 0 < d1) (h2 : 0 < d2) : (n1 * d2 - n2 * d1).sign = (Rat.divInt n1 d1 - Rat.divInt n2 d2).num.sign := by
  rw [Rat.divInt_sub_divInt _ _ (by omega) (by omega), sign_num (Int.mul_pos h1 h2)]
theorem num_lt {n d : Int} {K : Nat} (h : n.natAbs < K) (hd : 0 < d) : (Rat.divInt n d).num.natAbs < K := by
  rw [← quot_num hd]
  exact Nat.lt_of_le_of_lt (by rw [Int.natAbs_tdiv]; exact Nat.div_le_self _ _) h
theorem den_lt {n d : Int} {K : Nat} (h : d.natAbs < K) (hd : 0 < d) : ((Rat.divInt n d).den : Int).natAbs < K := by
  rw [← quot_den hd]
  exact Nat.lt_of_le_of_lt (by rw [Int.natAbs_tdiv]; exact Nat.div_le_self _ _) h

/-- A rational number as it lies in memory. -/
def frQ (q : Rat) : Value := frv q.num q.den

theorem frq_Q {n d : Int} (h : 0 < d) : frq n d = frQ (Rat.divInt n d) := by
  unfold frq frQ; rw [quot_num h, quot_den h]

/-- Four cells are a fraction q, both numbers of at most K bytes. -/
def RQ (K : Nat) (b : Bool) (s : ByteArray) (c : Bool) (t : ByteArray) (q : Rat) : Prop := ∃ n d : Int, Rep K b s n ∧ Rep K c t d ∧ q = Rat.divInt (tmn n d) (tmd n d)

theorem RQ.mono {K L : Nat} {b c : Bool} {s t : ByteArray} {q : Rat} (h : RQ K b s c t q) (hl : K ≤ L) : RQ L b s c t q := by
  obtain ⟨n, d, h1, h2, h3⟩ := h
  exact ⟨n, d, h1.mono hl, h2.mono hl, h3⟩

theorem RQ.of {K : Nat} {b c : Bool} {s t : ByteArray} {n d : Int} (h1 : Rep K b s n) (h2 : Rep K c t d) : ∃ q, RQ K b s c t q := ⟨_, n, d, h1, h2, rfl⟩

theorem RQ.lits {K : Nat} {b c : Bool} {s t : ByteArray} {n d : Int} (h1 : Rep K b s n) (h2 : Rep K c t d) (h : 0 < d) : RQ K b s c t (Rat.divInt n d) :=
  ⟨n, d, h1, h2, by unfold tmn tmd; rw [if_pos h, if_pos h]⟩

/-- What a function answers lies there as a fraction. -/
theorem RQ.of_frQ {K : Nat} {b c : Bool} {s t : ByteArray} {q : Rat} (he : frQ q = .agg #[.bool b, .string s, .bool c, .string t]) (h1 : q.num.natAbs < 256 ^ K) (h2 : (q.den : Int).natAbs < 256 ^ K) : RQ K b s c t q ∧ Rep K b s q.num := by
  unfold frQ frv at he
  simp only [Value.agg.injEq, Array.mk.injEq, List.cons.injEq, Value.bool.injEq, Value.string.injEq, and_true] at he
  obtain ⟨rfl, rfl, rfl, rfl⟩ := he
  have hd : 0 < (q.den : Int) := by have := q.den_pos; omega
  refine ⟨⟨q.num, q.den, Rep.mo h1, Rep.mo h2, ?_⟩, Rep.mo h1⟩
  unfold tmn tmd; rw [if_pos hd, if_pos hd, Rat.num_divInt_den]

theorem frQ_ex (q : Rat) : ∃ p : Bool × ByteArray × Bool × ByteArray, frQ q = .agg #[.bool p.1, .string p.2.1, .bool p.2.2.1, .string p.2.2.2] := ⟨(_, _, _, _), rfl⟩

section
variable {K : Nat} {b c b' c' : Bool} {s t s' t' : ByteArray} {q r : Rat}

theorem QAdd (hK1 : 1 ≤ K) (hK : K ≤ 1000) (h1 : RQ K b s c t q) (h2 : RQ K b' s' c' t' r) :
    ((q + r).num.natAbs < 256 ^ (K + K + 1) ∧ ((q + r).den : Int).natAbs < 256 ^ (K + K + 1)) ∧
    ∀ w : World, Calls Tryd.prog 42 #[.agg #[.bool b, .string s, .bool c, .string t], .agg #[.bool b', .string s', .bool c', .string t']] w fun e w' => e = .returned (frQ (q + r)) ∧ Tch [] w w' := by
  obtain ⟨n, d, a1, a2, rfl⟩ := h1
  obtain ⟨m, e', a3, a4, rfl⟩ := h2
  obtain ⟨p1, q1, p2, q2, R1, R2, _⟩ := ZTerms hK1 a1 a2
  obtain ⟨p3, q3, p4, q4, R3, R4, _⟩ := ZTerms hK1 a3 a4
  have hp := Int.mul_pos (tmd_pos n d) (tmd_pos m e')
  have l1 := add_lt (mul_lt R1.lt R4.lt) (mul_lt R3.lt R2.lt)
  have l2 : (tmd n d * tmd m e').natAbs < 256 ^ (K + K + 1) := Nat.lt_of_lt_of_le (mul_lt R2.lt R4.lt) (Nat.pow_le_pow_right (by omega) (by omega))
  rw [← q_add _ _ (tmd_pos n d) (tmd_pos m e')]
  refine ⟨⟨num_lt l1 hp, den_lt l2 hp⟩, fun w => ?_⟩
  have h := AddFrac hK1 hK a1 a2 a3 a4 w
  rwa [frq_Q hp] at h

theorem QMul (hK1 : 1 ≤ K) (hK : K ≤ 1000) (h1 : RQ K b s c t q) (h2 : RQ K b' s' c' t' r) :
    ((q * r).num.natAbs < 256 ^ (K + K + 1) ∧ ((q * r).den : Int).natAbs < 256 ^ (K + K + 1)) ∧
    ∀ w : World, Calls Tryd.prog 41 #[.agg #[.bool b, .string s, .bool c, .string t], .agg #[.bool b', .string s', .bool c', .string t']] w fun e w' => e = .returned (frQ (q * r)) ∧ Tch [] w w' := by
  obtain ⟨n, d, a1, a2, rfl⟩ := h1
  obtain ⟨m, e', a3, a4, rfl⟩ := h2
  obtain ⟨p1, q1, p2, q2, R1, R2, _⟩ := ZTerms hK1 a1 a2
  obtain ⟨p3, q3, p4, q4, R3, R4, _⟩ := ZTerms hK1 a3 a4
  have hp := Int.mul_pos (tmd_pos n d) (tmd_pos m e')
  have l1 : (tmn n d * tmn m e').natAbs < 256 ^ (K + K + 1) := Nat.lt_of_lt_of_le (mul_lt R1.lt R3.lt) (Nat.pow_le_pow_right (by omega) (by omega))
  have l2 : (tmd n d * tmd m e').natAbs < 256 ^ (K + K + 1) := Nat.lt_of_lt_of_le (mul_lt R2.lt R4.lt) (Nat.pow_le_pow_right (by omega) (by omega))
  rw [← q_mul]
  refine ⟨⟨num_lt l1 hp, den_lt l2 hp⟩, fun w => ?_⟩
  have h := MulFrac hK1 hK a1 a2 a3 a4 w
  rwa [frq_Q hp] at h

theorem QCmp (hK1 : 1 ≤ K) (hK : K ≤ 1000) (h1 : RQ K b s c t q) (h2 : RQ K b' s' c' t' r) (w : World) :
    Calls Tryd.prog 43 #[.agg #[.bool b, .string s, .bool c, .string t], .agg #[.bool b', .string s', .bool c', .string t']] w fun e w' => e = .returned (.int .i64 (q - r).num.sign) ∧ Tch [] w w' := by
  obtain ⟨n, d, a1, a2, rfl⟩ := h1
  obtain ⟨m, e', a3, a4, rfl⟩ := h2
  have h := CmpFrac hK1 hK a1 a2 a3 a4 w
  rwa [q_cmp _ _ (tmd_pos n d) (tmd_pos m e')] at h
end

end Go.Proofs.YtjknmcmniemigaaDoor
