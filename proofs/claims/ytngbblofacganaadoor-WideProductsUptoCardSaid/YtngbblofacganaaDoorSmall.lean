/- Contracts of small functions: cmp.Compare at uint64 and int, bits.Mul64, wide.multiplyAdd, bits.Div64's parts. -/
import Derived.Test.YtngbblofacganaaDoorKit
namespace Go.Proofs.YtngbblofacganaaDoor
open Go.RowKit

theorem ret_int {k : IntKind} {a b : Int} (h : a = b) : Ending.returned (.int k a) = .returned (.int k b) := by rw [h]
theorem ret_two {k l : IntKind} {a b c d : Int} (h : a = b) (g : c = d) : Ending.returned (.tuple #[.int k a, .int l c]) = .returned (.tuple #[.int k b, .int l d]) := by rw [h, g]

/-- -1, 0 or 1, as cmp.Compare answers. -/
def cmpI (x y : Int) : Int := if x < y then -1 else if y < x then 1 else 0
theorem cmpI_lt {x y : Int} (h : x < y) : -1 = cmpI x y := by unfold cmpI; rw [if_pos h]
theorem cmpI_gt {x y : Int} (_h : y ≤ x) (g : y < x) : 1 = cmpI x y := by unfold cmpI; rw [if_neg (by omega), if_pos g]
theorem cmpI_eq {x y : Int} (h : y ≤ x) (g : x ≤ y) : 0 = cmpI x y := by unfold cmpI; rw [if_neg (by omega), if_neg (by omega)]

set_option maxHeartbeats 400000 in
theorem compare64 (x y : Int) (w : World) :
    Calls Tryd.prog 107 #[.int .u64 x, .int .u64 y] w fun e w' => e = .returned (.int .i64 (cmpI x y)) ∧ w = w' := by
  go_enter Tryd.func107, Tryd.ntmps107
  go_wp2
  all_goals go_ret
  · exact ⟨ret_int (cmpI_lt (by assumption)), rfl⟩
  · exact ⟨ret_int (cmpI_gt (by assumption) (by assumption)), rfl⟩
  · exact ⟨ret_int (cmpI_eq (by assumption) (by assumption)), rfl⟩

set_option maxHeartbeats 400000 in
theorem compareInt (x y : Int) (w : World) :
    Calls Tryd.prog 57 #[.int .i64 x, .int .i64 y] w fun e w' => e = .returned (.int .i64 (cmpI x y)) ∧ w = w' := by
  go_enter Tryd.func57, Tryd.ntmps57
  go_wp2
  all_goals go_ret
  · exact ⟨ret_int (cmpI_lt (by assumption)), rfl⟩
  · exact ⟨ret_int (cmpI_gt (by assumption) (by assumption)), rfl⟩
  · exact ⟨ret_int (cmpI_eq (by assumption) (by assumption)), rfl⟩

theorem maskN (a : Nat) (ha : a < 18446744073709551616) : bits .and .u64 (a : Int) 4294967295 = ((a % 4294967296 : Nat) : Int) := by
  have h := bits_and_u64_nat a 4294967295 ha (by omega)
  have e : a &&& 4294967295 = a % 4294967296 := Nat.and_two_pow_sub_one_eq_mod a 32
  rw [e] at h
  exact h
theorem divN (a : Nat) : (a : Int) / 4294967296 = ((a / 4294967296 : Nat) : Int) := by omega
theorem mulN (a b : Nat) : (a : Int) * (b : Int) = ((a * b : Nat) : Int) := (Int.natCast_mul a b).symm
theorem addN (a b : Nat) : (a : Int) + (b : Int) = ((a + b : Nat) : Int) := (Int.natCast_add a b).symm
theorem wrapN (a : Nat) (ha : a < 18446744073709551616) : IntKind.u64.wrap (a : Int) = (a : Int) := by rw [IntKind.wrap_u64]; omega
theorem wrapM (a : Nat) : IntKind.u64.wrap (a : Int) = ((a % 18446744073709551616 : Nat) : Int) := by rw [IntKind.wrap_u64]; omega

set_option maxHeartbeats 1000000 in
theorem mul64 (x y : Nat) (hx : x < 18446744073709551616) (hy : y < 18446744073709551616) (w : World) :
    Calls Tryd.prog 117 #[.int .u64 x, .int .u64 y] w fun e w' => e = .returned (.tuple #[.int .u64 ((x * y / 18446744073709551616 : Nat) : Int), .int .u64 ((x * y % 18446744073709551616 : Nat) : Int)]) ∧ w = w' := by
  obtain ⟨bd, bt, bw, hhi⟩ := Lib.mul64_hi x y hx hy
  have ba := Lib.half_mul_le (a := x / 4294967296) (b := y / 4294967296) (by omega) (by omega)
  have bb := Lib.half_mul_le (a := x / 4294967296) (b := y % 4294967296) (by omega) (by omega)
  have bc := Lib.half_mul_le (a := x % 4294967296) (b := y / 4294967296) (by omega) (by omega)
  have ba' : x / 4294967296 * (y / 4294967296) < 18446744073709551616 := by omega
  have bb' : x / 4294967296 * (y % 4294967296) < 18446744073709551616 := by omega
  have bc' : x % 4294967296 * (y / 4294967296) < 18446744073709551616 := by omega
  have bh1 : x / 4294967296 * (y / 4294967296) + (x / 4294967296 * (y % 4294967296) + x % 4294967296 * (y % 4294967296) / 4294967296) / 4294967296 < 18446744073709551616 := by omega
  have bh : x / 4294967296 * (y / 4294967296) + (x / 4294967296 * (y % 4294967296) + x % 4294967296 * (y % 4294967296) / 4294967296) / 4294967296 + ((x / 4294967296 * (y % 4294967296) + x % 4294967296 * (y % 4294967296) / 4294967296) % 4294967296 + x % 4294967296 * (y / 4294967296)) / 4294967296 < 18446744073709551616 := by omega
  go_enter Tryd.func117, Tryd.ntmps117
  go_wp2
  simp only [maskN x hx, maskN y hy, divN, mulN, addN, wrapN _ bd, wrapN _ bb', wrapN _ bt, maskN _ bt, wrapN _ bc', wrapN _ bw, wrapN _ ba', wrapN _ bh1, wrapN _ bh, wrapM (x * y)]
  rw [hhi]
  go_ret2
  exact ⟨rfl, rfl⟩

/-- The base of the words. -/
def BB : Nat := 18446744073709551616
theorem BB_eq : BB = 18446744073709551616 := rfl

/-- Two words are returned, the world is as it was. -/
def TwoW (P : Nat → Nat → Prop) (w : World) : Ending → World → Prop := fun e w' =>
  ∃ a b : Nat, P a b ∧ a < BB ∧ b < BB ∧ e = .returned (.tuple #[.int .u64 (a : Int), .int .u64 (b : Int)]) ∧ w = w'

theorem mul64_two (x y : Nat) (hx : x < BB) (hy : y < BB) (w : World) :
    Calls Tryd.prog 117 #[.int .u64 x, .int .u64 y] w (TwoW (fun hi lo => hi * BB + lo = x * y) w) :=
  (mul64 x y hx hy w).mono fun e w' ⟨he, hw⟩ => by
    rw [BB_eq] at hx hy
    have h : x * y ≤ 18446744073709551615 * 18446744073709551615 := Nat.mul_le_mul (by omega) (by omega)
    refine ⟨_, _, ?_, ?_, ?_, he, hw⟩
    · rw [BB_eq]; omega
    · rw [BB_eq]; omega
    · rw [BB_eq]; omega

/-- 'bits.Add64', its two results under names. -/
theorem add_run (x y c : Nat) (hx : x < BB) (hy : y < BB) (hc : c ≤ 1) : ∃ s t : Nat, s + BB * t = x + y + c ∧ s < BB ∧ t ≤ 1 ∧
    ∀ w, (callFunc 111 #[.int .u64 x, .int .u64 y, .int .u64 c]).run Tryd.prog w = .ok (.value (.tuple #[.int .u64 (s : Int), .int .u64 (t : Int)])) w := by
  rw [BB_eq] at *
  exact ⟨_, _, by omega, by omega, by omega, call_add64 x y c hc⟩

/-- 'bits.Sub64', its two results under names. -/
theorem sub_run (x y c : Nat) (hx : x < BB) (hy : y < BB) (hc : c ≤ 1) : ∃ s t : Nat, s + y + c = x + BB * t ∧ s < BB ∧ t ≤ 1 ∧
    ∀ w, (callFunc 108 #[.int .u64 x, .int .u64 y, .int .u64 c]).run Tryd.prog w = .ok (.value (.tuple #[.int .u64 (s : Int), .int .u64 (t : Int)])) w := by
  rw [BB_eq] at *
  refine ⟨(x + 18446744073709551616 - y - c) % 18446744073709551616, if x < y + c then 1 else 0, ?_, ?_, ?_, call_sub64 x y c hc⟩
  · by_cases h : x < y + c
    · rw [if_pos h]; omega
    · rw [if_neg h]; omega
  · omega
  · by_cases h : x < y + c
    · rw [if_pos h]; omega
    · rw [if_neg h]; omega

theorem add_zero_run (x y : Nat) (hx : x < BB) (hy : y < BB) : ∃ s t : Nat, s + BB * t = x + y ∧ s < BB ∧ t ≤ 1 ∧
    ∀ w, (callFunc 111 #[.int .u64 x, .int .u64 y, .int .u64 0]).run Tryd.prog w = .ok (.value (.tuple #[.int .u64 (s : Int), .int .u64 (t : Int)])) w := by
  obtain ⟨s, t, h1, h2, h3, h4⟩ := add_run x y 0 hx hy (by omega)
  exact ⟨s, t, by omega, h2, h3, h4⟩

theorem add_mid_run (x c : Nat) (hx : x < BB) (hc : c ≤ 1) : ∃ s t : Nat, s + BB * t = x + 0 + c ∧ s < BB ∧ t ≤ 1 ∧
    ∀ w, (callFunc 111 #[.int .u64 x, .int .u64 0, .int .u64 c]).run Tryd.prog w = .ok (.value (.tuple #[.int .u64 (s : Int), .int .u64 (t : Int)])) w := by
  obtain ⟨s, t, h1, h2, h3, h4⟩ := add_run x 0 c hx (by decide) hc
  exact ⟨s, t, by omega, h2, h3, h4⟩

theorem sub_mid_run (x c : Nat) (hx : x < BB) (hc : c ≤ 1) : ∃ s t : Nat, s + 0 + c = x + BB * t ∧ s < BB ∧ t ≤ 1 ∧
    ∀ w, (callFunc 108 #[.int .u64 x, .int .u64 0, .int .u64 c]).run Tryd.prog w = .ok (.value (.tuple #[.int .u64 (s : Int), .int .u64 (t : Int)])) w := by
  obtain ⟨s, t, h1, h2, h3, h4⟩ := sub_run x 0 c hx (by decide) hc
  exact ⟨s, t, by omega, h2, h3, h4⟩

theorem mulAdd_nat {x y a h l s t : Nat} (hx : x < BB) (hy : y < BB) (ha : a < BB) (e : h * BB + l = x * y) (g : s + BB * t = l + a) (hs : s < BB) (hl : l < BB) :
    (h + t) * BB + s = x * y + a ∧ h + t < BB ∧ IntKind.u64.wrap ((h : Int) + (t : Int)) = ((h + t : Nat) : Int) := by
  have h0 : (h + t) * BB = h * BB + BB * t := by rw [Nat.add_mul, Nat.mul_comm t]
  have h4 : (h + t) * BB + s = x * y + a := by omega
  have h3 : h + t < BB := by
    rw [BB_eq] at *
    have h2 : x * y ≤ 18446744073709551615 * 18446744073709551615 := Nat.mul_le_mul (by omega) (by omega)
    generalize x * y = p at *
    clear h4 h0
    omega
  have h5 : IntKind.u64.wrap ((h : Int) + (t : Int)) = ((h + t : Nat) : Int) := by
    rw [← Int.natCast_add]
    exact wrapN _ h3
  exact ⟨h4, h3, h5⟩

theorem prod_nat {x f c h l a s t : Nat} (hx : x < BB) (hf : f < BB) (hc : c < BB) (ha : a < BB) (e : h * BB + l = x * f + c) (g : s + BB * t = a + l) :
    s + BB * (t + h) = a + f * x + c ∧ t + h < BB ∧ IntKind.u64.wrap ((t : Int) + (h : Int)) = ((t + h : Nat) : Int) := by
  have h0 : BB * (t + h) = BB * t + h * BB := by rw [Nat.mul_add, Nat.mul_comm h]
  have h1 : f * x = x * f := Nat.mul_comm _ _
  have h4 : s + BB * (t + h) = a + f * x + c := by omega
  have h3 : t + h < BB := by
    have h5 : BB * (t + h) < BB * BB := by
      have h2 : x * f ≤ (BB - 1) * (BB - 1) := Nat.mul_le_mul (by omega) (by omega)
      have h6 : (BB - 1) * (BB - 1) + 2 * BB = BB * BB + 1 := by decide
      omega
    exact Nat.lt_of_mul_lt_mul_left h5
  refine ⟨h4, h3, ?_⟩
  rw [← Int.natCast_add]
  exact wrapN _ h3

theorem subprod_nat {y f c d h l x s t : Nat} (e : h * BB + l = y * f + c) (g : s + l + d = x + BB * t) : s + f * y + (c + d) = x + BB * (h + t) := by
  have h0 : BB * (h + t) = BB * t + h * BB := by rw [Nat.mul_add, Nat.mul_comm BB h]; omega
  have h1 : f * y = y * f := Nat.mul_comm _ _
  omega

set_option maxHeartbeats 400000 in
theorem multiplyAdd (x y a : Nat) (hx : x < BB) (hy : y < BB) (ha : a < BB) (w : World) :
    Calls Tryd.prog 103 #[.int .u64 x, .int .u64 y, .int .u64 a] w (TwoW (fun hi lo => hi * BB + lo = x * y + a) w) := by
  go_enter Tryd.func103, Tryd.ntmps103
  go_wp2_with fail
  refine (mul64_two x y hx hy _).mono ?_
  rintro e w' ⟨h, l, E, hh, hl, rfl, rfl⟩
  obtain ⟨s, t, g, hs, ht, hrun⟩ := add_zero_run l a hl ha
  obtain ⟨F1, F2, F3⟩ := mulAdd_nat hx hy ha E g hs hl
  have H1 := Lib.hid F1
  have H2 := Lib.hid F2
  clear E g F1 F2 hx hy ha hh hl ht
  go_wp2
  go_ret2
  exact ⟨_, _, H1.out, H2.out, hs, by simp, rfl⟩

end Go.Proofs.YtngbblofacganaaDoor
