/- What all walks of this seat import. -/
import Derived.Test.YtmiibcdcnoefgaaGreatDoorRows
import Derived.Test.YtmiibcdcnoefgaaGreatDoorMath
import Derived.WalkKit
import Derived.WalkSpells
import Derived.WalkLawsBesides
import Derived.Lib.Hide
import Derived.Lib.Mul64
import Derived.Deep.QuietTactic
import Derived.BigQuiet
import Derived.RegionTactic
import Derived.BigRegion
import Derived.StillTailTactics
import Derived.Deep.RegionLaw
namespace Go.Proofs.YtmiibcdcnoefgaaGreatDoor
open Go.RowKit

/-- The model's entry for math/bits.Sub64, by its own row. -/
def sub64Entry : Array Value → Sem Value := fun args => do
  let (x, y, b) ← Extern.MathBitsCarry.three "Sub64" args
  pure (Extern.MathBitsCarry.pair ((x + Extern.MathBitsCarry.m64 - y - b) % Extern.MathBitsCarry.m64) (if x < y + b then 1 else 0))

theorem run_sub64 (x y b : Nat) (hb : b ≤ 1) (w : World) :
    (sub64Entry #[.int .u64 x, .int .u64 y, .int .u64 b]).run Tryz.prog w =
      .ok (.tuple #[.int .u64 (((x + 18446744073709551616 - y - b) % 18446744073709551616 : Nat) : Int), .int .u64 ((if x < y + b then 1 else 0 : Nat) : Int)]) w := by
  have : b = 0 ∨ b = 1 := by omega
  rcases this with rfl | rfl <;> rfl

/-- 'bits.Add64', run in place. -/
theorem call_add64 (x y c : Nat) (hc : c ≤ 1) (w : World) :
    (callFunc 85 #[.int .u64 x, .int .u64 y, .int .u64 c]).run Tryz.prog w =
      .ok (.value (.tuple #[.int .u64 (((x + y + c) % 18446744073709551616 : Nat) : Int), .int .u64 (((x + y + c) / 18446744073709551616 : Nat) : Int)])) w := by
  rw [run_callFunc_extern Tryz.func85 (by kernel_rfl) (by kernel_rfl) (by kernel_rfl) (e := add64Entry) (by kernel_rfl), run_add64 x y c (by omega) (by omega) (by omega) (by omega)]
  simp only [Result.andThen]
  congr 5 <;> omega

/-- 'bits.Sub64', run in place. -/
theorem call_sub64 (x y b : Nat) (hb : b ≤ 1) (w : World) :
    (callFunc 97 #[.int .u64 x, .int .u64 y, .int .u64 b]).run Tryz.prog w =
      .ok (.value (.tuple #[.int .u64 (((x + 18446744073709551616 - y - b) % 18446744073709551616 : Nat) : Int), .int .u64 ((if x < y + b then 1 else 0 : Nat) : Int)])) w := by
  rw [run_callFunc_extern Tryz.func97 (by kernel_rfl) (by kernel_rfl) (by kernel_rfl) (e := sub64Entry) (by kernel_rfl), run_sub64 x y b hb]
  rfl

end Go.Proofs.YtmiibcdcnoefgaaGreatDoor

/- Contracts of small functions: cmp.Compare at uint64 and int, bits.Mul64, wide.multiplyAdd, bits.Div64's parts. -/
namespace Go.Proofs.YtmiibcdcnoefgaaGreatDoor
open Go.RowKit

theorem ret_int {k : IntKind} {a b : Int} (h : a = b) : Ending.returned (.int k a) = .returned (.int k b) := by rw [h]
theorem ret_two {k l : IntKind} {a b c d : Int} (h : a = b) (g : c = d) : Ending.returned (.tuple #[.int k a, .int l c]) = .returned (.tuple #[.int k b, .int l d]) := by rw [h, g]

/-- -1, 0 or 1, as cmp.Compare answers. -/
def cmpI (x y : Int) : Int := if x < y then -1 else if y < x then 1 else 0
theorem cmpI_lt {x y : Int} (h : x < y) : -1 = cmpI x y := by unfold cmpI; rw [if_pos h]
theorem cmpI_gt {x y : Int} (_h : y ≤ x) (g : y < x) : 1 = cmpI x y := by unfold cmpI; rw [if_neg (by omega), if_pos g]
theorem cmpI_eq {x y : Int} (h : y ≤ x) (g : x ≤ y) : 0 = cmpI x y := by unfold cmpI; rw [if_neg (by omega), if_neg (by omega)]

set_option maxHeartbeats 400000 in
theorem compare64 (x y : Int) (w : World) :
    Calls Tryz.prog 89 #[.int .u64 x, .int .u64 y] w fun e w' => e = .returned (.int .i64 (cmpI x y)) ∧ w = w' := by
  go_enter Tryz.func89, Tryz.ntmps89
  go_wp2
  all_goals go_ret
  · exact ⟨ret_int (cmpI_lt (by assumption)), rfl⟩
  · exact ⟨ret_int (cmpI_gt (by assumption) (by assumption)), rfl⟩
  · exact ⟨ret_int (cmpI_eq (by assumption) (by assumption)), rfl⟩

set_option maxHeartbeats 400000 in
theorem compareInt (x y : Int) (w : World) :
    Calls Tryz.prog 53 #[.int .i64 x, .int .i64 y] w fun e w' => e = .returned (.int .i64 (cmpI x y)) ∧ w = w' := by
  go_enter Tryz.func53, Tryz.ntmps53
  go_wp2
  all_goals go_ret
  · exact ⟨ret_int (cmpI_lt (by assumption)), rfl⟩
  · exact ⟨ret_int (cmpI_gt (by assumption) (by assumption)), rfl⟩
  · exact ⟨ret_int (cmpI_eq (by assumption) (by assumption)), rfl⟩

theorem maskN (a : Nat) (ha : a < 18446744073709551616) : bits .and .u64 (a : Int) 4294967295 = ((a % 4294967296 : Nat) : Int) := by
  have h := bits_and_u64_nat a 4294967295 ha (by omega)
  have e : a &&& 4294967295 = a % 4294967296 := Nat.and_two_pow_sub_one_eq_mod a 32
  rw [e] at h
  exact h
theorem divN (a : Nat) : (a : Int) / 4294967296 = ((a / 4294967296 : Nat) : Int) := by omega
theorem mulN (a b : Nat) : (a : Int) * (b : Int) = ((a * b : Nat) : Int) := (Int.natCast_mul a b).symm
theorem addN (a b : Nat) : (a : Int) + (b : Int) = ((a + b : Nat) : Int) := (Int.natCast_add a b).symm
theorem wrapN (a : Nat) (ha : a < 18446744073709551616) : IntKind.u64.wrap (a : Int) = (a : Int) := by rw [IntKind.wrap_u64]; omega
theorem wrapM (a : Nat) : IntKind.u64.wrap (a : Int) = ((a % 18446744073709551616 : Nat) : Int) := by rw [IntKind.wrap_u64]; omega

set_option maxHeartbeats 1000000 in
theorem mul64 (x y : Nat) (hx : x < 18446744073709551616) (hy : y < 18446744073709551616) (w : World) :
    Calls Tryz.prog 91 #[.int .u64 x, .int .u64 y] w fun e w' => e = .returned (.tuple #[.int .u64 ((x * y / 18446744073709551616 : Nat) : Int), .int .u64 ((x * y % 18446744073709551616 : Nat) : Int)]) ∧ w = w' := by
  obtain ⟨bd, bt, bw, hhi⟩ := Lib.mul64_hi x y hx hy
  have ba := Lib.half_mul_le (a := x / 4294967296) (b := y / 4294967296) (by omega) (by omega)
  have bb := Lib.half_mul_le (a := x / 4294967296) (b := y % 4294967296) (by omega) (by omega)
  have bc := Lib.half_mul_le (a := x % 4294967296) (b := y / 4294967296) (by omega) (by omega)
  have ba' : x / 4294967296 * (y / 4294967296) < 18446744073709551616 := by omega
  have bb' : x / 4294967296 * (y % 4294967296) < 18446744073709551616 := by omega
  have bc' : x % 4294967296 * (y / 4294967296) < 18446744073709551616 := by omega
  have bh1 : x / 4294967296 * (y / 4294967296) + (x / 4294967296 * (y % 4294967296) + x % 4294967296 * (y % 4294967296) / 4294967296) / 4294967296 < 18446744073709551616 := by omega
  have bh : x / 4294967296 * (y / 4294967296) + (x / 4294967296 * (y % 4294967296) + x % 4294967296 * (y % 4294967296) / 4294967296) / 4294967296 + ((x / 4294967296 * (y % 4294967296) + x % 4294967296 * (y % 4294967296) / 4294967296) % 4294967296 + x % 4294967296 * (y / 4294967296)) / 4294967296 < 18446744073709551616 := by omega
  go_enter Tryz.func91, Tryz.ntmps91
  go_wp2
  simp only [maskN x hx, maskN y hy, divN, mulN, addN, wrapN _ bd, wrapN _ bb', wrapN _ bt, maskN _ bt, wrapN _ bc', wrapN _ bw, wrapN _ ba', wrapN _ bh1, wrapN _ bh, wrapM (x * y)]
  rw [hhi]
  go_ret2
  exact ⟨rfl, rfl⟩

/-- The base of the words. -/
def BB : Nat := 18446744073709551616
theorem BB_eq : BB = 18446744073709551616 := rfl

/-- Two words are returned, the world is as it was. -/
def TwoW (P : Nat → Nat → Prop) (w : World) : Ending → World → Prop := fun e w' =>
  ∃ a b : Nat, P a b ∧ a < BB ∧ b < BB ∧ e = .returned (.tuple #[.int .u64 (a : Int), .int .u64 (b : Int)]) ∧ w = w'

theorem mul64_two (x y : Nat) (hx : x < BB) (hy : y < BB) (w : World) :
    Calls Tryz.prog 91 #[.int .u64 x, .int .u64 y] w (TwoW (fun hi lo => hi * BB + lo = x * y) w) :=
  (mul64 x y hx hy w).mono fun e w' ⟨he, hw⟩ => by
    rw [BB_eq] at hx hy
    have h : x * y ≤ 18446744073709551615 * 18446744073709551615 := Nat.mul_le_mul (by omega) (by omega)
    refine ⟨_, _, ?_, ?_, ?_, he, hw⟩
    · rw [BB_eq]; omega
    · rw [BB_eq]; omega
    · rw [BB_eq]; omega

/-- 'bits.Add64', its two results under names. -/
theorem add_run (x y c : Nat) (hx : x < BB) (hy : y < BB) (hc : c ≤ 1) : ∃ s t : Nat, s + BB * t = x + y + c ∧ s < BB ∧ t ≤ 1 ∧
    ∀ w, (callFunc 85 #[.int .u64 x, .int .u64 y, .int .u64 c]).run Tryz.prog w = .ok (.value (.tuple #[.int .u64 (s : Int), .int .u64 (t : Int)])) w := by
  rw [BB_eq] at *
  exact ⟨_, _, by omega, by omega, by omega, call_add64 x y c hc⟩

/-- 'bits.Sub64', its two results under names. -/
theorem sub_run (x y c : Nat) (hx : x < BB) (hy : y < BB) (hc : c ≤ 1) : ∃ s t : Nat, s + y + c = x + BB * t ∧ s < BB ∧ t ≤ 1 ∧
    ∀ w, (callFunc 97 #[.int .u64 x, .int .u64 y, .int .u64 c]).run Tryz.prog w = .ok (.value (.tuple #[.int .u64 (s : Int), .int .u64 (t : Int)])) w := by
  rw [BB_eq] at *
  refine ⟨(x + 18446744073709551616 - y - c) % 18446744073709551616, if x < y + c then 1 else 0, ?_, ?_, ?_, call_sub64 x y c hc⟩
  · by_cases h : x < y + c
    · rw [if_pos h]; omega
    · rw [if_neg h]; omega
  · omega
  · by_cases h : x < y + c
    · rw [if_pos h]; omega
    · rw [if_neg h]; omega

theorem add_zero_run (x y : Nat) (hx : x < BB) (hy : y < BB) : ∃ s t : Nat, s + BB * t = x + y ∧ s < BB ∧ t ≤ 1 ∧
    ∀ w, (callFunc 85 #[.int .u64 x, .int .u64 y, .int .u64 0]).run Tryz.prog w = .ok (.value (.tuple #[.int .u64 (s : Int), .int .u64 (t : Int)])) w := by
  obtain ⟨s, t, h1, h2, h3, h4⟩ := add_run x y 0 hx hy (by omega)
  exact ⟨s, t, by omega, h2, h3, h4⟩

theorem add_mid_run (x c : Nat) (hx : x < BB) (hc : c ≤ 1) : ∃ s t : Nat, s + BB * t = x + 0 + c ∧ s < BB ∧ t ≤ 1 ∧
    ∀ w, (callFunc 85 #[.int .u64 x, .int .u64 0, .int .u64 c]).run Tryz.prog w = .ok (.value (.tuple #[.int .u64 (s : Int), .int .u64 (t : Int)])) w := by
  obtain ⟨s, t, h1, h2, h3, h4⟩ := add_run x 0 c hx (by decide) hc
  exact ⟨s, t, by omega, h2, h3, h4⟩

theorem sub_mid_run (x c : Nat) (hx : x < BB) (hc : c ≤ 1) : ∃ s t : Nat, s + 0 + c = x + BB * t ∧ s < BB ∧ t ≤ 1 ∧
    ∀ w, (callFunc 97 #[.int .u64 x, .int .u64 0, .int .u64 c]).run Tryz.prog w = .ok (.value (.tuple #[.int .u64 (s : Int), .int .u64 (t : Int)])) w := by
  obtain ⟨s, t, h1, h2, h3, h4⟩ := sub_run x 0 c hx (by decide) hc
  exact ⟨s, t, by omega, h2, h3, h4⟩

theorem mulAdd_nat {x y a h l s t : Nat} (hx : x < BB) (hy : y < BB) (ha : a < BB) (e : h * BB + l = x * y) (g : s + BB * t = l + a) (hs : s < BB) (hl : l < BB) :
    (h + t) * BB + s = x * y + a ∧ h + t < BB ∧ IntKind.u64.wrap ((h : Int) + (t : Int)) = ((h + t : Nat) : Int) := by
  have h0 : (h + t) * BB = h * BB + BB * t := by rw [Nat.add_mul, Nat.mul_comm t]
  have h4 : (h + t) * BB + s = x * y + a := by omega
  have h3 : h + t < BB := by
    rw [BB_eq] at *
    have h2 : x * y ≤ 18446744073709551615 * 18446744073709551615 := Nat.mul_le_mul (by omega) (by omega)
    generalize x * y = p at *
    clear h4 h0
    omega
  have h5 : IntKind.u64.wrap ((h : Int) + (t : Int)) = ((h + t : Nat) : Int) := by
    rw [← Int.natCast_add]
    exact wrapN _ h3
  exact ⟨h4, h3, h5⟩

theorem prod_nat {x f c h l a s t : Nat} (hx : x < BB) (hf : f < BB) (hc : c < BB) (ha : a < BB) (e : h * BB + l = x * f + c) (g : s + BB * t = a + l) :
    s + BB * (t + h) = a + f * x + c ∧ t + h < BB ∧ IntKind.u64.wrap ((t : Int) + (h : Int)) = ((t + h : Nat) : Int) := by
  have h0 : BB * (t + h) = BB * t + h * BB := by rw [Nat.mul_add, Nat.mul_comm h]
  have h1 : f * x = x * f := Nat.mul_comm _ _
  have h4 : s + BB * (t + h) = a + f * x + c := by omega
  have h3 : t + h < BB := by
    have h5 : BB * (t + h) < BB * BB := by
      have h2 : x * f ≤ (BB - 1) * (BB - 1) := Nat.mul_le_mul (by omega) (by omega)
      have h6 : (BB - 1) * (BB - 1) + 2 * BB = BB * BB + 1 := by decide
      omega
    exact Nat.lt_of_mul_lt_mul_left h5
  refine ⟨h4, h3, ?_⟩
  rw [← Int.natCast_add]
  exact wrapN _ h3

theorem subprod_nat {y f c d h l x s t : Nat} (e : h * BB + l = y * f + c) (g : s + l + d = x + BB * t) : s + f * y + (c + d) = x + BB * (h + t) := by
  have h0 : BB * (h + t) = BB * t + h * BB := by rw [Nat.mul_add, Nat.mul_comm BB h]; omega
  have h1 : f * y = y * f := Nat.mul_comm _ _
  omega

set_option maxHeartbeats 400000 in
theorem multiplyAdd (x y a : Nat) (hx : x < BB) (hy : y < BB) (ha : a < BB) (w : World) :
    Calls Tryz.prog 75 #[.int .u64 x, .int .u64 y, .int .u64 a] w (TwoW (fun hi lo => hi * BB + lo = x * y + a) w) := by
  go_enter Tryz.func75, Tryz.ntmps75
  go_wp2_with fail
  refine (mul64_two x y hx hy _).mono ?_
  rintro e w' ⟨h, l, E, hh, hl, rfl, rfl⟩
  obtain ⟨s, t, g, hs, ht, hrun⟩ := add_zero_run l a hl ha
  obtain ⟨F1, F2, F3⟩ := mulAdd_nat hx hy ha E g hs hl
  have H1 := Lib.hid F1
  have H2 := Lib.hid F2
  clear E g F1 F2 hx hy ha hh hl ht
  go_wp2
  go_ret2
  exact ⟨_, _, H1.out, H2.out, hs, by simp, rfl⟩

end Go.Proofs.YtmiibcdcnoefgaaGreatDoor

/- Memory: a window of numbers in a block, and which blocks a step may have touched. -/
namespace Go.Proofs.YtmiibcdcnoefgaaGreatDoor
open Go.RowKit

/-- Numbers as values of an integer kind. -/
def ints (k : IntKind) (xs : List Nat) : List Value := xs.map fun x : Nat => Value.int k (x : Int)

theorem ints_length (k : IntKind) (xs : List Nat) : (ints k xs).length = xs.length := by simp [ints]
theorem ints_append (k : IntKind) (xs ys : List Nat) : ints k (xs ++ ys) = ints k xs ++ ints k ys := by simp [ints]
theorem ints_take (k : IntKind) (xs : List Nat) (n : Nat) : (ints k xs).take n = ints k (xs.take n) := by simp [ints]
theorem ints_drop (k : IntKind) (xs : List Nat) (n : Nat) : (ints k xs).drop n = ints k (xs.drop n) := by simp [ints]
theorem ints_get (k : IntKind) (xs : List Nat) (j : Nat) (h : j < xs.length) : (ints k xs)[j]? = some (.int k ((xs.getD j 0 : Nat) : Int)) := by
  simp [ints, List.getElem?_eq_getElem h, List.getD]

/-- Block g holds pre, then the numbers xs (from offset o on), then post; none of it is frozen. -/
def Win (w : World) (T : TypeId) (k : IntKind) (g o : Nat) (pre : List Value) (xs : List Nat) (post : List Value) : Prop :=
  w.heap[g]? = some (.cells (pre ++ (ints k xs ++ post)).toArray T (0, 0)) ∧ pre.length = o

/-- Nothing but the blocks of S, and new blocks, may differ. -/
structure Tch (S : List Nat) (w w' : World) : Prop where
  os : w'.os = w.os
  tape : w'.tape = w.tape
  output : w'.output = w.output
  size : w.heap.size ≤ w'.heap.size
  block : ∀ k, k < w.heap.size → k ∉ S → w'.heap[k]? = w.heap[k]?

theorem Tch.refl (S : List Nat) (w : World) : Tch S w w := ⟨rfl, rfl, rfl, Nat.le_refl _, fun _ _ _ => rfl⟩

/-- Two steps; what the second one touches is touched by the first one's list, or new. -/
theorem Tch.trans {S S' : List Nat} {a b c : World} (h : Tch S a b) (h' : Tch S' b c) (hs : ∀ k ∈ S', k ∈ S ∨ a.heap.size ≤ k) : Tch S a c :=
  ⟨h'.os.trans h.os, h'.tape.trans h.tape, h'.output.trans h.output, Nat.le_trans h.size h'.size, fun k hk hn =>
    (h'.block k (Nat.lt_of_lt_of_le hk h.size) (fun hm => by rcases hs k hm with h1 | h1; exact hn h1; omega)).trans (h.block k hk hn)⟩

theorem Tch.mono {S S' : List Nat} {a b : World} (h : Tch S a b) (hs : ∀ k ∈ S, k ∈ S' ∨ a.heap.size ≤ k) : Tch S' a b :=
  ⟨h.os, h.tape, h.output, h.size, fun k hk hn => h.block k hk (fun hm => by rcases hs k hm with h1 | h1; exact hn h1; omega)⟩

theorem Tch.drew {S : List Nat} {a w : World} (h : Tch S a w) : Tch S a w.drew := ⟨h.os, h.tape, h.output, h.size, h.block⟩
theorem Tch.drewN {S : List Nat} {a w : World} (h : Tch S a w) (n : Nat) : Tch S a (w.drewN n) := ⟨h.os, h.tape, h.output, h.size, h.block⟩

theorem Tch.alloc {S : List Nat} {a w : World} (h : Tch S a w) (o : Obj) : Tch S a (w.alloc o) :=
  ⟨h.os, h.tape, h.output, Nat.le_trans h.size (by simp), fun k hk hn => (Below.heap_alloc w o k (Nat.lt_of_lt_of_le hk h.size)).trans (h.block k hk hn)⟩

theorem Tch.setCell {S : List Nat} {a w : World} (h : Tch S a w) {p : Addr} (hp : p.block ∈ S ∨ a.heap.size ≤ p.block) (u : Value) : Tch S a (w.setCell p u) :=
  ⟨h.os, h.tape, h.output, Nat.le_trans h.size (by simp), fun k hk hn =>
    (heap_setCell_other w p k u (fun e => by subst e; rcases hp with hp | hp; exact hn hp; omega)).trans (h.block k hk hn)⟩

theorem Tch.grown {S : List Nat} {a w w' : World} {row : Option Nat} (h : Tch S a w) (hg : w.grownBy w' row) (hr : ∀ k, row = some k → k ∈ S ∨ a.heap.size ≤ k) : Tch S a w' :=
  ⟨hg.os.trans h.os, hg.tape.trans h.tape, hg.output.trans h.output, Nat.le_trans h.size hg.size, fun k hk hn =>
    (hg.block k (Nat.lt_of_lt_of_le hk h.size) (fun e => by rcases hr k e.symm with h1 | h1; exact hn h1; omega)).trans (h.block k hk hn)⟩

theorem Tch.below {a w : World} (h : Tch [] a w) : Below a.heap.size a w := ⟨h.os, h.tape, h.output, h.size, fun k hk => h.block k hk (by simp)⟩
theorem Tch.of_below {a w : World} (h : Below a.heap.size a w) : Tch [] a w := ⟨h.os, h.tape, h.output, h.size, fun k hk _ => h.block k hk⟩

section
variable {w w' : World} {T : TypeId} {k : IntKind} {g o : Nat} {pre post : List Value} {xs : List Nat}

theorem Win.lt (h : Win w T k g o pre xs post) : g < w.heap.size := (Array.getElem?_eq_some_iff.1 h.1).1

theorem Win.kept {S : List Nat} (h : Win w T k g o pre xs post) (ht : Tch S w w') (hn : g ∉ S) : Win w' T k g o pre xs post :=
  ⟨(ht.block g h.lt hn).trans h.1, h.2⟩

theorem Win.cell (h : Win w T k g o pre xs post) {j : Nat} (hj : j < xs.length) : w.cell? ⟨g, o + j, none⟩ = some (.int k ((xs.getD j 0 : Nat) : Int)) := by
  rw [cell_of_row w g (o + j) _ T (0, 0) h.1, ← h.2]
  rw [List.getElem?_toArray, List.getElem?_append_right (by omega), Nat.add_sub_cancel_left, List.getElem?_append_left (by rw [ints_length]; exact hj)]
  exact ints_get k xs j hj

/-- The number that is read, under a name of its own. -/
theorem Win.read (h : Win w T k g o pre xs post) {j : Nat} (hj : j < xs.length) : ∃ x : Nat, Hid (xs.getD j 0 = x) ∧ w.cell? ⟨g, o + j, none⟩ = some (.int k (x : Int)) :=
  ⟨_, Lib.hid rfl, h.cell hj⟩

theorem Win.frozen (h : Win w T k g o pre xs post) (j : Nat) : w.frozen? ⟨g, j, none⟩ = false := frozen_of_row w g j _ T h.1

theorem ints_set (k : IntKind) (xs : List Nat) (j z : Nat) : (ints k xs).set j (.int k (z : Int)) = ints k (xs.set j z) := by simp [ints, List.map_set]

theorem Win.set (h : Win w T k g o pre xs post) {j : Nat} (hj : j < xs.length) (z : Nat) : Win (w.setCell ⟨g, o + j, none⟩ (.int k (z : Int))) T k g o pre (xs.set j z) post := by
  refine ⟨?_, h.2⟩
  rw [heap_setCell_same w g (o + j) _ T _ h.1]
  congr 2
  apply Array.ext'
  rw [Array.toList_setIfInBounds]
  simp only []
  rw [← h.2, List.set_append_right _ _ (by omega), Nat.add_sub_cancel_left, List.set_append_left _ _ (by rw [ints_length]; exact hj), ints_set]

/-- The next number of a window is written. -/
theorem Win.step {ws : List Nat} {i : Nat} (h : Win w T k g o pre (ws ++ xs.drop i) post) (hw : ws.length = i) (hi : i < xs.length) (z : Nat) :
    Win (w.setCell ⟨g, o + i, none⟩ (.int k (z : Int))) T k g o pre (ws ++ [z] ++ xs.drop (i + 1)) post := by
  have := h.set (j := i) (by rw [Dg.len_app hw (by omega)]; exact hi) z
  rwa [Dg.set_app hw hi] at this

theorem Win.readApp {ws : List Nat} {i : Nat} (h : Win w T k g o pre (ws ++ xs.drop i) post) (hw : ws.length = i) (hi : i < xs.length) :
    ∃ x : Nat, Hid (xs.getD i 0 = x) ∧ w.cell? ⟨g, o + i, none⟩ = some (.int k (x : Int)) := by
  have := h.cell (j := i) (by rw [Dg.len_app hw (by omega)]; exact hi)
  rw [Dg.getD_app hw hi] at this
  exact ⟨_, Lib.hid rfl, this⟩

/-- The next number of a window is written, from its end down. -/
theorem Win.stepDn {ws : List Nat} {m : Nat} (h : Win w T k g o pre (xs.take (m + 1) ++ ws) post) (hm : m < xs.length) (z : Nat) :
    Win (w.setCell ⟨g, o + m, none⟩ (.int k (z : Int))) T k g o pre (xs.take m ++ z :: ws) post := by
  have := h.set (j := m) (by rw [List.length_append, List.length_take]; omega) z
  rwa [Dg.set_dn hm] at this

theorem Win.readDn {ws : List Nat} {m : Nat} (h : Win w T k g o pre (xs.take (m + 1) ++ ws) post) (hm : m < xs.length) :
    ∃ x : Nat, Hid (xs.getD m 0 = x) ∧ w.cell? ⟨g, o + m, none⟩ = some (.int k (x : Int)) := by
  have := h.cell (j := m) (by rw [List.length_append, List.length_take]; omega)
  rw [Dg.getD_dn hm] at this
  exact ⟨_, Lib.hid rfl, this⟩

theorem Win.drew (h : Win w T k g o pre xs post) : Win w.drew T k g o pre xs post := h
theorem Win.drewN (h : Win w T k g o pre xs post) (n : Nat) : Win (w.drewN n) T k g o pre xs post := h

theorem Win.size (h : Win w T k g o pre xs post) : w.heap[g]? = some (.cells (pre ++ (ints k xs ++ post)).toArray T (0, 0)) := h.1

/-- A part of a window is a window. -/
theorem Win.part (h : Win w T k g o pre xs post) (i n : Nat) (hin : i + n ≤ xs.length) :
    Win w T k g (o + i) (pre ++ ints k (xs.take i)) ((xs.drop i).take n) (ints k (xs.drop (i + n)) ++ post) := by
  refine ⟨?_, ?_⟩
  · rw [h.1]
    congr 3
    have e : xs = xs.take i ++ ((xs.drop i).take n ++ xs.drop (i + n)) := by
      rw [show xs.drop (i + n) = (xs.drop i).drop n by rw [List.drop_drop], List.take_append_drop, List.take_append_drop]
    conv => lhs; rw [e]
    simp only [ints_append, List.append_assoc]
  · rw [List.length_append, h.2, ints_length, List.length_take]; omega

/-- .. and back: what was written into the part. -/
theorem Win.whole {i : Nat} {ys zs : List Nat} (h : Win w T k g (o + i) (pre ++ ints k ys) zs (ints k xs ++ post)) (ho : pre.length = o) : Win w T k g o pre (ys ++ (zs ++ xs)) post := by
  refine ⟨?_, ho⟩
  rw [h.1]
  congr 3
  simp only [ints_append, List.append_assoc]
end

end Go.Proofs.YtmiibcdcnoefgaaGreatDoor
