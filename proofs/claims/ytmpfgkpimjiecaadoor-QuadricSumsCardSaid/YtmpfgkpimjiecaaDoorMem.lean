/- What all walks of this seat import. -/
import Derived.Test.YtmpfgkpimjiecaaDoorRows
import Derived.WalkKit
import Derived.WalkSpells
import Derived.WalkLawsBesides
import Derived.Lib.Hide
import Derived.Lib.Mul64
import Derived.Deep.QuietTactic
import Derived.BigQuiet
import Derived.RegionTactic
import Derived.BigRegion
import Derived.StillTailTactics
import Derived.Deep.RegionLaw
import Derived.Test.YtmpfgkpimjiecaaDoorMath
namespace Go.Proofs.YtmpfgkpimjiecaaDoor
open Go.RowKit
/-- The model's entry for math/bits.Sub64, by its own row. -/
def sub64Entry : Array Value → Sem Value := fun args => do
  let (x, y, b) ← Extern.MathBitsCarry.three "Sub64" args
  pure (Extern.MathBitsCarry.pair ((x + Extern.MathBitsCarry.m64 - y - b) % Extern.MathBitsCarry.m64) (if x < y + b then 1 else 0))

theorem run_sub64 (x y b : Nat) (hb : b ≤ 1) (w : World) :
    (sub64Entry #[.int .u64 x, .int .u64 y, .int .u64 b]).run Tryd.prog w =
      .ok (.tuple #[.int .u64 (((x + 18446744073709551616 - y - b) % 18446744073709551616 : Nat) : Int), .int .u64 ((if x < y + b then 1 else 0 : Nat) : Int)]) w := by
  have : b = 0 ∨ b = 1 := by omega
  rcases this with rfl | rfl <;> rfl

/-- 'bits.Add64', run in place. -/
theorem call_add64 (x y c : Nat) (hc : c ≤ 1) (w : World) :
    (callFunc 89 #[.int .u64 x, .int .u64 y, .int .u64 c]).run Tryd.prog w =
      .ok (.value (.tuple #[.int .u64 (((x + y + c) % 18446744073709551616 : Nat) : Int), .int .u64 (((x + y + c) / 18446744073709551616 : Nat) : Int)])) w := by
  rw [run_callFunc_extern Tryd.func89 (by kernel_rfl) (by kernel_rfl) (by kernel_rfl) (e := add64Entry) (by kernel_rfl), run_add64 x y c (by omega) (by omega) (by omega) (by omega)]
  simp only [Result.andThen]
  congr 5 <;> omega

/-- 'bits.Sub64', run in place. -/
theorem call_sub64 (x y b : Nat) (hb : b ≤ 1) (w : World) :
    (callFunc 94 #[.int .u64 x, .int .u64 y, .int .u64 b]).run Tryd.prog w =
      .ok (.value (.tuple #[.int .u64 (((x + 18446744073709551616 - y - b) % 18446744073709551616 : Nat) : Int), .int .u64 ((if x < y + b then 1 else 0 : Nat) : Int)])) w := by
  rw [run_callFunc_extern Tryd.func94 (by kernel_rfl) (by kernel_rfl) (by kernel_rfl) (e := sub64Entry) (by kernel_rfl), run_sub64 x y b hb]
  rfl

end Go.Proofs.YtmpfgkpimjiecaaDoor
namespace Go.Proofs.YtmpfgkpimjiecaaDoor
open Go.RowKit
theorem ret_int {k : IntKind} {a b : Int} (h : a = b) : Ending.returned (.int k a) = .returned (.int k b) := by rw [h]

theorem ret_two {k l : IntKind} {a b c d : Int} (h : a = b) (g : c = d) : Ending.returned (.tuple #[.int k a, .int l c]) = .returned (.tuple #[.int k b, .int l d]) := by rw [h, g]

/-- -1, 0 or 1, as cmp.Compare answers. -/
def cmpI (x y : Int) : Int := if x < y then -1 else if y < x then 1 else 0

theorem cmpI_lt {x y : Int} (h : x < y) : -1 = cmpI x y := by unfold cmpI; rw [if_pos h]

theorem cmpI_gt {x y : Int} (_h : y ≤ x) (g : y < x) : 1 = cmpI x y := by unfold cmpI; rw [if_neg (by omega), if_pos g]

theorem cmpI_eq {x y : Int} (h : y ≤ x) (g : x ≤ y) : 0 = cmpI x y := by unfold cmpI; rw [if_neg (by omega), if_neg (by omega)]

set_option maxHeartbeats 400000 in
theorem compare64 (x y : Int) (w : World) :
    Calls Tryd.prog 93 #[.int .u64 x, .int .u64 y] w fun e w' => e = .returned (.int .i64 (cmpI x y)) ∧ w = w' := by
  go_enter Tryd.func93, Tryd.ntmps93
  go_wp2
  all_goals go_ret
  · exact ⟨ret_int (cmpI_lt (by assumption)), rfl⟩
  · exact ⟨ret_int (cmpI_gt (by assumption) (by assumption)), rfl⟩
  · exact ⟨ret_int (cmpI_eq (by assumption) (by assumption)), rfl⟩

set_option maxHeartbeats 400000 in
theorem compareInt (x y : Int) (w : World) :
    Calls Tryd.prog 92 #[.int .i64 x, .int .i64 y] w fun e w' => e = .returned (.int .i64 (cmpI x y)) ∧ w = w' := by
  go_enter Tryd.func92, Tryd.ntmps92
  go_wp2
  all_goals go_ret
  · exact ⟨ret_int (cmpI_lt (by assumption)), rfl⟩
  · exact ⟨ret_int (cmpI_gt (by assumption) (by assumption)), rfl⟩
  · exact ⟨ret_int (cmpI_eq (by assumption) (by assumption)), rfl⟩

theorem maskN (a : Nat) (ha : a < 18446744073709551616) : bits .and .u64 (a : Int) 4294967295 = ((a % 4294967296 : Nat) : Int) := by
  have h := bits_and_u64_nat a 4294967295 ha (by omega)
  have e : a &&& 4294967295 = a % 4294967296 := Nat.and_two_pow_sub_one_eq_mod a 32
  rw [e] at h
  exact h

theorem divN (a : Nat) : (a : Int) / 4294967296 = ((a / 4294967296 : Nat) : Int) := by omega

theorem mulN (a b : Nat) : (a : Int) * (b : Int) = ((a * b : Nat) : Int) := (Int.natCast_mul a b).symm

theorem addN (a b : Nat) : (a : Int) + (b : Int) = ((a + b : Nat) : Int) := (Int.natCast_add a b).symm

theorem wrapN (a : Nat) (ha : a < 18446744073709551616) : IntKind.u64.wrap (a : Int) = (a : Int) := by rw [IntKind.wrap_u64]; omega

theorem wrapM (a : Nat) : IntKind.u64.wrap (a : Int) = ((a % 18446744073709551616 : Nat) : Int) := by rw [IntKind.wrap_u64]; omega

set_option maxHeartbeats 1000000 in
theorem mul64 (x y : Nat) (hx : x < 18446744073709551616) (hy : y < 18446744073709551616) (w : World) :
    Calls Tryd.prog 102 #[.int .u64 x, .int .u64 y] w fun e w' => e = .returned (.tuple #[.int .u64 ((x * y / 18446744073709551616 : Nat) : Int), .int .u64 ((x * y % 18446744073709551616 : Nat) : Int)]) ∧ w = w' := by
  obtain ⟨bd, bt, bw, hhi⟩ := Lib.mul64_hi x y hx hy
  have ba := Lib.half_mul_le (a := x / 4294967296) (b := y / 4294967296) (by omega) (by omega)
  have bb := Lib.half_mul_le (a := x / 4294967296) (b := y % 4294967296) (by omega) (by omega)
  have bc := Lib.half_mul_le (a := x % 4294967296) (b := y / 4294967296) (by omega) (by omega)
  have ba' : x / 4294967296 * (y / 4294967296) < 18446744073709551616 := by omega
  have bb' : x / 4294967296 * (y % 4294967296) < 18446744073709551616 := by omega
  have bc' : x % 4294967296 * (y / 4294967296) < 18446744073709551616 := by omega
  have bh1 : x / 4294967296 * (y / 4294967296) + (x / 4294967296 * (y % 4294967296) + x % 4294967296 * (y % 4294967296) / 4294967296) / 4294967296 < 18446744073709551616 := by omega
  have bh : x / 4294967296 * (y / 4294967296) + (x / 4294967296 * (y % 4294967296) + x % 4294967296 * (y % 4294967296) / 4294967296) / 4294967296 + ((x / 4294967296 * (y % 4294967296) + x % 4294967296 * (y % 4294967296) / 4294967296) % 4294967296 + x % 4294967296 * (y / 4294967296)) / 4294967296 < 18446744073709551616 := by omega
  go_enter Tryd.func102, Tryd.ntmps102
  go_wp2
  simp only [maskN x hx, maskN y hy, divN, mulN, addN, wrapN _ bd, wrapN _ bb', wrapN _ bt, maskN _ bt, wrapN _ bc', wrapN _ bw, wrapN _ ba', wrapN _ bh1, wrapN _ bh, wrapM (x * y)]
  rw [hhi]
  go_ret2
  exact ⟨rfl, rfl⟩

/-- The base of the words. -/
def BB : Nat := 18446744073709551616

theorem BB_eq : BB = 18446744073709551616 := rfl

/-- Two words are returned, the world is as it was. -/
def TwoW (P : Nat → Nat → Prop) (w : World) : Ending → World → Prop := fun e w' =>
  ∃ a b : Nat, P a b ∧ a < BB ∧ b < BB ∧ e = .returned (.tuple #[.int .u64 (a : Int), .int .u64 (b : Int)]) ∧ w = w'

theorem mul64_two (x y : Nat) (hx : x < BB) (hy : y < BB) (w : World) :
    Calls Tryd.prog 102 #[.int .u64 x, .int .u64 y] w (TwoW (fun hi lo => hi * BB + lo = x * y) w) :=
  (mul64 x y hx hy w).mono fun e w' ⟨he, hw⟩ => by
    rw [BB_eq] at hx hy
    have h : x * y ≤ 18446744073709551615 * 18446744073709551615 := Nat.mul_le_mul (by omega) (by omega)
    refine ⟨_, _, ?_, ?_, ?_, he, hw⟩
    · rw [BB_eq]; omega
    · rw [BB_eq]; omega
    · rw [BB_eq]; omega

/-- 'bits.Add64', its two results under names. -/
theorem add_run (x y c : Nat) (hx : x < BB) (hy : y < BB) (hc : c ≤ 1) : ∃ s t : Nat, s + BB * t = x + y + c ∧ s < BB ∧ t ≤ 1 ∧
    ∀ w, (callFunc 89 #[.int .u64 x, .int .u64 y, .int .u64 c]).run Tryd.prog w = .ok (.value (.tuple #[.int .u64 (s : Int), .int .u64 (t : Int)])) w := by
  rw [BB_eq] at *
  exact ⟨_, _, by omega, by omega, by omega, call_add64 x y c hc⟩

/-- 'bits.Sub64', its two results under names. -/
theorem sub_run (x y c : Nat) (hx : x < BB) (hy : y < BB) (hc : c ≤ 1) : ∃ s t : Nat, s + y + c = x + BB * t ∧ s < BB ∧ t ≤ 1 ∧
    ∀ w, (callFunc 94 #[.int .u64 x, .int .u64 y, .int .u64 c]).run Tryd.prog w = .ok (.value (.tuple #[.int .u64 (s : Int), .int .u64 (t : Int)])) w := by
  rw [BB_eq] at *
  refine ⟨(x + 18446744073709551616 - y - c) % 18446744073709551616, if x < y + c then 1 else 0, ?_, ?_, ?_, call_sub64 x y c hc⟩
  · by_cases h : x < y + c
    · rw [if_pos h]; omega
    · rw [if_neg h]; omega
  · omega
  · by_cases h : x < y + c
    · rw [if_pos h]; omega
    · rw [if_neg h]; omega

theorem add_zero_run (x y : Nat) (hx : x < BB) (hy : y < BB) : ∃ s t : Nat, s + BB * t = x + y ∧ s < BB ∧ t ≤ 1 ∧
    ∀ w, (callFunc 89 #[.int .u64 x, .int .u64 y, .int .u64 0]).run Tryd.prog w = .ok (.value (.tuple #[.int .u64 (s : Int), .int .u64 (t : Int)])) w := by
  obtain ⟨s, t, h1, h2, h3, h4⟩ := add_run x y 0 hx hy (by omega)
  exact ⟨s, t, by omega, h2, h3, h4⟩

theorem add_mid_run (x c : Nat) (hx : x < BB) (hc : c ≤ 1) : ∃ s t : Nat, s + BB * t = x + 0 + c ∧ s < BB ∧ t ≤ 1 ∧
    ∀ w, (callFunc 89 #[.int .u64 x, .int .u64 0, .int .u64 c]).run Tryd.prog w = .ok (.value (.tuple #[.int .u64 (s : Int), .int .u64 (t : Int)])) w := by
  obtain ⟨s, t, h1, h2, h3, h4⟩ := add_run x 0 c hx (by decide) hc
  exact ⟨s, t, by omega, h2, h3, h4⟩

theorem sub_mid_run (x c : Nat) (hx : x < BB) (hc : c ≤ 1) : ∃ s t : Nat, s + 0 + c = x + BB * t ∧ s < BB ∧ t ≤ 1 ∧
    ∀ w, (callFunc 94 #[.int .u64 x, .int .u64 0, .int .u64 c]).run Tryd.prog w = .ok (.value (.tuple #[.int .u64 (s : Int), .int .u64 (t : Int)])) w := by
  obtain ⟨s, t, h1, h2, h3, h4⟩ := sub_run x 0 c hx (by decide) hc
  exact ⟨s, t, by omega, h2, h3, h4⟩

theorem mulAdd_nat {x y a h l s t : Nat} (hx : x < BB) (hy : y < BB) (ha : a < BB) (e : h * BB + l = x * y) (g : s + BB * t = l + a) (hs : s < BB) (hl : l < BB) :
    (h + t) * BB + s = x * y + a ∧ h + t < BB ∧ IntKind.u64.wrap ((h : Int) + (t : Int)) = ((h + t : Nat) : Int) := by
  have h0 : (h + t) * BB = h * BB + BB * t := by rw [Nat.add_mul, Nat.mul_comm t]
  have h4 : (h + t) * BB + s = x * y + a := by omega
  have h3 : h + t < BB := by
    rw [BB_eq] at *
    have h2 : x * y ≤ 18446744073709551615 * 18446744073709551615 := Nat.mul_le_mul (by omega) (by omega)
    generalize x * y = p at *
    clear h4 h0
    omega
  have h5 : IntKind.u64.wrap ((h : Int) + (t : Int)) = ((h + t : Nat) : Int) := by
    rw [← Int.natCast_add]
    exact wrapN _ h3
  exact ⟨h4, h3, h5⟩

theorem prod_nat {x f c h l a s t : Nat} (hx : x < BB) (hf : f < BB) (hc : c < BB) (ha : a < BB) (e : h * BB + l = x * f + c) (g : s + BB * t = a + l) :
    s + BB * (t + h) = a + f * x + c ∧ t + h < BB ∧ IntKind.u64.wrap ((t : Int) + (h : Int)) = ((t + h : Nat) : Int) := by
  have h0 : BB * (t + h) = BB * t + h * BB := by rw [Nat.mul_add, Nat.mul_comm h]
  have h1 : f * x = x * f := Nat.mul_comm _ _
  have h4 : s + BB * (t + h) = a + f * x + c := by omega
  have h3 : t + h < BB := by
    have h5 : BB * (t + h) < BB * BB := by
      have h2 : x * f ≤ (BB - 1) * (BB - 1) := Nat.mul_le_mul (by omega) (by omega)
      have h6 : (BB - 1) * (BB - 1) + 2 * BB = BB * BB + 1 := by decide
      omega
    exact Nat.lt_of_mul_lt_mul_left h5
  refine ⟨h4, h3, ?_⟩
  rw [← Int.natCast_add]
  exact wrapN _ h3

theorem subprod_nat {y f c d h l x s t : Nat} (e : h * BB + l = y * f + c) (g : s + l + d = x + BB * t) : s + f * y + (c + d) = x + BB * (h + t) := by
  have h0 : BB * (h + t) = BB * t + h * BB := by rw [Nat.mul_add, Nat.mul_comm BB h]; omega
  have h1 : f * y = y * f := Nat.mul_comm _ _
  omega

set_option maxHeartbeats 400000 in
theorem multiplyAdd (x y a : Nat) (hx : x < BB) (hy : y < BB) (ha : a < BB) (w : World) :
    Calls Tryd.prog 88 #[.int .u64 x, .int .u64 y, .int .u64 a] w (TwoW (fun hi lo => hi * BB + lo = x * y + a) w) := by
  go_enter Tryd.func88, Tryd.ntmps88
  go_wp2_with fail
  refine (mul64_two x y hx hy _).mono ?_
  rintro e w' ⟨h, l, E, hh, hl, rfl, rfl⟩
  obtain ⟨s, t, g, hs, ht, hrun⟩ := add_zero_run l a hl ha
  obtain ⟨F1, F2, F3⟩ := mulAdd_nat hx hy ha E g hs hl
  have H1 := Lib.hid F1
  have H2 := Lib.hid F2
  clear E g F1 F2 hx hy ha hh hl ht
  go_wp2
  go_ret2
  exact ⟨_, _, H1.out, H2.out, hs, by simp, rfl⟩

end Go.Proofs.YtmpfgkpimjiecaaDoor
namespace Go.Proofs.YtmpfgkpimjiecaaDoor
open Go.RowKit
/-- Numbers as values of an integer kind. -/
def ints (k : IntKind) (xs : List Nat) : List Value := xs.map fun x : Nat => Value.int k (x : Int)

theorem ints_length (k : IntKind) (xs : List Nat) : (ints k xs).length = xs.length := by simp [ints]

theorem ints_append (k : IntKind) (xs ys : List Nat) : ints k (xs ++ ys) = ints k xs ++ ints k ys := by simp [ints]

theorem ints_take (k : IntKind) (xs : List Nat) (n : Nat) : (ints k xs).take n = ints k (xs.take n) := by simp [ints]

theorem ints_drop (k : IntKind) (xs : List Nat) (n : Nat) : (ints k xs).drop n = ints k (xs.drop n) := by simp [ints]

theorem ints_get (k : IntKind) (xs : List Nat) (j : Nat) (h : j < xs.length) : (ints k xs)[j]? = some (.int k ((xs.getD j 0 : Nat) : Int)) := by
  simp [ints, List.getElem?_eq_getElem h, List.getD]

/-- Block g holds pre, then the numbers xs (from offset o on), then post; none of it is frozen. -/
def Win (w : World) (T : TypeId) (k : IntKind) (g o : Nat) (pre : List Value) (xs : List Nat) (post : List Value) : Prop :=
  w.heap[g]? = some (.cells (pre ++ (ints k xs ++ post)).toArray T (0, 0)) ∧ pre.length = o

/-- Nothing but the blocks of S, and new blocks, may differ. -/
structure Tch (S : List Nat) (w w' : World) : Prop where
  os : w'.os = w.os
  tape : w'.tape = w.tape
  output : w'.output = w.output
  size : w.heap.size ≤ w'.heap.size
  block : ∀ k, k < w.heap.size → k ∉ S → w'.heap[k]? = w.heap[k]?

theorem Tch.refl (S : List Nat) (w : World) : Tch S w w := ⟨rfl, rfl, rfl, Nat.le_refl _, fun _ _ _ => rfl⟩

/-- Two steps; what the second one touches is touched by the first one's list, or new. -/
theorem Tch.trans {S S' : List Nat} {a b c : World} (h : Tch S a b) (h' : Tch S' b c) (hs : ∀ k ∈ S', k ∈ S ∨ a.heap.size ≤ k) : Tch S a c :=
  ⟨h'.os.trans h.os, h'.tape.trans h.tape, h'.output.trans h.output, Nat.le_trans h.size h'.size, fun k hk hn =>
    (h'.block k (Nat.lt_of_lt_of_le hk h.size) (fun hm => by rcases hs k hm with h1 | h1; exact hn h1; omega)).trans (h.block k hk hn)⟩

theorem Tch.mono {S S' : List Nat} {a b : World} (h : Tch S a b) (hs : ∀ k ∈ S, k ∈ S' ∨ a.heap.size ≤ k) : Tch S' a b :=
  ⟨h.os, h.tape, h.output, h.size, fun k hk hn => h.block k hk (fun hm => by rcases hs k hm with h1 | h1; exact hn h1; omega)⟩

theorem Tch.drew {S : List Nat} {a w : World} (h : Tch S a w) : Tch S a w.drew := ⟨h.os, h.tape, h.output, h.size, h.block⟩

theorem Tch.drewN {S : List Nat} {a w : World} (h : Tch S a w) (n : Nat) : Tch S a (w.drewN n) := ⟨h.os, h.tape, h.output, h.size, h.block⟩

theorem Tch.alloc {S : List Nat} {a w : World} (h : Tch S a w) (o : Obj) : Tch S a (w.alloc o) :=
  ⟨h.os, h.tape, h.output, Nat.le_trans h.size (by simp), fun k hk hn => (Below.heap_alloc w o k (Nat.lt_of_lt_of_le hk h.size)).trans (h.block k hk hn)⟩

theorem Tch.setCell {S : List Nat} {a w : World} (h : Tch S a w) {p : Addr} (hp : p.block ∈ S ∨ a.heap.size ≤ p.block) (u : Value) : Tch S a (w.setCell p u) :=
  ⟨h.os, h.tape, h.output, Nat.le_trans h.size (by simp), fun k hk hn =>
    (heap_setCell_other w p k u (fun e => by subst e; rcases hp with hp | hp; exact hn hp; omega)).trans (h.block k hk hn)⟩

theorem Tch.grown {S : List Nat} {a w w' : World} {row : Option Nat} (h : Tch S a w) (hg : w.grownBy w' row) (hr : ∀ k, row = some k → k ∈ S ∨ a.heap.size ≤ k) : Tch S a w' :=
  ⟨hg.os.trans h.os, hg.tape.trans h.tape, hg.output.trans h.output, Nat.le_trans h.size hg.size, fun k hk hn =>
    (hg.block k (Nat.lt_of_lt_of_le hk h.size) (fun e => by rcases hr k e.symm with h1 | h1; exact hn h1; omega)).trans (h.block k hk hn)⟩

theorem Tch.below {a w : World} (h : Tch [] a w) : Below a.heap.size a w := ⟨h.os, h.tape, h.output, h.size, fun k hk => h.block k hk (by simp)⟩

theorem Tch.of_below {a w : World} (h : Below a.heap.size a w) : Tch [] a w := ⟨h.os, h.tape, h.output, h.size, fun k hk _ => h.block k hk⟩

section
variable {w w' : World} {T : TypeId} {k : IntKind} {g o : Nat} {pre post : List Value} {xs : List Nat}
theorem Win.lt (h : Win w T k g o pre xs post) : g < w.heap.size := (Array.getElem?_eq_some_iff.1 h.1).1

theorem Win.kept {S : List Nat} (h : Win w T k g o pre xs post) (ht : Tch S w w') (hn : g ∉ S) : Win w' T k g o pre xs post :=
  ⟨(ht.block g h.lt hn).trans h.1, h.2⟩

theorem Win.cell (h : Win w T k g o pre xs post) {j : Nat} (hj : j < xs.length) : w.cell? ⟨g, o + j, none⟩ = some (.int k ((xs.getD j 0 : Nat) : Int)) := by
  rw [cell_of_row w g (o + j) _ T (0, 0) h.1, ← h.2]
  rw [List.getElem?_toArray, List.getElem?_append_right (by omega), Nat.add_sub_cancel_left, List.getElem?_append_left (by rw [ints_length]; exact hj)]
  exact ints_get k xs j hj

/-- The number that is read, under a name of its own. -/
theorem Win.read (h : Win w T k g o pre xs post) {j : Nat} (hj : j < xs.length) : ∃ x : Nat, Hid (xs.getD j 0 = x) ∧ w.cell? ⟨g, o + j, none⟩ = some (.int k (x : Int)) :=
  ⟨_, Lib.hid rfl, h.cell hj⟩

theorem Win.frozen (h : Win w T k g o pre xs post) (j : Nat) : w.frozen? ⟨g, j, none⟩ = false := frozen_of_row w g j _ T h.1

theorem ints_set (k : IntKind) (xs : List Nat) (j z : Nat) : (ints k xs).set j (.int k (z : Int)) = ints k (xs.set j z) := by simp [ints, List.map_set]

theorem Win.set (h : Win w T k g o pre xs post) {j : Nat} (hj : j < xs.length) (z : Nat) : Win (w.setCell ⟨g, o + j, none⟩ (.int k (z : Int))) T k g o pre (xs.set j z) post := by
  refine ⟨?_, h.2⟩
  rw [heap_setCell_same w g (o + j) _ T _ h.1]
  congr 2
  apply Array.ext'
  rw [Array.toList_setIfInBounds]
  simp only []
  rw [← h.2, List.set_append_right _ _ (by omega), Nat.add_sub_cancel_left, List.set_append_left _ _ (by rw [ints_length]; exact hj), ints_set]

/-- The next number of a window is written. -/
theorem Win.step {ws : List Nat} {i : Nat} (h : Win w T k g o pre (ws ++ xs.drop i) post) (hw : ws.length = i) (hi : i < xs.length) (z : Nat) :
    Win (w.setCell ⟨g, o + i, none⟩ (.int k (z : Int))) T k g o pre (ws ++ [z] ++ xs.drop (i + 1)) post := by
  have := h.set (j := i) (by rw [Dg.len_app hw (by omega)]; exact hi) z
  rwa [Dg.set_app hw hi] at this

theorem Win.readApp {ws : List Nat} {i : Nat} (h : Win w T k g o pre (ws ++ xs.drop i) post) (hw : ws.length = i) (hi : i < xs.length) :
    ∃ x : Nat, Hid (xs.getD i 0 = x) ∧ w.cell? ⟨g, o + i, none⟩ = some (.int k (x : Int)) := by
  have := h.cell (j := i) (by rw [Dg.len_app hw (by omega)]; exact hi)
  rw [Dg.getD_app hw hi] at this
  exact ⟨_, Lib.hid rfl, this⟩

/-- The next number of a window is written, from its end down. -/
theorem Win.stepDn {ws : List Nat} {m : Nat} (h : Win w T k g o pre (xs.take (m + 1) ++ ws) post) (hm : m < xs.length) (z : Nat) :
    Win (w.setCell ⟨g, o + m, none⟩ (.int k (z : Int))) T k g o pre (xs.take m ++ z :: ws) post := by
  have := h.set (j := m) (by rw [List.length_append, List.length_take]; omega) z
  rwa [Dg.set_dn hm] at this

theorem Win.readDn {ws : List Nat} {m : Nat} (h : Win w T k g o pre (xs.take (m + 1) ++ ws) post) (hm : m < xs.length) :
    ∃ x : Nat, Hid (xs.getD m 0 = x) ∧ w.cell? ⟨g, o + m, none⟩ = some (.int k (x : Int)) := by
  have := h.cell (j := m) (by rw [List.length_append, List.length_take]; omega)
  rw [Dg.getD_dn hm] at this
  exact ⟨_, Lib.hid rfl, this⟩

theorem Win.drew (h : Win w T k g o pre xs post) : Win w.drew T k g o pre xs post := h

theorem Win.drewN (h : Win w T k g o pre xs post) (n : Nat) : Win (w.drewN n) T k g o pre xs post := h

theorem Win.size (h : Win w T k g o pre xs post) : w.heap[g]? = some (.cells (pre ++ (ints k xs ++ post)).toArray T (0, 0)) := h.1

/-- A part of a window is a window. -/
theorem Win.part (h : Win w T k g o pre xs post) (i n : Nat) (hin : i + n ≤ xs.length) :
    Win w T k g (o + i) (pre ++ ints k (xs.take i)) ((xs.drop i).take n) (ints k (xs.drop (i + n)) ++ post) := by
  refine ⟨?_, ?_⟩
  · rw [h.1]
    congr 3
    have e : xs = xs.take i ++ ((xs.drop i).take n ++ xs.drop (i + n)) := by
      rw [show xs.drop (i + n) = (xs.drop i).drop n by rw [List.drop_drop], List.take_append_drop, List.take_append_drop]
    conv => lhs; rw [e]
    simp only [ints_append, List.append_assoc]
  · rw [List.length_append, h.2, ints_length, List.length_take]; omega

/-- .. and back: what was written into the part. -/
theorem Win.whole {i : Nat} {ys zs : List Nat} (h : Win w T k g (o + i) (pre ++ ints k ys) zs (ints k xs ++ post)) (ho : pre.length = o) : Win w T k g o pre (ys ++ (zs ++ xs)) post := by
  refine ⟨?_, ho⟩
  rw [h.1]
  congr 3
  simp only [ints_append, List.append_assoc]

end
end Go.Proofs.YtmpfgkpimjiecaaDoor
namespace Go.Proofs.YtmpfgkpimjiecaaDoor
open Go.RowKit Dg
theorem Below.heap_alloc_new' (w : World) (o : Obj) : (w.alloc o).heap[w.heap.size]? = some o := by
  show (w.heap.push o)[w.heap.size]? = some o
  simp

/-- From block A on lie the boxes L. -/
structure Bs (w : World) (A : Nat) (L : List Obj) : Prop where
  row : ∀ (i : Nat) (o : Obj), L[i]? = some o → w.heap[A + i]? = some o

section
variable {w w' : World} {A : Nat} {L : List Obj} {S : List Nat}
theorem Bs.kept (h : Bs w A L) (t : Tch S w w') (hS : ∀ k ∈ S, k < A ∨ A + L.length ≤ k) : Bs w' A L :=
  ⟨fun i o hi => by
    have h1 := h.row i o hi
    have hl : i < L.length := (List.getElem?_eq_some_iff.1 hi).1
    rw [t.block (A + i) (Array.getElem?_eq_some_iff.1 h1).1 (fun hk => by have := hS _ hk; omega)]
    exact h1⟩

theorem Bs.keep (h : Bs w A L) (t : Tch [] w w') : Bs w' A L := h.kept t (by simp)

theorem Bs.cell (h : Bs w A L) (i j : Nat) {vs : Array Value} {T : TypeId} {v : Value} (hi : L[i]? = some (.cells vs T (0, 0))) (hj : vs[j]? = some v) : w.cell? ⟨A + i, j, none⟩ = some v := by
  rw [cell_of_row w (A + i) j _ T (0, 0) (h.row i _ hi)]; exact hj

theorem Bs.frozen (h : Bs w A L) (i j : Nat) {vs : Array Value} {T : TypeId} (hi : L[i]? = some (.cells vs T (0, 0))) : w.frozen? ⟨A + i, j, none⟩ = false := frozen_of_row w (A + i) j _ T (h.row i _ hi)

theorem Bs.set (h : Bs w A L) (i j : Nat) {vs : Array Value} {T : TypeId} (u : Value) (hi : L[i]? = some (.cells vs T (0, 0))) : Bs (w.setCell ⟨A + i, j, none⟩ u) A (L.set i (.cells (vs.setIfInBounds j u) T (0, 0))) :=
  ⟨fun k o hk => by
    have hl : i < L.length := (List.getElem?_eq_some_iff.1 hi).1
    by_cases e : k = i
    · subst e
      rw [List.getElem?_set_self hl] at hk
      cases hk
      exact heap_setCell_same w (A + k) j _ T _ (h.row k _ hi)
    · rw [List.getElem?_set_ne (Ne.symm e)] at hk
      rw [heap_setCell_other w _ (A + k) u (by simp; omega)]
      exact h.row k o hk⟩

theorem Bs.nil (w : World) : Bs w w.heap.size [] := ⟨fun i o h => by simp at h⟩

theorem Bs.alloc (h : Bs w A L) (hz : w.heap.size = A + L.length) (o : Obj) : Bs (w.alloc o) A (L ++ [o]) :=
  ⟨fun k p hk => by
    by_cases e : k < L.length
    · rw [List.getElem?_append_left e] at hk
      rw [Below.heap_alloc w o (A + k) (by omega)]
      exact h.row k p hk
    · rw [List.getElem?_append_right (by omega)] at hk
      have e2 : k = L.length := by
        have := (List.getElem?_eq_some_iff.1 hk).1
        simp at this; omega
      subst e2
      simp at hk
      subst hk
      rw [← hz]
      exact Below.heap_alloc_new' w o⟩

theorem Bs.size (h : Bs w A L) (hL : L ≠ []) : A + L.length ≤ w.heap.size := by
  have hl : 0 < L.length := List.length_pos_iff.2 hL
  have h1 := h.row (L.length - 1) (L[L.length - 1]'(by omega)) (List.getElem?_eq_getElem (by omega))
  have := (Array.getElem?_eq_some_iff.1 h1).1
  omega

theorem Bs.drew (h : Bs w A L) : Bs w.drew A L := ⟨h.row⟩

/-- A new block beside them. -/
theorem Bs.beside (h : Bs w A L) (o : Obj) : Bs (w.alloc o) A L :=
  ⟨fun k p hk => (Below.heap_alloc w o (A + k) (Array.getElem?_eq_some_iff.1 (h.row k p hk)).1).trans (h.row k p hk)⟩

end
end Go.Proofs.YtmpfgkpimjiecaaDoor
namespace Go.Proofs.YtmpfgkpimjiecaaDoor
open Go.RowKit Dg
/-- Since w0 only new blocks were laid; among them those of l, each with what it holds. -/
structure Fr (w0 w : World) (l : List (Nat × Obj)) : Prop where
  row : ∀ p ∈ l, w.heap[p.1]? = some p.2
  new : ∀ p ∈ l, w0.heap.size ≤ p.1
  t : Tch [] w0 w

section
variable {w0 w w' : World} {l : List (Nat × Obj)}
theorem Fr.nil (w : World) : Fr w w [] := ⟨fun _ h => by simp at h, fun _ h => by simp at h, Tch.refl [] w⟩

theorem Fr.keep (h : Fr w0 w l) (t : Tch [] w w') : Fr w0 w' l :=
  ⟨fun p hp => (t.block p.1 (Array.getElem?_eq_some_iff.1 (h.row p hp)).1 (by simp)).trans (h.row p hp), h.new, h.t.trans t (by simp)⟩

theorem Fr.add (h : Fr w0 w l) (o : Obj) (b : Nat) (hb : w.heap.size = b) : Fr w0 (w.alloc o) (l ++ [(b, o)]) := by
  subst hb
  refine ⟨fun p hp => ?_, fun p hp => ?_, h.t.alloc o⟩
  · rcases List.mem_append.1 hp with hp | hp
    · exact (Below.heap_alloc w o p.1 (Array.getElem?_eq_some_iff.1 (h.row p hp)).1).trans (h.row p hp)
    · rw [List.mem_singleton] at hp
      subst hp
      exact Below.heap_alloc_new' w o
  · rcases List.mem_append.1 hp with hp | hp
    · exact h.new p hp
    · rw [List.mem_singleton] at hp
      subst hp
      exact h.t.size

/-- A new block beside them. -/
theorem Fr.beside (h : Fr w0 w l) (o : Obj) : Fr w0 (w.alloc o) l :=
  ⟨fun p hp => (Below.heap_alloc w o p.1 (Array.getElem?_eq_some_iff.1 (h.row p hp)).1).trans (h.row p hp), h.new, h.t.alloc o⟩

theorem Tch.undrew {S : List Nat} (h : Tch S w.drew w') : Tch S w w' := ⟨h.os, h.tape, h.output, h.size, h.block⟩

theorem Fr.drew (h : Fr w0 w l) : Fr w0 w.drew l := ⟨h.row, h.new, h.t.drew⟩

theorem Fr.cell (h : Fr w0 w l) (i j : Nat) {b : Nat} {vs : Array Value} {T : TypeId} {v : Value} (hi : l[i]? = some (b, .cells vs T (0, 0))) (hj : vs[j]? = some v) : w.cell? ⟨b, j, none⟩ = some v := by
  rw [cell_of_row w b j vs T (0, 0) (h.row (b, .cells vs T (0, 0)) (List.mem_of_getElem? hi))]; exact hj

theorem Fr.frozen (h : Fr w0 w l) (i j : Nat) {b : Nat} {vs : Array Value} {T : TypeId} (hi : l[i]? = some (b, .cells vs T (0, 0))) : w.frozen? ⟨b, j, none⟩ = false :=
  frozen_of_row w b j _ T (h.row (b, .cells vs T (0, 0)) (List.mem_of_getElem? hi))

/-- Both cells of a number. -/
theorem Fr.two (h : Fr w0 w l) (i : Nat) {b : Nat} {x y : Value} {T : TypeId} (hi : l[i]? = some (b, .cells #[x, y] T (0, 0))) : w.cell? ⟨b, 0, none⟩ = some x ∧ w.cell? ⟨b, 1, none⟩ = some y := ⟨h.cell i 0 hi rfl, h.cell i 1 hi rfl⟩

theorem Fr.four (h : Fr w0 w l) (i : Nat) {b : Nat} {x y z u : Value} {T : TypeId} (hi : l[i]? = some (b, .cells #[x, y, z, u] T (0, 0))) : w.cell? ⟨b, 0, none⟩ = some x ∧ w.cell? ⟨b, 1, none⟩ = some y ∧ w.cell? ⟨b, 2, none⟩ = some z ∧ w.cell? ⟨b, 3, none⟩ = some u := ⟨h.cell i 0 hi rfl, h.cell i 1 hi rfl, h.cell i 2 hi rfl, h.cell i 3 hi rfl⟩

theorem Fr.fro2 (h : Fr w0 w l) (i : Nat) {b : Nat} {x y : Value} {T : TypeId} (hi : l[i]? = some (b, .cells #[x, y] T (0, 0))) : w.frozen? ⟨b, 0, none⟩ = false ∧ w.frozen? ⟨b, 1, none⟩ = false := ⟨h.frozen i 0 hi, h.frozen i 1 hi⟩

theorem Fr.fro4 (h : Fr w0 w l) (i : Nat) {b : Nat} {x y z u : Value} {T : TypeId} (hi : l[i]? = some (b, .cells #[x, y, z, u] T (0, 0))) : w.frozen? ⟨b, 0, none⟩ = false ∧ w.frozen? ⟨b, 1, none⟩ = false ∧ w.frozen? ⟨b, 2, none⟩ = false ∧ w.frozen? ⟨b, 3, none⟩ = false := ⟨h.frozen i 0 hi, h.frozen i 1 hi, h.frozen i 2 hi, h.frozen i 3 hi⟩

/-- A cell of a block that is none of theirs, and new, is written. -/
theorem Fr.away (h : Fr w0 w l) {p : Addr} (hp : ∀ q ∈ l, q.1 ≠ p.block) (hn : w0.heap.size ≤ p.block) (u : Value) : Fr w0 (w.setCell p u) l :=
  ⟨fun q hq => (heap_setCell_other w p q.1 u (hp q hq)).trans (h.row q hq), h.new, h.t.setCell (.inr hn) u⟩

theorem Fr.ne_size (h : Fr w0 w l) : ∀ q ∈ l, q.1 ≠ w.heap.size := fun q hq => Nat.ne_of_lt (Array.getElem?_eq_some_iff.1 (h.row q hq)).1

/-- A new box beside them, written at once. -/
theorem Fr.box2 (h : Fr w0 w l) (o : Obj) (a b : Value) : Fr w0 (((w.alloc o).setCell ⟨w.heap.size, 0, none⟩ a).setCell ⟨w.heap.size, 1, none⟩ b) l :=
  ((h.beside o).away h.ne_size h.t.size a).away h.ne_size h.t.size b

theorem Fr.box4 (h : Fr w0 w l) (o : Obj) (a b c d : Value) : Fr w0 (((((w.alloc o).setCell ⟨w.heap.size, 0, none⟩ a).setCell ⟨w.heap.size, 1, none⟩ b).setCell ⟨w.heap.size, 2, none⟩ c).setCell ⟨w.heap.size, 3, none⟩ d) l :=
  ((((h.beside o).away h.ne_size h.t.size a).away h.ne_size h.t.size b).away h.ne_size h.t.size c).away h.ne_size h.t.size d

/-- .. and a box that was laid before a call. -/
structure FrB (w0 w : World) (l : List (Nat × Obj)) (b : Nat) (o : Obj) : Prop where
  f : Fr w0 w l
  box : w.heap[b]? = some o
  ne : ∀ q ∈ l, q.1 ≠ b
  new : w0.heap.size ≤ b

theorem FrB.keep {b : Nat} {o : Obj} (h : FrB w0 w l b o) (t : Tch [] w w') : FrB w0 w' l b o :=
  ⟨h.f.keep t, (t.block b (Array.getElem?_eq_some_iff.1 h.box).1 (by simp)).trans h.box, h.ne, h.new⟩

theorem Fr.boxed (h : Fr w0 w l) (o : Obj) (t : Tch [] (w.alloc o) w') : FrB w0 w' l w.heap.size o :=
  FrB.keep (w := w.alloc o) ⟨h.beside o, Below.heap_alloc_new' w o, h.ne_size, h.t.size⟩ t

theorem Fr.boxedAt (h : Fr w0 w l) (o : Obj) (b : Nat) (hb : w.heap.size = b) (t : Tch [] (w.alloc o) w') : FrB w0 w' l b o := hb ▸ h.boxed o t

theorem FrB.cell {b : Nat} {vs : Array Value} {T : TypeId} (h : FrB w0 w l b (.cells vs T (0, 0))) (j : Nat) {v : Value} (hj : vs[j]? = some v) : w.cell? ⟨b, j, none⟩ = some v := by
  rw [cell_of_row w b j vs T (0, 0) h.box]; exact hj

theorem FrB.two {b : Nat} {x y : Value} {T : TypeId} (h : FrB w0 w l b (.cells #[x, y] T (0, 0))) : (w.cell? ⟨b, 0, none⟩ = some x ∧ w.cell? ⟨b, 1, none⟩ = some y) ∧ (w.frozen? ⟨b, 0, none⟩ = false ∧ w.frozen? ⟨b, 1, none⟩ = false) :=
  ⟨⟨h.cell 0 rfl, h.cell 1 rfl⟩, ⟨frozen_of_row w b 0 _ T h.box, frozen_of_row w b 1 _ T h.box⟩⟩

theorem FrB.four {b : Nat} {x y z u : Value} {T : TypeId} (h : FrB w0 w l b (.cells #[x, y, z, u] T (0, 0))) : (w.cell? ⟨b, 0, none⟩ = some x ∧ w.cell? ⟨b, 1, none⟩ = some y ∧ w.cell? ⟨b, 2, none⟩ = some z ∧ w.cell? ⟨b, 3, none⟩ = some u) ∧
    (w.frozen? ⟨b, 0, none⟩ = false ∧ w.frozen? ⟨b, 1, none⟩ = false ∧ w.frozen? ⟨b, 2, none⟩ = false ∧ w.frozen? ⟨b, 3, none⟩ = false) :=
  ⟨⟨h.cell 0 rfl, h.cell 1 rfl, h.cell 2 rfl, h.cell 3 rfl⟩, ⟨frozen_of_row w b 0 _ T h.box, frozen_of_row w b 1 _ T h.box, frozen_of_row w b 2 _ T h.box, frozen_of_row w b 3 _ T h.box⟩⟩

/-- Four cells of a block, all of them, written one behind the other. -/
theorem row_set4 {b : Nat} {x y z u x' y' z' u' : Value} {T : TypeId} (h : w.heap[b]? = some (.cells #[x, y, z, u] T (0, 0))) :
    ((((w.setCell ⟨b, 0, none⟩ x').setCell ⟨b, 1, none⟩ y').setCell ⟨b, 2, none⟩ z').setCell ⟨b, 3, none⟩ u').heap[b]? = some (.cells #[x', y', z', u'] T (0, 0)) := by
  have h1 := heap_setCell_same w b 0 _ T x' h
  have h2 := heap_setCell_same _ b 1 _ T y' h1
  have h3 := heap_setCell_same _ b 2 _ T z' h2
  exact heap_setCell_same _ b 3 _ T u' h3

theorem cells_row4 {b : Nat} {x y z u : Value} {T : TypeId} (h : w.heap[b]? = some (.cells #[x, y, z, u] T (0, 0))) : w.cell? ⟨b, 0, none⟩ = some x ∧ w.cell? ⟨b, 1, none⟩ = some y ∧ w.cell? ⟨b, 2, none⟩ = some z ∧ w.cell? ⟨b, 3, none⟩ = some u :=
  ⟨by rw [cell_of_row w b 0 _ T (0, 0) h]; rfl, by rw [cell_of_row w b 1 _ T (0, 0) h]; rfl, by rw [cell_of_row w b 2 _ T (0, 0) h]; rfl, by rw [cell_of_row w b 3 _ T (0, 0) h]; rfl⟩

theorem FrB.set2 {b : Nat} {o : Obj} (h : FrB w0 w l b o) (x y : Value) : Fr w0 ((w.setCell ⟨b, 0, none⟩ x).setCell ⟨b, 1, none⟩ y) l :=
  (h.f.away h.ne h.new x).away h.ne h.new y

theorem FrB.set4 {b : Nat} {o : Obj} (h : FrB w0 w l b o) (x y z u : Value) : Fr w0 ((((w.setCell ⟨b, 0, none⟩ x).setCell ⟨b, 1, none⟩ y).setCell ⟨b, 2, none⟩ z).setCell ⟨b, 3, none⟩ u) l :=
  (((h.f.away h.ne h.new x).away h.ne h.new y).away h.ne h.new z).away h.ne h.new u

/-- A box of the call's own is written: the last thing before the result. -/
theorem Fr.put (h : Fr w0 w l) (i j : Nat) {b : Nat} {o : Obj} (hi : l[i]? = some (b, o)) (u : Value) : Tch [] w0 (w.setCell ⟨b, j, none⟩ u) :=
  h.t.setCell (.inr (h.new (b, o) (List.mem_of_getElem? hi))) u

theorem Fr.fin2 (h : Fr w0 w l) (i : Nat) {b : Nat} {o : Obj} (hi : l[i]? = some (b, o)) (x y : Value) : Tch [] w0 ((w.setCell ⟨b, 0, none⟩ x).setCell ⟨b, 1, none⟩ y) :=
  (h.put i 0 hi x).setCell (.inr (h.new (b, o) (List.mem_of_getElem? hi))) y

theorem Fr.fin4 (h : Fr w0 w l) (i : Nat) {b : Nat} {o : Obj} (hi : l[i]? = some (b, o)) (x y z u : Value) : Tch [] w0 ((((w.setCell ⟨b, 0, none⟩ x).setCell ⟨b, 1, none⟩ y).setCell ⟨b, 2, none⟩ z).setCell ⟨b, 3, none⟩ u) :=
  ((h.fin2 i hi x y).setCell (.inr (h.new (b, o) (List.mem_of_getElem? hi))) z).setCell (.inr (h.new (b, o) (List.mem_of_getElem? hi))) u

end
end Go.Proofs.YtmpfgkpimjiecaaDoor
