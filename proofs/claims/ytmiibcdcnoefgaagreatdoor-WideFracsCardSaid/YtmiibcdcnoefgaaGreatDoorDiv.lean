/- math/bits.Div64. -/
import Derived.Test.YtmiibcdcnoefgaaGreatDoorUse
import Derived.Test.YtmiibcdcnoefgaaGreatDoorAdd
import Derived.Test.YtmiibcdcnoefgaaGreatDoorMath
import Derived.Lib.ItoaNum
namespace Go.Proofs.YtmiibcdcnoefgaaGreatDoor
open Go.RowKit Dg

/-- Two words are returned; the world is as it was, but for draws. -/
def TwoD (P : Nat → Nat → Prop) (w : World) : Ending → World → Prop := fun e w' =>
  ∃ a b n : Nat, P a b ∧ a < BB ∧ b < BB ∧ e = .returned (.tuple #[.int .u64 (a : Int), .int .u64 (b : Int)]) ∧ w.drewN n = w'

theorem wrap_div (a b : Nat) (ha : a < BB) : IntKind.u64.wrap ((a : Int) / (b : Int)) = ((a / b : Nat) : Int) := by
  rw [← Int.natCast_ediv]
  exact wrapN _ (Nat.lt_of_le_of_lt (Nat.div_le_self _ _) ha)

set_option maxHeartbeats 1000000 in
set_option maxRecDepth 100000 in
theorem div64_zero (lo y : Nat) (hl : lo < BB) (hy : 0 < y) (w : World) :
    Calls Tryz.prog 76 #[.int .u64 0, .int .u64 lo, .int .u64 y] w (TwoD (fun q r => q = lo / y ∧ r = lo % y) w) := by
  have h1 : ((y : Int) == 0) = false := by simp; omega
  have h2 : (0 : Int) < (y : Int) := by omega
  have H := Lib.hid (wrap_div lo y hl)
  go_enter Tryz.func76, Tryz.ntmps76
  go_wp2
  go_quiet (fail)
  go_wp2
  go_ret2
  refine ⟨lo / y, lo % y, _, ⟨rfl, rfl⟩, Nat.lt_of_le_of_lt (Nat.div_le_self _ _) hl, Nat.lt_of_le_of_lt (Nat.mod_le _ _) hl, ?_, rfl⟩
  show Ending.returned (.tuple #[.int .u64 (IntKind.u64.wrap ((lo : Int) / (y : Int))), .int .u64 ((lo : Int) % (y : Int))]) = _
  rw [H.out]; rfl

def DivPost (hi lo y : Nat) (w : World) : Ending → World → Prop := TwoD (fun q r => q = (hi * BB + lo) / y ∧ r = (hi * BB + lo) % y) w

/-- The shift that brings the highest bit of y to the top. -/
theorem BB_pow' (c : Nat) (hc : c ≤ 64) : BB = 2 ^ (64 - c) * 2 ^ c := by
  rw [← Nat.pow_add, show 64 - c + c = 64 by omega]; rfl

theorem norm_shift (y : Nat) (h0 : 0 < y) (hy : y < BB) : ∃ s : Nat, s < 64 ∧ (64 - (Lib.bitLen y : Int)) = (s : Int) ∧ y * 2 ^ s < BB ∧ 9223372036854775808 ≤ y * 2 ^ s := by
  obtain ⟨h1, h2, h3⟩ := Lib.bitLenAux_bounds 64 y hy (by omega)
  have hle := Lib.bitLen_le y 64 (Nat.le_refl _) hy
  have e : Lib.bitLenAux 64 y = Lib.bitLen y := rfl
  rw [e] at h1 h2 h3
  generalize Lib.bitLen y = n at *
  refine ⟨64 - n, by omega, by omega, ?_, ?_⟩
  · rw [BB_pow' (64 - n) (by omega), show 64 - (64 - n) = n by omega]
    exact Nat.mul_lt_mul_of_pos_right h3 (Nat.two_pow_pos _)
  · have := Nat.mul_le_mul_right (2 ^ (64 - n)) h2
    rw [← Nat.pow_add, show n - 1 + (64 - n) = 63 by omega] at this
    exact this

theorem and_mask (a : Nat) (ha : a < BB) : bits .and .u64 (a : Int) 4294967295 = ((a % 4294967296 : Nat) : Int) := maskN a ha

/-- What the division of two words starts from, in the walk's own spelling. -/
structure DivIn (hi lo y s Y Y1 Y0 U L u1 u0 : Nat) : Prop where
  rY : IntKind.u64.wrap ((y : Int) * 2 ^ s) = (Y : Int)
  rY1 : (Y : Int) / 4294967296 = (Y1 : Int)
  rY0 : bits .and .u64 (Y : Int) 4294967295 = (Y0 : Int)
  rU : bits .or .u64 (IntKind.u64.wrap ((hi : Int) * 2 ^ s)) ((lo : Int) / 2 ^ (64 - s)) = (U : Int)
  rL : IntKind.u64.wrap ((lo : Int) * 2 ^ s) = (L : Int)
  rL1 : (L : Int) / 4294967296 = (u1 : Int)
  rL0 : bits .and .u64 (L : Int) 4294967295 = (u0 : Int)
  eY : y * 2 ^ s = Y
  yY : Y1 * 4294967296 + Y0 = Y
  lL : u1 * 4294967296 + u0 = L
  Y1lo : 2147483648 ≤ Y1
  Y1hi : Y1 < 4294967296
  Y0hi : Y0 < 4294967296
  u1hi : u1 < 4294967296
  u0hi : u0 < 4294967296
  Ulo : U < Y
  Yhi : Y < BB
  num : (hi * BB + lo) * 2 ^ s = (U * 4294967296 + u1) * 4294967296 + u0

theorem div_in (hi lo y s : Nat) (hlo : lo < BB) (hy : hi < y) (hs : s < 64) (hY : y * 2 ^ s < BB) (hYt : 9223372036854775808 ≤ y * 2 ^ s) :
    ∃ Y Y1 Y0 U L u1 u0 : Nat, DivIn hi lo y s Y Y1 Y0 U L u1 u0 := by
  have hq : 0 < 2 ^ (64 - s) := Nat.two_pow_pos _
  have hp : 0 < 2 ^ s := Nat.two_pow_pos _
  have hBp := BB_pow s hs
  have hlq : lo / 2 ^ (64 - s) < 2 ^ s := by rw [Nat.div_lt_iff_lt_mul hq, Nat.mul_comm, ← hBp]; exact hlo
  have hhs : hi * 2 ^ s + 2 ^ s ≤ y * 2 ^ s := by
    have := Nat.mul_le_mul_right (2 ^ s) (show hi + 1 ≤ y from hy)
    rwa [Nat.add_mul, Nat.one_mul] at this
  obtain ⟨U, eU⟩ : ∃ U, hi * 2 ^ s + lo / 2 ^ (64 - s) = U := ⟨_, rfl⟩
  obtain ⟨L, eL⟩ : ∃ L, lo * 2 ^ s % BB = L := ⟨_, rfl⟩
  obtain ⟨Y, eY⟩ : ∃ Y, y * 2 ^ s = Y := ⟨_, rfl⟩
  have hL : L < BB := by rw [← eL]; exact Nat.mod_lt _ (by decide)
  have hsplit : lo * 2 ^ s = BB * (lo / 2 ^ (64 - s)) + L := by
    have e1 : lo * 2 ^ s / BB = lo / 2 ^ (64 - s) := by rw [hBp, Nat.mul_div_mul_right _ _ hp]
    have := Nat.div_add_mod (lo * 2 ^ s) BB
    rw [e1, eL] at this
    exact this.symm
  have hnum : (hi * BB + lo) * 2 ^ s = U * BB + L := by
    have : hi * BB * 2 ^ s = hi * 2 ^ s * BB := by rw [Nat.mul_right_comm]
    rw [Nat.add_mul, this, hsplit, ← eU, Nat.add_mul, Nat.mul_comm BB]
    omega
  rw [eY] at hY hYt hhs
  refine ⟨Y, Y / 4294967296, Y % 4294967296, U, L, L / 4294967296, L % 4294967296, ?_, by omega, and_mask Y hY, ?_, ?_, by omega, and_mask L hL, eY, by omega, by omega, ?_, ?_, by omega, ?_, by omega, by omega, hY, ?_⟩
  · rw [cast_pow, eY, wrapN _ hY]
  · have hhB : hi * 2 ^ s < BB := by omega
    rw [cast_pow, cast_div, wrapN _ hhB, bits_or_u64_nat _ _ hhB (by rw [← BB_eq]; omega), Nat.mul_comm hi, or_add hlq, Nat.mul_comm _ hi, eU]
  · rw [cast_pow, wrapM, ← BB_eq, eL]
  · omega
  · rw [BB_eq] at hY; omega
  · rw [BB_eq] at hL; omega
  · rw [hnum, BB_eq]
    clear hnum hsplit hBp eU eL eY hlq hq hp hhs hYt hY
    omega

theorem div_out {hi lo y s Y Y1 Y0 U L u1 u0 : Nat} (h : DivIn hi lo y s Y Y1 Y0 U L u1 u0) (h0 : 0 < y) :
    (U * 4294967296 + u1) / Y * 4294967296 + ((U * 4294967296 + u1) % Y * 4294967296 + u0) / Y = (hi * BB + lo) / y ∧
    ((U * 4294967296 + u1) % Y * 4294967296 + u0) % Y = (hi * BB + lo) % y * 2 ^ s := by
  have hp : 0 < 2 ^ s := Nat.two_pow_pos _
  have hY : 0 < Y := by rw [← h.eY]; exact Nat.mul_pos h0 hp
  obtain ⟨a, b⟩ := two_digits (N := U * 4294967296 + u1) (v := u0) (Y := Y) (K := 4294967296) hY
  obtain ⟨c, d⟩ := shifted (n := hi * BB + lo) (y := y) (f := 2 ^ s) hp
  rw [h.num, h.eY] at c d
  exact ⟨a.trans c, b.trans d⟩

end Go.Proofs.YtmiibcdcnoefgaaGreatDoor
