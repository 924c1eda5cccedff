/- wide.Sub. -/
import Derived.Test.YtmpfgkpimjiecaaDoorZ
namespace Go.Proofs.YtmpfgkpimjiecaaDoor
open Go.RowKit Dg
set_option maxHeartbeats 1000000 in
set_option maxRecDepth 100000 in
theorem Sub (na nb : Bool) (sa sc : ByteArray) (w : World) (ha : sa.size ≤ 400000) (hb : sc.size ≤ 400000) :
    Calls Tryd.prog 97 #[.agg #[.bool na, .string sa], .agg #[.bool nb, .string sc]] w fun e w' => e = .returned (wz (zval na (bv (sb sa)) - zval nb (bv (sb sc)))) ∧ Tch [] w w' := by
  have C := fun w1 => addSigned na nb (!nb) sa sc w1 ha hb
  obtain ⟨bz, sz, ez⟩ := wz_agg (zval na (bv (sb sa)) - zval nb (bv (sb sc)))
  rw [zval_not, ← Int.sub_eq_add_neg, ez] at C
  have HC := Lib.hid C
  have EZ := Lib.hid ez
  clear C ez
  go_enter Tryd.func97, Tryd.ntmps97
  go_wp2_with fail
  refine (HC.out _).mono ?_
  rintro e w1 ⟨rfl, hT⟩
  obtain ⟨c0, c1, f0, f1, hT1⟩ := boxes_after hT
  have HT := Lib.hid hT1
  clear hT hT1
  go_wp2
  refine bodyPost_ret (v := .agg #[.bool bz, .string sz]) (by simp [results, Tryd.results97, go_sem, c0, c1]) rfl ⟨by rw [EZ.out], ?_⟩
  exact (HT.out.setCell (.inr (by simp; omega)) _).setCell (.inr (by simp; omega)) _

theorem ZSub {na nb : Bool} {sa sc : ByteArray} {x y : Int} (hx : Rep 400000 na sa x) (hy : Rep 400000 nb sc y) (w : World) :
    Calls Tryd.prog 97 #[.agg #[.bool na, .string sa], .agg #[.bool nb, .string sc]] w fun e w' => e = .returned (wz (x - y)) ∧ Tch [] w w' := by
  have h := Sub na nb sa sc w hx.size hy.size
  rwa [hx.val, hy.val] at h

end Go.Proofs.YtmpfgkpimjiecaaDoor
namespace Go.Proofs.YtmpfgkpimjiecaaDoor
open Go Go.RowKit Dg
/-- Less than 2^k, but for the sign. -/
def Sm (k : Nat) (z : Int) : Prop := z.natAbs < 2 ^ k

theorem Sm.mono {k l : Nat} {z : Int} (h : Sm k z) (hl : k ≤ l) : Sm l z := Nat.lt_of_lt_of_le h (Nat.pow_le_pow_right (by omega) hl)

theorem Sm.mul {k l : Nat} {x y : Int} (hx : Sm k x) (hy : Sm l y) : Sm (k + l) (x * y) := by
  unfold Sm at *
  rw [Int.natAbs_mul, Nat.pow_add]
  exact Nat.mul_lt_mul'' hx hy

theorem Sm.add {k : Nat} {x y : Int} (hx : Sm k x) (hy : Sm k y) : Sm (k + 1) (x + y) := by
  unfold Sm at *
  have := Int.natAbs_add_le x y
  rw [Nat.pow_succ]; omega

theorem Sm.sub {k : Nat} {x y : Int} (hx : Sm k x) (hy : Sm k y) : Sm (k + 1) (x - y) := by
  have : Sm k (-y) := by unfold Sm at *; rwa [Int.natAbs_neg]
  rw [Int.sub_eq_add_neg]; exact hx.add this

theorem pow_bytes (k : Nat) : 256 ^ k = 2 ^ (8 * k) := by rw [show (256 : Nat) = 2 ^ 8 from rfl, ← Nat.pow_mul]

theorem Sm.bytes {z : Int} {k : Nat} (h : Sm (8 * k) z) : z.natAbs < 256 ^ k := by rw [pow_bytes]; exact h

theorem Sm.i64 {x : Int} (h1 : -9223372036854775808 ≤ x) (h2 : x ≤ 9223372036854775807) : Sm 64 x := by
  have e : (2 : Nat) ^ 64 = 18446744073709551616 := by decide
  unfold Sm; omega

/-- The two fields of an integer as it is returned. -/
def sgz (z : Int) : Bool := decide (z < 0)

def moz (z : Int) : ByteArray := mo z.natAbs

theorem wz_sm (z : Int) : wz z = .agg #[.bool (sgz z), .string (moz z)] := wz_mo z

theorem Sm.rep {z : Int} (h : Sm 400 z) : Rep 400000 (sgz z) (moz z) z := (Rep.mo (Sm.bytes (k := 50) (h.mono (by omega)))).mono (by omega)

section
variable {x y : Int}
theorem IMul (hx : Sm 400 x) (hy : Sm 400 y) (w : World) :
    Calls Tryd.prog 29 #[.agg #[.bool (sgz x), .string (moz x)], .agg #[.bool (sgz y), .string (moz y)]] w fun e w' => e = .returned (.agg #[.bool (sgz (x * y)), .string (moz (x * y))]) ∧ Tch [] w w' := by
  rw [← wz_sm (x * y)]; exact ZMul hx.rep hy.rep w

theorem ISub (hx : Sm 400 x) (hy : Sm 400 y) (w : World) :
    Calls Tryd.prog 97 #[.agg #[.bool (sgz x), .string (moz x)], .agg #[.bool (sgz y), .string (moz y)]] w fun e w' => e = .returned (.agg #[.bool (sgz (x - y)), .string (moz (x - y))]) ∧ Tch [] w w' := by
  rw [← wz_sm (x - y)]; exact ZSub hx.rep hy.rep w

theorem IFrom (h1 : -9223372036854775808 ≤ x) (h2 : x ≤ 9223372036854775807) (w : World) :
    Calls Tryd.prog 58 #[.int .i64 x] w fun e w' => e = .returned (.agg #[.bool (sgz x), .string (moz x)]) ∧ Tch [] w w' := by
  rw [← wz_sm x]; exact ZFrom x h1 h2 w

end
end Go.Proofs.YtmpfgkpimjiecaaDoor
