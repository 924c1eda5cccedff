/- Contracts of package wide at given numbers. -/
import Derived.Test.YtmiibcdcnoefgaaGreatDoorFr
namespace Go.Proofs.YtmiibcdcnoefgaaGreatDoor
open Go.RowKit Dg

theorem mo_of {m : Nat} {s : ByteArray} (ht : (sb s).head? ≠ some 0) (hv : bv (sb s) = m) : mo m = s := by
  rw [← hv]
  refine mo_lit s ?_
  intro hne h0
  apply ht
  rw [List.getLast_reverse] at h0
  rw [List.head?_eq_some_head (by simpa using hne), h0]

theorem wz_of {z : Int} {b : Bool} {s : ByteArray} (hb : decide (z < 0) = b) (ht : (sb s).head? ≠ some 0) (hv : bv (sb s) = z.natAbs) : wz z = .agg #[.bool b, .string s] := by
  rw [wz_mo, mo_of ht hv, hb]

section
variable {na nb : Bool} {sa sc : ByteArray} {x y : Int}

theorem FromL (n : Int) (b : Bool) (s : ByteArray) (h : -9223372036854775808 ≤ n ∧ n ≤ 9223372036854775807) (he : wz n = .agg #[.bool b, .string s]) (w : World) :
    Calls Tryz.prog 15 #[.int .i64 n] w fun e w' => e = .returned (.agg #[.bool b, .string s]) ∧ Tch [] w w' := by
  have h1 := ZFrom n h.1 h.2 w
  rwa [he] at h1

theorem MulL (hx : Rep 400000 na sa x) (hy : Rep 400000 nb sc y) (b : Bool) (s : ByteArray) (he : wz (x * y) = .agg #[.bool b, .string s]) (w : World) :
    Calls Tryz.prog 14 #[.agg #[.bool na, .string sa], .agg #[.bool nb, .string sc]] w fun e w' => e = .returned (.agg #[.bool b, .string s]) ∧ Tch [] w w' := by
  have h1 := ZMul hx hy w
  rwa [he] at h1

theorem GcdL (hx : Rep 400000 na sa x) (hy : Rep 400000 nb sc y) (b : Bool) (s : ByteArray) (he : wz (Int.gcd x y : Int) = .agg #[.bool b, .string s]) (w : World) :
    Calls Tryz.prog 19 #[.agg #[.bool na, .string sa], .agg #[.bool nb, .string sc]] w fun e w' => e = .returned (.agg #[.bool b, .string s]) ∧ Tch [] w w' := by
  have h1 := ZGcd hx hy w
  rwa [he] at h1

theorem QuoL (hx : Rep 400000 na sa x) (hy : Rep 400000 nb sc y) (h0 : y ≠ 0) (b c : Bool) (s t : ByteArray) (he : wz (x.tdiv y) = .agg #[.bool b, .string s]) (hf : wz (x.tmod y) = .agg #[.bool c, .string t]) (w : World) :
    Calls Tryz.prog 16 #[.agg #[.bool na, .string sa], .agg #[.bool nb, .string sc]] w fun e w' => e = .returned (.tuple #[.agg #[.bool b, .string s], .agg #[.bool c, .string t], .bool true]) ∧ Tch [] w w' := by
  have h1 := ZQuo hx hy w
  unfold zquoV at h1
  rwa [if_neg h0, he, hf] at h1
end

theorem r40 : Rep 400000 false ⟨#[1, 0, 0, 0, 0, 0]⟩ 1099511627776 := ⟨by decide, by decide⟩
theorem rm7 : Rep 400000 true ⟨#[7]⟩ (-7) := ⟨by decide, by decide⟩
theorem r2 : Rep 400000 false ⟨#[2]⟩ 2 := ⟨by decide, by decide⟩
theorem r7 : Rep 400000 false ⟨#[7]⟩ 7 := ⟨by decide, by decide⟩
theorem rm2 : Rep 400000 true ⟨#[2]⟩ (-2) := ⟨by decide, by decide⟩
theorem r4 : Rep 400000 false ⟨#[4]⟩ 4 := ⟨by decide, by decide⟩
theorem rm6 : Rep 400000 true ⟨#[6]⟩ (-6) := ⟨by decide, by decide⟩
theorem r1 : Rep 400000 false ⟨#[1]⟩ 1 := ⟨by decide, by decide⟩
theorem r3 : Rep 400000 false ⟨#[3]⟩ 3 := ⟨by decide, by decide⟩
theorem rm12 : Rep 400000 true ⟨#[12]⟩ (-12) := ⟨by decide, by decide⟩
theorem r18 : Rep 400000 false ⟨#[18]⟩ 18 := ⟨by decide, by decide⟩

theorem z80 : wz (1099511627776 * 1099511627776) = .agg #[.bool false, .string ⟨#[1, 0, 0, 0, 0, 0, 0, 0, 0, 0, 0]⟩] := wz_of (by decide) (by decide) (by decide)
theorem z40 : wz 1099511627776 = .agg #[.bool false, .string ⟨#[1, 0, 0, 0, 0, 0]⟩] := wz_of (by decide) (by decide) (by decide)
theorem zm7 : wz (-7) = .agg #[.bool true, .string ⟨#[7]⟩] := wz_of (by decide) (by decide) (by decide)
theorem z2 : wz 2 = .agg #[.bool false, .string ⟨#[2]⟩] := wz_of (by decide) (by decide) (by decide)
theorem z7 : wz 7 = .agg #[.bool false, .string ⟨#[7]⟩] := wz_of (by decide) (by decide) (by decide)
theorem zm2 : wz (-2) = .agg #[.bool true, .string ⟨#[2]⟩] := wz_of (by decide) (by decide) (by decide)
theorem z99 : wz 99 = .agg #[.bool false, .string ⟨#[99]⟩] := wz_of (by decide) (by decide) (by decide)
theorem z4 : wz 4 = .agg #[.bool false, .string ⟨#[4]⟩] := wz_of (by decide) (by decide) (by decide)
theorem zm6 : wz (-6) = .agg #[.bool true, .string ⟨#[6]⟩] := wz_of (by decide) (by decide) (by decide)
theorem z1 : wz 1 = .agg #[.bool false, .string ⟨#[1]⟩] := wz_of (by decide) (by decide) (by decide)
theorem z3 : wz 3 = .agg #[.bool false, .string ⟨#[3]⟩] := wz_of (by decide) (by decide) (by decide)
theorem zm300 : wz (-300) = .agg #[.bool true, .string ⟨#[1, 44]⟩] := wz_of (by decide) (by decide) (by decide)
theorem zm3 : wz (-3) = .agg #[.bool true, .string ⟨#[3]⟩] := wz_of (by decide) (by decide) (by decide)
theorem zm1 : wz (-1) = .agg #[.bool true, .string ⟨#[1]⟩] := wz_of (by decide) (by decide) (by decide)
theorem z9 : wz 9 = .agg #[.bool false, .string ⟨#[9]⟩] := wz_of (by decide) (by decide) (by decide)
theorem zm12 : wz (-12) = .agg #[.bool true, .string ⟨#[12]⟩] := wz_of (by decide) (by decide) (by decide)
theorem z18 : wz 18 = .agg #[.bool false, .string ⟨#[18]⟩] := wz_of (by decide) (by decide) (by decide)
theorem z6 : wz 6 = .agg #[.bool false, .string ⟨#[6]⟩] := wz_of (by decide) (by decide) (by decide)
theorem z5 : wz 5 = .agg #[.bool false, .string ⟨#[5]⟩] := wz_of (by decide) (by decide) (by decide)

theorem s80 (w : World) : Calls Tryz.prog 14 #[.agg #[.bool false, .string ⟨#[1, 0, 0, 0, 0, 0]⟩], .agg #[.bool false, .string ⟨#[1, 0, 0, 0, 0, 0]⟩]] w fun e w' => e = .returned (.agg #[.bool false, .string ⟨#[1, 0, 0, 0, 0, 0, 0, 0, 0, 0, 0]⟩]) ∧ Tch [] w w' := MulL r40 r40 _ _ z80 w
theorem sq1 (w : World) : Calls Tryz.prog 16 #[.agg #[.bool true, .string ⟨#[7]⟩], .agg #[.bool false, .string ⟨#[2]⟩]] w fun e w' => e = .returned (.tuple #[.agg #[.bool true, .string ⟨#[3]⟩], .agg #[.bool true, .string ⟨#[1]⟩], .bool true]) ∧ Tch [] w w' := QuoL rm7 r2 (by decide) _ _ _ _ zm3 zm1 w
theorem sq2 (w : World) : Calls Tryz.prog 16 #[.agg #[.bool false, .string ⟨#[7]⟩], .agg #[.bool true, .string ⟨#[2]⟩]] w fun e w' => e = .returned (.tuple #[.agg #[.bool true, .string ⟨#[3]⟩], .agg #[.bool false, .string ⟨#[1]⟩], .bool true]) ∧ Tch [] w w' := QuoL r7 rm2 (by decide) _ _ _ _ zm3 z1 w
theorem sg6 (w : World) : Calls Tryz.prog 19 #[.agg #[.bool true, .string ⟨#[12]⟩], .agg #[.bool false, .string ⟨#[18]⟩]] w fun e w' => e = .returned (.agg #[.bool false, .string ⟨#[6]⟩]) ∧ Tch [] w w' := GcdL rm12 r18 _ _ z6 w

theorem wv_of {n : Nat} {s : ByteArray} {b : Bool} (h0 : n ≠ 0) (ht : (sb s).head? ≠ some 0) (hv : bv (sb s) = n) : wv b n = .agg #[.bool b, .string s] := by
  unfold wv; rw [if_neg h0, mo_of ht hv]

theorem sroot (w : World) : Calls Tryz.prog 17 #[.agg #[.bool false, .string ⟨#[99]⟩]] w fun e w' => e = .returned (.tuple #[.agg #[.bool false, .string ⟨#[9]⟩], .bool true]) ∧ Tch [] w w' := by
  have h := Root false ⟨#[99]⟩ 9 w (by decide) (by decide) (by decide)
  have e : rootV false (bv (sb ⟨#[99]⟩)) 9 = .tuple #[.agg #[.bool false, .string ⟨#[9]⟩], .bool true] := by
    unfold rootV; rw [if_neg (by simp), wv_of (s := ⟨#[9]⟩) (by decide) (by decide) (by decide)]
  rwa [e] at h

theorem sp1 (w : World) : Calls Tryz.prog 18 #[.string ⟨#[45, 48, 48, 55]⟩] w fun e w' => e = .returned (.tuple #[.agg #[.bool true, .string ⟨#[7]⟩], .bool true]) ∧ Tch [] w w' := by
  have h := Parse ⟨#[45, 48, 48, 55]⟩ ⟨#[48, 48, 55]⟩ true w (by decide) (by decide) (by decide)
  have e : parV true (sb ⟨#[48, 48, 55]⟩) = .tuple #[.agg #[.bool true, .string ⟨#[7]⟩], .bool true] := by
    unfold parV; rw [if_pos (by decide), wv_of (s := ⟨#[7]⟩) (by decide) (by decide) (by decide)]
  rwa [e] at h
theorem sp2 (w : World) : Calls Tryz.prog 18 #[.string ⟨#[]⟩] w fun e w' => e = .returned (.tuple #[.agg #[.bool false, .string ⟨#[]⟩], .bool false]) ∧ Tch [] w w' := by
  have h := Parse ⟨#[]⟩ ⟨#[]⟩ false w (by decide) (by decide) (by decide)
  have e : parV false (sb ⟨#[]⟩) = .tuple #[.agg #[.bool false, .string ⟨#[]⟩], .bool false] := by
    unfold parV; rw [if_neg (by decide)]
  rwa [e] at h
theorem sp3 (w : World) : Calls Tryz.prog 18 #[.string ⟨#[49, 120]⟩] w fun e w' => e = .returned (.tuple #[.agg #[.bool false, .string ⟨#[]⟩], .bool false]) ∧ Tch [] w w' := by
  have h := Parse ⟨#[49, 120]⟩ ⟨#[49, 120]⟩ false w (by decide) (by decide) (by decide)
  have e : parV false (sb ⟨#[49, 120]⟩) = .tuple #[.agg #[.bool false, .string ⟨#[]⟩], .bool false] := by
    unfold parV; rw [if_neg (by decide)]
  rwa [e] at h

end Go.Proofs.YtmiibcdcnoefgaaGreatDoor
