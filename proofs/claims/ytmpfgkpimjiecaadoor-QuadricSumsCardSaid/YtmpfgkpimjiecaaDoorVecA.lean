/- Short vectors: residues to 2^64, numbers of two words, bounds. -/
import Derived.Laws.Bits64b
import Derived.WalkKit
import Derived.Deep.RegionHeld3
import Derived.Deep.RegionWith
import Derived.Test.YtmpfgkpimjiecaaDoorMem
namespace Go.Proofs.YtmpfgkpimjiecaaDoor
open Go Go.RowKit
/-- The residue of an int to 2^64. -/
def um (x : Int) : Nat := (x % 18446744073709551616).toNat

theorem um_eq (x : Int) : ((um x : Nat) : Int) = x % 18446744073709551616 := by unfold um; omega

theorem um_lt (x : Int) : um x < 18446744073709551616 := by unfold um; omega

theorem bv_um (x : Int) : (BitVec.ofInt 64 x).toNat = um x := by
  rw [BitVec.toNat_ofInt]; unfold um; simp

theorem or_i64 (x y : Int) : um (bits .or .i64 x y) = um x ||| um y := by
  have h : um x ||| um y < 2 ^ 64 := Nat.or_lt_two_pow (um_lt x) (um_lt y)
  have e : bits .or .i64 x y = IntKind.i64.wrap (((um x ||| um y : Nat)) : Int) := by
    show IntKind.i64.wrap ((BitVec.ofInt 64 x ||| BitVec.ofInt 64 y).toNat : Int) = _
    rw [BitVec.toNat_or, bv_um, bv_um]
  rw [e, IntKind.wrap_i64]
  unfold um at *
  omega

/-- Three residues below 2^29 if their union is. -/
theorem or3_lt {x y z : Int} (h : um (bits .or .i64 (bits .or .i64 x y) z) < 536870912) : um x < 536870912 ∧ um y < 536870912 ∧ um z < 536870912 := by
  rw [or_i64, or_i64] at h
  have h1 : um x ≤ um x ||| um y := Nat.left_le_or
  have h2 : um y ≤ um x ||| um y := Nat.right_le_or
  have h3 : um x ||| um y ≤ um x ||| um y ||| um z := Nat.left_le_or
  have h4 : um z ≤ um x ||| um y ||| um z := Nat.right_le_or
  omega

/-- Halves whose difference lies in the middle: the difference is short. -/
theorem short_diff {a b : Int} (ha : -9223372036854775808 ≤ a ∧ a ≤ 9223372036854775807) (hb : -9223372036854775808 ≤ b ∧ b ≤ 9223372036854775807)
    (h : um (IntKind.i64.wrap (IntKind.i64.wrap (b / 2 - a / 2) + 268435456)) < 536870912) : -1073741824 < b - a ∧ b - a < 1073741824 ∧ IntKind.i64.wrap (b - a) = b - a := by
  simp only [IntKind.wrap_i64] at *
  unfold um at h
  omega

/-- The two words of a number modulo 2^128. -/
structure W2 (z : Int) (h l : Nat) : Prop where
  hb : h < 18446744073709551616
  lb : l < 18446744073709551616
  val : ∃ k : Int, z = k * 340282366920938463463374607431768211456 + (h : Int) * 18446744073709551616 + (l : Int)

theorem W2.add {x y : Int} {h l h' l' s t c u : Nat} (w : W2 x h l) (w' : W2 y h' l') (e1 : s + 18446744073709551616 * c = l' + l) (hs : s < 18446744073709551616) (e2 : t + 18446744073709551616 * u = h' + h + c) (ht : t < 18446744073709551616) : W2 (x + y) t s := by
  obtain ⟨k, hk⟩ := w.val
  obtain ⟨k', hk'⟩ := w'.val
  exact ⟨ht, hs, k + k' + u, by omega⟩

theorem mul_bd {x y : Int} {K L : Nat} (hx : x.natAbs ≤ K) (hy : y.natAbs ≤ L) : (x * y).natAbs ≤ K * L := by
  rw [Int.natAbs_mul]; exact Nat.mul_le_mul hx hy

theorem mul_bd30 {x y : Int} (hx : -1073741824 < x ∧ x < 1073741824) (hy : -1073741824 < y ∧ y < 1073741824) : -1152921504606846976 < x * y ∧ x * y < 1152921504606846976 := by
  have h := mul_bd (K := 1073741823) (L := 1073741823) (show x.natAbs ≤ _ by omega) (show y.natAbs ≤ _ by omega)
  omega

/-- The components of a vector product of short vectors. -/
theorem crs_bd {a b c d : Int} (ha : -1073741824 < a ∧ a < 1073741824) (hb : -1073741824 < b ∧ b < 1073741824) (hc : -1073741824 < c ∧ c < 1073741824) (hd : -1073741824 < d ∧ d < 1073741824) :
    -2305843009213693952 < a * b - c * d ∧ a * b - c * d < 2305843009213693952 := by
  have h1 := mul_bd30 ha hb
  have h2 := mul_bd30 hc hd
  omega

end Go.Proofs.YtmpfgkpimjiecaaDoor
namespace Go.Proofs.YtmpfgkpimjiecaaDoor
open Go Go.RowKit
/-- A point, or a vector, by its coordinates. -/
structure P3 where
  x : Int
  y : Int
  z : Int

/-- An int of 64 bits. -/
def I64 (x : Int) : Prop := -9223372036854775808 ≤ x ∧ x ≤ 9223372036854775807

/-- All coordinates are ints of 64 bits. -/
structure P3.Ok (p : P3) : Prop where
  x : I64 p.x
  y : I64 p.y
  z : I64 p.z

theorem um_wrap (x : Int) : IntKind.u64.wrap x = ((um x : Nat) : Int) := by rw [IntKind.wrap_u64, um_eq]

/-- Half the difference of two ints, moved by the middle. -/
def mids (a b : Int) : Int := wrap64 (wrap64 (b / 2 - a / 2) + 268435456)

/-- The vector from a to b, as far as ints go. -/
def dif (a b : P3) : P3 := ⟨wrap64 (b.x - a.x), wrap64 (b.y - a.y), wrap64 (b.z - a.z)⟩

/-- What 'between' says of a vector's length. -/
def shrt (a b : P3) : Bool := decide (IntKind.u64.wrap (bits .or .i64 (bits .or .i64 (mids a.x b.x) (mids a.y b.y)) (mids a.z b.z)) < 536870912)

set_option maxHeartbeats 1000000 in
set_option maxRecDepth 100000 in
theorem xbetween (a b : P3) (w : World) :
    Calls Tryd.prog 81 #[.agg #[.int .i64 a.x, .int .i64 a.y, .int .i64 a.z], .agg #[.int .i64 b.x, .int .i64 b.y, .int .i64 b.z]] w fun e w' =>
      e = .returned (.tuple #[.agg #[.int .i64 (dif a b).x, .int .i64 (dif a b).y, .int .i64 (dif a b).z], .bool (shrt a b)]) ∧ Tch [] w w' := by
  go_enter Tryd.func81, Tryd.ntmps81
  go_wp2
  exact bodyPost_ret (v := .tuple #[.agg #[.int .i64 (dif a b).x, .int .i64 (dif a b).y, .int .i64 (dif a b).z], .bool (shrt a b)]) (by simp [results, Tryd.results81, go_sem]; exact ⟨⟨rfl, rfl, rfl⟩, rfl⟩) rfl ⟨rfl, (((Tch.refl [] w).alloc _).alloc _).alloc _⟩

/-- The vector product, as far as ints go. -/
def crs (v u : P3) : P3 := ⟨wrap64 (wrap64 (v.y * u.z) - wrap64 (v.z * u.y)), wrap64 (wrap64 (v.z * u.x) - wrap64 (v.x * u.z)), wrap64 (wrap64 (v.x * u.y) - wrap64 (v.y * u.x))⟩

set_option maxHeartbeats 1000000 in
set_option maxRecDepth 100000 in
theorem xcross (v u : P3) (w : World) :
    Calls Tryd.prog 82 #[.agg #[.int .i64 v.x, .int .i64 v.y, .int .i64 v.z], .agg #[.int .i64 u.x, .int .i64 u.y, .int .i64 u.z]] w fun e w' =>
      e = .returned (.agg #[.int .i64 (crs v u).x, .int .i64 (crs v u).y, .int .i64 (crs v u).z]) ∧ Tch [] w w' := by
  go_enter Tryd.func82, Tryd.ntmps82
  go_wp2
  exact bodyPost_ret (v := .agg #[.int .i64 (crs v u).x, .int .i64 (crs v u).y, .int .i64 (crs v u).z]) (by simp [results, Tryd.results82, go_sem, crs]) rfl ⟨rfl, (((Tch.refl [] w).alloc _).alloc _).alloc _⟩

section
variable {w0 w w' : World} {l : List (Nat × Obj)}
theorem Fr.three (h : Fr w0 w l) (i : Nat) {b : Nat} {x y z : Value} {T : TypeId} (hi : l[i]? = some (b, .cells #[x, y, z] T (0, 0))) : w.cell? ⟨b, 0, none⟩ = some x ∧ w.cell? ⟨b, 1, none⟩ = some y ∧ w.cell? ⟨b, 2, none⟩ = some z := ⟨h.cell i 0 hi rfl, h.cell i 1 hi rfl, h.cell i 2 hi rfl⟩

theorem Fr.fro3 (h : Fr w0 w l) (i : Nat) {b : Nat} {x y z : Value} {T : TypeId} (hi : l[i]? = some (b, .cells #[x, y, z] T (0, 0))) : w.frozen? ⟨b, 0, none⟩ = false ∧ w.frozen? ⟨b, 1, none⟩ = false ∧ w.frozen? ⟨b, 2, none⟩ = false := ⟨h.frozen i 0 hi, h.frozen i 1 hi, h.frozen i 2 hi⟩

theorem Fr.nine (h : Fr w0 w l) (i : Nat) {b : Nat} {x y z p q r s t u : Value} {T : TypeId} (hi : l[i]? = some (b, .cells #[x, y, z, p, q, r, s, t, u] T (0, 0))) :
    (w.cell? ⟨b, 0, none⟩ = some x ∧ w.cell? ⟨b, 1, none⟩ = some y ∧ w.cell? ⟨b, 2, none⟩ = some z) ∧ (w.cell? ⟨b, 3, none⟩ = some p ∧ w.cell? ⟨b, 4, none⟩ = some q ∧ w.cell? ⟨b, 5, none⟩ = some r) ∧ (w.cell? ⟨b, 6, none⟩ = some s ∧ w.cell? ⟨b, 7, none⟩ = some t ∧ w.cell? ⟨b, 8, none⟩ = some u) :=
  ⟨⟨h.cell i 0 hi rfl, h.cell i 1 hi rfl, h.cell i 2 hi rfl⟩, ⟨h.cell i 3 hi rfl, h.cell i 4 hi rfl, h.cell i 5 hi rfl⟩, ⟨h.cell i 6 hi rfl, h.cell i 7 hi rfl, h.cell i 8 hi rfl⟩⟩

theorem Fr.fin3 (h : Fr w0 w l) (i : Nat) {b : Nat} {o : Obj} (hi : l[i]? = some (b, o)) (x y z : Value) : Tch [] w0 (((w.setCell ⟨b, 0, none⟩ x).setCell ⟨b, 1, none⟩ y).setCell ⟨b, 2, none⟩ z) :=
  ((h.put i 0 hi x).setCell (.inr (h.new (b, o) (List.mem_of_getElem? hi))) y).setCell (.inr (h.new (b, o) (List.mem_of_getElem? hi))) z

end
set_option maxHeartbeats 1000000 in
set_option maxRecDepth 100000 in
theorem xnormal (a b c : P3) (w : World) :
    Calls Tryd.prog 66 #[.agg #[.int .i64 a.x, .int .i64 a.y, .int .i64 a.z, .int .i64 b.x, .int .i64 b.y, .int .i64 b.z, .int .i64 c.x, .int .i64 c.y, .int .i64 c.z]] w fun e w' =>
      e = .returned (.tuple #[.agg #[.int .i64 (crs (dif a b) (dif a c)).x, .int .i64 (crs (dif a b) (dif a c)).y, .int .i64 (crs (dif a b) (dif a c)).z], .bool (shrt a b && shrt a c)]) ∧ Tch [] w w' := by
  have C1 := fun w1 => xbetween a b w1
  have C2 := fun w1 => xbetween a c w1
  have C3 := fun w1 => xcross (dif a b) (dif a c) w1
  obtain ⟨n, hn⟩ : ∃ n, n = crs (dif a b) (dif a c) := ⟨_, rfl⟩
  obtain ⟨u, hu⟩ : ∃ u, u = dif a b := ⟨_, rfl⟩
  obtain ⟨v, hv⟩ : ∃ v, v = dif a c := ⟨_, rfl⟩
  obtain ⟨s1, hs1⟩ : ∃ s1, s1 = shrt a b := ⟨_, rfl⟩
  obtain ⟨s2, hs2⟩ : ∃ s2, s2 = shrt a c := ⟨_, rfl⟩
  rw [← hn] at C3
  rw [← hu] at C1 C3
  rw [← hv] at C2 C3
  rw [← hs1] at C1
  rw [← hs2] at C2
  rw [← hn, ← hs1, ← hs2]
  clear hn hu hv hs1 hs2
  have H1 := Lib.hid C1
  have H2 := Lib.hid C2
  have H3 := Lib.hid C3
  clear C1 C2 C3
  go_enter Tryd.func66, Tryd.ntmps66
  go_wp2_with fail
  refine (H1.out _).mono ?_
  rintro e w1 ⟨rfl, hT⟩
  have F1 := (((Fr.nil w).add _ w.heap.size rfl).add _ (w.heap.size + 1) (by simp)).keep hT
  have F2 := F1.add (.cells #[.int .i64 u.x, .int .i64 u.y, .int .i64 u.z] 96) w1.heap.size rfl
  obtain ⟨⟨c0, c1, c2⟩, ⟨c3, c4, c5⟩, c6, c7, c8⟩ := F2.nine 0 rfl
  have HF2 := Lib.hid F2
  clear F1 F2 hT
  go_wp2_with fail
  refine (H2.out _).mono ?_
  rintro e w2 ⟨rfl, hT⟩
  have F3 := (HF2.out.keep hT).add (.cells #[.int .i64 v.x, .int .i64 v.y, .int .i64 v.z] 96) w2.heap.size rfl
  obtain ⟨d0, d1, d2⟩ := F3.three 2 rfl
  obtain ⟨e0, e1, e2⟩ := F3.three 3 rfl
  have HF3 := Lib.hid F3
  clear F3 hT HF2 c0 c1 c2 c3 c4 c5 c6 c7 c8
  go_wp2_with fail
  refine (H3.out _).mono ?_
  rintro e w3 ⟨rfl, hT⟩
  have F4 := HF3.out.keep hT
  obtain ⟨r0, r1, r2⟩ := F4.three 1 rfl
  obtain ⟨f0, f1, f2⟩ := F4.fro3 1 rfl
  have HF4 := Lib.hid F4
  clear F4 hT HF3 d0 d1 d2 e0 e1 e2 H1 H2 H3
  cases s1
  · go_wp2
    exact bodyPost_ret (v := .tuple #[.agg #[.int .i64 n.x, .int .i64 n.y, .int .i64 n.z], .bool false]) (by simp [results, Tryd.results66, go_sem, r0, r1, r2]) rfl ⟨rfl, HF4.out.fin3 1 rfl _ _ _⟩
  · go_wp2
    exact bodyPost_ret (v := .tuple #[.agg #[.int .i64 n.x, .int .i64 n.y, .int .i64 n.z], .bool s2]) (by simp [results, Tryd.results66, go_sem, r0, r1, r2]) rfl ⟨rfl, HF4.out.fin3 1 rfl _ _ _⟩

end Go.Proofs.YtmpfgkpimjiecaaDoor
