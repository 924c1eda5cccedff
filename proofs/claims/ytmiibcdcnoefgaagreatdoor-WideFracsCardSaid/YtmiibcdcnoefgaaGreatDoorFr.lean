/- Numbers as values: both fields of a number by its value, and how many bytes it has. -/
import Derived.Test.YtmiibcdcnoefgaaGreatDoorTerms
import Derived.Test.YtmiibcdcnoefgaaGreatDoorNeg
import Derived.Test.YtmiibcdcnoefgaaGreatDoorQuo
import Derived.Test.YtmiibcdcnoefgaaGreatDoorParse
namespace Go.Proofs.YtmiibcdcnoefgaaGreatDoor
open Go.RowKit Dg

theorem bv_mo (n : Nat) : bv (sb (mo n)) = n := by
  rw [sb_mo]; unfold bv; rw [List.reverse_reverse, dg_digs (by decide)]
theorem mo_zero : mo 0 = ⟨#[]⟩ := by unfold mo; rw [digs_zero]; rfl
theorem size_mo {n K : Nat} (h : n < 256 ^ K) : (mo n).size ≤ K := by
  rw [← sb_length, sb_mo, List.length_reverse]; exact digs_length_le (by decide) h
theorem bv_sb_lt (s : ByteArray) : bv (sb s) < 256 ^ s.size := by
  have h := bv_lt (sb_ok s)
  rwa [sb_length] at h
theorem mo_lit (s : ByteArray) (h : Trim (sb s).reverse) : mo (bv (sb s)) = s := by
  apply sb_inj
  rw [sb_mo]
  unfold bv
  rw [digs_dg (by decide) (sb_ok s).reverse h, List.reverse_reverse]

theorem wz_mo (z : Int) : wz z = .agg #[.bool (decide (z < 0)), .string (mo z.natAbs)] := by
  unfold wz wv
  split
  · rename_i h
    have hz : z = 0 := by omega
    subst hz
    rw [show (0 : Int).natAbs = 0 from rfl, mo_zero]; rfl
  · rfl

theorem zval_mo (z : Int) : zval (decide (z < 0)) (bv (sb (mo z.natAbs))) = z := by
  rw [bv_mo]
  unfold zval
  by_cases h : z < 0
  · rw [if_pos (by simpa using h)]; omega
  · rw [if_neg (by simpa using h)]; omega

theorem natAbs_zval (b : Bool) (n : Nat) : (zval b n).natAbs = n := by unfold zval; cases b <;> simp

theorem natAbs_zval_lt (b : Bool) (s : ByteArray) : (zval b (bv (sb s))).natAbs < 256 ^ s.size := by
  rw [natAbs_zval]; exact bv_sb_lt s

/-- A value is a number z of at most K bytes. -/
structure Rep (K : Nat) (b : Bool) (s : ByteArray) (z : Int) : Prop where
  val : zval b (bv (sb s)) = z
  size : s.size ≤ K

theorem Rep.mono {K L : Nat} {b : Bool} {s : ByteArray} {z : Int} (h : Rep K b s z) (hl : K ≤ L) : Rep L b s z := ⟨h.val, Nat.le_trans h.size hl⟩

/-- What a function answers is a number of its own size. -/
theorem Rep.mo {K : Nat} {z : Int} (h : z.natAbs < 256 ^ K) : Rep K (decide (z < 0)) (mo z.natAbs) z := ⟨zval_mo z, size_mo h⟩

theorem Rep.lt {K : Nat} {b : Bool} {s : ByteArray} {z : Int} (h : Rep K b s z) : z.natAbs < 256 ^ K := by
  rw [← h.val]
  exact Nat.lt_of_lt_of_le (natAbs_zval_lt b s) (Nat.pow_le_pow_right (by omega) h.size)

theorem mul_sign (b c : Bool) (x y : Nat) : zval (!(b == c)) (x * y) = zval b x * zval c y := by
  unfold zval; cases b <;> cases c <;> simp [Int.natCast_mul, Int.neg_mul, Int.mul_neg]

theorem div_sign (b c : Bool) (x y : Nat) : zval (!(b == c)) (x / y) = (zval b x).tdiv (zval c y) := by
  unfold zval; cases b <;> cases c <;> simp [Int.neg_tdiv, Int.tdiv_neg]

theorem mod_sign (b c : Bool) (x y : Nat) : zval b (x % y) = (zval b x).tmod (zval c y) := by
  have h : ((x % y : Nat) : Int) = (x : Int).tmod (y : Int) := by rw [Int.tmod_eq_emod_of_nonneg (by omega)]; rfl
  unfold zval; cases b <;> cases c <;> simp [Int.neg_tmod, Int.tmod_neg, ← h]

section
variable {na nb : Bool} {sa sc : ByteArray} {x y : Int}

theorem ZMul (hx : Rep 400000 na sa x) (hy : Rep 400000 nb sc y) (w : World) :
    Calls Tryz.prog 14 #[.agg #[.bool na, .string sa], .agg #[.bool nb, .string sc]] w fun e w' => e = .returned (wz (x * y)) ∧ Tch [] w w' := by
  have h := Mul na nb sa sc w hx.size hy.size
  rwa [wv_wz, mul_sign, hx.val, hy.val] at h

theorem ZAdd (hx : Rep 400000 na sa x) (hy : Rep 400000 nb sc y) (w : World) :
    Calls Tryz.prog 32 #[.agg #[.bool na, .string sa], .agg #[.bool nb, .string sc]] w fun e w' => e = .returned (wz (x + y)) ∧ Tch [] w w' := by
  have h := Add na nb sa sc w hx.size hy.size
  rwa [hx.val, hy.val] at h


theorem ZNeg (hx : Rep 1000000 na sa x) (w : World) :
    Calls Tryz.prog 22 #[.agg #[.bool na, .string sa]] w fun e w' => e = .returned (wz (-x)) ∧ Tch [] w w' := by
  have h := Neg na sa hx.size w
  rwa [wv_wz, zval_not, hx.val] at h

theorem ZFrom (n : Int) (h1 : -9223372036854775808 ≤ n) (h2 : n ≤ 9223372036854775807) (w : World) :
    Calls Tryz.prog 15 #[.int .i64 n] w fun e w' => e = .returned (wz n) ∧ Tch [] w w' := From n h1 h2 w

/-- The sign of an integer. -/
theorem sgn_zval (b : Bool) (n : Nat) : sgn b n = (zval b n).sign := by
  unfold sgn zval
  by_cases h : n = 0
  · subst h; cases b <;> rfl
  · have hp : (0 : Int) < (n : Int) := by omega
    rw [if_neg h]
    cases b
    · simp [Int.sign_eq_one_of_pos hp]
    · simp [Int.sign_eq_one_of_pos hp]

theorem ZSign (hx : zval na (bv (sb sa)) = x) (w : World) :
    Calls Tryz.prog 21 #[.agg #[.bool na, .string sa]] w fun e w' => e = .returned (.int .i64 x.sign) ∧ Tch [] w w' := by
  have h := Sign na sa w
  rwa [sgn_zval, hx] at h

/-- What Quo answers, by integers. -/
def zquoV (x y : Int) : Value :=
  if y = 0 then .tuple #[.agg #[.bool false, .string ⟨#[]⟩], .agg #[.bool false, .string ⟨#[]⟩], .bool false] else .tuple #[wz (x.tdiv y), wz (x.tmod y), .bool true]

theorem ZQuo (hx : Rep 400000 na sa x) (hy : Rep 400000 nb sc y) (w : World) :
    Calls Tryz.prog 16 #[.agg #[.bool na, .string sa], .agg #[.bool nb, .string sc]] w fun e w' => e = .returned (zquoV x y) ∧ Tch [] w w' := by
  have h := Quo na nb sa sc w hx.size hy.size
  have e : quoV na nb (bv (sb sa)) (bv (sb sc)) = zquoV x y := by
    unfold quoV zquoV
    have hz : bv (sb sc) = 0 ↔ y = 0 := by rw [← hy.val]; have := natAbs_zval nb (bv (sb sc)); omega
    by_cases h0 : y = 0
    · rw [if_pos (hz.2 h0), if_pos h0]
    · rw [if_neg (fun h => h0 (hz.1 h)), if_neg h0, wv_wz, wv_wz, div_sign, mod_sign na nb, hx.val, hy.val]
  rwa [e] at h

theorem ZGcd (hx : Rep 400000 na sa x) (hy : Rep 400000 nb sc y) (w : World) :
    Calls Tryz.prog 19 #[.agg #[.bool na, .string sa], .agg #[.bool nb, .string sc]] w fun e w' => e = .returned (wz (Int.gcd x y : Int)) ∧ Tch [] w w' := by
  have h := Gcd na nb sa sc w hx.size hy.size
  have e : Nat.gcd (bv (sb sa)) (bv (sb sc)) = Int.gcd x y := by
    unfold Int.gcd; rw [← hx.val, ← hy.val, natAbs_zval, natAbs_zval]
  rw [e, wv_wz] at h
  exact h
end

end Go.Proofs.YtmiibcdcnoefgaaGreatDoor

/- Boxes that lie side by side: what they hold across calls and stores. -/
namespace Go.Proofs.YtmiibcdcnoefgaaGreatDoor
open Go.RowKit Dg

/-- From block A on lie the boxes L. -/
structure Bs (w : World) (A : Nat) (L : List Obj) : Prop where
  row : ∀ (i : Nat) (o : Obj), L[i]? = some o → w.heap[A + i]? = some o

section
variable {w w' : World} {A : Nat} {L : List Obj} {S : List Nat}

theorem Bs.kept (h : Bs w A L) (t : Tch S w w') (hS : ∀ k ∈ S, k < A ∨ A + L.length ≤ k) : Bs w' A L :=
  ⟨fun i o hi => by
    have h1 := h.row i o hi
    have hl : i < L.length := (List.getElem?_eq_some_iff.1 hi).1
    rw [t.block (A + i) (Array.getElem?_eq_some_iff.1 h1).1 (fun hk => by have := hS _ hk; omega)]
    exact h1⟩

theorem Bs.keep (h : Bs w A L) (t : Tch [] w w') : Bs w' A L := h.kept t (by simp)

theorem Bs.cell (h : Bs w A L) (i j : Nat) {vs : Array Value} {T : TypeId} {v : Value} (hi : L[i]? = some (.cells vs T (0, 0))) (hj : vs[j]? = some v) : w.cell? ⟨A + i, j, none⟩ = some v := by
  rw [cell_of_row w (A + i) j _ T (0, 0) (h.row i _ hi)]; exact hj

theorem Bs.frozen (h : Bs w A L) (i j : Nat) {vs : Array Value} {T : TypeId} (hi : L[i]? = some (.cells vs T (0, 0))) : w.frozen? ⟨A + i, j, none⟩ = false := frozen_of_row w (A + i) j _ T (h.row i _ hi)

theorem Bs.set (h : Bs w A L) (i j : Nat) {vs : Array Value} {T : TypeId} (u : Value) (hi : L[i]? = some (.cells vs T (0, 0))) : Bs (w.setCell ⟨A + i, j, none⟩ u) A (L.set i (.cells (vs.setIfInBounds j u) T (0, 0))) :=
  ⟨fun k o hk => by
    have hl : i < L.length := (List.getElem?_eq_some_iff.1 hi).1
    by_cases e : k = i
    · subst e
      rw [List.getElem?_set_self hl] at hk
      cases hk
      exact heap_setCell_same w (A + k) j _ T _ (h.row k _ hi)
    · rw [List.getElem?_set_ne (Ne.symm e)] at hk
      rw [heap_setCell_other w _ (A + k) u (by simp; omega)]
      exact h.row k o hk⟩

theorem Bs.nil (w : World) : Bs w w.heap.size [] := ⟨fun i o h => by simp at h⟩

theorem Bs.alloc (h : Bs w A L) (hz : w.heap.size = A + L.length) (o : Obj) : Bs (w.alloc o) A (L ++ [o]) :=
  ⟨fun k p hk => by
    by_cases e : k < L.length
    · rw [List.getElem?_append_left e] at hk
      rw [Below.heap_alloc w o (A + k) (by omega)]
      exact h.row k p hk
    · rw [List.getElem?_append_right (by omega)] at hk
      have e2 : k = L.length := by
        have := (List.getElem?_eq_some_iff.1 hk).1
        simp at this; omega
      subst e2
      simp at hk
      subst hk
      rw [← hz]
      exact Below.heap_alloc_new' w o⟩

theorem Bs.size (h : Bs w A L) (hL : L ≠ []) : A + L.length ≤ w.heap.size := by
  have hl : 0 < L.length := List.length_pos_iff.2 hL
  have h1 := h.row (L.length - 1) (L[L.length - 1]'(by omega)) (List.getElem?_eq_getElem (by omega))
  have := (Array.getElem?_eq_some_iff.1 h1).1
  omega

theorem Bs.drew (h : Bs w A L) : Bs w.drew A L := ⟨h.row⟩

/-- A new block beside them. -/
theorem Bs.beside (h : Bs w A L) (o : Obj) : Bs (w.alloc o) A L :=
  ⟨fun k p hk => (Below.heap_alloc w o (A + k) (Array.getElem?_eq_some_iff.1 (h.row k p hk)).1).trans (h.row k p hk)⟩
end

end Go.Proofs.YtmiibcdcnoefgaaGreatDoor

/- The boxes that a call has laid so far. -/
namespace Go.Proofs.YtmiibcdcnoefgaaGreatDoor
open Go.RowKit Dg

/-- Since w0 only new blocks were laid; among them those of l, each with what it holds. -/
structure Fr (w0 w : World) (l : List (Nat × Obj)) : Prop where
  row : ∀ p ∈ l, w.heap[p.1]? = some p.2
  new : ∀ p ∈ l, w0.heap.size ≤ p.1
  t : Tch [] w0 w

section
variable {w0 w w' : World} {l : List (Nat × Obj)}

theorem Fr.nil (w : World) : Fr w w [] := ⟨fun _ h => by simp at h, fun _ h => by simp at h, Tch.refl [] w⟩

theorem Fr.keep (h : Fr w0 w l) (t : Tch [] w w') : Fr w0 w' l :=
  ⟨fun p hp => (t.block p.1 (Array.getElem?_eq_some_iff.1 (h.row p hp)).1 (by simp)).trans (h.row p hp), h.new, h.t.trans t (by simp)⟩

theorem Fr.add (h : Fr w0 w l) (o : Obj) (b : Nat) (hb : w.heap.size = b) : Fr w0 (w.alloc o) (l ++ [(b, o)]) := by
  subst hb
  refine ⟨fun p hp => ?_, fun p hp => ?_, h.t.alloc o⟩
  · rcases List.mem_append.1 hp with hp | hp
    · exact (Below.heap_alloc w o p.1 (Array.getElem?_eq_some_iff.1 (h.row p hp)).1).trans (h.row p hp)
    · rw [List.mem_singleton] at hp
      subst hp
      exact Below.heap_alloc_new' w o
  · rcases List.mem_append.1 hp with hp | hp
    · exact h.new p hp
    · rw [List.mem_singleton] at hp
      subst hp
      exact h.t.size

/-- A new block beside them. -/
theorem Fr.beside (h : Fr w0 w l) (o : Obj) : Fr w0 (w.alloc o) l :=
  ⟨fun p hp => (Below.heap_alloc w o p.1 (Array.getElem?_eq_some_iff.1 (h.row p hp)).1).trans (h.row p hp), h.new, h.t.alloc o⟩

theorem Tch.undrew {S : List Nat} (h : Tch S w.drew w') : Tch S w w' := ⟨h.os, h.tape, h.output, h.size, h.block⟩

theorem Fr.drew (h : Fr w0 w l) : Fr w0 w.drew l := ⟨h.row, h.new, h.t.drew⟩

theorem Fr.cell (h : Fr w0 w l) (i j : Nat) {b : Nat} {vs : Array Value} {T : TypeId} {v : Value} (hi : l[i]? = some (b, .cells vs T (0, 0))) (hj : vs[j]? = some v) : w.cell? ⟨b, j, none⟩ = some v := by
  rw [cell_of_row w b j vs T (0, 0) (h.row (b, .cells vs T (0, 0)) (List.mem_of_getElem? hi))]; exact hj

theorem Fr.frozen (h : Fr w0 w l) (i j : Nat) {b : Nat} {vs : Array Value} {T : TypeId} (hi : l[i]? = some (b, .cells vs T (0, 0))) : w.frozen? ⟨b, j, none⟩ = false :=
  frozen_of_row w b j _ T (h.row (b, .cells vs T (0, 0)) (List.mem_of_getElem? hi))

/-- Both cells of a number. -/
theorem Fr.two (h : Fr w0 w l) (i : Nat) {b : Nat} {x y : Value} {T : TypeId} (hi : l[i]? = some (b, .cells #[x, y] T (0, 0))) : w.cell? ⟨b, 0, none⟩ = some x ∧ w.cell? ⟨b, 1, none⟩ = some y := ⟨h.cell i 0 hi rfl, h.cell i 1 hi rfl⟩
theorem Fr.four (h : Fr w0 w l) (i : Nat) {b : Nat} {x y z u : Value} {T : TypeId} (hi : l[i]? = some (b, .cells #[x, y, z, u] T (0, 0))) : w.cell? ⟨b, 0, none⟩ = some x ∧ w.cell? ⟨b, 1, none⟩ = some y ∧ w.cell? ⟨b, 2, none⟩ = some z ∧ w.cell? ⟨b, 3, none⟩ = some u := ⟨h.cell i 0 hi rfl, h.cell i 1 hi rfl, h.cell i 2 hi rfl, h.cell i 3 hi rfl⟩
theorem Fr.fro2 (h : Fr w0 w l) (i : Nat) {b : Nat} {x y : Value} {T : TypeId} (hi : l[i]? = some (b, .cells #[x, y] T (0, 0))) : w.frozen? ⟨b, 0, none⟩ = false ∧ w.frozen? ⟨b, 1, none⟩ = false := ⟨h.frozen i 0 hi, h.frozen i 1 hi⟩
theorem Fr.fro4 (h : Fr w0 w l) (i : Nat) {b : Nat} {x y z u : Value} {T : TypeId} (hi : l[i]? = some (b, .cells #[x, y, z, u] T (0, 0))) : w.frozen? ⟨b, 0, none⟩ = false ∧ w.frozen? ⟨b, 1, none⟩ = false ∧ w.frozen? ⟨b, 2, none⟩ = false ∧ w.frozen? ⟨b, 3, none⟩ = false := ⟨h.frozen i 0 hi, h.frozen i 1 hi, h.frozen i 2 hi, h.frozen i 3 hi⟩

/-- A cell of a block that is none of theirs, and new, is written. -/
theorem Fr.away (h : Fr w0 w l) {p : Addr} (hp : ∀ q ∈ l, q.1 ≠ p.block) (hn : w0.heap.size ≤ p.block) (u : Value) : Fr w0 (w.setCell p u) l :=
  ⟨fun q hq => (heap_setCell_other w p q.1 u (hp q hq)).trans (h.row q hq), h.new, h.t.setCell (.inr hn) u⟩

theorem Fr.ne_size (h : Fr w0 w l) : ∀ q ∈ l, q.1 ≠ w.heap.size := fun q hq => Nat.ne_of_lt (Array.getElem?_eq_some_iff.1 (h.row q hq)).1

/-- A new box beside them, written at once. -/
theorem Fr.box2 (h : Fr w0 w l) (o : Obj) (a b : Value) : Fr w0 (((w.alloc o).setCell ⟨w.heap.size, 0, none⟩ a).setCell ⟨w.heap.size, 1, none⟩ b) l :=
  ((h.beside o).away h.ne_size h.t.size a).away h.ne_size h.t.size b
theorem Fr.box4 (h : Fr w0 w l) (o : Obj) (a b c d : Value) : Fr w0 (((((w.alloc o).setCell ⟨w.heap.size, 0, none⟩ a).setCell ⟨w.heap.size, 1, none⟩ b).setCell ⟨w.heap.size, 2, none⟩ c).setCell ⟨w.heap.size, 3, none⟩ d) l :=
  ((((h.beside o).away h.ne_size h.t.size a).away h.ne_size h.t.size b).away h.ne_size h.t.size c).away h.ne_size h.t.size d

/-- .. and a box that was laid before a call. -/
structure FrB (w0 w : World) (l : List (Nat × Obj)) (b : Nat) (o : Obj) : Prop where
  f : Fr w0 w l
  box : w.heap[b]? = some o
  ne : ∀ q ∈ l, q.1 ≠ b
  new : w0.heap.size ≤ b

theorem FrB.keep {b : Nat} {o : Obj} (h : FrB w0 w l b o) (t : Tch [] w w') : FrB w0 w' l b o :=
  ⟨h.f.keep t, (t.block b (Array.getElem?_eq_some_iff.1 h.box).1 (by simp)).trans h.box, h.ne, h.new⟩
theorem Fr.boxed (h : Fr w0 w l) (o : Obj) (t : Tch [] (w.alloc o) w') : FrB w0 w' l w.heap.size o :=
  FrB.keep (w := w.alloc o) ⟨h.beside o, Below.heap_alloc_new' w o, h.ne_size, h.t.size⟩ t

theorem Fr.boxedAt (h : Fr w0 w l) (o : Obj) (b : Nat) (hb : w.heap.size = b) (t : Tch [] (w.alloc o) w') : FrB w0 w' l b o := hb ▸ h.boxed o t

theorem FrB.cell {b : Nat} {vs : Array Value} {T : TypeId} (h : FrB w0 w l b (.cells vs T (0, 0))) (j : Nat) {v : Value} (hj : vs[j]? = some v) : w.cell? ⟨b, j, none⟩ = some v := by
  rw [cell_of_row w b j vs T (0, 0) h.box]; exact hj
theorem FrB.two {b : Nat} {x y : Value} {T : TypeId} (h : FrB w0 w l b (.cells #[x, y] T (0, 0))) : (w.cell? ⟨b, 0, none⟩ = some x ∧ w.cell? ⟨b, 1, none⟩ = some y) ∧ (w.frozen? ⟨b, 0, none⟩ = false ∧ w.frozen? ⟨b, 1, none⟩ = false) :=
  ⟨⟨h.cell 0 rfl, h.cell 1 rfl⟩, ⟨frozen_of_row w b 0 _ T h.box, frozen_of_row w b 1 _ T h.box⟩⟩
theorem FrB.four {b : Nat} {x y z u : Value} {T : TypeId} (h : FrB w0 w l b (.cells #[x, y, z, u] T (0, 0))) : (w.cell? ⟨b, 0, none⟩ = some x ∧ w.cell? ⟨b, 1, none⟩ = some y ∧ w.cell? ⟨b, 2, none⟩ = some z ∧ w.cell? ⟨b, 3, none⟩ = some u) ∧
    (w.frozen? ⟨b, 0, none⟩ = false ∧ w.frozen? ⟨b, 1, none⟩ = false ∧ w.frozen? ⟨b, 2, none⟩ = false ∧ w.frozen? ⟨b, 3, none⟩ = false) :=
  ⟨⟨h.cell 0 rfl, h.cell 1 rfl, h.cell 2 rfl, h.cell 3 rfl⟩, ⟨frozen_of_row w b 0 _ T h.box, frozen_of_row w b 1 _ T h.box, frozen_of_row w b 2 _ T h.box, frozen_of_row w b 3 _ T h.box⟩⟩
/-- Four cells of a block, all of them, written one behind the other. -/
theorem row_set4 {b : Nat} {x y z u x' y' z' u' : Value} {T : TypeId} (h : w.heap[b]? = some (.cells #[x, y, z, u] T (0, 0))) :
    ((((w.setCell ⟨b, 0, none⟩ x').setCell ⟨b, 1, none⟩ y').setCell ⟨b, 2, none⟩ z').setCell ⟨b, 3, none⟩ u').heap[b]? = some (.cells #[x', y', z', u'] T (0, 0)) := by
  have h1 := heap_setCell_same w b 0 _ T x' h
  have h2 := heap_setCell_same _ b 1 _ T y' h1
  have h3 := heap_setCell_same _ b 2 _ T z' h2
  exact heap_setCell_same _ b 3 _ T u' h3
theorem cells_row4 {b : Nat} {x y z u : Value} {T : TypeId} (h : w.heap[b]? = some (.cells #[x, y, z, u] T (0, 0))) : w.cell? ⟨b, 0, none⟩ = some x ∧ w.cell? ⟨b, 1, none⟩ = some y ∧ w.cell? ⟨b, 2, none⟩ = some z ∧ w.cell? ⟨b, 3, none⟩ = some u :=
  ⟨by rw [cell_of_row w b 0 _ T (0, 0) h]; rfl, by rw [cell_of_row w b 1 _ T (0, 0) h]; rfl, by rw [cell_of_row w b 2 _ T (0, 0) h]; rfl, by rw [cell_of_row w b 3 _ T (0, 0) h]; rfl⟩

theorem FrB.set2 {b : Nat} {o : Obj} (h : FrB w0 w l b o) (x y : Value) : Fr w0 ((w.setCell ⟨b, 0, none⟩ x).setCell ⟨b, 1, none⟩ y) l :=
  (h.f.away h.ne h.new x).away h.ne h.new y
theorem FrB.set4 {b : Nat} {o : Obj} (h : FrB w0 w l b o) (x y z u : Value) : Fr w0 ((((w.setCell ⟨b, 0, none⟩ x).setCell ⟨b, 1, none⟩ y).setCell ⟨b, 2, none⟩ z).setCell ⟨b, 3, none⟩ u) l :=
  (((h.f.away h.ne h.new x).away h.ne h.new y).away h.ne h.new z).away h.ne h.new u

/-- A box of the call's own is written: the last thing before the result. -/
theorem Fr.put (h : Fr w0 w l) (i j : Nat) {b : Nat} {o : Obj} (hi : l[i]? = some (b, o)) (u : Value) : Tch [] w0 (w.setCell ⟨b, j, none⟩ u) :=
  h.t.setCell (.inr (h.new (b, o) (List.mem_of_getElem? hi))) u
theorem Fr.fin2 (h : Fr w0 w l) (i : Nat) {b : Nat} {o : Obj} (hi : l[i]? = some (b, o)) (x y : Value) : Tch [] w0 ((w.setCell ⟨b, 0, none⟩ x).setCell ⟨b, 1, none⟩ y) :=
  (h.put i 0 hi x).setCell (.inr (h.new (b, o) (List.mem_of_getElem? hi))) y
theorem Fr.fin4 (h : Fr w0 w l) (i : Nat) {b : Nat} {o : Obj} (hi : l[i]? = some (b, o)) (x y z u : Value) : Tch [] w0 ((((w.setCell ⟨b, 0, none⟩ x).setCell ⟨b, 1, none⟩ y).setCell ⟨b, 2, none⟩ z).setCell ⟨b, 3, none⟩ u) :=
  ((h.fin2 i hi x y).setCell (.inr (h.new (b, o) (List.mem_of_getElem? hi))) z).setCell (.inr (h.new (b, o) (List.mem_of_getElem? hi))) u
end

theorem wz_parts {z : Int} {b : Bool} {s : ByteArray} (h : wz z = .agg #[.bool b, .string s]) : decide (z < 0) = b ∧ mo z.natAbs = s := by
  rw [wz_mo] at h
  simpa using h

theorem Rep.of_wz {K : Nat} {z : Int} {b : Bool} {s : ByteArray} (h : wz z = .agg #[.bool b, .string s]) (hz : z.natAbs < 256 ^ K) : Rep K b s z := by
  obtain ⟨rfl, rfl⟩ := wz_parts h
  exact Rep.mo hz

theorem sgn_pos (b : Bool) (n : Nat) : 0 < sgn b n ↔ 0 < zval b n := by
  rw [sgn_zval]
  exact Int.sign_pos_iff

theorem mul_lt {K L : Nat} {x y : Int} (hx : x.natAbs < 256 ^ K) (hy : y.natAbs < 256 ^ L) : (x * y).natAbs < 256 ^ (K + L) := by
  rw [Int.natAbs_mul, Nat.pow_add]
  exact Nat.mul_lt_mul'' hx hy

theorem add_lt {K : Nat} {x y : Int} (hx : x.natAbs < 256 ^ K) (hy : y.natAbs < 256 ^ K) : (x + y).natAbs < 256 ^ (K + 1) := by
  have h1 : (x + y).natAbs ≤ x.natAbs + y.natAbs := Int.natAbs_add_le x y
  rw [Nat.pow_succ]; omega

end Go.Proofs.YtmiibcdcnoefgaaGreatDoor
