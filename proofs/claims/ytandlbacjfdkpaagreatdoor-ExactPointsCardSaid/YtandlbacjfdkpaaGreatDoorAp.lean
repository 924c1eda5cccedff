/- The reference's apart: slices of points. -/
import Derived.Test.YtandlbacjfdkpaaGreatDoorRm
import Derived.Maps.AppendAt
namespace Go.Proofs.YtandlbacjfdkpaaGreatDoor
open Go Go.RowKit Dg

/-- The cells of points, one after the other. -/
def flat (l : List P3) : List Value := l.flatMap fun p => [.int .i64 p.x, .int .i64 p.y, .int .i64 p.z]
theorem flat_snoc (l : List P3) (p : P3) : flat (l ++ [p]) = flat l ++ [.int .i64 p.x, .int .i64 p.y, .int .i64 p.z] := by unfold flat; simp
theorem own_tch {w w' : World} {base n : Nat} {v : Value} {xs : List Value} {e : TypeId} {size : Nat} (h : w.ownsRow base e size v n xs) (t : Tch [] w w') : w'.ownsRow base e size v n xs := by
  refine ⟨h.1, ?_⟩
  rcases h.2 with k | ⟨g, cap, cur, k1, k2, k3, k4⟩
  · exact .inl k
  · exact .inr ⟨g, cap, cur, k1, k2, (t.block g (Array.getElem?_eq_some_iff.1 k3).1 (by simp)).trans k3, k4⟩
theorem own_grown {w w' : World} {base n : Nat} {v : Value} {xs : List Value} {e : TypeId} {size : Nat} {row : Option Nat} (h : w.ownsRow base e size v n xs) (t : w.grownBy w' row) (hd : ∀ k, row = some k → v.ownBlock ≠ some k) : w'.ownsRow base e size v n xs := by
  refine ⟨h.1, ?_⟩
  rcases h.2 with k | ⟨g, cap, cur, k1, k2, k3, k4⟩
  · exact .inl k
  · refine .inr ⟨g, cap, cur, k1, k2, (t.block g (Array.getElem?_eq_some_iff.1 k3).1 (fun e => ?_)).trans k3, k4⟩
    exact hd g e.symm (by rw [k1]; rfl)
theorem own_block {w : World} {base n : Nat} {v : Value} {xs : List Value} {e : TypeId} {size k : Nat} (h : w.ownsRow base e size v n xs) (hk : v.ownBlock = some k) : base ≤ k ∧ k < w.heap.size := by
  rcases h.2 with ⟨q, _⟩ | ⟨g, cap, cur, k1, k2, k3, k4⟩
  · rw [q] at hk; cases hk
  · rw [k1] at hk
    have : g = k := by injection hk
    subst this
    exact ⟨k2, (Array.getElem?_eq_some_iff.1 k3).1⟩
theorem Fr.grown {w0 w w' : World} {l : List (Nat × Obj)} {row : Option Nat} (h : Fr w0 w l) (t : w.grownBy w' row) (hd : ∀ k, row = some k → w0.heap.size ≤ k ∧ ∀ q ∈ l, q.1 ≠ k) : Fr w0 w' l :=
  ⟨fun q hq => (t.block q.1 (Array.getElem?_eq_some_iff.1 (h.row q hq)).1 (fun e => (hd q.1 e.symm).2 q hq rfl)).trans (h.row q hq), h.new, h.t.grown t (fun k hk => .inr (hd k hk).1)⟩
/-- Two slices of points of a call's own, apart from each other. -/
structure Two2 (base : Nat) (w : World) (vb : Value) (lb : List P3) (vo : Value) (lo : List P3) : Prop where
  b : w.ownsRow base 27 3 vb lb.length (flat lb)
  o : w.ownsRow base 27 3 vo lo.length (flat lo)
  d : ∀ k, vb.ownBlock = some k → vo.ownBlock ≠ some k
theorem Two2.tch {base : Nat} {w w' : World} {vb vo : Value} {lb lo : List P3} (h : Two2 base w vb lb vo lo) (t : Tch [] w w') : Two2 base w' vb lb vo lo := ⟨own_tch h.b t, own_tch h.o t, h.d⟩
theorem Two2.drew {base : Nat} {w : World} {vb vo : Value} {lb lo : List P3} (h : Two2 base w vb lb vo lo) : Two2 base w.drew vb lb vo lo := ⟨h.b, h.o, h.d⟩
theorem news3 {w : World} {g : Nat} {x y z : Value} {T : TypeId} (h : w.heap[g]? = some (.cells #[x, y, z] T (0, 0))) : ∀ (j : Nat) (u : Value), [x, y, z][j]? = some u → w.cell? ((⟨g, 0, none⟩ : Addr).add j) = some u := by
  intro j u hu
  obtain ⟨c0, c1, c2⟩ := cells_row3 h
  match j, hu with
  | 0, hu => simp at hu; subst hu; exact c0
  | 1, hu => simp at hu; subst hu; exact c1
  | 2, hu => simp at hu; subst hu; exact c2
  | j + 3, hu => simp at hu
theorem info_pt : (Tryz.prog.info? 27).map (fun i => (i.zero, i.size, i.bytes)) = some (some (.agg #[.int .i64 0, .int .i64 0, .int .i64 0]), 3, 24) := by kernel_rfl
theorem info3 {P : Program} {T : TypeId} {z : Option Value} {s b : Nat} (h : (P.info? T).map (fun i => (i.zero, i.size, i.bytes)) = some (z, s, b)) : ∃ i, P.info? T = some i ∧ i.zero = z ∧ i.size = s ∧ i.bytes = b := by
  cases hi : P.info? T with
  | none => rw [hi] at h; cases h
  | some i =>
    rw [hi] at h
    simp only [Option.map_some, Option.some.injEq, Prod.mk.injEq] at h
    exact ⟨i, rfl, h.1, h.2.1, h.2.2⟩
/-- What apart returns. -/
def ApPost (w : World) (lb lo : List P3) : Ending → World → Prop := fun e w' => ∃ vb vo, e = .returned (.tuple #[vb, vo]) ∧ Two2 (w.heap.size + 1 + 1) w' vb lb vo lo ∧ Tch [] w w'
/-- The first k of the corners that are, and are not, corners of the other one. -/
def bk (a b c p q r : P3) (k : Nat) : List P3 := ([a, b, c].take k).filter (isC p q r)
def ok (a b c p q r : P3) (k : Nat) : List P3 := ([a, b, c].take k).filter (fun x => !isC p q r x)
theorem bk_len (a b c p q r : P3) (k : Nat) : (bk a b c p q r k).length ≤ 3 := Nat.le_trans (List.length_filter_le _ _) (by rw [List.length_take]; exact Nat.min_le_right _ _)
theorem ok_len (a b c p q r : P3) (k : Nat) : (ok a b c p q r k).length ≤ 3 := Nat.le_trans (List.length_filter_le _ _) (by rw [List.length_take]; exact Nat.min_le_right _ _)
theorem step_b {a b c p q r x : P3} {k : Nat} (hk : [a, b, c].take (k + 1) = [a, b, c].take k ++ [x]) (hx : isC p q r x = true) : bk a b c p q r (k + 1) = bk a b c p q r k ++ [x] ∧ ok a b c p q r (k + 1) = ok a b c p q r k := by
  unfold bk ok; rw [hk, List.filter_append, List.filter_append]; simp [hx]
theorem step_o {a b c p q r x : P3} {k : Nat} (hk : [a, b, c].take (k + 1) = [a, b, c].take k ++ [x]) (hx : isC p q r x = false) : bk a b c p q r (k + 1) = bk a b c p q r k ∧ ok a b c p q r (k + 1) = ok a b c p q r k ++ [x] := by
  unfold bk ok; rw [hk, List.filter_append, List.filter_append]; simp [hx]
theorem Two2.stepB {base : Nat} {w w' : World} {vb vo v' : Value} {lb lo : List P3} {p : P3} (h : Two2 base w vb lb vo lo) (h2 : w'.ownsRow base 27 3 v' (lb.length + 1) (flat lb ++ [.int .i64 p.x, .int .i64 p.y, .int .i64 p.z])) (hg : w.grownBy w' vb.ownBlock) (hat : v'.ownBlock = vb.ownBlock ∨ v'.ownBlock = some w.heap.size) : Two2 base w' v' (lb ++ [p]) vo lo := by
  refine ⟨by rw [flat_snoc, List.length_append]; exact h2, own_grown h.o hg h.d, fun k hk e => ?_⟩
  rcases hat with g | g
  · rw [g] at hk; exact h.d k hk e
  · rw [g] at hk
    have := (own_block h.o e).2
    injection hk with hk
    omega
theorem Two2.flip {base : Nat} {w : World} {vb vo : Value} {lb lo : List P3} (h : Two2 base w vb lb vo lo) : Two2 base w vo lo vb lb := ⟨h.o, h.b, fun k hk e => h.d k e hk⟩

set_option maxHeartbeats 16000000 in
set_option maxRecDepth 100000 in
theorem rApart (a b c p q r : P3) (w : World) : Calls Tryz.prog 41 #[(.agg #[.int .i64 a.x, .int .i64 a.y, .int .i64 a.z, .int .i64 b.x, .int .i64 b.y, .int .i64 b.z, .int .i64 c.x, .int .i64 c.y, .int .i64 c.z]), (.agg #[.int .i64 p.x, .int .i64 p.y, .int .i64 p.z, .int .i64 q.x, .int .i64 q.y, .int .i64 q.z, .int .i64 r.x, .int .i64 r.y, .int .i64 r.z])] w (ApPost w (bothI a b c p q r) (ownI a b c p q r)) := by
  obtain ⟨LB, hLB⟩ : ∃ l, l = bk a b c p q r := ⟨_, rfl⟩
  obtain ⟨LO, hLO⟩ : ∃ l, l = ok a b c p q r := ⟨_, rfl⟩
  have eb : bothI a b c p q r = LB 3 := by rw [hLB]; rfl
  have eo : ownI a b c p q r = LO 3 := by rw [hLO]; rfl
  rw [eb, eo]
  have B0 : LB 0 = [] := by rw [hLB]; rfl
  have O0 : LO 0 = [] := by rw [hLO]; rfl
  have LN : Hid (∀ k, (LB k).length ≤ 3 ∧ (LO k).length ≤ 3) := Lib.hid (fun k => by rw [hLB, hLO]; exact ⟨bk_len a b c p q r k, ok_len a b c p q r k⟩)
  obtain ⟨e0, he0⟩ : ∃ v', v' = isC p q r a := ⟨_, rfl⟩
  have T0 : Hid (e0 = true → LB 1 = LB 0 ++ [a] ∧ LO 1 = LO 0) := Lib.hid (fun h => by rw [hLB, hLO]; exact step_b (x := a) rfl (by rw [← he0]; exact h))
  have U0 : Hid (e0 = false → LB 1 = LB 0 ∧ LO 1 = LO 0 ++ [a]) := Lib.hid (fun h => by rw [hLB, hLO]; exact step_o (x := a) rfl (by rw [← he0]; exact h))
  have C0 : Hid (∀ w1, Calls Tryz.prog 73 #[(.agg #[.int .i64 a.x, .int .i64 a.y, .int .i64 a.z]), (.agg #[.int .i64 p.x, .int .i64 p.y, .int .i64 p.z, .int .i64 q.x, .int .i64 q.y, .int .i64 q.z, .int .i64 r.x, .int .i64 r.y, .int .i64 r.z])] w1 fun e w' => e = .returned (.bool e0) ∧ Tch [] w1 w') := Lib.hid (fun w1 => by rw [he0]; exact rIs a p q r w1)
  obtain ⟨e1, he1⟩ : ∃ v', v' = isC p q r b := ⟨_, rfl⟩
  have T1 : Hid (e1 = true → LB 2 = LB 1 ++ [b] ∧ LO 2 = LO 1) := Lib.hid (fun h => by rw [hLB, hLO]; exact step_b (x := b) rfl (by rw [← he1]; exact h))
  have U1 : Hid (e1 = false → LB 2 = LB 1 ∧ LO 2 = LO 1 ++ [b]) := Lib.hid (fun h => by rw [hLB, hLO]; exact step_o (x := b) rfl (by rw [← he1]; exact h))
  have C1 : Hid (∀ w1, Calls Tryz.prog 73 #[(.agg #[.int .i64 b.x, .int .i64 b.y, .int .i64 b.z]), (.agg #[.int .i64 p.x, .int .i64 p.y, .int .i64 p.z, .int .i64 q.x, .int .i64 q.y, .int .i64 q.z, .int .i64 r.x, .int .i64 r.y, .int .i64 r.z])] w1 fun e w' => e = .returned (.bool e1) ∧ Tch [] w1 w') := Lib.hid (fun w1 => by rw [he1]; exact rIs b p q r w1)
  obtain ⟨e2, he2⟩ : ∃ v', v' = isC p q r c := ⟨_, rfl⟩
  have T2 : Hid (e2 = true → LB 3 = LB 2 ++ [c] ∧ LO 3 = LO 2) := Lib.hid (fun h => by rw [hLB, hLO]; exact step_b (x := c) rfl (by rw [← he2]; exact h))
  have U2 : Hid (e2 = false → LB 3 = LB 2 ∧ LO 3 = LO 2 ++ [c]) := Lib.hid (fun h => by rw [hLB, hLO]; exact step_o (x := c) rfl (by rw [← he2]; exact h))
  have C2 : Hid (∀ w1, Calls Tryz.prog 73 #[(.agg #[.int .i64 c.x, .int .i64 c.y, .int .i64 c.z]), (.agg #[.int .i64 p.x, .int .i64 p.y, .int .i64 p.z, .int .i64 q.x, .int .i64 q.y, .int .i64 q.z, .int .i64 r.x, .int .i64 r.y, .int .i64 r.z])] w1 fun e w' => e = .returned (.bool e2) ∧ Tch [] w1 w') := Lib.hid (fun w1 => by rw [he2]; exact rIs c p q r w1)
  have Z0 : Hid (Two2 (w.heap.size + 1 + 1) w (.slice none 0 0) (LB 0) (.slice none 0 0) (LO 0)) := Lib.hid (by rw [B0, O0]; exact ⟨⟨rfl, .inl ⟨rfl, rfl⟩⟩, ⟨rfl, .inl ⟨rfl, rfl⟩⟩, fun k hk => by cases hk⟩)
  clear hLB hLO eb eo B0 O0 he0 he1 he2
  obtain ⟨i0, hi0, hz0, hs0, hy0⟩ := info3 info_pt
  have HI := Lib.hid (And.intro hi0 (And.intro hz0 (And.intro hs0 hy0)))
  clear hi0 hz0 hs0 hy0
  have F : Hid (Fr w ((w.alloc (.cells #[.int .i64 a.x, .int .i64 a.y, .int .i64 a.z, .int .i64 b.x, .int .i64 b.y, .int .i64 b.z, .int .i64 c.x, .int .i64 c.y, .int .i64 c.z] 33)).alloc (.cells #[.int .i64 p.x, .int .i64 p.y, .int .i64 p.z, .int .i64 q.x, .int .i64 q.y, .int .i64 q.z, .int .i64 r.x, .int .i64 r.y, .int .i64 r.z] 33)) [(w.heap.size, .cells #[.int .i64 a.x, .int .i64 a.y, .int .i64 a.z, .int .i64 b.x, .int .i64 b.y, .int .i64 b.z, .int .i64 c.x, .int .i64 c.y, .int .i64 c.z] 33 (0, 0)), (w.heap.size + 1, .cells #[.int .i64 p.x, .int .i64 p.y, .int .i64 p.z, .int .i64 q.x, .int .i64 q.y, .int .i64 q.z, .int .i64 r.x, .int .i64 r.y, .int .i64 r.z] 33 (0, 0))]) := Lib.hid (((Fr.nil w).add (.cells #[.int .i64 a.x, .int .i64 a.y, .int .i64 a.z, .int .i64 b.x, .int .i64 b.y, .int .i64 b.z, .int .i64 c.x, .int .i64 c.y, .int .i64 c.z] 33) (w.heap.size) rfl).add (.cells #[.int .i64 p.x, .int .i64 p.y, .int .i64 p.z, .int .i64 q.x, .int .i64 q.y, .int .i64 q.z, .int .i64 r.x, .int .i64 r.y, .int .i64 r.z] 33) (w.heap.size + 1) (by simp))
  have SF := Lib.hid (fun (w4 : World) (h : Fr w w4 [(w.heap.size, .cells #[.int .i64 a.x, .int .i64 a.y, .int .i64 a.z, .int .i64 b.x, .int .i64 b.y, .int .i64 b.z, .int .i64 c.x, .int .i64 c.y, .int .i64 c.z] 33 (0, 0)), (w.heap.size + 1, .cells #[.int .i64 p.x, .int .i64 p.y, .int .i64 p.z, .int .i64 q.x, .int .i64 q.y, .int .i64 q.z, .int .i64 r.x, .int .i64 r.y, .int .i64 r.z] 33 (0, 0))]) => And.intro (h.nine 0 rfl) (h.nine 1 rfl))
  have Z : Hid (Two2 (w.heap.size + 1 + 1) ((w.alloc (.cells #[.int .i64 a.x, .int .i64 a.y, .int .i64 a.z, .int .i64 b.x, .int .i64 b.y, .int .i64 b.z, .int .i64 c.x, .int .i64 c.y, .int .i64 c.z] 33)).alloc (.cells #[.int .i64 p.x, .int .i64 p.y, .int .i64 p.z, .int .i64 q.x, .int .i64 q.y, .int .i64 q.z, .int .i64 r.x, .int .i64 r.y, .int .i64 r.z] 33)) (.slice none 0 0) (LB 0) (.slice none 0 0) (LO 0)) := Lib.hid (Z0.out.tch (((Tch.refl [] w).alloc _).alloc _))
  clear Z0
  go_enter Tryz.func41, Tryz.ntmps41
  go_wp2
  go_loopw [6, 7, 8, 9] (fun s6 s7 i g wr => ∃ (k : Nat), k ≤ 3 ∧ i = .int .i64 (k : Int) ∧ (g = g) ∧ Hid (Two2 (w.heap.size + 1 + 1) wr s6 (LB k) s7 (LO k)) ∧ Hid (Fr w wr [(w.heap.size, .cells #[.int .i64 a.x, .int .i64 a.y, .int .i64 a.z, .int .i64 b.x, .int .i64 b.y, .int .i64 b.z, .int .i64 c.x, .int .i64 c.y, .int .i64 c.z] 33 (0, 0)), (w.heap.size + 1, .cells #[.int .i64 p.x, .int .i64 p.y, .int .i64 p.z, .int .i64 q.x, .int .i64 q.y, .int .i64 q.z, .int .i64 r.x, .int .i64 r.y, .int .i64 r.z] 33 (0, 0))])) (fun _ _ i _ _ => 3 - (intOf i).toNat)
  case atStart => exact ⟨0, by omega, rfl, rfl, Z, F⟩
  case round =>
    clear F Z
    obtain ⟨k, hk, rfl, -, Z, F⟩ := hrel
    rcases (show k = 0 ∨ k = 1 ∨ k = 2 ∨ k = 3 by omega) with rfl | rfl | rfl | rfl
    · go_upto_region 6 with (fail)
      go_region_held3 (fun w' => ((w'.cell? ⟨w.heap.size, 0, none⟩ = some (.int .i64 a.x) ∧ w'.cell? ⟨w.heap.size, 1, none⟩ = some (.int .i64 a.y) ∧ w'.cell? ⟨w.heap.size, 2, none⟩ = some (.int .i64 a.z)) ∧ (w'.cell? ⟨w.heap.size, 3, none⟩ = some (.int .i64 b.x) ∧ w'.cell? ⟨w.heap.size, 4, none⟩ = some (.int .i64 b.y) ∧ w'.cell? ⟨w.heap.size, 5, none⟩ = some (.int .i64 b.z)) ∧ w'.cell? ⟨w.heap.size, 6, none⟩ = some (.int .i64 c.x) ∧ w'.cell? ⟨w.heap.size, 7, none⟩ = some (.int .i64 c.y) ∧ w'.cell? ⟨w.heap.size, 8, none⟩ = some (.int .i64 c.z)) ∧ ((w'.cell? ⟨w.heap.size + 1, 0, none⟩ = some (.int .i64 p.x) ∧ w'.cell? ⟨w.heap.size + 1, 1, none⟩ = some (.int .i64 p.y) ∧ w'.cell? ⟨w.heap.size + 1, 2, none⟩ = some (.int .i64 p.z)) ∧ (w'.cell? ⟨w.heap.size + 1, 3, none⟩ = some (.int .i64 q.x) ∧ w'.cell? ⟨w.heap.size + 1, 4, none⟩ = some (.int .i64 q.y) ∧ w'.cell? ⟨w.heap.size + 1, 5, none⟩ = some (.int .i64 q.z)) ∧ w'.cell? ⟨w.heap.size + 1, 6, none⟩ = some (.int .i64 r.x) ∧ w'.cell? ⟨w.heap.size + 1, 7, none⟩ = some (.int .i64 r.y) ∧ w'.cell? ⟨w.heap.size + 1, 8, none⟩ = some (.int .i64 r.z))) (first | with_reducible exact SF.out _ F.out | with_reducible exact SF.out _ F.out.drew) (first
        | (go_at_call 73; (with_reducible refine (C0.out _).mono ?_); rintro e w5 ⟨rfl, hT⟩; (first | (with_reducible have F := Lib.hid (F.out.keep hT)) | (have F := Lib.hid (F.out.drew.keep hT))); (first | (with_reducible have Z := Lib.hid (Z.out.tch hT)) | (have Z := Lib.hid (Z.out.drew.tch hT))); clear hT)
        | fail)
      all_goals
      cases e0
      · skip
        obtain ⟨q1, q2⟩ := U0.out rfl
        have HQ := Lib.hid (And.intro q1 q2)
        clear q1 q2
        obtain ⟨x0, x1, x2⟩ := (SF.out _ F.out).1.1
        have ZA := Lib.hid (Z.out.tch ((Tch.refl [] _).alloc (.cells #[.int .i64 a.x, .int .i64 a.y, .int .i64 a.z] 27)))
        have FA := Lib.hid (F.out.beside (.cells #[.int .i64 a.x, .int .i64 a.y, .int .i64 a.z] 27))
        have NW := Lib.hid (news3 (Below.heap_alloc_new' w5 (.cells #[.int .i64 a.x, .int .i64 a.y, .int .i64 a.z] 27)))
        have LA := Lib.hid ((LN.out 0).2)
        have SZ := Lib.hid (show w.heap.size + 1 + 1 ≤ (w5.alloc (.cells #[.int .i64 a.x, .int .i64 a.y, .int .i64 a.z] 27)).heap.size from by have h := F.out.lt 1 rfl; have e : (w5.alloc (.cells #[.int .i64 a.x, .int .i64 a.y, .int .i64 a.z] 27)).heap.size = w5.heap.size + 1 := (by simp); omega)
        go_wp2_with (at_builtin; refine wpList_append_own_at _ rfl _ _ 59 rfl (w.heap.size + 1 + 1) 27 i0 _ 3 24 Tryz.underlying59 HI.out.1 HI.out.2.1 HI.out.2.2.1 HI.out.2.2.2 rfl (by omega) _ _ _ rfl ZA.out.o ⟨w5.heap.size, 0, none⟩ 1 1 _ rfl rfl NW.out (by intro u hu; simp at hu; rcases hu with rfl | rfl | rfl <;> rfl) (by have := LA.out; unfold maxLen; omega) (by have := LA.out; omega) SZ.out ?_; intro v1 w6 h2 hg _ hat; have H2 := Lib.hid (And.intro h2 (And.intro hg hat)); clear h2 hg hat)
        go_roundw
        case rel => exact ⟨1, by omega, by go_num, trivial, Lib.hid (by rw [HQ.out.1, HQ.out.2]; exact (ZA.out.flip.stepB (p := a) H2.out.1 H2.out.2.1 H2.out.2.2).flip), Lib.hid (FA.out.grown H2.out.2.1 (fun k hk => by have := own_block ZA.out.o hk; refine ⟨by omega, fun q hq => ?_⟩; simp only [List.mem_cons, List.not_mem_nil, or_false] at hq; rcases hq with rfl | rfl <;> simp only <;> omega))⟩
        case measure => simp [intOf]
      · skip
        obtain ⟨q1, q2⟩ := T0.out rfl
        have HQ := Lib.hid (And.intro q1 q2)
        clear q1 q2
        obtain ⟨x0, x1, x2⟩ := (SF.out _ F.out).1.1
        have ZA := Lib.hid (Z.out.tch ((Tch.refl [] _).alloc (.cells #[.int .i64 a.x, .int .i64 a.y, .int .i64 a.z] 27)))
        have FA := Lib.hid (F.out.beside (.cells #[.int .i64 a.x, .int .i64 a.y, .int .i64 a.z] 27))
        have NW := Lib.hid (news3 (Below.heap_alloc_new' w5 (.cells #[.int .i64 a.x, .int .i64 a.y, .int .i64 a.z] 27)))
        have LA := Lib.hid ((LN.out 0).1)
        have SZ := Lib.hid (show w.heap.size + 1 + 1 ≤ (w5.alloc (.cells #[.int .i64 a.x, .int .i64 a.y, .int .i64 a.z] 27)).heap.size from by have h := F.out.lt 1 rfl; have e : (w5.alloc (.cells #[.int .i64 a.x, .int .i64 a.y, .int .i64 a.z] 27)).heap.size = w5.heap.size + 1 := (by simp); omega)
        go_wp2_with (at_builtin; refine wpList_append_own_at _ rfl _ _ 59 rfl (w.heap.size + 1 + 1) 27 i0 _ 3 24 Tryz.underlying59 HI.out.1 HI.out.2.1 HI.out.2.2.1 HI.out.2.2.2 rfl (by omega) _ _ _ rfl ZA.out.b ⟨w5.heap.size, 0, none⟩ 1 1 _ rfl rfl NW.out (by intro u hu; simp at hu; rcases hu with rfl | rfl | rfl <;> rfl) (by have := LA.out; unfold maxLen; omega) (by have := LA.out; omega) SZ.out ?_; intro v1 w6 h2 hg _ hat; have H2 := Lib.hid (And.intro h2 (And.intro hg hat)); clear h2 hg hat)
        go_roundw
        case rel => exact ⟨1, by omega, by go_num, trivial, Lib.hid (by rw [HQ.out.1, HQ.out.2]; exact ZA.out.stepB (p := a) H2.out.1 H2.out.2.1 H2.out.2.2), Lib.hid (FA.out.grown H2.out.2.1 (fun k hk => by have := own_block ZA.out.b hk; refine ⟨by omega, fun q hq => ?_⟩; simp only [List.mem_cons, List.not_mem_nil, or_false] at hq; rcases hq with rfl | rfl <;> simp only <;> omega))⟩
        case measure => simp [intOf]
    · go_upto_region 6 with (fail)
      go_region_held3 (fun w' => ((w'.cell? ⟨w.heap.size, 0, none⟩ = some (.int .i64 a.x) ∧ w'.cell? ⟨w.heap.size, 1, none⟩ = some (.int .i64 a.y) ∧ w'.cell? ⟨w.heap.size, 2, none⟩ = some (.int .i64 a.z)) ∧ (w'.cell? ⟨w.heap.size, 3, none⟩ = some (.int .i64 b.x) ∧ w'.cell? ⟨w.heap.size, 4, none⟩ = some (.int .i64 b.y) ∧ w'.cell? ⟨w.heap.size, 5, none⟩ = some (.int .i64 b.z)) ∧ w'.cell? ⟨w.heap.size, 6, none⟩ = some (.int .i64 c.x) ∧ w'.cell? ⟨w.heap.size, 7, none⟩ = some (.int .i64 c.y) ∧ w'.cell? ⟨w.heap.size, 8, none⟩ = some (.int .i64 c.z)) ∧ ((w'.cell? ⟨w.heap.size + 1, 0, none⟩ = some (.int .i64 p.x) ∧ w'.cell? ⟨w.heap.size + 1, 1, none⟩ = some (.int .i64 p.y) ∧ w'.cell? ⟨w.heap.size + 1, 2, none⟩ = some (.int .i64 p.z)) ∧ (w'.cell? ⟨w.heap.size + 1, 3, none⟩ = some (.int .i64 q.x) ∧ w'.cell? ⟨w.heap.size + 1, 4, none⟩ = some (.int .i64 q.y) ∧ w'.cell? ⟨w.heap.size + 1, 5, none⟩ = some (.int .i64 q.z)) ∧ w'.cell? ⟨w.heap.size + 1, 6, none⟩ = some (.int .i64 r.x) ∧ w'.cell? ⟨w.heap.size + 1, 7, none⟩ = some (.int .i64 r.y) ∧ w'.cell? ⟨w.heap.size + 1, 8, none⟩ = some (.int .i64 r.z))) (first | with_reducible exact SF.out _ F.out | with_reducible exact SF.out _ F.out.drew) (first
        | (go_at_call 73; (with_reducible refine (C1.out _).mono ?_); rintro e w5 ⟨rfl, hT⟩; (first | (with_reducible have F := Lib.hid (F.out.keep hT)) | (have F := Lib.hid (F.out.drew.keep hT))); (first | (with_reducible have Z := Lib.hid (Z.out.tch hT)) | (have Z := Lib.hid (Z.out.drew.tch hT))); clear hT)
        | fail)
      all_goals
      cases e1
      · skip
        obtain ⟨q1, q2⟩ := U1.out rfl
        have HQ := Lib.hid (And.intro q1 q2)
        clear q1 q2
        obtain ⟨x0, x1, x2⟩ := (SF.out _ F.out).1.2.1
        have ZA := Lib.hid (Z.out.tch ((Tch.refl [] _).alloc (.cells #[.int .i64 b.x, .int .i64 b.y, .int .i64 b.z] 27)))
        have FA := Lib.hid (F.out.beside (.cells #[.int .i64 b.x, .int .i64 b.y, .int .i64 b.z] 27))
        have NW := Lib.hid (news3 (Below.heap_alloc_new' w5 (.cells #[.int .i64 b.x, .int .i64 b.y, .int .i64 b.z] 27)))
        have LA := Lib.hid ((LN.out 1).2)
        have SZ := Lib.hid (show w.heap.size + 1 + 1 ≤ (w5.alloc (.cells #[.int .i64 b.x, .int .i64 b.y, .int .i64 b.z] 27)).heap.size from by have h := F.out.lt 1 rfl; have e : (w5.alloc (.cells #[.int .i64 b.x, .int .i64 b.y, .int .i64 b.z] 27)).heap.size = w5.heap.size + 1 := (by simp); omega)
        go_wp2_with (at_builtin; refine wpList_append_own_at _ rfl _ _ 59 rfl (w.heap.size + 1 + 1) 27 i0 _ 3 24 Tryz.underlying59 HI.out.1 HI.out.2.1 HI.out.2.2.1 HI.out.2.2.2 rfl (by omega) _ _ _ rfl ZA.out.o ⟨w5.heap.size, 0, none⟩ 1 1 _ rfl rfl NW.out (by intro u hu; simp at hu; rcases hu with rfl | rfl | rfl <;> rfl) (by have := LA.out; unfold maxLen; omega) (by have := LA.out; omega) SZ.out ?_; intro v1 w6 h2 hg _ hat; have H2 := Lib.hid (And.intro h2 (And.intro hg hat)); clear h2 hg hat)
        go_roundw
        case rel => exact ⟨2, by omega, by go_num, trivial, Lib.hid (by rw [HQ.out.1, HQ.out.2]; exact (ZA.out.flip.stepB (p := b) H2.out.1 H2.out.2.1 H2.out.2.2).flip), Lib.hid (FA.out.grown H2.out.2.1 (fun k hk => by have := own_block ZA.out.o hk; refine ⟨by omega, fun q hq => ?_⟩; simp only [List.mem_cons, List.not_mem_nil, or_false] at hq; rcases hq with rfl | rfl <;> simp only <;> omega))⟩
        case measure => simp [intOf]
      · skip
        obtain ⟨q1, q2⟩ := T1.out rfl
        have HQ := Lib.hid (And.intro q1 q2)
        clear q1 q2
        obtain ⟨x0, x1, x2⟩ := (SF.out _ F.out).1.2.1
        have ZA := Lib.hid (Z.out.tch ((Tch.refl [] _).alloc (.cells #[.int .i64 b.x, .int .i64 b.y, .int .i64 b.z] 27)))
        have FA := Lib.hid (F.out.beside (.cells #[.int .i64 b.x, .int .i64 b.y, .int .i64 b.z] 27))
        have NW := Lib.hid (news3 (Below.heap_alloc_new' w5 (.cells #[.int .i64 b.x, .int .i64 b.y, .int .i64 b.z] 27)))
        have LA := Lib.hid ((LN.out 1).1)
        have SZ := Lib.hid (show w.heap.size + 1 + 1 ≤ (w5.alloc (.cells #[.int .i64 b.x, .int .i64 b.y, .int .i64 b.z] 27)).heap.size from by have h := F.out.lt 1 rfl; have e : (w5.alloc (.cells #[.int .i64 b.x, .int .i64 b.y, .int .i64 b.z] 27)).heap.size = w5.heap.size + 1 := (by simp); omega)
        go_wp2_with (at_builtin; refine wpList_append_own_at _ rfl _ _ 59 rfl (w.heap.size + 1 + 1) 27 i0 _ 3 24 Tryz.underlying59 HI.out.1 HI.out.2.1 HI.out.2.2.1 HI.out.2.2.2 rfl (by omega) _ _ _ rfl ZA.out.b ⟨w5.heap.size, 0, none⟩ 1 1 _ rfl rfl NW.out (by intro u hu; simp at hu; rcases hu with rfl | rfl | rfl <;> rfl) (by have := LA.out; unfold maxLen; omega) (by have := LA.out; omega) SZ.out ?_; intro v1 w6 h2 hg _ hat; have H2 := Lib.hid (And.intro h2 (And.intro hg hat)); clear h2 hg hat)
        go_roundw
        case rel => exact ⟨2, by omega, by go_num, trivial, Lib.hid (by rw [HQ.out.1, HQ.out.2]; exact ZA.out.stepB (p := b) H2.out.1 H2.out.2.1 H2.out.2.2), Lib.hid (FA.out.grown H2.out.2.1 (fun k hk => by have := own_block ZA.out.b hk; refine ⟨by omega, fun q hq => ?_⟩; simp only [List.mem_cons, List.not_mem_nil, or_false] at hq; rcases hq with rfl | rfl <;> simp only <;> omega))⟩
        case measure => simp [intOf]
    · go_upto_region 6 with (fail)
      go_region_held3 (fun w' => ((w'.cell? ⟨w.heap.size, 0, none⟩ = some (.int .i64 a.x) ∧ w'.cell? ⟨w.heap.size, 1, none⟩ = some (.int .i64 a.y) ∧ w'.cell? ⟨w.heap.size, 2, none⟩ = some (.int .i64 a.z)) ∧ (w'.cell? ⟨w.heap.size, 3, none⟩ = some (.int .i64 b.x) ∧ w'.cell? ⟨w.heap.size, 4, none⟩ = some (.int .i64 b.y) ∧ w'.cell? ⟨w.heap.size, 5, none⟩ = some (.int .i64 b.z)) ∧ w'.cell? ⟨w.heap.size, 6, none⟩ = some (.int .i64 c.x) ∧ w'.cell? ⟨w.heap.size, 7, none⟩ = some (.int .i64 c.y) ∧ w'.cell? ⟨w.heap.size, 8, none⟩ = some (.int .i64 c.z)) ∧ ((w'.cell? ⟨w.heap.size + 1, 0, none⟩ = some (.int .i64 p.x) ∧ w'.cell? ⟨w.heap.size + 1, 1, none⟩ = some (.int .i64 p.y) ∧ w'.cell? ⟨w.heap.size + 1, 2, none⟩ = some (.int .i64 p.z)) ∧ (w'.cell? ⟨w.heap.size + 1, 3, none⟩ = some (.int .i64 q.x) ∧ w'.cell? ⟨w.heap.size + 1, 4, none⟩ = some (.int .i64 q.y) ∧ w'.cell? ⟨w.heap.size + 1, 5, none⟩ = some (.int .i64 q.z)) ∧ w'.cell? ⟨w.heap.size + 1, 6, none⟩ = some (.int .i64 r.x) ∧ w'.cell? ⟨w.heap.size + 1, 7, none⟩ = some (.int .i64 r.y) ∧ w'.cell? ⟨w.heap.size + 1, 8, none⟩ = some (.int .i64 r.z))) (first | with_reducible exact SF.out _ F.out | with_reducible exact SF.out _ F.out.drew) (first
        | (go_at_call 73; (with_reducible refine (C2.out _).mono ?_); rintro e w5 ⟨rfl, hT⟩; (first | (with_reducible have F := Lib.hid (F.out.keep hT)) | (have F := Lib.hid (F.out.drew.keep hT))); (first | (with_reducible have Z := Lib.hid (Z.out.tch hT)) | (have Z := Lib.hid (Z.out.drew.tch hT))); clear hT)
        | fail)
      all_goals
      cases e2
      · skip
        obtain ⟨q1, q2⟩ := U2.out rfl
        have HQ := Lib.hid (And.intro q1 q2)
        clear q1 q2
        obtain ⟨x0, x1, x2⟩ := (SF.out _ F.out).1.2.2
        have ZA := Lib.hid (Z.out.tch ((Tch.refl [] _).alloc (.cells #[.int .i64 c.x, .int .i64 c.y, .int .i64 c.z] 27)))
        have FA := Lib.hid (F.out.beside (.cells #[.int .i64 c.x, .int .i64 c.y, .int .i64 c.z] 27))
        have NW := Lib.hid (news3 (Below.heap_alloc_new' w5 (.cells #[.int .i64 c.x, .int .i64 c.y, .int .i64 c.z] 27)))
        have LA := Lib.hid ((LN.out 2).2)
        have SZ := Lib.hid (show w.heap.size + 1 + 1 ≤ (w5.alloc (.cells #[.int .i64 c.x, .int .i64 c.y, .int .i64 c.z] 27)).heap.size from by have h := F.out.lt 1 rfl; have e : (w5.alloc (.cells #[.int .i64 c.x, .int .i64 c.y, .int .i64 c.z] 27)).heap.size = w5.heap.size + 1 := (by simp); omega)
        go_wp2_with (at_builtin; refine wpList_append_own_at _ rfl _ _ 59 rfl (w.heap.size + 1 + 1) 27 i0 _ 3 24 Tryz.underlying59 HI.out.1 HI.out.2.1 HI.out.2.2.1 HI.out.2.2.2 rfl (by omega) _ _ _ rfl ZA.out.o ⟨w5.heap.size, 0, none⟩ 1 1 _ rfl rfl NW.out (by intro u hu; simp at hu; rcases hu with rfl | rfl | rfl <;> rfl) (by have := LA.out; unfold maxLen; omega) (by have := LA.out; omega) SZ.out ?_; intro v1 w6 h2 hg _ hat; have H2 := Lib.hid (And.intro h2 (And.intro hg hat)); clear h2 hg hat)
        go_roundw
        case rel => exact ⟨3, by omega, by go_num, trivial, Lib.hid (by rw [HQ.out.1, HQ.out.2]; exact (ZA.out.flip.stepB (p := c) H2.out.1 H2.out.2.1 H2.out.2.2).flip), Lib.hid (FA.out.grown H2.out.2.1 (fun k hk => by have := own_block ZA.out.o hk; refine ⟨by omega, fun q hq => ?_⟩; simp only [List.mem_cons, List.not_mem_nil, or_false] at hq; rcases hq with rfl | rfl <;> simp only <;> omega))⟩
        case measure => simp [intOf]
      · skip
        obtain ⟨q1, q2⟩ := T2.out rfl
        have HQ := Lib.hid (And.intro q1 q2)
        clear q1 q2
        obtain ⟨x0, x1, x2⟩ := (SF.out _ F.out).1.2.2
        have ZA := Lib.hid (Z.out.tch ((Tch.refl [] _).alloc (.cells #[.int .i64 c.x, .int .i64 c.y, .int .i64 c.z] 27)))
        have FA := Lib.hid (F.out.beside (.cells #[.int .i64 c.x, .int .i64 c.y, .int .i64 c.z] 27))
        have NW := Lib.hid (news3 (Below.heap_alloc_new' w5 (.cells #[.int .i64 c.x, .int .i64 c.y, .int .i64 c.z] 27)))
        have LA := Lib.hid ((LN.out 2).1)
        have SZ := Lib.hid (show w.heap.size + 1 + 1 ≤ (w5.alloc (.cells #[.int .i64 c.x, .int .i64 c.y, .int .i64 c.z] 27)).heap.size from by have h := F.out.lt 1 rfl; have e : (w5.alloc (.cells #[.int .i64 c.x, .int .i64 c.y, .int .i64 c.z] 27)).heap.size = w5.heap.size + 1 := (by simp); omega)
        go_wp2_with (at_builtin; refine wpList_append_own_at _ rfl _ _ 59 rfl (w.heap.size + 1 + 1) 27 i0 _ 3 24 Tryz.underlying59 HI.out.1 HI.out.2.1 HI.out.2.2.1 HI.out.2.2.2 rfl (by omega) _ _ _ rfl ZA.out.b ⟨w5.heap.size, 0, none⟩ 1 1 _ rfl rfl NW.out (by intro u hu; simp at hu; rcases hu with rfl | rfl | rfl <;> rfl) (by have := LA.out; unfold maxLen; omega) (by have := LA.out; omega) SZ.out ?_; intro v1 w6 h2 hg _ hat; have H2 := Lib.hid (And.intro h2 (And.intro hg hat)); clear h2 hg hat)
        go_roundw
        case rel => exact ⟨3, by omega, by go_num, trivial, Lib.hid (by rw [HQ.out.1, HQ.out.2]; exact ZA.out.stepB (p := c) H2.out.1 H2.out.2.1 H2.out.2.2), Lib.hid (FA.out.grown H2.out.2.1 (fun k hk => by have := own_block ZA.out.b hk; refine ⟨by omega, fun q hq => ?_⟩; simp only [List.mem_cons, List.not_mem_nil, or_false] at hq; rcases hq with rfl | rfl <;> simp only <;> omega))⟩
        case measure => simp [intOf]
    · go_wp2
      go_ret2
      exact ⟨_, _, rfl, Z.out, F.out.t⟩

end Go.Proofs.YtandlbacjfdkpaaGreatDoor
