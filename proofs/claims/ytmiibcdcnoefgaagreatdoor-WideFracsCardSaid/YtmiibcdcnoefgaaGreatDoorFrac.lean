/- wide.Frac. -/
import Derived.Test.YtmiibcdcnoefgaaGreatDoorFr
namespace Go.Proofs.YtmiibcdcnoefgaaGreatDoor
open Go.RowKit Dg

/-- What n and d are divided by: their greatest common divisor, with the sign of d. -/
def fgc (n d : Int) : Int := if d < 0 then -(Int.gcd n d : Int) else (Int.gcd n d : Int)

/-- A fraction of two integers as it lies in memory. -/
def frv (n d : Int) : Value := .agg #[.bool (decide (n < 0)), .string (mo n.natAbs), .bool (decide (d < 0)), .string (mo d.natAbs)]

/-- What Frac answers. -/
def fracV (n d : Int) : Value :=
  if d = 0 then .tuple #[.agg #[.bool false, .string ⟨#[]⟩, .bool false, .string ⟨#[]⟩], .bool false]
  else .tuple #[frv (n.tdiv (fgc n d)) (d.tdiv (fgc n d)), .bool true]

theorem fgc_ne {n d : Int} (h : d ≠ 0) : fgc n d ≠ 0 := by
  have hg : 0 < Int.gcd n d := Int.gcd_pos_of_ne_zero_right n h
  unfold fgc; split <;> omega

theorem gcd_le {n d : Int} (h : d ≠ 0) : Int.gcd n d ≤ d.natAbs := Nat.le_of_dvd (by omega) (Nat.gcd_dvd_right _ _)

/-- The boxes of Frac: both parameters, the result, the divisor. -/
structure FrS (w0 w : World) (A G : Nat) (n0 n1 d0 d1 g0 g1 : Value) : Prop where
  b : Bs w A [.cells #[n0, n1] 28 (0, 0), .cells #[d0, d1] 28 (0, 0), .cells #[.bool false, .string ⟨#[]⟩, .bool false, .string ⟨#[]⟩] 30 (0, 0)]
  g : Bs w G [.cells #[g0, g1] 28 (0, 0)]
  le : A + 3 ≤ G
  base : w0.heap.size = A
  t : Tch [] w0 w

section
variable {w0 w w' : World} {A G : Nat} {n0 n1 d0 d1 g0 g1 : Value}

theorem FrS.keep (h : FrS w0 w A G n0 n1 d0 d1 g0 g1) (t : Tch [] w w') : FrS w0 w' A G n0 n1 d0 d1 g0 g1 := ⟨h.b.keep t, h.g.keep t, h.le, h.base, h.t.trans t (by simp)⟩

theorem Bs.apart {L : List Obj} (h : Bs w A L) {p : Addr} (u : Value) (hp : p.block < A ∨ A + L.length ≤ p.block) : Bs (w.setCell p u) A L :=
  ⟨fun i o hi => by
    have hl : i < L.length := (List.getElem?_eq_some_iff.1 hi).1
    rw [heap_setCell_other w p (A + i) u (by omega)]
    exact h.row i o hi⟩

theorem FrS.setn (h : FrS w0 w A G n0 n1 d0 d1 g0 g1) (x y : Value) : FrS w0 ((w.setCell ⟨A, 0, none⟩ x).setCell ⟨A, 1, none⟩ y) A G x y d0 d1 g0 g1 :=
  ⟨(h.b.set 0 0 x rfl).set 0 1 y rfl, (h.g.apart _ (.inl (by have := h.le; simp; omega))).apart _ (.inl (by have := h.le; simp; omega)), h.le, h.base,
    (h.t.setCell (.inr (by have := h.base; simp; omega)) _).setCell (.inr (by have := h.base; simp; omega)) _⟩
theorem FrS.setd (h : FrS w0 w A G n0 n1 d0 d1 g0 g1) (x y : Value) : FrS w0 ((w.setCell ⟨A + 1, 0, none⟩ x).setCell ⟨A + 1, 1, none⟩ y) A G n0 n1 x y g0 g1 :=
  ⟨(h.b.set 1 0 x rfl).set 1 1 y rfl, (h.g.apart _ (.inl (by have := h.le; simp; omega))).apart _ (.inl (by have := h.le; simp; omega)), h.le, h.base,
    (h.t.setCell (.inr (by have := h.base; simp; omega)) _).setCell (.inr (by have := h.base; simp; omega)) _⟩
theorem FrS.setg (h : FrS w0 w A G n0 n1 d0 d1 g0 g1) (x y : Value) : FrS w0 ((w.setCell ⟨G, 0, none⟩ x).setCell ⟨G, 1, none⟩ y) A G n0 n1 d0 d1 x y :=
  ⟨(h.b.apart _ (.inr (by have := h.le; simp; omega))).apart _ (.inr (by have := h.le; simp; omega)), (h.g.set 0 0 x rfl).set 0 1 y rfl, h.le, h.base,
    (h.t.setCell (.inr (by have := h.base; have := h.le; simp; omega)) _).setCell (.inr (by have := h.base; have := h.le; simp; omega)) _⟩

theorem FrS.cells (h : FrS w0 w A G n0 n1 d0 d1 g0 g1) : (w.cell? ⟨A, 0, none⟩ = some n0 ∧ w.cell? ⟨A, 1, none⟩ = some n1) ∧ (w.cell? ⟨A + 1, 0, none⟩ = some d0 ∧ w.cell? ⟨A + 1, 1, none⟩ = some d1) ∧ (w.cell? ⟨G, 0, none⟩ = some g0 ∧ w.cell? ⟨G, 1, none⟩ = some g1) :=
  ⟨⟨h.b.cell 0 0 rfl rfl, h.b.cell 0 1 rfl rfl⟩, ⟨h.b.cell 1 0 rfl rfl, h.b.cell 1 1 rfl rfl⟩, ⟨h.g.cell 0 0 rfl rfl, h.g.cell 0 1 rfl rfl⟩⟩

theorem FrS.frozen (h : FrS w0 w A G n0 n1 d0 d1 g0 g1) : (w.frozen? ⟨A, 0, none⟩ = false ∧ w.frozen? ⟨A, 1, none⟩ = false) ∧ (w.frozen? ⟨A + 1, 0, none⟩ = false ∧ w.frozen? ⟨A + 1, 1, none⟩ = false) ∧ (w.frozen? ⟨G, 0, none⟩ = false ∧ w.frozen? ⟨G, 1, none⟩ = false) :=
  ⟨⟨h.b.frozen 0 0 rfl, h.b.frozen 0 1 rfl⟩, ⟨h.b.frozen 1 0 rfl, h.b.frozen 1 1 rfl⟩, ⟨h.g.frozen 0 0 rfl, h.g.frozen 0 1 rfl⟩⟩

theorem FrS.res (h : FrS w0 w A G n0 n1 d0 d1 g0 g1) : (w.cell? ⟨A + 1 + 1, 0, none⟩ = some (.bool false) ∧ w.cell? ⟨A + 1 + 1, 1, none⟩ = some (.string ⟨#[]⟩) ∧ w.cell? ⟨A + 1 + 1, 2, none⟩ = some (.bool false) ∧ w.cell? ⟨A + 1 + 1, 3, none⟩ = some (.string ⟨#[]⟩)) ∧
    (w.frozen? ⟨A + 1 + 1, 0, none⟩ = false ∧ w.frozen? ⟨A + 1 + 1, 1, none⟩ = false ∧ w.frozen? ⟨A + 1 + 1, 2, none⟩ = false ∧ w.frozen? ⟨A + 1 + 1, 3, none⟩ = false) :=
  ⟨⟨h.b.cell 2 0 rfl rfl, h.b.cell 2 1 rfl rfl, h.b.cell 2 2 rfl rfl, h.b.cell 2 3 rfl rfl⟩, ⟨h.b.frozen 2 0 rfl, h.b.frozen 2 1 rfl, h.b.frozen 2 2 rfl, h.b.frozen 2 3 rfl⟩⟩

theorem FrS.fin (h : FrS w0 w A G n0 n1 d0 d1 g0 g1) (a b c d : Value) : Tch [] w0 ((((w.setCell ⟨A + 1 + 1, 0, none⟩ a).setCell ⟨A + 1 + 1, 1, none⟩ b).setCell ⟨A + 1 + 1, 2, none⟩ c).setCell ⟨A + 1 + 1, 3, none⟩ d) := by
  have hb := h.base
  exact (((h.t.setCell (.inr (by simp; omega)) _).setCell (.inr (by simp; omega)) _).setCell (.inr (by simp; omega)) _).setCell (.inr (by simp; omega)) _
end

/-- The boxes at the beginning, and behind the first call. -/
theorem FrS.first {na nb : Bool} {sa sc : ByteArray} {g0 g1 : Value} {w w1 : World}
    (h : Tch [] (((w.alloc (.cells #[.bool na, .string sa] 28)).alloc (.cells #[.bool nb, .string sc] 28)).alloc (.cells #[.bool false, .string ⟨#[]⟩, .bool false, .string ⟨#[]⟩] 30)) w1) :
    FrS w (w1.alloc (.cells #[g0, g1] 28)) w.heap.size w1.heap.size (.bool na) (.string sa) (.bool nb) (.string sc) g0 g1 := by
  have h0 := (((Bs.nil w).alloc (by simp) (.cells #[.bool na, .string sa] 28)).alloc (by simp) (.cells #[.bool nb, .string sc] 28)).alloc (by simp) (.cells #[.bool false, .string ⟨#[]⟩, .bool false, .string ⟨#[]⟩] 30)
  refine ⟨(h0.keep h).beside _, ?_, ?_, rfl, ((((Tch.refl [] w).alloc _).alloc _).alloc _ |>.trans h (by simp)).alloc _⟩
  · exact ((Bs.nil w1).alloc (by simp) _)
  · have := h.size; simp at this; omega

set_option maxHeartbeats 4000000 in
set_option maxRecDepth 100000 in
theorem Frac {na nb : Bool} {sa sc : ByteArray} {x y : Int} (hx : Rep 400000 na sa x) (hy : Rep 400000 nb sc y) (w : World) :
    Calls Tryz.prog 6 #[.agg #[.bool na, .string sa], .agg #[.bool nb, .string sc]] w fun e w' => e = .returned (fracV x y) ∧ Tch [] w w' := by
  have hG := fun w1 => ZGcd hx hy w1
  have hS := fun w1 => ZSign hy.val w1
  obtain ⟨bg, sg, eg⟩ : ∃ bg sg, wz (Int.gcd x y : Int) = .agg #[.bool bg, .string sg] := ⟨_, _, wz_mo _⟩
  rw [eg] at hG
  have CG := Lib.hid hG
  have EG := Lib.hid eg
  have HX := Lib.hid hx
  have HY := Lib.hid hy
  rcases Int.lt_trichotomy y 0 with hn | hz | hp
  · have hs : y.sign = -1 := Int.sign_eq_neg_one_of_neg hn
    rw [hs] at hS
    have CS := Lib.hid hS
    have hgr : Rep 400000 bg sg (Int.gcd x y : Int) := by
      have h1 := wz_mo (Int.gcd x y : Int)
      rw [eg] at h1
      simp only [Value.agg.injEq, Array.mk.injEq, List.cons.injEq, Value.bool.injEq, Value.string.injEq, and_true] at h1
      rw [h1.1, h1.2]
      exact Rep.mo (Nat.lt_of_le_of_lt (by simpa using gcd_le (n := x) (by omega)) hy.lt)
    have hN := fun w1 => ZNeg (hgr.mono (L := 1000000) (by omega)) w1
    obtain ⟨bh, sh, eh⟩ : ∃ bh sh, wz (-(Int.gcd x y : Int)) = .agg #[.bool bh, .string sh] := ⟨_, _, wz_mo _⟩
    have hhr : Rep 400000 bh sh (-(Int.gcd x y : Int)) := by
      have h1 := wz_mo (-(Int.gcd x y : Int))
      rw [eh] at h1
      simp only [Value.agg.injEq, Array.mk.injEq, List.cons.injEq, Value.bool.injEq, Value.string.injEq, and_true] at h1
      rw [h1.1, h1.2]
      exact Rep.mo (Nat.lt_of_le_of_lt (by simpa using gcd_le (n := x) (by omega)) hy.lt)
    rw [eh] at hN
    have CN := Lib.hid hN
    have hf : fgc x y = -(Int.gcd x y : Int) := by unfold fgc; rw [if_pos hn]
    have hf0 : -(Int.gcd x y : Int) ≠ 0 := by rw [← hf]; exact fgc_ne (by omega)
    obtain ⟨b1, s1, e1⟩ : ∃ b1 s1, wz (x.tdiv (-(Int.gcd x y : Int))) = .agg #[.bool b1, .string s1] := ⟨_, _, wz_mo _⟩
    obtain ⟨b2, s2, e2⟩ : ∃ b2 s2, wz (y.tdiv (-(Int.gcd x y : Int))) = .agg #[.bool b2, .string s2] := ⟨_, _, wz_mo _⟩
    obtain ⟨b3, s3, e3⟩ : ∃ b3 s3, wz (x.tmod (-(Int.gcd x y : Int))) = .agg #[.bool b3, .string s3] := ⟨_, _, wz_mo _⟩
    obtain ⟨b4, s4, e4⟩ : ∃ b4 s4, wz (y.tmod (-(Int.gcd x y : Int))) = .agg #[.bool b4, .string s4] := ⟨_, _, wz_mo _⟩
    have hQ1 := fun w1 => ZQuo hx hhr w1
    have hQ2 := fun w1 => ZQuo hy hhr w1
    unfold zquoV at hQ1 hQ2
    rw [if_neg hf0, e1, e3] at hQ1
    rw [if_neg hf0, e2, e4] at hQ2
    have CQ1 := Lib.hid hQ1
    have CQ2 := Lib.hid hQ2
    have HV : Hid (fracV x y = .tuple #[.agg #[.bool b1, .string s1, .bool b2, .string s2], .bool true]) := by
      refine Lib.hid ?_
      rw [wz_mo] at e1 e2
      simp only [Value.agg.injEq, Array.mk.injEq, List.cons.injEq, Value.bool.injEq, Value.string.injEq, and_true] at e1 e2
      unfold fracV frv
      rw [if_neg (by omega), hf, e1.1, e1.2, e2.1, e2.2]
    clear hG hS eg hs hgr hN eh hhr hf hf0 e1 e2 e3 e4 hQ1 hQ2 hn hx hy
    go_enter Tryz.func6, Tryz.ntmps6
    go_wp2_with fail
    refine (CG.out _).mono ?_
    rintro e w1 ⟨rfl, hT1⟩
    have F1 := Lib.hid (FrS.first (g0 := .bool bg) (g1 := .string sg) hT1)
    clear hT1
    obtain ⟨A, hA⟩ : ∃ A, A = w.heap.size := ⟨_, rfl⟩
    obtain ⟨G, hG⟩ : ∃ G, G = w1.heap.size := ⟨_, rfl⟩
    rw [← hA] at F1 ⊢
    rw [← hG] at F1
    have HA := Lib.hid hA
    have HG := Lib.hid hG
    clear hA hG
    have hc := F1.out.cells
    obtain ⟨_, ⟨d0, d1⟩, _⟩ := hc
    go_wp2_with fail
    rw [← HG.out]
    refine (CS.out _).mono ?_
    rintro e w2 ⟨rfl, hT2⟩
    have F2 := Lib.hid (F1.out.keep hT2)
    clear hT2 d0 d1
    obtain ⟨_, _, ⟨g0, g1⟩⟩ := F2.out.cells
    obtain ⟨_, _, ⟨fg0, fg1⟩⟩ := F2.out.frozen
    go_wp2_with fail
    refine (CN.out _).mono ?_
    rintro e w3 ⟨rfl, hT3⟩
    clear g0 g1 fg0 fg1
    have F3 := Lib.hid (F2.out.keep hT3)
    have F3b := Lib.hid (F3.out.setg (.bool bh) (.string sh))
    clear hT3
    obtain ⟨_, _, ⟨g0, g1⟩⟩ := F3.out.cells
    obtain ⟨_, _, ⟨fg0, fg1⟩⟩ := F3.out.frozen
    obtain ⟨⟨n0, n1⟩, _, ⟨h0, h1⟩⟩ := F3b.out.cells
    go_wp2_with fail
    refine (CQ1.out _).mono ?_
    rintro e w4 ⟨rfl, hT4⟩
    clear n0 n1 g0 g1 fg0 fg1 h0 h1
    have F4 := Lib.hid (F3b.out.keep hT4)
    have F4b := Lib.hid (F4.out.setn (.bool b1) (.string s1))
    clear hT4
    obtain ⟨⟨n0, n1⟩, _, _⟩ := F4.out.cells
    obtain ⟨⟨fn0, fn1⟩, _, _⟩ := F4.out.frozen
    obtain ⟨_, ⟨d0, d1⟩, ⟨g0, g1⟩⟩ := F4b.out.cells
    go_wp2_with fail
    refine (CQ2.out _).mono ?_
    rintro e w5 ⟨rfl, hT5⟩
    clear n0 n1 g0 g1 d0 d1 fn0 fn1
    have F5 := Lib.hid (F4b.out.keep hT5)
    have F5b := Lib.hid (F5.out.setd (.bool b2) (.string s2))
    clear hT5
    obtain ⟨_, ⟨d0, d1⟩, _⟩ := F5.out.cells
    obtain ⟨_, ⟨fd0, fd1⟩, _⟩ := F5.out.frozen
    obtain ⟨⟨n0, n1⟩, ⟨k0, k1⟩, _⟩ := F5b.out.cells
    obtain ⟨⟨r0, r1, r2, r3⟩, ⟨fr0, fr1, fr2, fr3⟩⟩ := F5b.out.res
    go_wp2
    refine bodyPost_ret (v := .tuple #[.agg #[.bool b1, .string s1, .bool b2, .string s2], .bool true]) (by simp [results, Tryz.results6, go_sem, r0, r1, r2, r3]) rfl ⟨by rw [HV.out], ?_⟩
    exact (F5b.out.fin _ _ _ _)
  · have hs : y.sign = 0 := by rw [hz]; rfl
    rw [hs] at hS
    have CS := Lib.hid hS
    have HV : Hid (fracV x y = .tuple #[.agg #[.bool false, .string ⟨#[]⟩, .bool false, .string ⟨#[]⟩], .bool false]) := Lib.hid (by unfold fracV; rw [if_pos hz])
    clear hG hS eg hs hz hx hy
    go_enter Tryz.func6, Tryz.ntmps6
    go_wp2_with fail
    refine (CG.out _).mono ?_
    rintro e w1 ⟨rfl, hT1⟩
    have F1 := Lib.hid (FrS.first (g0 := .bool bg) (g1 := .string sg) hT1)
    clear hT1
    obtain ⟨A, hA⟩ : ∃ A, A = w.heap.size := ⟨_, rfl⟩
    obtain ⟨G, hG⟩ : ∃ G, G = w1.heap.size := ⟨_, rfl⟩
    rw [← hA] at F1 ⊢
    rw [← hG] at F1
    have HA := Lib.hid hA
    have HG := Lib.hid hG
    clear hA hG
    have hc := F1.out.cells
    obtain ⟨_, ⟨d0, d1⟩, _⟩ := hc
    go_wp2_with fail
    rw [← HG.out]
    refine (CS.out _).mono ?_
    rintro e w2 ⟨rfl, hT2⟩
    have F2 := Lib.hid (F1.out.keep hT2)
    clear hT2 d0 d1
    obtain ⟨⟨r0, r1, r2, r3⟩, ⟨fr0, fr1, fr2, fr3⟩⟩ := F2.out.res
    go_wp2
    refine bodyPost_ret (v := .tuple #[.agg #[.bool false, .string ⟨#[]⟩, .bool false, .string ⟨#[]⟩], .bool false]) (by simp [results, Tryz.results6, go_sem, r0, r1, r2, r3]) rfl ⟨by rw [HV.out], ?_⟩
    exact (F2.out.fin _ _ _ _)
  · have hs : y.sign = 1 := Int.sign_eq_one_of_pos hp
    rw [hs] at hS
    have CS := Lib.hid hS
    have hgr : Rep 400000 bg sg (Int.gcd x y : Int) := by
      have h1 := wz_mo (Int.gcd x y : Int)
      rw [eg] at h1
      simp only [Value.agg.injEq, Array.mk.injEq, List.cons.injEq, Value.bool.injEq, Value.string.injEq, and_true] at h1
      rw [h1.1, h1.2]
      exact Rep.mo (Nat.lt_of_le_of_lt (by simpa using gcd_le (n := x) (by omega)) hy.lt)
    have hf : fgc x y = (Int.gcd x y : Int) := by unfold fgc; rw [if_neg (by omega)]
    have hf0 : (Int.gcd x y : Int) ≠ 0 := by rw [← hf]; exact fgc_ne (by omega)
    obtain ⟨b1, s1, e1⟩ : ∃ b1 s1, wz (x.tdiv ((Int.gcd x y : Int))) = .agg #[.bool b1, .string s1] := ⟨_, _, wz_mo _⟩
    obtain ⟨b2, s2, e2⟩ : ∃ b2 s2, wz (y.tdiv ((Int.gcd x y : Int))) = .agg #[.bool b2, .string s2] := ⟨_, _, wz_mo _⟩
    obtain ⟨b3, s3, e3⟩ : ∃ b3 s3, wz (x.tmod ((Int.gcd x y : Int))) = .agg #[.bool b3, .string s3] := ⟨_, _, wz_mo _⟩
    obtain ⟨b4, s4, e4⟩ : ∃ b4 s4, wz (y.tmod ((Int.gcd x y : Int))) = .agg #[.bool b4, .string s4] := ⟨_, _, wz_mo _⟩
    have hQ1 := fun w1 => ZQuo hx hgr w1
    have hQ2 := fun w1 => ZQuo hy hgr w1
    unfold zquoV at hQ1 hQ2
    rw [if_neg hf0, e1, e3] at hQ1
    rw [if_neg hf0, e2, e4] at hQ2
    have CQ1 := Lib.hid hQ1
    have CQ2 := Lib.hid hQ2
    have HV : Hid (fracV x y = .tuple #[.agg #[.bool b1, .string s1, .bool b2, .string s2], .bool true]) := by
      refine Lib.hid ?_
      rw [wz_mo] at e1 e2
      simp only [Value.agg.injEq, Array.mk.injEq, List.cons.injEq, Value.bool.injEq, Value.string.injEq, and_true] at e1 e2
      unfold fracV frv
      rw [if_neg (by omega), hf, e1.1, e1.2, e2.1, e2.2]
    clear hG hS eg hs hgr hf hf0 e1 e2 e3 e4 hQ1 hQ2 hp hx hy
    go_enter Tryz.func6, Tryz.ntmps6
    go_wp2_with fail
    refine (CG.out _).mono ?_
    rintro e w1 ⟨rfl, hT1⟩
    have F1 := Lib.hid (FrS.first (g0 := .bool bg) (g1 := .string sg) hT1)
    clear hT1
    obtain ⟨A, hA⟩ : ∃ A, A = w.heap.size := ⟨_, rfl⟩
    obtain ⟨G, hG⟩ : ∃ G, G = w1.heap.size := ⟨_, rfl⟩
    rw [← hA] at F1 ⊢
    rw [← hG] at F1
    have HA := Lib.hid hA
    have HG := Lib.hid hG
    clear hA hG
    have hc := F1.out.cells
    obtain ⟨_, ⟨d0, d1⟩, _⟩ := hc
    go_wp2_with fail
    rw [← HG.out]
    refine (CS.out _).mono ?_
    rintro e w2 ⟨rfl, hT2⟩
    have F2 := Lib.hid (F1.out.keep hT2)
    clear hT2 d0 d1
    obtain ⟨⟨n0, n1⟩, _, ⟨g0, g1⟩⟩ := F2.out.cells
    go_wp2_with fail
    refine (CQ1.out _).mono ?_
    rintro e w4 ⟨rfl, hT4⟩
    clear n0 n1 g0 g1
    have F4 := Lib.hid (F2.out.keep hT4)
    have F4b := Lib.hid (F4.out.setn (.bool b1) (.string s1))
    clear hT4
    obtain ⟨⟨n0, n1⟩, _, _⟩ := F4.out.cells
    obtain ⟨⟨fn0, fn1⟩, _, _⟩ := F4.out.frozen
    obtain ⟨_, ⟨d0, d1⟩, ⟨g0, g1⟩⟩ := F4b.out.cells
    go_wp2_with fail
    refine (CQ2.out _).mono ?_
    rintro e w5 ⟨rfl, hT5⟩
    clear n0 n1 g0 g1 d0 d1 fn0 fn1
    have F5 := Lib.hid (F4b.out.keep hT5)
    have F5b := Lib.hid (F5.out.setd (.bool b2) (.string s2))
    clear hT5
    obtain ⟨_, ⟨d0, d1⟩, _⟩ := F5.out.cells
    obtain ⟨_, ⟨fd0, fd1⟩, _⟩ := F5.out.frozen
    obtain ⟨⟨n0, n1⟩, ⟨k0, k1⟩, _⟩ := F5b.out.cells
    obtain ⟨⟨r0, r1, r2, r3⟩, ⟨fr0, fr1, fr2, fr3⟩⟩ := F5b.out.res
    go_wp2
    refine bodyPost_ret (v := .tuple #[.agg #[.bool b1, .string s1, .bool b2, .string s2], .bool true]) (by simp [results, Tryz.results6, go_sem, r0, r1, r2, r3]) rfl ⟨by rw [HV.out], ?_⟩
    exact (F5b.out.fin _ _ _ _)

end Go.Proofs.YtmiibcdcnoefgaaGreatDoor
