/- The walk of WideFracRules. -/
import Derived.Test.YtjknmcmniemigaaDoorQ
import Derived.Test.YtjknmcmniemigaaDoorFraW
import Derived.Test.YtjknmcmniemigaaDoorSan
import Derived.Deep.DeepCutAuto
namespace Go.Proofs.YtjknmcmniemigaaDoor
open Go.RowKit Dg

/-- What the functions answer at three fractions. -/
structure FcC (a1 a2 a3 d1 d2 d3 : Bool) (s1 s2 s3 t1 t2 t3 : ByteArray) (M AB ABC BC P PC QBC D AC AM SAC : Bool × ByteArray × Bool × ByteArray) (sg : Int) : Prop where
  c1 : ∀ w, Calls Tryd.prog 42 #[.agg #[.bool a1, .string s1, .bool d1, .string t1], .agg #[.bool a2, .string s2, .bool d2, .string t2]] w fun e w' => e = .returned (.agg #[.bool AB.1, .string AB.2.1, .bool AB.2.2.1, .string AB.2.2.2]) ∧ Tch [] w w'
  c2 : ∀ w, Calls Tryd.prog 42 #[.agg #[.bool a2, .string s2, .bool d2, .string t2], .agg #[.bool a1, .string s1, .bool d1, .string t1]] w fun e w' => e = .returned (.agg #[.bool AB.1, .string AB.2.1, .bool AB.2.2.1, .string AB.2.2.2]) ∧ Tch [] w w'
  c3 : ∀ w, Calls Tryd.prog 42 #[.agg #[.bool AB.1, .string AB.2.1, .bool AB.2.2.1, .string AB.2.2.2], .agg #[.bool a3, .string s3, .bool d3, .string t3]] w fun e w' => e = .returned (.agg #[.bool ABC.1, .string ABC.2.1, .bool ABC.2.2.1, .string ABC.2.2.2]) ∧ Tch [] w w'
  c4 : ∀ w, Calls Tryd.prog 42 #[.agg #[.bool a2, .string s2, .bool d2, .string t2], .agg #[.bool a3, .string s3, .bool d3, .string t3]] w fun e w' => e = .returned (.agg #[.bool BC.1, .string BC.2.1, .bool BC.2.2.1, .string BC.2.2.2]) ∧ Tch [] w w'
  c5 : ∀ w, Calls Tryd.prog 42 #[.agg #[.bool a1, .string s1, .bool d1, .string t1], .agg #[.bool BC.1, .string BC.2.1, .bool BC.2.2.1, .string BC.2.2.2]] w fun e w' => e = .returned (.agg #[.bool ABC.1, .string ABC.2.1, .bool ABC.2.2.1, .string ABC.2.2.2]) ∧ Tch [] w w'
  c6 : ∀ w, Calls Tryd.prog 41 #[.agg #[.bool a1, .string s1, .bool d1, .string t1], .agg #[.bool a2, .string s2, .bool d2, .string t2]] w fun e w' => e = .returned (.agg #[.bool P.1, .string P.2.1, .bool P.2.2.1, .string P.2.2.2]) ∧ Tch [] w w'
  c7 : ∀ w, Calls Tryd.prog 41 #[.agg #[.bool a2, .string s2, .bool d2, .string t2], .agg #[.bool a1, .string s1, .bool d1, .string t1]] w fun e w' => e = .returned (.agg #[.bool P.1, .string P.2.1, .bool P.2.2.1, .string P.2.2.2]) ∧ Tch [] w w'
  c8 : ∀ w, Calls Tryd.prog 41 #[.agg #[.bool P.1, .string P.2.1, .bool P.2.2.1, .string P.2.2.2], .agg #[.bool a3, .string s3, .bool d3, .string t3]] w fun e w' => e = .returned (.agg #[.bool PC.1, .string PC.2.1, .bool PC.2.2.1, .string PC.2.2.2]) ∧ Tch [] w w'
  c9 : ∀ w, Calls Tryd.prog 41 #[.agg #[.bool a2, .string s2, .bool d2, .string t2], .agg #[.bool a3, .string s3, .bool d3, .string t3]] w fun e w' => e = .returned (.agg #[.bool QBC.1, .string QBC.2.1, .bool QBC.2.2.1, .string QBC.2.2.2]) ∧ Tch [] w w'
  c10 : ∀ w, Calls Tryd.prog 41 #[.agg #[.bool a1, .string s1, .bool d1, .string t1], .agg #[.bool QBC.1, .string QBC.2.1, .bool QBC.2.2.1, .string QBC.2.2.2]] w fun e w' => e = .returned (.agg #[.bool PC.1, .string PC.2.1, .bool PC.2.2.1, .string PC.2.2.2]) ∧ Tch [] w w'
  c11 : ∀ w, Calls Tryd.prog 41 #[.agg #[.bool a1, .string s1, .bool d1, .string t1], .agg #[.bool BC.1, .string BC.2.1, .bool BC.2.2.1, .string BC.2.2.2]] w fun e w' => e = .returned (.agg #[.bool D.1, .string D.2.1, .bool D.2.2.1, .string D.2.2.2]) ∧ Tch [] w w'
  c12 : ∀ w, Calls Tryd.prog 41 #[.agg #[.bool a1, .string s1, .bool d1, .string t1], .agg #[.bool a3, .string s3, .bool d3, .string t3]] w fun e w' => e = .returned (.agg #[.bool AC.1, .string AC.2.1, .bool AC.2.2.1, .string AC.2.2.2]) ∧ Tch [] w w'
  c13 : ∀ w, Calls Tryd.prog 42 #[.agg #[.bool P.1, .string P.2.1, .bool P.2.2.1, .string P.2.2.2], .agg #[.bool AC.1, .string AC.2.1, .bool AC.2.2.1, .string AC.2.2.2]] w fun e w' => e = .returned (.agg #[.bool D.1, .string D.2.1, .bool D.2.2.1, .string D.2.2.2]) ∧ Tch [] w w'
  c14 : ∀ w, Calls Tryd.prog 43 #[.agg #[.bool a1, .string s1, .bool d1, .string t1], .agg #[.bool a2, .string s2, .bool d2, .string t2]] w fun e w' => e = .returned (.int .i64 sg) ∧ Tch [] w w'
  c15 : ∀ w, Calls Tryd.prog 42 #[.agg #[.bool a1, .string s1, .bool d1, .string t1], .agg #[.bool M.1, .string M.2.1, .bool M.2.2.1, .string M.2.2.2]] w fun e w' => e = .returned (.agg #[.bool AM.1, .string AM.2.1, .bool AM.2.2.1, .string AM.2.2.2]) ∧ Tch [] w w'
  c16 : ∀ w, Calls Tryd.prog 20 #[.agg #[.bool AM.1, .string AM.2.1]] w fun e w' => e = .returned (.int .i64 sg) ∧ Tch [] w w'
  c17 : ∀ w, Calls Tryd.prog 42 #[.agg #[.bool a1, .string s1, .bool d1, .string t1], .agg #[.bool a3, .string s3, .bool d3, .string t3]] w fun e w' => e = .returned (.agg #[.bool SAC.1, .string SAC.2.1, .bool SAC.2.2.1, .string SAC.2.2.2]) ∧ Tch [] w w'
  c18 : ∀ w, Calls Tryd.prog 43 #[.agg #[.bool SAC.1, .string SAC.2.1, .bool SAC.2.2.1, .string SAC.2.2.2], .agg #[.bool BC.1, .string BC.2.1, .bool BC.2.2.1, .string BC.2.2.2]] w fun e w' => e = .returned (.int .i64 sg) ∧ Tch [] w w'
  c19 : ∀ w, Calls Tryd.prog 41 #[.agg #[.bool a2, .string s2, .bool d2, .string t2], .agg #[.bool true, .string ⟨#[1]⟩, .bool false, .string ⟨#[1]⟩]] w fun e w' => e = .returned (.agg #[.bool M.1, .string M.2.1, .bool M.2.2.1, .string M.2.2.2]) ∧ Tch [] w w'

theorem FcC.mk' {a1 a2 a3 d1 d2 d3 : Bool} {s1 s2 s3 t1 t2 t3 : ByteArray} (h1 : s1.size ≤ 40) (h2 : s2.size ≤ 40) (h3 : s3.size ≤ 40) (g1 : t1.size ≤ 40) (g2 : t2.size ≤ 40) (g3 : t3.size ≤ 40) :
    ∃ M AB ABC BC P PC QBC D AC AM SAC sg, FcC a1 a2 a3 d1 d2 d3 s1 s2 s3 t1 t2 t3 M AB ABC BC P PC QBC D AC AM SAC sg := by
  obtain ⟨q1, r1⟩ := RQ.of (K := 40) (b := a1) (s := s1) (c := d1) (t := t1) ⟨rfl, h1⟩ ⟨rfl, g1⟩
  obtain ⟨q2, r2⟩ := RQ.of (K := 40) (b := a2) (s := s2) (c := d2) (t := t2) ⟨rfl, h2⟩ ⟨rfl, g2⟩
  obtain ⟨q3, r3⟩ := RQ.of (K := 40) (b := a3) (s := s3) (c := d3) (t := t3) ⟨rfl, h3⟩ ⟨rfl, g3⟩
  have rm : RQ 40 true ⟨#[1]⟩ false ⟨#[1]⟩ (Rat.divInt (-1) 1) := RQ.lits ⟨by decide, by decide⟩ ⟨by decide, by decide⟩ (by decide)
  obtain ⟨m, hm⟩ : ∃ m, m = Rat.divInt (-1) 1 := ⟨_, rfl⟩
  have hm1 : m = -1 := by rw [hm]; rfl
  rw [← hm] at rm
  clear hm
  obtain ⟨M, eM⟩ := frQ_ex (q2 * m)
  obtain ⟨AB, eAB⟩ := frQ_ex (q1 + q2)
  obtain ⟨ABC, eABC⟩ := frQ_ex (q1 + q2 + q3)
  obtain ⟨BC, eBC⟩ := frQ_ex (q2 + q3)
  obtain ⟨P, eP⟩ := frQ_ex (q1 * q2)
  obtain ⟨PC, ePC⟩ := frQ_ex (q1 * q2 * q3)
  obtain ⟨QBC, eQBC⟩ := frQ_ex (q2 * q3)
  obtain ⟨D, eD⟩ := frQ_ex (q1 * (q2 + q3))
  obtain ⟨AC, eAC⟩ := frQ_ex (q1 * q3)
  obtain ⟨AM, eAM⟩ := frQ_ex (q1 - q2)
  obtain ⟨SAC, eSAC⟩ := frQ_ex (q1 + q3)
  have xAB := QAdd (by decide) (by decide) r1 r2
  have xBC := QAdd (by decide) (by decide) r2 r3
  have xSAC := QAdd (by decide) (by decide) r1 r3
  have xP := QMul (by decide) (by decide) r1 r2
  have xQ := QMul (by decide) (by decide) r2 r3
  have xAC := QMul (by decide) (by decide) r1 r3
  have xM := QMul (by decide) (by decide) r2 rm
  have rAB := (RQ.of_frQ eAB xAB.1.1 xAB.1.2).1
  have rBC := (RQ.of_frQ eBC xBC.1.1 xBC.1.2).1
  have rSAC := (RQ.of_frQ eSAC xSAC.1.1 xSAC.1.2).1
  have rP := (RQ.of_frQ eP xP.1.1 xP.1.2).1
  have rQ := (RQ.of_frQ eQBC xQ.1.1 xQ.1.2).1
  have rAC := (RQ.of_frQ eAC xAC.1.1 xAC.1.2).1
  have rM := (RQ.of_frQ eM xM.1.1 xM.1.2).1
  have e1 : q1 + q2 * m = q1 - q2 := by rw [hm1]; grind
  have e2 : (q1 + q3) - (q2 + q3) = q1 - q2 := by grind
  have u1 := r1.mono (L := 40 + 40 + 1) (by decide)
  have u3 := r3.mono (L := 40 + 40 + 1) (by decide)
  have xAM := QAdd (by decide) (by decide) u1 rM
  rw [e1] at xAM
  have rAM := (RQ.of_frQ eAM xAM.1.1 xAM.1.2).2
  refine ⟨M, AB, ABC, BC, P, PC, QBC, D, AC, AM, SAC, (q1 - q2).num.sign, ⟨fun w => ?_, fun w => ?_, fun w => ?_, fun w => ?_, fun w => ?_, fun w => ?_, fun w => ?_, fun w => ?_, fun w => ?_, fun w => ?_, fun w => ?_, fun w => ?_, fun w => ?_, fun w => ?_, fun w => ?_, fun w => ?_, fun w => ?_, fun w => ?_, fun w => ?_⟩⟩
  · have h := xAB.2 w; rwa [eAB] at h
  · have h := (QAdd (by decide) (by decide) r2 r1).2 w; rwa [Rat.add_comm q2 q1, eAB] at h
  · have h := (QAdd (by decide) (by decide) rAB u3).2 w; rwa [eABC] at h
  · have h := xBC.2 w; rwa [eBC] at h
  · have h := (QAdd (by decide) (by decide) u1 rBC).2 w; rwa [← Rat.add_assoc, eABC] at h
  · have h := xP.2 w; rwa [eP] at h
  · have h := (QMul (by decide) (by decide) r2 r1).2 w; rwa [Rat.mul_comm q2 q1, eP] at h
  · have h := (QMul (by decide) (by decide) rP u3).2 w; rwa [ePC] at h
  · have h := xQ.2 w; rwa [eQBC] at h
  · have h := (QMul (by decide) (by decide) u1 rQ).2 w; rwa [← Rat.mul_assoc, ePC] at h
  · have h := (QMul (by decide) (by decide) u1 rBC).2 w; rwa [eD] at h
  · have h := xAC.2 w; rwa [eAC] at h
  · have h := (QAdd (by decide) (by decide) rP rAC).2 w; rwa [← Rat.mul_add, eD] at h
  · exact QCmp (by decide) (by decide) r1 r2 w
  · have h := xAM.2 w; rwa [eAM] at h
  · exact ZSign rAM.val w
  · have h := xSAC.2 w; rwa [eSAC] at h
  · have h := QCmp (by decide) (by decide) rSAC rBC w; rwa [e2] at h
  · have h := xM.2 w; rwa [eM] at h

/-- A box that was laid at some time holds o; the boxes of l are as they were. -/
def MidB (w0 : World) (l : List (Nat × Obj)) (o : Obj) (s : Value) (w : World) : Prop := ∃ g : Nat, s = .pointer (some ⟨g, 0, none⟩) ∧ Fr w0 w l ∧ w.heap[g]? = some o ∧ w0.heap.size ≤ g

theorem Fr.take {w0 w : World} {l : List (Nat × Obj)} {g : Nat} {o : Obj} (h : Fr w0 w l) (hr : w.heap[g]? = some o) (hn : w0.heap.size ≤ g) : Fr w0 w (l ++ [(g, o)]) := by
  refine ⟨fun p hp => ?_, fun p hp => ?_, h.t⟩
  · rcases List.mem_append.1 hp with hp | hp
    · exact h.row p hp
    · rw [List.mem_singleton] at hp; subst hp; exact hr
  · rcases List.mem_append.1 hp with hp | hp
    · exact h.new p hp
    · rw [List.mem_singleton] at hp; subst hp; exact hn

theorem Fr.front {w0 w : World} {l m : List (Nat × Obj)} (h : Fr w0 w (l ++ m)) : Fr w0 w l := ⟨fun p hp => h.row p (List.mem_append_left _ hp), fun p hp => h.new p (List.mem_append_left _ hp), h.t⟩

theorem Fr.last {w0 w : World} {l : List (Nat × Obj)} {g : Nat} {vs : Array Value} {T : TypeId} {v : Value} (h : Fr w0 w (l ++ [(g, .cells vs T (0, 0))])) (j : Nat) (hj : vs[j]? = some v) : w.cell? ⟨g, j, none⟩ = some v :=
  h.cell (b := g) (vs := vs) (T := T) l.length j (by simp) hj

theorem FrB.mid4 {w0 w : World} {l : List (Nat × Obj)} {b : Nat} {x y z u : Value} {T : TypeId} (h : FrB w0 w l b (.cells #[x, y, z, u] T (0, 0))) (x' y' z' u' : Value) :
    MidB w0 l (.cells #[x', y', z', u'] T (0, 0)) (.pointer (some ⟨b, 0, none⟩)) ((((w.setCell ⟨b, 0, none⟩ x').setCell ⟨b, 1, none⟩ y').setCell ⟨b, 2, none⟩ z').setCell ⟨b, 3, none⟩ u') :=
  ⟨b, rfl, h.set4 x' y' z' u', row_set4 h.box, h.new⟩
theorem Fr.mid {w0 w : World} {l : List (Nat × Obj)} (h : Fr w0 w l) (o : Obj) : MidB w0 l o (.pointer (some ⟨w.heap.size, 0, none⟩)) (w.alloc o) :=
  ⟨w.heap.size, rfl, h.beside o, Below.heap_alloc_new' w o, h.t.size⟩

set_option maxHeartbeats 8000000 in
set_option maxRecDepth 100000 in
theorem fc_walk (w : World) (a1 : Bool) (A1 : Option Addr) (len1 cap1 : Nat) (z1 : Int) (xs1 : List Nat) (hx1 : xs1.length = len1) (hc1 : len1 ≤ cap1) (hm1 : cap1 ≤ 9223372036854775807) (hA1 : Src w A1 xs1) (d1 : Bool) (B1 : Option Addr) (lem1 cbp1 : Nat) (y1 : Int) (ys1 : List Nat) (hy1 : ys1.length = lem1) (hd1 : lem1 ≤ cbp1) (hn1 : cbp1 ≤ 9223372036854775807) (hB1 : Src w B1 ys1) (a2 : Bool) (A2 : Option Addr) (len2 cap2 : Nat) (z2 : Int) (xs2 : List Nat) (hx2 : xs2.length = len2) (hc2 : len2 ≤ cap2) (hm2 : cap2 ≤ 9223372036854775807) (hA2 : Src w A2 xs2) (d2 : Bool) (B2 : Option Addr) (lem2 cbp2 : Nat) (y2 : Int) (ys2 : List Nat) (hy2 : ys2.length = lem2) (hd2 : lem2 ≤ cbp2) (hn2 : cbp2 ≤ 9223372036854775807) (hB2 : Src w B2 ys2) (a3 : Bool) (A3 : Option Addr) (len3 cap3 : Nat) (z3 : Int) (xs3 : List Nat) (hx3 : xs3.length = len3) (hc3 : len3 ≤ cap3) (hm3 : cap3 ≤ 9223372036854775807) (hA3 : Src w A3 xs3) (d3 : Bool) (B3 : Option Addr) (lem3 cbp3 : Nat) (y3 : Int) (ys3 : List Nat) (hy3 : ys3.length = lem3) (hd3 : lem3 ≤ cbp3) (hn3 : cbp3 ≤ 9223372036854775807) (hB3 : Src w B3 ys3) :
    Calls Tryd.prog 11 #[.agg #[.bool a1, .slice A1 len1 cap1, .int .i64 z1, .bool a2, .slice A2 len2 cap2, .int .i64 z2, .bool a3, .slice A3 len3 cap3, .int .i64 z3], .agg #[.bool d1, .slice B1 lem1 cbp1, .int .i64 y1, .bool d2, .slice B2 lem2 cbp2, .int .i64 y2, .bool d3, .slice B3 lem3 cbp3, .int .i64 y3]] w fun e w' => e = .returned (.bool true) ∧ Tch [] w w' := by
  have F := Lib.hid (Fr.nil w)
  have N1 := Lib.hid (fun w' l (h : Fr w w' l) => FraW a1 z1 A1 len1 cap1 xs1 d1 y1 B1 lem1 cbp1 ys1 w' hx1 hc1 hm1 (hA1.kept h.t) hy1 hd1 hn1 (hB1.kept h.t))
  have N2 := Lib.hid (fun w' l (h : Fr w w' l) => FraW a2 z2 A2 len2 cap2 xs2 d2 y2 B2 lem2 cbp2 ys2 w' hx2 hc2 hm2 (hA2.kept h.t) hy2 hd2 hn2 (hB2.kept h.t))
  have N3 := Lib.hid (fun w' l (h : Fr w w' l) => FraW a3 z3 A3 len3 cap3 xs3 d3 y3 B3 lem3 cbp3 ys3 w' hx3 hc3 hm3 (hA3.kept h.t) hy3 hd3 hn3 (hB3.kept h.t))
  clear hx1 hc1 hm1 hA1 hy1 hd1 hn1 hB1 hx2 hc2 hm2 hA2 hy2 hd2 hn2 hB2 hx3 hc3 hm3 hA3 hy3 hd3 hn3 hB3
  go_enter Tryd.func11, Tryd.ntmps11
  go_wp2_with fail
  refine (sanity _).mono ?_
  rintro e w1 ⟨rfl, h1⟩
  have F := Lib.hid (((F.out.add (.cells #[.bool a1, .slice A1 len1 cap1, .int .i64 z1, .bool a2, .slice A2 len2 cap2, .int .i64 z2, .bool a3, .slice A3 len3 cap3, .int .i64 z3] 50) w.heap.size rfl).add (.cells #[.bool d1, .slice B1 lem1 cbp1, .int .i64 y1, .bool d2, .slice B2 lem2 cbp2, .int .i64 y2, .bool d3, .slice B3 lem3 cbp3, .int .i64 y3] 50) (w.heap.size + 1) (by simp)).keep h1)
  clear h1
  have c0 := F.out.cell 0 0 rfl rfl
  have e0 := F.out.cell 1 0 rfl rfl
  have c1 := F.out.cell 0 1 rfl rfl
  have e1 := F.out.cell 1 1 rfl rfl
  have c2 := F.out.cell 0 2 rfl rfl
  have e2 := F.out.cell 1 2 rfl rfl
  go_wp2_with fail
  refine (N1.out _ _ F.out).mono ?_
  rintro e w2 ⟨s1, t1, ⟨hs1, ht1, rfl⟩, h1⟩
  have F := Lib.hid ((F.out.keep h1).add (.cells #[.bool a1, .string s1, .bool d1, .string t1] 52) w2.heap.size rfl)
  clear h1 c0 c1 c2 e0 e1 e2
  have c0 := F.out.cell 0 3 rfl rfl
  have e0 := F.out.cell 1 3 rfl rfl
  have c1 := F.out.cell 0 4 rfl rfl
  have e1 := F.out.cell 1 4 rfl rfl
  have c2 := F.out.cell 0 5 rfl rfl
  have e2 := F.out.cell 1 5 rfl rfl
  go_wp2_with fail
  refine (N2.out _ _ F.out).mono ?_
  rintro e w3 ⟨s2, t2, ⟨hs2, ht2, rfl⟩, h1⟩
  have F := Lib.hid ((F.out.keep h1).add (.cells #[.bool a2, .string s2, .bool d2, .string t2] 52) w3.heap.size rfl)
  clear h1 c0 c1 c2 e0 e1 e2
  have c0 := F.out.cell 0 6 rfl rfl
  have e0 := F.out.cell 1 6 rfl rfl
  have c1 := F.out.cell 0 7 rfl rfl
  have e1 := F.out.cell 1 7 rfl rfl
  have c2 := F.out.cell 0 8 rfl rfl
  have e2 := F.out.cell 1 8 rfl rfl
  go_wp2_with fail
  refine (N3.out _ _ F.out).mono ?_
  rintro e w4 ⟨s3, t3, ⟨hs3, ht3, rfl⟩, h1⟩
  have F := Lib.hid ((F.out.keep h1).add (.cells #[.bool a3, .string s3, .bool d3, .string t3] 52) w4.heap.size rfl)
  clear h1 c0 c1 c2 e0 e1 e2
  clear N1 N2 N3
  obtain ⟨l, G, SA0⟩ : ∃ l, Fr w (w4.alloc (.cells #[.bool a3, .string s3, .bool d3, .string t3] 52)) l ∧ (∀ w', Fr w w' l → w'.cell? ⟨w2.heap.size, 0, none⟩ = some (.bool a1) ∧ w'.cell? ⟨w2.heap.size, 1, none⟩ = some (.string s1) ∧ w'.cell? ⟨w2.heap.size, 2, none⟩ = some (.bool d1) ∧ w'.cell? ⟨w2.heap.size, 3, none⟩ = some (.string t1) ∧ w'.cell? ⟨w3.heap.size, 0, none⟩ = some (.bool a2) ∧ w'.cell? ⟨w3.heap.size, 1, none⟩ = some (.string s2) ∧ w'.cell? ⟨w3.heap.size, 2, none⟩ = some (.bool d2) ∧ w'.cell? ⟨w3.heap.size, 3, none⟩ = some (.string t2) ∧ w'.cell? ⟨w4.heap.size, 0, none⟩ = some (.bool a3) ∧ w'.cell? ⟨w4.heap.size, 1, none⟩ = some (.string s3) ∧ w'.cell? ⟨w4.heap.size, 2, none⟩ = some (.bool d3) ∧ w'.cell? ⟨w4.heap.size, 3, none⟩ = some (.string t3)) :=
    ⟨_, F.out, fun w' F => ⟨F.cell 2 0 rfl rfl, F.cell 2 1 rfl rfl, F.cell 2 2 rfl rfl, F.cell 2 3 rfl rfl, F.cell 3 0 rfl rfl, F.cell 3 1 rfl rfl, F.cell 3 2 rfl rfl, F.cell 3 3 rfl rfl, F.cell 4 0 rfl rfl, F.cell 4 1 rfl rfl, F.cell 4 2 rfl rfl, F.cell 4 3 rfl rfl⟩⟩
  have F := Lib.hid G
  have SA := Lib.hid SA0
  obtain ⟨M, AB, ABC, BC, P, PC, QBC, D, AC, AM, SAC, sg, R⟩ := FcC.mk' (a1 := a1) (a2 := a2) (a3 := a3) (d1 := d1) (d2 := d2) (d3 := d3) hs1 hs2 hs3 ht1 ht2 ht3
  obtain ⟨bM, uM, fM, vM⟩ := M
  obtain ⟨bAB, uAB, fAB, vAB⟩ := AB
  obtain ⟨bABC, uABC, fABC, vABC⟩ := ABC
  obtain ⟨bBC, uBC, fBC, vBC⟩ := BC
  obtain ⟨bP, uP, fP, vP⟩ := P
  obtain ⟨bPC, uPC, fPC, vPC⟩ := PC
  obtain ⟨bQBC, uQBC, fQBC, vQBC⟩ := QBC
  obtain ⟨bD, uD, fD, vD⟩ := D
  obtain ⟨bAC, uAC, fAC, vAC⟩ := AC
  obtain ⟨bAM, uAM, fAM, vAM⟩ := AM
  obtain ⟨bSAC, uSAC, fSAC, vSAC⟩ := SAC
  have C1 := Lib.hid R.c1
  have C2 := Lib.hid R.c2
  have C3 := Lib.hid R.c3
  have C4 := Lib.hid R.c4
  have C5 := Lib.hid R.c5
  have C6 := Lib.hid R.c6
  have C7 := Lib.hid R.c7
  have C8 := Lib.hid R.c8
  have C9 := Lib.hid R.c9
  have C10 := Lib.hid R.c10
  have C11 := Lib.hid R.c11
  have C12 := Lib.hid R.c12
  have C13 := Lib.hid R.c13
  have C14 := Lib.hid R.c14
  have C15 := Lib.hid R.c15
  have C16 := Lib.hid R.c16
  have C17 := Lib.hid R.c17
  have C18 := Lib.hid R.c18
  have C19 := Lib.hid R.c19
  clear R G SA0 hs1 hs2 hs3 ht1 ht2 ht3
  go_upto_region 5 with (fail)
  generalize w4.alloc (.cells #[.bool a3, .string s3, .bool d3, .string t3] 52) = W at F ⊢
  go_cut [9] (fun s9 wx => MidB w l (.cells #[.bool bM, .string uM, .bool fM, .string vM] 52 (0, 0)) s9 wx)
  case first =>
    go_region_held3 (fun w' => w'.cell? ⟨w2.heap.size, 0, none⟩ = some (.bool a1) ∧ w'.cell? ⟨w2.heap.size, 1, none⟩ = some (.string s1) ∧ w'.cell? ⟨w2.heap.size, 2, none⟩ = some (.bool d1) ∧ w'.cell? ⟨w2.heap.size, 3, none⟩ = some (.string t1) ∧ w'.cell? ⟨w3.heap.size, 0, none⟩ = some (.bool a2) ∧ w'.cell? ⟨w3.heap.size, 1, none⟩ = some (.string s2) ∧ w'.cell? ⟨w3.heap.size, 2, none⟩ = some (.bool d2) ∧ w'.cell? ⟨w3.heap.size, 3, none⟩ = some (.string t2) ∧ w'.cell? ⟨w4.heap.size, 0, none⟩ = some (.bool a3) ∧ w'.cell? ⟨w4.heap.size, 1, none⟩ = some (.string s3) ∧ w'.cell? ⟨w4.heap.size, 2, none⟩ = some (.bool d3) ∧ w'.cell? ⟨w4.heap.size, 3, none⟩ = some (.string t3)) (first | with_reducible exact SA.out _ F3.out | with_reducible exact SA.out _ (F3.out.beside _) | with_reducible exact SA.out _ (F3.out.box4 _ _ _ _ _) | with_reducible exact SA.out _ (B3.out.set4 _ _ _ _) | with_reducible exact SA.out _ F.out | with_reducible exact SA.out _ F.out.drew | with_reducible exact SA.out _ (F.out.drew.beside _) | with_reducible exact SA.out _ (F.out.beside _).drew) (first
      | (go_at_call 28; (first | (with_reducible refine (frm1 _).mono ?_) | (with_reducible refine (fr1 _).mono ?_)); rintro e w5 ⟨rfl, hT⟩; (first | (with_reducible have B3 := Lib.hid (B3.out.keep hT); clear z0 z1 z2 z3 f0 f1 f2 f3; obtain ⟨⟨z0, z1, z2, z3⟩, ⟨f0, f1, f2, f3⟩⟩ := B3.out.four; have F3 := Lib.hid B3.out.f) | (with_reducible have F3 := Lib.hid (F3.out.keep hT)) | (with_reducible have B3 := Lib.hid (F3.out.boxed _ hT); obtain ⟨⟨z0, z1, z2, z3⟩, ⟨f0, f1, f2, f3⟩⟩ := B3.out.four; have F3 := Lib.hid B3.out.f) | (with_reducible have B3 := Lib.hid (F.out.boxedAt _ W.heap.size rfl (Tch.undrew hT)); obtain ⟨⟨z0, z1, z2, z3⟩, ⟨f0, f1, f2, f3⟩⟩ := B3.out.four; have F3 := Lib.hid B3.out.f) | (with_reducible have F3 := Lib.hid (F.out.keep (Tch.undrew hT)))); clear hT)
      | (go_at_call 41; (first | (with_reducible refine (C19.out _).mono ?_)); rintro e w7 ⟨rfl, hT⟩; (first | (with_reducible have B3 := Lib.hid (B3.out.keep hT); clear z0 z1 z2 z3 f0 f1 f2 f3; obtain ⟨⟨z0, z1, z2, z3⟩, ⟨f0, f1, f2, f3⟩⟩ := B3.out.four; have F3 := Lib.hid B3.out.f) | (with_reducible have F3 := Lib.hid (F3.out.keep hT)) | (with_reducible have B3 := Lib.hid (F3.out.boxed _ hT); obtain ⟨⟨z0, z1, z2, z3⟩, ⟨f0, f1, f2, f3⟩⟩ := B3.out.four; have F3 := Lib.hid B3.out.f)); clear hT))
    all_goals (go_wp2_with fail; go_meet; (first | with_reducible exact F3.out.mid _ | with_reducible exact B3.out.mid4 _ _ _ _))
  case rest =>
    obtain ⟨g, rfl, FM, hr, hn⟩ := hcut
    obtain ⟨l2, G, SA0⟩ : ∃ l2, Fr w wc l2 ∧ (∀ w', Fr w w' l2 → w'.cell? ⟨w2.heap.size, 0, none⟩ = some (.bool a1) ∧ w'.cell? ⟨w2.heap.size, 1, none⟩ = some (.string s1) ∧ w'.cell? ⟨w2.heap.size, 2, none⟩ = some (.bool d1) ∧ w'.cell? ⟨w2.heap.size, 3, none⟩ = some (.string t1) ∧ w'.cell? ⟨w3.heap.size, 0, none⟩ = some (.bool a2) ∧ w'.cell? ⟨w3.heap.size, 1, none⟩ = some (.string s2) ∧ w'.cell? ⟨w3.heap.size, 2, none⟩ = some (.bool d2) ∧ w'.cell? ⟨w3.heap.size, 3, none⟩ = some (.string t2) ∧ w'.cell? ⟨w4.heap.size, 0, none⟩ = some (.bool a3) ∧ w'.cell? ⟨w4.heap.size, 1, none⟩ = some (.string s3) ∧ w'.cell? ⟨w4.heap.size, 2, none⟩ = some (.bool d3) ∧ w'.cell? ⟨w4.heap.size, 3, none⟩ = some (.string t3) ∧ w'.cell? ⟨g, 0, none⟩ = some (.bool bM) ∧ w'.cell? ⟨g, 1, none⟩ = some (.string uM) ∧ w'.cell? ⟨g, 2, none⟩ = some (.bool fM) ∧ w'.cell? ⟨g, 3, none⟩ = some (.string vM)) :=
      ⟨_, FM.take hr hn, fun w' F => by
        obtain ⟨v0, v1, v2, v3, v4, v5, v6, v7, v8, v9, v10, v11⟩ := SA.out w' F.front
        exact ⟨v0, v1, v2, v3, v4, v5, v6, v7, v8, v9, v10, v11, F.last 0 rfl, F.last 1 rfl, F.last 2 rfl, F.last 3 rfl⟩⟩
    clear SA F FM hr hn
    have F := Lib.hid G
    have SA := Lib.hid SA0
    clear G SA0
    go_wp2_with fail
    go_region_held3 (fun w' => w'.cell? ⟨w2.heap.size, 0, none⟩ = some (.bool a1) ∧ w'.cell? ⟨w2.heap.size, 1, none⟩ = some (.string s1) ∧ w'.cell? ⟨w2.heap.size, 2, none⟩ = some (.bool d1) ∧ w'.cell? ⟨w2.heap.size, 3, none⟩ = some (.string t1) ∧ w'.cell? ⟨w3.heap.size, 0, none⟩ = some (.bool a2) ∧ w'.cell? ⟨w3.heap.size, 1, none⟩ = some (.string s2) ∧ w'.cell? ⟨w3.heap.size, 2, none⟩ = some (.bool d2) ∧ w'.cell? ⟨w3.heap.size, 3, none⟩ = some (.string t2) ∧ w'.cell? ⟨w4.heap.size, 0, none⟩ = some (.bool a3) ∧ w'.cell? ⟨w4.heap.size, 1, none⟩ = some (.string s3) ∧ w'.cell? ⟨w4.heap.size, 2, none⟩ = some (.bool d3) ∧ w'.cell? ⟨w4.heap.size, 3, none⟩ = some (.string t3) ∧ w'.cell? ⟨g, 0, none⟩ = some (.bool bM) ∧ w'.cell? ⟨g, 1, none⟩ = some (.string uM) ∧ w'.cell? ⟨g, 2, none⟩ = some (.bool fM) ∧ w'.cell? ⟨g, 3, none⟩ = some (.string vM)) (first | with_reducible exact SA.out _ F.out | with_reducible exact SA.out _ F.out.drew) (first | (go_at_call 42; (first | (with_reducible refine (C1.out _).mono ?_) | (with_reducible refine (C2.out _).mono ?_) | (with_reducible refine (C3.out _).mono ?_) | (with_reducible refine (C4.out _).mono ?_) | (with_reducible refine (C5.out _).mono ?_)); rintro e w' ⟨rfl, h1⟩; (first | (with_reducible have F := Lib.hid (F.out.keep h1)) | (with_reducible have F := Lib.hid (F.out.drew.keep h1))); clear h1))
    go_wp2_with fail
    go_region_held3 (fun w' => w'.cell? ⟨w2.heap.size, 0, none⟩ = some (.bool a1) ∧ w'.cell? ⟨w2.heap.size, 1, none⟩ = some (.string s1) ∧ w'.cell? ⟨w2.heap.size, 2, none⟩ = some (.bool d1) ∧ w'.cell? ⟨w2.heap.size, 3, none⟩ = some (.string t1) ∧ w'.cell? ⟨w3.heap.size, 0, none⟩ = some (.bool a2) ∧ w'.cell? ⟨w3.heap.size, 1, none⟩ = some (.string s2) ∧ w'.cell? ⟨w3.heap.size, 2, none⟩ = some (.bool d2) ∧ w'.cell? ⟨w3.heap.size, 3, none⟩ = some (.string t2) ∧ w'.cell? ⟨w4.heap.size, 0, none⟩ = some (.bool a3) ∧ w'.cell? ⟨w4.heap.size, 1, none⟩ = some (.string s3) ∧ w'.cell? ⟨w4.heap.size, 2, none⟩ = some (.bool d3) ∧ w'.cell? ⟨w4.heap.size, 3, none⟩ = some (.string t3) ∧ w'.cell? ⟨g, 0, none⟩ = some (.bool bM) ∧ w'.cell? ⟨g, 1, none⟩ = some (.string uM) ∧ w'.cell? ⟨g, 2, none⟩ = some (.bool fM) ∧ w'.cell? ⟨g, 3, none⟩ = some (.string vM)) (first | with_reducible exact SA.out _ F.out | with_reducible exact SA.out _ F.out.drew) (first | (go_at_call 42; (first | (with_reducible refine (C4.out _).mono ?_) | (with_reducible refine (C13.out _).mono ?_)); rintro e w' ⟨rfl, h1⟩; (first | (with_reducible have F := Lib.hid (F.out.keep h1)) | (with_reducible have F := Lib.hid (F.out.drew.keep h1))); clear h1) | (go_at_call 41; (first | (with_reducible refine (C6.out _).mono ?_) | (with_reducible refine (C7.out _).mono ?_) | (with_reducible refine (C8.out _).mono ?_) | (with_reducible refine (C9.out _).mono ?_) | (with_reducible refine (C10.out _).mono ?_) | (with_reducible refine (C11.out _).mono ?_) | (with_reducible refine (C12.out _).mono ?_)); rintro e w' ⟨rfl, h1⟩; (first | (with_reducible have F := Lib.hid (F.out.keep h1)) | (with_reducible have F := Lib.hid (F.out.drew.keep h1))); clear h1))
    go_wp2_with fail
    have hfl : ∀ w' : World, (Instr.field 52 (.agg #[.bool bAM, .string uAM, .bool fAM, .string vAM]) 0).run Tryd.prog w' = .ok (.agg #[.bool bAM, .string uAM]) w' := fun _ => by kernel_rfl
    go_region_held3 (fun w' => w'.cell? ⟨w2.heap.size, 0, none⟩ = some (.bool a1) ∧ w'.cell? ⟨w2.heap.size, 1, none⟩ = some (.string s1) ∧ w'.cell? ⟨w2.heap.size, 2, none⟩ = some (.bool d1) ∧ w'.cell? ⟨w2.heap.size, 3, none⟩ = some (.string t1) ∧ w'.cell? ⟨w3.heap.size, 0, none⟩ = some (.bool a2) ∧ w'.cell? ⟨w3.heap.size, 1, none⟩ = some (.string s2) ∧ w'.cell? ⟨w3.heap.size, 2, none⟩ = some (.bool d2) ∧ w'.cell? ⟨w3.heap.size, 3, none⟩ = some (.string t2) ∧ w'.cell? ⟨w4.heap.size, 0, none⟩ = some (.bool a3) ∧ w'.cell? ⟨w4.heap.size, 1, none⟩ = some (.string s3) ∧ w'.cell? ⟨w4.heap.size, 2, none⟩ = some (.bool d3) ∧ w'.cell? ⟨w4.heap.size, 3, none⟩ = some (.string t3) ∧ w'.cell? ⟨g, 0, none⟩ = some (.bool bM) ∧ w'.cell? ⟨g, 1, none⟩ = some (.string uM) ∧ w'.cell? ⟨g, 2, none⟩ = some (.bool fM) ∧ w'.cell? ⟨g, 3, none⟩ = some (.string vM)) (first | with_reducible exact SA.out _ F.out | with_reducible exact SA.out _ F.out.drew) (first | (go_at_call 43; (first | (with_reducible refine (C14.out _).mono ?_) | (with_reducible refine (C18.out _).mono ?_)); rintro e w' ⟨rfl, h1⟩; (first | (with_reducible have F := Lib.hid (F.out.keep h1)) | (with_reducible have F := Lib.hid (F.out.drew.keep h1))); clear h1) | (go_at_call 42; (first | (with_reducible refine (C15.out _).mono ?_) | (with_reducible refine (C17.out _).mono ?_) | (with_reducible refine (C4.out _).mono ?_)); rintro e w' ⟨rfl, h1⟩; (first | (with_reducible have F := Lib.hid (F.out.keep h1)) | (with_reducible have F := Lib.hid (F.out.drew.keep h1))); clear h1) | (go_at_call 20; (first | (with_reducible refine (C16.out _).mono ?_)); rintro e w' ⟨rfl, h1⟩; (first | (with_reducible have F := Lib.hid (F.out.keep h1)) | (with_reducible have F := Lib.hid (F.out.drew.keep h1))); clear h1))
    go_wp2
    go_ret
    exact ⟨rfl, F.out.t⟩

end Go.Proofs.YtjknmcmniemigaaDoor
