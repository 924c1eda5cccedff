/- The reference: Value. The walk of QuadricValues. -/
import Derived.Test.YtmpfgkpimjiecaaDoorQv
namespace Go.Proofs.YtmpfgkpimjiecaaDoor
open Go Go.RowKit Dg

/-- The value of a linear function at a point, in the reference's order. -/
def rvI (p : Nat → Int) (v : P3) : Int := p 0 * v.x + p 1 * v.y + (p 2 * v.z + p 3)
theorem rvI_sm {p : Nat → Int} {v : P3} {m : Nat} (h : ∀ i, i < 4 → Sm m (p i)) (hv : v.Ok) : Sm (m + 66) (rvI p v) := by
  have m0 := (h 0 (by omega)).mul (Sm.i64 hv.x.1 hv.x.2)
  have m1 := (h 1 (by omega)).mul (Sm.i64 hv.y.1 hv.y.2)
  have m2 := (h 2 (by omega)).mul (Sm.i64 hv.z.1 hv.z.2)
  exact (m0.add m1).add (m2.add ((h 3 (by omega)).mono (by omega)))
/-- The quadric of a square has the square for its value. -/
theorem at_sq (p : Nat → Int) (v : P3) : atI (sqI p) v = rvI p v * rvI p v := by
  simp only [atI, vI, sqI, rvI, facI, facJ]
  simp only [if_true, if_neg (show ¬ (0 : Nat) = 1 by decide), if_neg (show ¬ (0 : Nat) = 2 by decide), if_neg (show ¬ (0 : Nat) = 3 by decide), if_neg (show ¬ (1 : Nat) = 2 by decide), if_neg (show ¬ (1 : Nat) = 3 by decide), if_neg (show ¬ (2 : Nat) = 3 by decide)]
  grind
theorem rv_a (a b c : P3) : rvI (plI a b c) a = 0 := by simp only [rvI, plI, dI]; grind
theorem rv_b (a b c : P3) : rvI (plI a b c) b = 0 := by simp only [rvI, plI, dI, nrmI, crsI, difI]; grind
theorem rv_c (a b c : P3) : rvI (plI a b c) c = 0 := by simp only [rvI, plI, dI, nrmI, crsI, difI]; grind

set_option maxHeartbeats 8000000 in
set_option maxRecDepth 100000 in
theorem rValue (a b c v : P3) (ha : a.Ok) (hb : b.Ok) (hc : c.Ok) (hv : v.Ok) (w : World) :
    Calls Tryd.prog 13 #[.agg #[.int .i64 a.x, .int .i64 a.y, .int .i64 a.z, .int .i64 b.x, .int .i64 b.y, .int .i64 b.z, .int .i64 c.x, .int .i64 c.y, .int .i64 c.z], .agg #[.int .i64 v.x, .int .i64 v.y, .int .i64 v.z]] w fun e w' => e = .returned (.agg #[.bool (sgz (rvI (plI a b c) v)), .string (moz (rvI (plI a b c) v))]) ∧ Tch [] w w' := by
  have c1 := fun w1 => rPlane a b c ha hb hc w1
  have hp := plI_sm ha hb hc
  obtain ⟨p, ep⟩ : ∃ p, p = plI a b c := ⟨_, rfl⟩
  rw [← ep] at c1 hp ⊢
  have C1 : Hid (∀ w1, Calls Tryd.prog 31 #[.agg #[.int .i64 a.x, .int .i64 a.y, .int .i64 a.z, .int .i64 b.x, .int .i64 b.y, .int .i64 b.z, .int .i64 c.x, .int .i64 c.y, .int .i64 c.z]] w1 fun e w' => e = .returned (.agg #[.bool (sgz (p 0)), .string (moz (p 0)), .bool (sgz (p 1)), .string (moz (p 1)), .bool (sgz (p 2)), .string (moz (p 2)), .bool (sgz (p 3)), .string (moz (p 3))]) ∧ Tch [] w1 w') := Lib.hid c1
  have m0 := (hp 0 (by omega)).mul (Sm.i64 hv.x.1 hv.x.2)
  have m1 := (hp 1 (by omega)).mul (Sm.i64 hv.y.1 hv.y.2)
  have m2 := (hp 2 (by omega)).mul (Sm.i64 hv.z.1 hv.z.2)
  have s01 := m0.add m1
  have s23 := m2.add ((hp 3 (by omega)).mono (l := 262) (by omega))
  have d0 := fun w1 => rNum v.x hv.x.1 hv.x.2 w1
  have d1 := fun w1 => rNum v.y hv.y.1 hv.y.2 w1
  have d2 := fun w1 => rNum v.z hv.z.1 hv.z.2 w1
  have e0 := fun w1 => rMul10 ((hp 0 (by omega)).mono (l := 3000) (by omega)) ((Sm.i64 hv.x.1 hv.x.2).mono (l := 3000) (by omega)) w1
  have e1 := fun w1 => rMul10 ((hp 1 (by omega)).mono (l := 3000) (by omega)) ((Sm.i64 hv.y.1 hv.y.2).mono (l := 3000) (by omega)) w1
  have e2 := fun w1 => rMul10 ((hp 2 (by omega)).mono (l := 3000) (by omega)) ((Sm.i64 hv.z.1 hv.z.2).mono (l := 3000) (by omega)) w1
  have f0 := fun w1 => rAdd10 (m0.mono (l := 3000) (by omega)) (m1.mono (l := 3000) (by omega)) w1
  have f1 := fun w1 => rAdd10 (m2.mono (l := 3000) (by omega)) ((hp 3 (by omega)).mono (l := 3000) (by omega)) w1
  have f2 := fun w1 => rAdd10 (s01.mono (l := 3000) (by omega)) (s23.mono (l := 3000) (by omega)) w1
  rw [show p 0 * v.x + p 1 * v.y + (p 2 * v.z + p 3) = rvI p v from rfl] at f2
  obtain ⟨z, ez⟩ : ∃ z, z = rvI p v := ⟨_, rfl⟩
  rw [← ez] at f2 ⊢
  obtain ⟨x2, h2⟩ : ∃ x2, x2 = p 0 * v.x + p 1 * v.y := ⟨_, rfl⟩
  obtain ⟨x3, h3⟩ : ∃ x3, x3 = p 2 * v.z + p 3 := ⟨_, rfl⟩
  rw [← h2] at f0 f2
  rw [← h3] at f1 f2
  obtain ⟨y0, g0⟩ : ∃ y0, y0 = p 0 * v.x := ⟨_, rfl⟩
  obtain ⟨y1, g1⟩ : ∃ y1, y1 = p 1 * v.y := ⟨_, rfl⟩
  obtain ⟨y2, g2⟩ : ∃ y2, y2 = p 2 * v.z := ⟨_, rfl⟩
  rw [← g0] at e0 f0
  rw [← g1] at e1 f0
  rw [← g2] at e2 f1
  have D0 := Lib.hid d0
  have D1 := Lib.hid d1
  have D2 := Lib.hid d2
  have E0 := Lib.hid e0
  have E1 := Lib.hid e1
  have E2 := Lib.hid e2
  have F0 := Lib.hid f0
  have F1 := Lib.hid f1
  have F2 := Lib.hid f2
  clear c1 d0 d1 d2 e0 e1 e2 f0 f1 f2 m0 m1 m2 s01 s23 h2 h3 g0 g1 g2 ep ez hp ha hb hc hv
  have F : Hid (Fr w (((w.alloc (.cells #[.int .i64 a.x, .int .i64 a.y, .int .i64 a.z, .int .i64 b.x, .int .i64 b.y, .int .i64 b.z, .int .i64 c.x, .int .i64 c.y, .int .i64 c.z] 31)).alloc (.cells #[.int .i64 v.x, .int .i64 v.y, .int .i64 v.z] 23)).alloc (.cells #[.bool false, .string ⟨#[]⟩] 26)) [(w.heap.size, .cells #[.int .i64 a.x, .int .i64 a.y, .int .i64 a.z, .int .i64 b.x, .int .i64 b.y, .int .i64 b.z, .int .i64 c.x, .int .i64 c.y, .int .i64 c.z] 31 (0, 0)), (w.heap.size + 1, .cells #[.int .i64 v.x, .int .i64 v.y, .int .i64 v.z] 23 (0, 0)), (w.heap.size + 1 + 1, .cells #[.bool false, .string ⟨#[]⟩] 26 (0, 0))]) := Lib.hid ((((Fr.nil w).add (.cells #[.int .i64 a.x, .int .i64 a.y, .int .i64 a.z, .int .i64 b.x, .int .i64 b.y, .int .i64 b.z, .int .i64 c.x, .int .i64 c.y, .int .i64 c.z] 31) (w.heap.size) rfl).add (.cells #[.int .i64 v.x, .int .i64 v.y, .int .i64 v.z] 23) (w.heap.size + 1) (by simp)).add (.cells #[.bool false, .string ⟨#[]⟩] 26) (w.heap.size + 1 + 1) (by simp))
  obtain ⟨⟨a0, a1, a2⟩, ⟨a3, a4, a5⟩, a6, a7, a8⟩ := F.out.nine 0 rfl
  go_enter Tryd.func13, Tryd.ntmps13
  go_wp2_with fail
  refine (C1.out _).mono ?_
  rintro e w1 ⟨rfl, hT⟩
  have HN : Hid (w.heap.size + 3 ≤ w1.heap.size) := Lib.hid (by have := hT.size; simp at this; omega)
  have F : Hid (Fr w (w1.alloc (.cells #[.bool (sgz (p 0)), .string (moz (p 0)), .bool (sgz (p 1)), .string (moz (p 1)), .bool (sgz (p 2)), .string (moz (p 2)), .bool (sgz (p 3)), .string (moz (p 3))] 56)) [(w.heap.size, .cells #[.int .i64 a.x, .int .i64 a.y, .int .i64 a.z, .int .i64 b.x, .int .i64 b.y, .int .i64 b.z, .int .i64 c.x, .int .i64 c.y, .int .i64 c.z] 31 (0, 0)), (w.heap.size + 1, .cells #[.int .i64 v.x, .int .i64 v.y, .int .i64 v.z] 23 (0, 0)), (w.heap.size + 1 + 1, .cells #[.bool false, .string ⟨#[]⟩] 26 (0, 0)), (w1.heap.size, .cells #[.bool (sgz (p 0)), .string (moz (p 0)), .bool (sgz (p 1)), .string (moz (p 1)), .bool (sgz (p 2)), .string (moz (p 2)), .bool (sgz (p 3)), .string (moz (p 3))] 56 (0, 0))]) := Lib.hid ((F.out.keep hT).add (.cells #[.bool (sgz (p 0)), .string (moz (p 0)), .bool (sgz (p 1)), .string (moz (p 1)), .bool (sgz (p 2)), .string (moz (p 2)), .bool (sgz (p 3)), .string (moz (p 3))] 56) w1.heap.size rfl)
  clear hT C1 a0 a1 a2 a3 a4 a5 a6 a7 a8
  have G : Hid (Fr w (w1.alloc (.cells #[.bool (sgz (p 0)), .string (moz (p 0)), .bool (sgz (p 1)), .string (moz (p 1)), .bool (sgz (p 2)), .string (moz (p 2)), .bool (sgz (p 3)), .string (moz (p 3))] 56)) [(w.heap.size + 1, .cells #[.int .i64 v.x, .int .i64 v.y, .int .i64 v.z] 23 (0, 0)), (w1.heap.size, .cells #[.bool (sgz (p 0)), .string (moz (p 0)), .bool (sgz (p 1)), .string (moz (p 1)), .bool (sgz (p 2)), .string (moz (p 2)), .bool (sgz (p 3)), .string (moz (p 3))] 56 (0, 0))]) := Lib.hid ⟨fun q hq => F.out.row q (by simp only [List.mem_cons, List.not_mem_nil, or_false] at hq ⊢; rcases hq with h | h <;> simp [h]), fun q hq => F.out.new q (by simp only [List.mem_cons, List.not_mem_nil, or_false] at hq ⊢; rcases hq with h | h <;> simp [h]), F.out.t⟩
  have SA := Lib.hid (fun (w' : World) (h : Fr w w' [(w.heap.size + 1, .cells #[.int .i64 v.x, .int .i64 v.y, .int .i64 v.z] 23 (0, 0)), (w1.heap.size, .cells #[.bool (sgz (p 0)), .string (moz (p 0)), .bool (sgz (p 1)), .string (moz (p 1)), .bool (sgz (p 2)), .string (moz (p 2)), .bool (sgz (p 3)), .string (moz (p 3))] 56 (0, 0))]) => (show (w'.cell? ⟨w.heap.size + 1, 0, none⟩ = some (.int .i64 v.x) ∧ w'.cell? ⟨w.heap.size + 1, 1, none⟩ = some (.int .i64 v.y) ∧ w'.cell? ⟨w.heap.size + 1, 2, none⟩ = some (.int .i64 v.z)) ∧ w'.cell? ⟨w1.heap.size, 0, none⟩ = some (.bool (sgz (p 0))) ∧ w'.cell? ⟨w1.heap.size, 1, none⟩ = some (.string (moz (p 0))) ∧ w'.cell? ⟨w1.heap.size, 2, none⟩ = some (.bool (sgz (p 1))) ∧ w'.cell? ⟨w1.heap.size, 3, none⟩ = some (.string (moz (p 1))) ∧ w'.cell? ⟨w1.heap.size, 4, none⟩ = some (.bool (sgz (p 2))) ∧ w'.cell? ⟨w1.heap.size, 5, none⟩ = some (.string (moz (p 2))) ∧ w'.cell? ⟨w1.heap.size, 6, none⟩ = some (.bool (sgz (p 3))) ∧ w'.cell? ⟨w1.heap.size, 7, none⟩ = some (.string (moz (p 3))) from ⟨h.three 0 rfl, h.cell 1 0 rfl rfl, h.cell 1 1 rfl rfl, h.cell 1 2 rfl rfl, h.cell 1 3 rfl rfl, h.cell 1 4 rfl rfl, h.cell 1 5 rfl rfl, h.cell 1 6 rfl rfl, h.cell 1 7 rfl rfl⟩))
  go_upto_region 2 with (fail)
  generalize w1.alloc (.cells #[.bool (sgz (p 0)), .string (moz (p 0)), .bool (sgz (p 1)), .string (moz (p 1)), .bool (sgz (p 2)), .string (moz (p 2)), .bool (sgz (p 3)), .string (moz (p 3))] 56) = W at F G ⊢
  go_region_held3 (fun w' => (w'.cell? ⟨w.heap.size + 1, 0, none⟩ = some (.int .i64 v.x) ∧ w'.cell? ⟨w.heap.size + 1, 1, none⟩ = some (.int .i64 v.y) ∧ w'.cell? ⟨w.heap.size + 1, 2, none⟩ = some (.int .i64 v.z)) ∧ w'.cell? ⟨w1.heap.size, 0, none⟩ = some (.bool (sgz (p 0))) ∧ w'.cell? ⟨w1.heap.size, 1, none⟩ = some (.string (moz (p 0))) ∧ w'.cell? ⟨w1.heap.size, 2, none⟩ = some (.bool (sgz (p 1))) ∧ w'.cell? ⟨w1.heap.size, 3, none⟩ = some (.string (moz (p 1))) ∧ w'.cell? ⟨w1.heap.size, 4, none⟩ = some (.bool (sgz (p 2))) ∧ w'.cell? ⟨w1.heap.size, 5, none⟩ = some (.string (moz (p 2))) ∧ w'.cell? ⟨w1.heap.size, 6, none⟩ = some (.bool (sgz (p 3))) ∧ w'.cell? ⟨w1.heap.size, 7, none⟩ = some (.string (moz (p 3)))) (first | with_reducible exact SA.out _ G.out | with_reducible exact SA.out _ G.out.drew | exact SA.out _ ((G.out.away (p := ⟨w.heap.size + 1 + 1, 0, none⟩) (by have h1 := HN.out; simp; omega) (by simp; omega) _).away (p := ⟨w.heap.size + 1 + 1, 1, none⟩) (by have h1 := HN.out; simp; omega) (by simp; omega) _)) (first
    | (go_at_call 32; (first | (with_reducible refine (D0.out _).mono ?_) | (with_reducible refine (D1.out _).mono ?_) | (with_reducible refine (D2.out _).mono ?_)); rintro e w5 ⟨rfl, hT⟩; (first | (with_reducible have F := Lib.hid (F.out.keep hT); have G := Lib.hid (G.out.keep hT)) | (have F := Lib.hid (F.out.drew.keep hT); have G := Lib.hid (G.out.drew.keep hT))); clear hT)
    | (go_at_call 33; (first | (with_reducible refine (E0.out _).mono ?_) | (with_reducible refine (E1.out _).mono ?_) | (with_reducible refine (E2.out _).mono ?_)); rintro e w5 ⟨rfl, hT⟩; (first | (with_reducible have F := Lib.hid (F.out.keep hT); have G := Lib.hid (G.out.keep hT)) | (have F := Lib.hid (F.out.drew.keep hT); have G := Lib.hid (G.out.drew.keep hT))); clear hT)
    | (go_at_call 34; (first | (with_reducible refine (F0.out _).mono ?_) | (with_reducible refine (F1.out _).mono ?_) | (with_reducible refine (F2.out _).mono ?_)); rintro e w5 ⟨rfl, hT⟩; (first | (with_reducible have F := Lib.hid (F.out.keep hT); have G := Lib.hid (G.out.keep hT)) | (have F := Lib.hid (F.out.drew.keep hT); have G := Lib.hid (G.out.drew.keep hT))); clear hT; obtain ⟨r0, r1⟩ := F.out.two 2 rfl; obtain ⟨g0, g1⟩ := F.out.fro2 2 rfl))
  go_wp2
  refine bodyPost_ret (v := .agg #[.bool (sgz z), .string (moz z)]) (by simp [results, Tryd.results13, go_sem, r0, r1]) rfl ⟨rfl, F.out.fin2 2 rfl _ _⟩


end Go.Proofs.YtmpfgkpimjiecaaDoor
