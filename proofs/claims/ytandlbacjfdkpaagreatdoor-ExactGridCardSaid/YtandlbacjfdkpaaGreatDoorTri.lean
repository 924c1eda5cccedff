/- lithophaneref02.mod, Grid, Moved: points made of numbers. -/
import Derived.Test.YtandlbacjfdkpaaGreatDoorVecA
import Derived.Test.YtandlbacjfdkpaaGreatDoorVecE
import Derived.Test.YtandlbacjfdkpaaGreatDoorNrm
import Derived.Test.YtandlbacjfdkpaaGreatDoorBoxN
import Derived.Test.YtandlbacjfdkpaaGreatDoorCf
namespace Go.Proofs.YtandlbacjfdkpaaGreatDoor
open Go Go.RowKit Dg

theorem mod_facts {n m : Int} (hm : 0 < m ∧ m ≤ 1073741824) : wrap64 (n.tmod m + m) = n.tmod m + m ∧ (n.tmod m + m) % m = n % m ∧ I64 (n.tmod m) ∧ 0 ≤ n.tmod m + m := by
  have h1 : n.tmod m < m := Int.tmod_lt_of_pos n hm.1
  have h2 : -m < n.tmod m := by
    have := Int.lt_tmod_of_pos n hm.1
    omega
  have h3 : (n.tmod m + m) % m = n % m := by
    rw [Int.add_emod_right]
    conv => rhs; rw [← Int.mul_tdiv_add_tmod n m]
    rw [Int.add_comm, Int.add_mul_emod_self_left]
  exact ⟨wrap64_in ⟨by omega, by omega⟩, h3, ⟨by omega, by omega⟩, by omega⟩

set_option maxHeartbeats 1000000 in
set_option maxRecDepth 100000 in
theorem rmod (n m : Int) (hm : 0 < m ∧ m ≤ 1073741824) (w : World) :
    Calls Tryz.prog 35 #[.int .i64 n, .int .i64 m] w fun e w' => e = .returned (.int .i64 (n % m)) ∧ Tch [] w w' := by
  obtain ⟨h1, h2, h3, h4⟩ := mod_facts (n := n) hm
  have h0 : (m == 0) = false := beq_eq_false_iff_ne.2 (by omega)
  have h5 : m ≠ 0 := by omega
  rw [← h2]
  clear h2
  go_enter Tryz.func35, Tryz.ntmps35
  go_wp2
  go_ret
  exact ⟨rfl, Tch.refl [] w⟩

/-- A point on a grid of k numbers each way; a point that is scaled and moved. -/
def gridI (a : P3) (k : Int) : P3 := ⟨a.x % k, a.y % k, a.z % k⟩
def movI (p b : P3) (s : Int) : P3 := ⟨p.x * s + b.x, p.y * s + b.y, p.z * s + b.z⟩
structure MovOk (p b : P3) (s : Int) : Prop where
  x : I64 (p.x * s) ∧ I64 (p.x * s + b.x)
  y : I64 (p.y * s) ∧ I64 (p.y * s + b.y)
  z : I64 (p.z * s) ∧ I64 (p.z * s + b.z)

set_option maxHeartbeats 2000000 in
set_option maxRecDepth 100000 in
theorem rGrid (a : P3) (k : Int) (hk : 0 < k ∧ k ≤ 1073741824) (w : World) :
    Calls Tryz.prog 11 #[.agg #[.int .i64 a.x, .int .i64 a.y, .int .i64 a.z], .int .i64 k] w fun e w' => e = .returned (.agg #[.int .i64 (a.x % k), .int .i64 (a.y % k), .int .i64 (a.z % k)]) ∧ Tch [] w w' := by
  have C1 := Lib.hid (fun w1 => rmod a.x k hk w1)
  have C2 := Lib.hid (fun w1 => rmod a.y k hk w1)
  have C3 := Lib.hid (fun w1 => rmod a.z k hk w1)
  obtain ⟨g0, hg0⟩ : ∃ g, g = a.x % k := ⟨_, rfl⟩
  obtain ⟨g1, hg1⟩ : ∃ g, g = a.y % k := ⟨_, rfl⟩
  obtain ⟨g2, hg2⟩ : ∃ g, g = a.z % k := ⟨_, rfl⟩
  rw [← hg0] at C1 ⊢
  rw [← hg1] at C2 ⊢
  rw [← hg2] at C3 ⊢
  clear hg0 hg1 hg2 hk
  have F : Hid (Fr w ((w.alloc (.cells #[.int .i64 a.x, .int .i64 a.y, .int .i64 a.z] 22)).alloc (.cells #[.int .i64 0, .int .i64 0, .int .i64 0] 27)) [(w.heap.size, .cells #[.int .i64 a.x, .int .i64 a.y, .int .i64 a.z] 22 (0, 0)), (w.heap.size + 1, .cells #[.int .i64 0, .int .i64 0, .int .i64 0] 27 (0, 0))]) := Lib.hid (((Fr.nil w).add (.cells #[.int .i64 a.x, .int .i64 a.y, .int .i64 a.z] 22) w.heap.size rfl).add (.cells #[.int .i64 0, .int .i64 0, .int .i64 0] 27) (w.heap.size + 1) (by simp))
  have SF := Lib.hid (fun (w4 : World) (h : Fr w w4 [(w.heap.size, .cells #[.int .i64 a.x, .int .i64 a.y, .int .i64 a.z] 22 (0, 0)), (w.heap.size + 1, .cells #[.int .i64 0, .int .i64 0, .int .i64 0] 27 (0, 0))]) => h.three 0 rfl)
  have ST := Lib.hid (fun (w4 : World) (x y z : Value) (h : Fr w w4 [(w.heap.size, .cells #[.int .i64 a.x, .int .i64 a.y, .int .i64 a.z] 22 (0, 0)), (w.heap.size + 1, .cells #[.int .i64 0, .int .i64 0, .int .i64 0] 27 (0, 0))]) => ((((h.only 0 rfl).away (p := ⟨w.heap.size + 1, 0, none⟩) (by simp) (by simp) x).away (p := ⟨w.heap.size + 1, 1, none⟩) (by simp) (by simp) y).away (p := ⟨w.heap.size + 1, 2, none⟩) (by simp) (by simp) z).three 0 rfl)
  go_enter Tryz.func11, Tryz.ntmps11
  go_wp2_with fail
  go_region_held3 (fun w4 => w4.cell? ⟨w.heap.size, 0, none⟩ = some (.int .i64 a.x) ∧ w4.cell? ⟨w.heap.size, 1, none⟩ = some (.int .i64 a.y) ∧ w4.cell? ⟨w.heap.size, 2, none⟩ = some (.int .i64 a.z)) (first | with_reducible exact SF.out _ F.out | with_reducible exact SF.out _ F.out.drew | with_reducible exact ST.out _ _ _ _ F.out) (first
    | (go_at_call 35; (first | (with_reducible refine (C1.out _).mono ?_) | (with_reducible refine (C2.out _).mono ?_) | (with_reducible refine (C3.out _).mono ?_)); rintro e w4 ⟨rfl, hT⟩; (first | (with_reducible have F := Lib.hid (F.out.keep hT)) | (have F := Lib.hid (F.out.drew.keep hT))); clear hT; obtain ⟨r0, r1, r2⟩ := F.out.three 1 rfl; obtain ⟨f0, f1, f2⟩ := F.out.fro3 1 rfl)
    | fail)
  all_goals
    go_wp2
    refine bodyPost_ret (v := .agg #[.int .i64 g0, .int .i64 g1, .int .i64 g2]) (by simp [results, Tryz.results11, go_sem, r0, r1, r2]) rfl ⟨rfl, ?_⟩
    exact F.out.fin3 1 rfl _ _ _

set_option maxHeartbeats 2000000 in
set_option maxRecDepth 100000 in
theorem rMoved (p b : P3) (s : Int) (h : MovOk p b s) (w : World) :
    Calls Tryz.prog 48 #[.agg #[.int .i64 p.x, .int .i64 p.y, .int .i64 p.z], .agg #[.int .i64 b.x, .int .i64 b.y, .int .i64 b.z], .int .i64 s] w fun e w' => e = .returned (.agg #[.int .i64 (p.x * s + b.x), .int .i64 (p.y * s + b.y), .int .i64 (p.z * s + b.z)]) ∧ Tch [] w w' := by
  have e1 := wrap64_in h.x.1
  have e2 := wrap64_in h.x.2
  have e3 := wrap64_in h.y.1
  have e4 := wrap64_in h.y.2
  have e5 := wrap64_in h.z.1
  have e6 := wrap64_in h.z.2
  clear h
  have F : Hid (Fr w (((w.alloc (.cells #[.int .i64 p.x, .int .i64 p.y, .int .i64 p.z] 27)).alloc (.cells #[.int .i64 b.x, .int .i64 b.y, .int .i64 b.z] 22)).alloc (.cells #[.int .i64 0, .int .i64 0, .int .i64 0] 27)) [(w.heap.size, .cells #[.int .i64 p.x, .int .i64 p.y, .int .i64 p.z] 27 (0, 0)), (w.heap.size + 1, .cells #[.int .i64 b.x, .int .i64 b.y, .int .i64 b.z] 22 (0, 0)), (w.heap.size + 1 + 1, .cells #[.int .i64 0, .int .i64 0, .int .i64 0] 27 (0, 0))]) := Lib.hid ((((Fr.nil w).add (.cells #[.int .i64 p.x, .int .i64 p.y, .int .i64 p.z] 27) w.heap.size rfl).add (.cells #[.int .i64 b.x, .int .i64 b.y, .int .i64 b.z] 22) (w.heap.size + 1) (by simp)).add (.cells #[.int .i64 0, .int .i64 0, .int .i64 0] 27) (w.heap.size + 1 + 1) (by simp))
  obtain ⟨p0, p1, p2⟩ := F.out.three 0 rfl
  obtain ⟨b0, b1, b2⟩ := F.out.three 1 rfl
  obtain ⟨r0, r1, r2⟩ := F.out.three 2 rfl
  obtain ⟨f0, f1, f2⟩ := F.out.fro3 2 rfl
  go_enter Tryz.func48, Tryz.ntmps48
  go_wp2
  refine bodyPost_ret (v := .agg #[.int .i64 (p.x * s + b.x), .int .i64 (p.y * s + b.y), .int .i64 (p.z * s + b.z)]) (by simp [results, Tryz.results48, go_sem, e1, e2, e3, e4, e5, e6]) rfl ⟨rfl, ?_⟩
  exact (((Tch.refl [] w).alloc _).alloc _).alloc _

end Go.Proofs.YtandlbacjfdkpaaGreatDoor

/- lithophaneref02.Tri, MovedTri: triangles made of numbers. -/
namespace Go.Proofs.YtandlbacjfdkpaaGreatDoor
open Go Go.RowKit Dg

theorem Fr.away9 {w0 w : World} {l : List (Nat × Obj)} (h : Fr w0 w l) {b : Nat} (hp : ∀ q ∈ l, q.1 ≠ b) (hn : w0.heap.size ≤ b) (y0 y1 y2 y3 y4 y5 y6 y7 y8 : Value) : Fr w0 (((((((((w.setCell ⟨b, 0, none⟩ y0).setCell ⟨b, 1, none⟩ y1).setCell ⟨b, 2, none⟩ y2).setCell ⟨b, 3, none⟩ y3).setCell ⟨b, 4, none⟩ y4).setCell ⟨b, 5, none⟩ y5).setCell ⟨b, 6, none⟩ y6).setCell ⟨b, 7, none⟩ y7).setCell ⟨b, 8, none⟩ y8) l :=
  ((((((((h.away (p := ⟨b, 0, none⟩) hp hn y0).away (p := ⟨b, 1, none⟩) hp hn y1).away (p := ⟨b, 2, none⟩) hp hn y2).away (p := ⟨b, 3, none⟩) hp hn y3).away (p := ⟨b, 4, none⟩) hp hn y4).away (p := ⟨b, 5, none⟩) hp hn y5).away (p := ⟨b, 6, none⟩) hp hn y6).away (p := ⟨b, 7, none⟩) hp hn y7).away (p := ⟨b, 8, none⟩) hp hn y8
theorem Fr.fin9 {w0 w : World} {l : List (Nat × Obj)} (h : Fr w0 w l) (i : Nat) {b : Nat} {o : Obj} (hi : l[i]? = some (b, o)) (y0 y1 y2 y3 y4 y5 y6 y7 y8 : Value) : Tch [] w0 (((((((((w.setCell ⟨b, 0, none⟩ y0).setCell ⟨b, 1, none⟩ y1).setCell ⟨b, 2, none⟩ y2).setCell ⟨b, 3, none⟩ y3).setCell ⟨b, 4, none⟩ y4).setCell ⟨b, 5, none⟩ y5).setCell ⟨b, 6, none⟩ y6).setCell ⟨b, 7, none⟩ y7).setCell ⟨b, 8, none⟩ y8) :=
  (((h.fin6 i hi y0 y1 y2 y3 y4 y5).setCell (.inr (h.new (b, o) (List.mem_of_getElem? hi))) y6).setCell (.inr (h.new (b, o) (List.mem_of_getElem? hi))) y7).setCell (.inr (h.new (b, o) (List.mem_of_getElem? hi))) y8

set_option maxHeartbeats 4000000 in
set_option maxRecDepth 100000 in
theorem rTri (a b c : P3) (k : Int) (hk : 0 < k ∧ k ≤ 1073741824) (w : World) :
    Calls Tryz.prog 12 #[.agg #[.int .i64 a.x, .int .i64 a.y, .int .i64 a.z, .int .i64 b.x, .int .i64 b.y, .int .i64 b.z, .int .i64 c.x, .int .i64 c.y, .int .i64 c.z], .int .i64 k] w fun e w' => e = .returned (.agg #[.int .i64 (gridI a k).x, .int .i64 (gridI a k).y, .int .i64 (gridI a k).z, .int .i64 (gridI b k).x, .int .i64 (gridI b k).y, .int .i64 (gridI b k).z, .int .i64 (gridI c k).x, .int .i64 (gridI c k).y, .int .i64 (gridI c k).z]) ∧ Tch [] w w' := by
  obtain ⟨ap, hap⟩ : ∃ u, u = gridI a k := ⟨_, rfl⟩
  have C1 : Hid (∀ w1, Calls Tryz.prog 11 #[.agg #[.int .i64 a.x, .int .i64 a.y, .int .i64 a.z], .int .i64 k] w1 fun e w' => e = .returned (.agg #[.int .i64 ap.x, .int .i64 ap.y, .int .i64 ap.z]) ∧ Tch [] w1 w') := Lib.hid (fun w1 => by rw [hap]; exact rGrid a k hk w1)
  obtain ⟨bp, hbp⟩ : ∃ u, u = gridI b k := ⟨_, rfl⟩
  have C2 : Hid (∀ w1, Calls Tryz.prog 11 #[.agg #[.int .i64 b.x, .int .i64 b.y, .int .i64 b.z], .int .i64 k] w1 fun e w' => e = .returned (.agg #[.int .i64 bp.x, .int .i64 bp.y, .int .i64 bp.z]) ∧ Tch [] w1 w') := Lib.hid (fun w1 => by rw [hbp]; exact rGrid b k hk w1)
  obtain ⟨cp, hcp⟩ : ∃ u, u = gridI c k := ⟨_, rfl⟩
  have C3 : Hid (∀ w1, Calls Tryz.prog 11 #[.agg #[.int .i64 c.x, .int .i64 c.y, .int .i64 c.z], .int .i64 k] w1 fun e w' => e = .returned (.agg #[.int .i64 cp.x, .int .i64 cp.y, .int .i64 cp.z]) ∧ Tch [] w1 w') := Lib.hid (fun w1 => by rw [hcp]; exact rGrid c k hk w1)
  rw [← hap, ← hbp, ← hcp]
  clear hap hbp hcp hk
  have F : Hid (Fr w ((w.alloc (.cells #[.int .i64 a.x, .int .i64 a.y, .int .i64 a.z, .int .i64 b.x, .int .i64 b.y, .int .i64 b.z, .int .i64 c.x, .int .i64 c.y, .int .i64 c.z] 31)).alloc (.cells #[.int .i64 0, .int .i64 0, .int .i64 0, .int .i64 0, .int .i64 0, .int .i64 0, .int .i64 0, .int .i64 0, .int .i64 0] 33)) [(w.heap.size, .cells #[.int .i64 a.x, .int .i64 a.y, .int .i64 a.z, .int .i64 b.x, .int .i64 b.y, .int .i64 b.z, .int .i64 c.x, .int .i64 c.y, .int .i64 c.z] 31 (0, 0)), (w.heap.size + 1, .cells #[.int .i64 0, .int .i64 0, .int .i64 0, .int .i64 0, .int .i64 0, .int .i64 0, .int .i64 0, .int .i64 0, .int .i64 0] 33 (0, 0))]) := Lib.hid (((Fr.nil w).add (.cells #[.int .i64 a.x, .int .i64 a.y, .int .i64 a.z, .int .i64 b.x, .int .i64 b.y, .int .i64 b.z, .int .i64 c.x, .int .i64 c.y, .int .i64 c.z] 31) (w.heap.size) rfl).add (.cells #[.int .i64 0, .int .i64 0, .int .i64 0, .int .i64 0, .int .i64 0, .int .i64 0, .int .i64 0, .int .i64 0, .int .i64 0] 33) (w.heap.size + 1) (by simp))
  have SF := Lib.hid (fun (w4 : World) (h : Fr w w4 [(w.heap.size, .cells #[.int .i64 a.x, .int .i64 a.y, .int .i64 a.z, .int .i64 b.x, .int .i64 b.y, .int .i64 b.z, .int .i64 c.x, .int .i64 c.y, .int .i64 c.z] 31 (0, 0)), (w.heap.size + 1, .cells #[.int .i64 0, .int .i64 0, .int .i64 0, .int .i64 0, .int .i64 0, .int .i64 0, .int .i64 0, .int .i64 0, .int .i64 0] 33 (0, 0))]) => h.nine 0 rfl)
  have ST := Lib.hid (fun (w4 : World) (y0 y1 y2 y3 y4 y5 y6 y7 y8 : Value) (h : Fr w w4 [(w.heap.size, .cells #[.int .i64 a.x, .int .i64 a.y, .int .i64 a.z, .int .i64 b.x, .int .i64 b.y, .int .i64 b.z, .int .i64 c.x, .int .i64 c.y, .int .i64 c.z] 31 (0, 0)), (w.heap.size + 1, .cells #[.int .i64 0, .int .i64 0, .int .i64 0, .int .i64 0, .int .i64 0, .int .i64 0, .int .i64 0, .int .i64 0, .int .i64 0] 33 (0, 0))]) => (fun (w4 : World) (h : Fr w w4 [(w.heap.size, .cells #[.int .i64 a.x, .int .i64 a.y, .int .i64 a.z, .int .i64 b.x, .int .i64 b.y, .int .i64 b.z, .int .i64 c.x, .int .i64 c.y, .int .i64 c.z] 31 (0, 0))]) => h.nine 0 rfl) _ ((h.sub (l' := [(w.heap.size, .cells #[.int .i64 a.x, .int .i64 a.y, .int .i64 a.z, .int .i64 b.x, .int .i64 b.y, .int .i64 b.z, .int .i64 c.x, .int .i64 c.y, .int .i64 c.z] 31 (0, 0))]) (by intro q hq; simp only [List.mem_cons, List.not_mem_nil, or_false] at hq ⊢; rcases hq with rfl <;> simp)).away9 (b := w.heap.size + 1) (by intro q hq; simp only [List.mem_cons, List.not_mem_nil, or_false] at hq; rcases hq with rfl <;> simp <;> omega) (by omega) y0 y1 y2 y3 y4 y5 y6 y7 y8))
  go_enter Tryz.func12, Tryz.ntmps12
  go_wp2_with fail
  go_region_held3 (fun w4 => (w4.cell? ⟨w.heap.size, 0, none⟩ = some (.int .i64 a.x) ∧ w4.cell? ⟨w.heap.size, 1, none⟩ = some (.int .i64 a.y) ∧ w4.cell? ⟨w.heap.size, 2, none⟩ = some (.int .i64 a.z)) ∧ (w4.cell? ⟨w.heap.size, 3, none⟩ = some (.int .i64 b.x) ∧ w4.cell? ⟨w.heap.size, 4, none⟩ = some (.int .i64 b.y) ∧ w4.cell? ⟨w.heap.size, 5, none⟩ = some (.int .i64 b.z)) ∧ w4.cell? ⟨w.heap.size, 6, none⟩ = some (.int .i64 c.x) ∧ w4.cell? ⟨w.heap.size, 7, none⟩ = some (.int .i64 c.y) ∧ w4.cell? ⟨w.heap.size, 8, none⟩ = some (.int .i64 c.z)) (first | with_reducible exact SF.out _ F.out | with_reducible exact SF.out _ F.out.drew | with_reducible exact ST.out _ _ _ _ _ _ _ _ _ _ F.out) (first
    | (go_at_call 11; (first | (with_reducible refine (C1.out _).mono ?_) | (with_reducible refine (C2.out _).mono ?_) | (with_reducible refine (C3.out _).mono ?_)); rintro e w4 ⟨rfl, hT⟩; (first | (with_reducible have F := Lib.hid (F.out.keep hT)) | (have F := Lib.hid (F.out.drew.keep hT))); clear hT; obtain ⟨⟨r0, r1, r2⟩, ⟨r3, r4, r5⟩, r6, r7, r8⟩ := F.out.nine 1 rfl; obtain ⟨f0, f1, f2, f3, f4, f5, f6, f7, f8⟩ := F.out.fro9 1 rfl)
    | fail)
  all_goals
    go_wp2
    refine bodyPost_ret (v := .agg #[.int .i64 ap.x, .int .i64 ap.y, .int .i64 ap.z, .int .i64 bp.x, .int .i64 bp.y, .int .i64 bp.z, .int .i64 cp.x, .int .i64 cp.y, .int .i64 cp.z]) (by simp [results, Tryz.results12, go_sem, r0, r1, r2, r3, r4, r5, r6, r7, r8]) rfl ⟨rfl, ?_⟩
    exact F.out.fin9 1 rfl _ _ _ _ _ _ _ _ _

set_option maxHeartbeats 4000000 in
set_option maxRecDepth 100000 in
theorem rMovedTri (a b c v : P3) (s : Int) (ha : MovOk a v s) (hb : MovOk b v s) (hc : MovOk c v s) (w : World) :
    Calls Tryz.prog 18 #[.agg #[.int .i64 a.x, .int .i64 a.y, .int .i64 a.z, .int .i64 b.x, .int .i64 b.y, .int .i64 b.z, .int .i64 c.x, .int .i64 c.y, .int .i64 c.z], .agg #[.int .i64 v.x, .int .i64 v.y, .int .i64 v.z], .int .i64 s] w fun e w' => e = .returned (.agg #[.int .i64 (movI a v s).x, .int .i64 (movI a v s).y, .int .i64 (movI a v s).z, .int .i64 (movI b v s).x, .int .i64 (movI b v s).y, .int .i64 (movI b v s).z, .int .i64 (movI c v s).x, .int .i64 (movI c v s).y, .int .i64 (movI c v s).z]) ∧ Tch [] w w' := by
  obtain ⟨ap, hap⟩ : ∃ u, u = movI a v s := ⟨_, rfl⟩
  have C1 : Hid (∀ w1, Calls Tryz.prog 48 #[.agg #[.int .i64 a.x, .int .i64 a.y, .int .i64 a.z], .agg #[.int .i64 v.x, .int .i64 v.y, .int .i64 v.z], .int .i64 s] w1 fun e w' => e = .returned (.agg #[.int .i64 ap.x, .int .i64 ap.y, .int .i64 ap.z]) ∧ Tch [] w1 w') := Lib.hid (fun w1 => by rw [hap]; exact rMoved a v s ha w1)
  obtain ⟨bp, hbp⟩ : ∃ u, u = movI b v s := ⟨_, rfl⟩
  have C2 : Hid (∀ w1, Calls Tryz.prog 48 #[.agg #[.int .i64 b.x, .int .i64 b.y, .int .i64 b.z], .agg #[.int .i64 v.x, .int .i64 v.y, .int .i64 v.z], .int .i64 s] w1 fun e w' => e = .returned (.agg #[.int .i64 bp.x, .int .i64 bp.y, .int .i64 bp.z]) ∧ Tch [] w1 w') := Lib.hid (fun w1 => by rw [hbp]; exact rMoved b v s hb w1)
  obtain ⟨cp, hcp⟩ : ∃ u, u = movI c v s := ⟨_, rfl⟩
  have C3 : Hid (∀ w1, Calls Tryz.prog 48 #[.agg #[.int .i64 c.x, .int .i64 c.y, .int .i64 c.z], .agg #[.int .i64 v.x, .int .i64 v.y, .int .i64 v.z], .int .i64 s] w1 fun e w' => e = .returned (.agg #[.int .i64 cp.x, .int .i64 cp.y, .int .i64 cp.z]) ∧ Tch [] w1 w') := Lib.hid (fun w1 => by rw [hcp]; exact rMoved c v s hc w1)
  rw [← hap, ← hbp, ← hcp]
  clear hap hbp hcp ha hb hc
  have F : Hid (Fr w (((w.alloc (.cells #[.int .i64 a.x, .int .i64 a.y, .int .i64 a.z, .int .i64 b.x, .int .i64 b.y, .int .i64 b.z, .int .i64 c.x, .int .i64 c.y, .int .i64 c.z] 33)).alloc (.cells #[.int .i64 v.x, .int .i64 v.y, .int .i64 v.z] 22)).alloc (.cells #[.int .i64 0, .int .i64 0, .int .i64 0, .int .i64 0, .int .i64 0, .int .i64 0, .int .i64 0, .int .i64 0, .int .i64 0] 33)) [(w.heap.size, .cells #[.int .i64 a.x, .int .i64 a.y, .int .i64 a.z, .int .i64 b.x, .int .i64 b.y, .int .i64 b.z, .int .i64 c.x, .int .i64 c.y, .int .i64 c.z] 33 (0, 0)), (w.heap.size + 1, .cells #[.int .i64 v.x, .int .i64 v.y, .int .i64 v.z] 22 (0, 0)), (w.heap.size + 1 + 1, .cells #[.int .i64 0, .int .i64 0, .int .i64 0, .int .i64 0, .int .i64 0, .int .i64 0, .int .i64 0, .int .i64 0, .int .i64 0] 33 (0, 0))]) := Lib.hid ((((Fr.nil w).add (.cells #[.int .i64 a.x, .int .i64 a.y, .int .i64 a.z, .int .i64 b.x, .int .i64 b.y, .int .i64 b.z, .int .i64 c.x, .int .i64 c.y, .int .i64 c.z] 33) (w.heap.size) rfl).add (.cells #[.int .i64 v.x, .int .i64 v.y, .int .i64 v.z] 22) (w.heap.size + 1) (by simp)).add (.cells #[.int .i64 0, .int .i64 0, .int .i64 0, .int .i64 0, .int .i64 0, .int .i64 0, .int .i64 0, .int .i64 0, .int .i64 0] 33) (w.heap.size + 1 + 1) (by simp))
  have SF := Lib.hid (fun (w4 : World) (h : Fr w w4 [(w.heap.size, .cells #[.int .i64 a.x, .int .i64 a.y, .int .i64 a.z, .int .i64 b.x, .int .i64 b.y, .int .i64 b.z, .int .i64 c.x, .int .i64 c.y, .int .i64 c.z] 33 (0, 0)), (w.heap.size + 1, .cells #[.int .i64 v.x, .int .i64 v.y, .int .i64 v.z] 22 (0, 0)), (w.heap.size + 1 + 1, .cells #[.int .i64 0, .int .i64 0, .int .i64 0, .int .i64 0, .int .i64 0, .int .i64 0, .int .i64 0, .int .i64 0, .int .i64 0] 33 (0, 0))]) => And.intro (h.nine 0 rfl) (h.three 1 rfl))
  have ST := Lib.hid (fun (w4 : World) (y0 y1 y2 y3 y4 y5 y6 y7 y8 : Value) (h : Fr w w4 [(w.heap.size, .cells #[.int .i64 a.x, .int .i64 a.y, .int .i64 a.z, .int .i64 b.x, .int .i64 b.y, .int .i64 b.z, .int .i64 c.x, .int .i64 c.y, .int .i64 c.z] 33 (0, 0)), (w.heap.size + 1, .cells #[.int .i64 v.x, .int .i64 v.y, .int .i64 v.z] 22 (0, 0)), (w.heap.size + 1 + 1, .cells #[.int .i64 0, .int .i64 0, .int .i64 0, .int .i64 0, .int .i64 0, .int .i64 0, .int .i64 0, .int .i64 0, .int .i64 0] 33 (0, 0))]) => (fun (w4 : World) (h : Fr w w4 [(w.heap.size, .cells #[.int .i64 a.x, .int .i64 a.y, .int .i64 a.z, .int .i64 b.x, .int .i64 b.y, .int .i64 b.z, .int .i64 c.x, .int .i64 c.y, .int .i64 c.z] 33 (0, 0)), (w.heap.size + 1, .cells #[.int .i64 v.x, .int .i64 v.y, .int .i64 v.z] 22 (0, 0))]) => And.intro (h.nine 0 rfl) (h.three 1 rfl)) _ ((h.sub (l' := [(w.heap.size, .cells #[.int .i64 a.x, .int .i64 a.y, .int .i64 a.z, .int .i64 b.x, .int .i64 b.y, .int .i64 b.z, .int .i64 c.x, .int .i64 c.y, .int .i64 c.z] 33 (0, 0)), (w.heap.size + 1, .cells #[.int .i64 v.x, .int .i64 v.y, .int .i64 v.z] 22 (0, 0))]) (by intro q hq; simp only [List.mem_cons, List.not_mem_nil, or_false] at hq ⊢; rcases hq with rfl | rfl <;> simp)).away9 (b := w.heap.size + 1 + 1) (by intro q hq; simp only [List.mem_cons, List.not_mem_nil, or_false] at hq; rcases hq with rfl | rfl <;> simp <;> omega) (by omega) y0 y1 y2 y3 y4 y5 y6 y7 y8))
  go_enter Tryz.func18, Tryz.ntmps18
  go_wp2_with fail
  go_region_held3 (fun w4 => ((w4.cell? ⟨w.heap.size, 0, none⟩ = some (.int .i64 a.x) ∧ w4.cell? ⟨w.heap.size, 1, none⟩ = some (.int .i64 a.y) ∧ w4.cell? ⟨w.heap.size, 2, none⟩ = some (.int .i64 a.z)) ∧ (w4.cell? ⟨w.heap.size, 3, none⟩ = some (.int .i64 b.x) ∧ w4.cell? ⟨w.heap.size, 4, none⟩ = some (.int .i64 b.y) ∧ w4.cell? ⟨w.heap.size, 5, none⟩ = some (.int .i64 b.z)) ∧ w4.cell? ⟨w.heap.size, 6, none⟩ = some (.int .i64 c.x) ∧ w4.cell? ⟨w.heap.size, 7, none⟩ = some (.int .i64 c.y) ∧ w4.cell? ⟨w.heap.size, 8, none⟩ = some (.int .i64 c.z)) ∧ (w4.cell? ⟨w.heap.size + 1, 0, none⟩ = some (.int .i64 v.x) ∧ w4.cell? ⟨w.heap.size + 1, 1, none⟩ = some (.int .i64 v.y) ∧ w4.cell? ⟨w.heap.size + 1, 2, none⟩ = some (.int .i64 v.z))) (first | with_reducible exact SF.out _ F.out | with_reducible exact SF.out _ F.out.drew | with_reducible exact ST.out _ _ _ _ _ _ _ _ _ _ F.out) (first
    | (go_at_call 48; (first | (with_reducible refine (C1.out _).mono ?_) | (with_reducible refine (C2.out _).mono ?_) | (with_reducible refine (C3.out _).mono ?_)); rintro e w4 ⟨rfl, hT⟩; (first | (with_reducible have F := Lib.hid (F.out.keep hT)) | (have F := Lib.hid (F.out.drew.keep hT))); clear hT; obtain ⟨⟨r0, r1, r2⟩, ⟨r3, r4, r5⟩, r6, r7, r8⟩ := F.out.nine 2 rfl; obtain ⟨f0, f1, f2, f3, f4, f5, f6, f7, f8⟩ := F.out.fro9 2 rfl)
    | fail)
  all_goals
    go_wp2
    refine bodyPost_ret (v := .agg #[.int .i64 ap.x, .int .i64 ap.y, .int .i64 ap.z, .int .i64 bp.x, .int .i64 bp.y, .int .i64 bp.z, .int .i64 cp.x, .int .i64 cp.y, .int .i64 cp.z]) (by simp [results, Tryz.results18, go_sem, r0, r1, r2, r3, r4, r5, r6, r7, r8]) rfl ⟨rfl, ?_⟩
    exact F.out.fin9 2 rfl _ _ _ _ _ _ _ _ _

theorem and_i64 (x : Int) : 0 ≤ bits .and .i64 x 1073741823 ∧ bits .and .i64 x 1073741823 ≤ 1073741823 := by
  have h : um x &&& um 1073741823 ≤ um 1073741823 := Nat.and_le_right
  have h2 : um 1073741823 = 1073741823 := by decide
  have e : bits .and .i64 x 1073741823 = IntKind.i64.wrap (((um x &&& um 1073741823 : Nat)) : Int) := by
    show IntKind.i64.wrap ((BitVec.ofInt 64 x &&& BitVec.ofInt 64 1073741823).toNat : Int) = _
    rw [BitVec.toNat_and, bv_um, bv_um]
  rw [e, IntKind.wrap_i64]
  rw [h2] at h ⊢
  omega
/-- Points of a grid of 1000, moved: in range. -/
theorem mov_ok {p b : P3} {s : Int} (hp : (0 ≤ p.x ∧ p.x < 1000) ∧ (0 ≤ p.y ∧ p.y < 1000) ∧ 0 ≤ p.z ∧ p.z < 1000) (hs : 0 < s ∧ s ≤ 1073741824) (hb : (-1099511627776 < b.x ∧ b.x < 1099511627776) ∧ (-1099511627776 < b.y ∧ b.y < 1099511627776) ∧ -1099511627776 < b.z ∧ b.z < 1099511627776) : MovOk p b s ∧ (movI p b s).Ok := by
  have key : ∀ x : Int, 0 ≤ x ∧ x < 1000 → 0 ≤ x * s ∧ x * s ≤ 1072668082176 := fun x h => by
    refine ⟨Int.mul_nonneg h.1 (by omega), ?_⟩
    have h1 : x * s ≤ 999 * s := Int.mul_le_mul_of_nonneg_right (by omega) (by omega)
    omega
  have kx := key _ hp.1
  have ky := key _ hp.2.1
  have kz := key _ hp.2.2
  refine ⟨⟨⟨⟨by omega, by omega⟩, ⟨by omega, by omega⟩⟩, ⟨⟨by omega, by omega⟩, ⟨by omega, by omega⟩⟩, ⟨⟨by omega, by omega⟩, ⟨by omega, by omega⟩⟩⟩, ⟨⟨?_, ?_⟩, ⟨?_, ?_⟩, ⟨?_, ?_⟩⟩⟩ <;> simp only [movI] <;> omega

end Go.Proofs.YtandlbacjfdkpaaGreatDoor
