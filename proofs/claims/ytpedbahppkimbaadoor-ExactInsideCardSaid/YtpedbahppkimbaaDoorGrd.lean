/- lithophaneref02.mod, Grid, Moved: points made of numbers. -/
import Derived.Test.YtpedbahppkimbaaDoorVecA
import Derived.Test.YtpedbahppkimbaaDoorVecE
import Derived.Test.YtpedbahppkimbaaDoorNrm
import Derived.Test.YtpedbahppkimbaaDoorMid
namespace Go.Proofs.YtpedbahppkimbaaDoor
open Go Go.RowKit Dg

theorem mod_facts {n m : Int} (hm : 0 < m ∧ m ≤ 1073741824) : wrap64 (n.tmod m + m) = n.tmod m + m ∧ (n.tmod m + m) % m = n % m ∧ I64 (n.tmod m) ∧ 0 ≤ n.tmod m + m := by
  have h1 : n.tmod m < m := Int.tmod_lt_of_pos n hm.1
  have h2 : -m < n.tmod m := by
    have := Int.lt_tmod_of_pos n hm.1
    omega
  have h3 : (n.tmod m + m) % m = n % m := by
    rw [Int.add_emod_right]
    conv => rhs; rw [← Int.mul_tdiv_add_tmod n m]
    rw [Int.add_comm, Int.add_mul_emod_self_left]
  exact ⟨wrap64_in ⟨by omega, by omega⟩, h3, ⟨by omega, by omega⟩, by omega⟩

set_option maxHeartbeats 1000000 in
set_option maxRecDepth 100000 in
theorem rmod (n m : Int) (hm : 0 < m ∧ m ≤ 1073741824) (w : World) :
    Calls Tryd.prog 14 #[.int .i64 n, .int .i64 m] w fun e w' => e = .returned (.int .i64 (n % m)) ∧ Tch [] w w' := by
  obtain ⟨h1, h2, h3, h4⟩ := mod_facts (n := n) hm
  have h0 : (m == 0) = false := beq_eq_false_iff_ne.2 (by omega)
  have h5 : m ≠ 0 := by omega
  rw [← h2]
  clear h2
  go_enter Tryd.func14, Tryd.ntmps14
  go_wp2
  go_ret
  exact ⟨rfl, Tch.refl [] w⟩

/-- A point on a grid of k numbers each way; a point that is scaled and moved. -/
def gridI (a : P3) (k : Int) : P3 := ⟨a.x % k, a.y % k, a.z % k⟩
def movI (p b : P3) (s : Int) : P3 := ⟨p.x * s + b.x, p.y * s + b.y, p.z * s + b.z⟩
structure MovOk (p b : P3) (s : Int) : Prop where
  x : I64 (p.x * s) ∧ I64 (p.x * s + b.x)
  y : I64 (p.y * s) ∧ I64 (p.y * s + b.y)
  z : I64 (p.z * s) ∧ I64 (p.z * s + b.z)

set_option maxHeartbeats 2000000 in
set_option maxRecDepth 100000 in
theorem rGrid (a : P3) (k : Int) (hk : 0 < k ∧ k ≤ 1073741824) (w : World) :
    Calls Tryd.prog 6 #[.agg #[.int .i64 a.x, .int .i64 a.y, .int .i64 a.z], .int .i64 k] w fun e w' => e = .returned (.agg #[.int .i64 (a.x % k), .int .i64 (a.y % k), .int .i64 (a.z % k)]) ∧ Tch [] w w' := by
  have C1 := Lib.hid (fun w1 => rmod a.x k hk w1)
  have C2 := Lib.hid (fun w1 => rmod a.y k hk w1)
  have C3 := Lib.hid (fun w1 => rmod a.z k hk w1)
  obtain ⟨g0, hg0⟩ : ∃ g, g = a.x % k := ⟨_, rfl⟩
  obtain ⟨g1, hg1⟩ : ∃ g, g = a.y % k := ⟨_, rfl⟩
  obtain ⟨g2, hg2⟩ : ∃ g, g = a.z % k := ⟨_, rfl⟩
  rw [← hg0] at C1 ⊢
  rw [← hg1] at C2 ⊢
  rw [← hg2] at C3 ⊢
  clear hg0 hg1 hg2 hk
  have F : Hid (Fr w ((w.alloc (.cells #[.int .i64 a.x, .int .i64 a.y, .int .i64 a.z] 23)).alloc (.cells #[.int .i64 0, .int .i64 0, .int .i64 0] 26)) [(w.heap.size, .cells #[.int .i64 a.x, .int .i64 a.y, .int .i64 a.z] 23 (0, 0)), (w.heap.size + 1, .cells #[.int .i64 0, .int .i64 0, .int .i64 0] 26 (0, 0))]) := Lib.hid (((Fr.nil w).add (.cells #[.int .i64 a.x, .int .i64 a.y, .int .i64 a.z] 23) w.heap.size rfl).add (.cells #[.int .i64 0, .int .i64 0, .int .i64 0] 26) (w.heap.size + 1) (by simp))
  have SF := Lib.hid (fun (w4 : World) (h : Fr w w4 [(w.heap.size, .cells #[.int .i64 a.x, .int .i64 a.y, .int .i64 a.z] 23 (0, 0)), (w.heap.size + 1, .cells #[.int .i64 0, .int .i64 0, .int .i64 0] 26 (0, 0))]) => h.three 0 rfl)
  have ST := Lib.hid (fun (w4 : World) (x y z : Value) (h : Fr w w4 [(w.heap.size, .cells #[.int .i64 a.x, .int .i64 a.y, .int .i64 a.z] 23 (0, 0)), (w.heap.size + 1, .cells #[.int .i64 0, .int .i64 0, .int .i64 0] 26 (0, 0))]) => ((((h.only 0 rfl).away (p := ⟨w.heap.size + 1, 0, none⟩) (by simp) (by simp) x).away (p := ⟨w.heap.size + 1, 1, none⟩) (by simp) (by simp) y).away (p := ⟨w.heap.size + 1, 2, none⟩) (by simp) (by simp) z).three 0 rfl)
  go_enter Tryd.func6, Tryd.ntmps6
  go_wp2_with fail
  go_region_held3 (fun w4 => w4.cell? ⟨w.heap.size, 0, none⟩ = some (.int .i64 a.x) ∧ w4.cell? ⟨w.heap.size, 1, none⟩ = some (.int .i64 a.y) ∧ w4.cell? ⟨w.heap.size, 2, none⟩ = some (.int .i64 a.z)) (first | with_reducible exact SF.out _ F.out | with_reducible exact SF.out _ F.out.drew | with_reducible exact ST.out _ _ _ _ F.out) (first
    | (go_at_call 14; (first | (with_reducible refine (C1.out _).mono ?_) | (with_reducible refine (C2.out _).mono ?_) | (with_reducible refine (C3.out _).mono ?_)); rintro e w4 ⟨rfl, hT⟩; (first | (with_reducible have F := Lib.hid (F.out.keep hT)) | (have F := Lib.hid (F.out.drew.keep hT))); clear hT; obtain ⟨r0, r1, r2⟩ := F.out.three 1 rfl; obtain ⟨f0, f1, f2⟩ := F.out.fro3 1 rfl)
    | fail)
  all_goals
    go_wp2
    refine bodyPost_ret (v := .agg #[.int .i64 g0, .int .i64 g1, .int .i64 g2]) (by simp [results, Tryd.results6, go_sem, r0, r1, r2]) rfl ⟨rfl, ?_⟩
    exact F.out.fin3 1 rfl _ _ _

set_option maxHeartbeats 2000000 in
set_option maxRecDepth 100000 in
theorem rMoved (p b : P3) (s : Int) (h : MovOk p b s) (w : World) :
    Calls Tryd.prog 15 #[.agg #[.int .i64 p.x, .int .i64 p.y, .int .i64 p.z], .agg #[.int .i64 b.x, .int .i64 b.y, .int .i64 b.z], .int .i64 s] w fun e w' => e = .returned (.agg #[.int .i64 (p.x * s + b.x), .int .i64 (p.y * s + b.y), .int .i64 (p.z * s + b.z)]) ∧ Tch [] w w' := by
  have e1 := wrap64_in h.x.1
  have e2 := wrap64_in h.x.2
  have e3 := wrap64_in h.y.1
  have e4 := wrap64_in h.y.2
  have e5 := wrap64_in h.z.1
  have e6 := wrap64_in h.z.2
  clear h
  have F : Hid (Fr w (((w.alloc (.cells #[.int .i64 p.x, .int .i64 p.y, .int .i64 p.z] 26)).alloc (.cells #[.int .i64 b.x, .int .i64 b.y, .int .i64 b.z] 23)).alloc (.cells #[.int .i64 0, .int .i64 0, .int .i64 0] 26)) [(w.heap.size, .cells #[.int .i64 p.x, .int .i64 p.y, .int .i64 p.z] 26 (0, 0)), (w.heap.size + 1, .cells #[.int .i64 b.x, .int .i64 b.y, .int .i64 b.z] 23 (0, 0)), (w.heap.size + 1 + 1, .cells #[.int .i64 0, .int .i64 0, .int .i64 0] 26 (0, 0))]) := Lib.hid ((((Fr.nil w).add (.cells #[.int .i64 p.x, .int .i64 p.y, .int .i64 p.z] 26) w.heap.size rfl).add (.cells #[.int .i64 b.x, .int .i64 b.y, .int .i64 b.z] 23) (w.heap.size + 1) (by simp)).add (.cells #[.int .i64 0, .int .i64 0, .int .i64 0] 26) (w.heap.size + 1 + 1) (by simp))
  obtain ⟨p0, p1, p2⟩ := F.out.three 0 rfl
  obtain ⟨b0, b1, b2⟩ := F.out.three 1 rfl
  obtain ⟨r0, r1, r2⟩ := F.out.three 2 rfl
  obtain ⟨f0, f1, f2⟩ := F.out.fro3 2 rfl
  go_enter Tryd.func15, Tryd.ntmps15
  go_wp2
  refine bodyPost_ret (v := .agg #[.int .i64 (p.x * s + b.x), .int .i64 (p.y * s + b.y), .int .i64 (p.z * s + b.z)]) (by simp [results, Tryd.results15, go_sem, e1, e2, e3, e4, e5, e6]) rfl ⟨rfl, ?_⟩
  exact (((Tch.refl [] w).alloc _).alloc _).alloc _

end Go.Proofs.YtpedbahppkimbaaDoor
