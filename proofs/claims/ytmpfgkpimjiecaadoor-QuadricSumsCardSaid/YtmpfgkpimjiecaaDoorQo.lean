/- quadric.Of: the closure that makes a coefficient. -/
import Derived.Test.YtmpfgkpimjiecaaDoorQc
import Derived.BigQuiet
namespace Go.Proofs.YtmpfgkpimjiecaaDoor
open Go Go.RowKit Dg

theorem Fr.drewN {w0 w : World} {l : List (Nat × Obj)} (h : Fr w0 w l) (n : Nat) : Fr w0 (w.drewN n) l := ⟨h.row, h.new, h.t.drewN n⟩

set_option maxHeartbeats 2000000 in
set_option maxRecDepth 100000 in
theorem ofK (k i j g : Nat) (hk : k < 10) (hi : i < 4) (hj : j < 4) (u v r : Int) (hr : r = if i = j then u * v else u * v + u * v) (hu : Sm 1000 u) (hv : Sm 1000 v) (w : World) (h0 : w.cell? ⟨0, k * 2, none⟩ = some (.int .i64 (i : Int))) (h1 : w.cell? ⟨0, k * 2 + 1, none⟩ = some (.int .i64 (j : Int)))
    (u0 : w.cell? ⟨g, i * 2, none⟩ = some (.bool (sgz u))) (u1 : w.cell? ⟨g, i * 2 + 1, none⟩ = some (.string (moz u))) (v0 : w.cell? ⟨g, j * 2, none⟩ = some (.bool (sgz v))) (v1 : w.cell? ⟨g, j * 2 + 1, none⟩ = some (.string (moz v))) :
    Calls Tryd.prog 28 #[.int .i64 (k : Int), .pointer (some ⟨g, 0, none⟩)] w fun e w' => e = .returned (.agg #[.bool (sgz r), .string (moz r)]) ∧ Tch [] w w' := by
  have hm := hu.mul hv
  have c1 := fun w1 => KMul (hu.mono (l := 3000) (by omega)) (hv.mono (l := 3000) (by omega)) w1
  have c2 := fun w1 => KAdd (hm.mono (l := 3000) (by omega)) (hm.mono (l := 3000) (by omega)) w1
  obtain ⟨m, em⟩ : ∃ m, m = u * v := ⟨_, rfl⟩
  rw [← em] at c1 c2 hr
  obtain ⟨m2, em2⟩ : ∃ m2, m2 = m + m := ⟨_, rfl⟩
  rw [← em2] at c2 hr
  have C1 := Lib.hid c1
  have C2 := Lib.hid c2
  have HR := Lib.hid hr
  clear c1 c2 hm em em2 hu hv hr
  have ik : (0 : Int) ≤ k := by omega
  have ik2 : (k : Int) < 10 := by omega
  have ii : (0 : Int) ≤ i := by omega
  have ii2 : (i : Int) < 4 := by omega
  have ij : (0 : Int) ≤ j := by omega
  have ij2 : (j : Int) < 4 := by omega
  have F : Hid (Fr w (w.alloc (.cells #[.bool false, .string ⟨#[]⟩] 26)) [(w.heap.size, .cells #[.bool false, .string ⟨#[]⟩] 26 (0, 0))]) := Lib.hid ((Fr.nil w).add _ w.heap.size rfl)
  have SA := Lib.hid (fun (w' : World) (h : Fr w w' [(w.heap.size, .cells #[.bool false, .string ⟨#[]⟩] 26 (0, 0))]) => And.intro (cell_kept0 u0 h.t) (And.intro (cell_kept0 u1 h.t) (And.intro (cell_kept0 v0 h.t) (cell_kept0 v1 h.t))))
  have e0 := cell_kept0 h0 F.out.t
  have e1 := cell_kept0 h1 F.out.t
  clear h0 h1 u0 u1 v0 v1
  go_enter Tryd.func28, Tryd.ntmps28
  go_upto_region 1 with (fail)
  go_quiet (fail)
  go_upto_region 2 with (fail)
  clear e0 e1
  have F := Lib.hid (F.out.drewN nq)
  generalize (w.alloc (.cells #[.bool false, .string ⟨#[]⟩] 26)).drewN nq = W at F ⊢
  go_cut [6] (fun s6 wx => MidB w [(w.heap.size, .cells #[.bool false, .string ⟨#[]⟩] 26 (0, 0))] (.cells #[.bool (sgz m), .string (moz m)] 26 (0, 0)) s6 wx)
  case first =>
    go_region_held3 (fun w' => w'.cell? ⟨g, i * 2, none⟩ = some (.bool (sgz u)) ∧ w'.cell? ⟨g, i * 2 + 1, none⟩ = some (.string (moz u)) ∧ w'.cell? ⟨g, j * 2, none⟩ = some (.bool (sgz v)) ∧ w'.cell? ⟨g, j * 2 + 1, none⟩ = some (.string (moz v))) (first | with_reducible exact SA.out _ F3.out | with_reducible exact SA.out _ (F3.out.beside _) | with_reducible exact SA.out _ (F3.out.box2 _ _ _) | with_reducible exact SA.out _ (B3.out.set2 _ _) | with_reducible exact SA.out _ F.out | with_reducible exact SA.out _ F.out.drew | with_reducible exact SA.out _ (F.out.drew.beside _) | with_reducible exact SA.out _ (F.out.beside _).drew) (first
      | (go_at_call 29; (with_reducible refine (C1.out _).mono ?_); rintro e w5 ⟨rfl, hT⟩; (first | (with_reducible have B3 := Lib.hid (F.out.boxedAt _ W.heap.size rfl (Tch.undrew hT)); obtain ⟨⟨z0, z1'⟩, ⟨f0, f1⟩⟩ := B3.out.two; have F3 := Lib.hid B3.out.f) | (with_reducible have F3 := Lib.hid (F.out.keep (Tch.undrew hT)))); clear hT))
    all_goals (go_wp2_with fail; go_meet; (first | with_reducible exact F3.out.mid _ | with_reducible exact B3.out.mid2 _ _))
  case rest =>
    obtain ⟨b, rfl, FM, hb, hn⟩ := hcut
    clear F SA
    have F := Lib.hid (FM.take hb hn)
    clear FM hb hn
    obtain ⟨t0, t1⟩ := F.out.two 1 rfl
    by_cases hij : i = j
    · have hr : Hid (r = m) := Lib.hid (by have := HR.out; rwa [if_pos hij] at this)
      have hij' : (i : Int) = j := by omega
      obtain ⟨r0, r1⟩ := F.out.two 0 rfl
      obtain ⟨g0, g1⟩ := F.out.fro2 0 rfl
      clear HR hij C2
      go_wp2
      refine bodyPost_ret (v := .agg #[.bool (sgz m), .string (moz m)]) (by simp [results, Tryd.results28, go_sem, r0, r1]) rfl ⟨by rw [hr.out], F.out.fin2 0 rfl _ _⟩
    · have hr : Hid (r = m2) := Lib.hid (by have := HR.out; rwa [if_neg hij] at this)
      have hij' : ¬ ((i : Int) = j) := by omega
      clear HR hij
      go_wp2_with fail
      refine (C2.out _).mono ?_
      rintro e w4 ⟨rfl, hT⟩
      have F := Lib.hid (F.out.keep hT)
      clear hT t0 t1
      obtain ⟨r0, r1⟩ := F.out.two 0 rfl
      obtain ⟨g0, g1⟩ := F.out.fro2 0 rfl
      go_wp2
      refine bodyPost_ret (v := .agg #[.bool (sgz m2), .string (moz m2)]) (by simp [results, Tryd.results28, go_sem, r0, r1]) rfl ⟨by rw [hr.out], F.out.fin2 0 rfl _ _⟩

end Go.Proofs.YtmpfgkpimjiecaaDoor
