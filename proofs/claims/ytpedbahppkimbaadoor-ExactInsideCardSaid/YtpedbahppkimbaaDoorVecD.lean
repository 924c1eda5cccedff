/- Wide vectors in the program: dot. -/
import Derived.Test.YtpedbahppkimbaaDoorVecC
import Derived.Deep.RegionWith
namespace Go.Proofs.YtpedbahppkimbaaDoor
open Go Go.RowKit Dg

theorem Sm.zero (k : Nat) : Go.Proofs.YtpedbahppkimbaaDoor.Sm k 0 := by unfold Go.Proofs.YtpedbahppkimbaaDoor.Sm; exact Nat.pow_pos (by omega)

section
variable {w : World} {A : Nat} {L : List Obj}
theorem Bs.two (h : Bs w A L) (i : Nat) {b : Nat} {x y : Value} {T : TypeId} (hb : A + i = b) (hi : L[i]? = some (.cells #[x, y] T (0, 0))) : w.cell? ⟨b, 0, none⟩ = some x ∧ w.cell? ⟨b, 1, none⟩ = some y := by
  subst hb; exact ⟨h.cell i 0 hi rfl, h.cell i 1 hi rfl⟩
theorem Bs.fro2 (h : Bs w A L) (i : Nat) {b : Nat} {vs : Array Value} {T : TypeId} (hb : A + i = b) (hi : L[i]? = some (.cells vs T (0, 0))) : w.frozen? ⟨b, 0, none⟩ = false ∧ w.frozen? ⟨b, 1, none⟩ = false := by
  subst hb; exact ⟨h.frozen i 0 hi, h.frozen i 1 hi⟩
end

/-- The first k summands of the scalar product. -/
def psum (v u : P3) (k : Nat) : Int := match k with | 0 => 0 | 1 => v.x * u.x | 2 => v.x * u.x + v.y * u.y | _ => dotI v u

set_option maxHeartbeats 2000000 in
set_option maxRecDepth 100000 in
theorem xwideDot (v u : P3) (hv : v.Sm 180) (hu : u.Sm 180) (w : World) :
    Calls Tryd.prog 21 #[.agg #[.bool (sgz v.x), .string (moz v.x), .bool (sgz v.y), .string (moz v.y), .bool (sgz v.z), .string (moz v.z)], .agg #[.bool (sgz u.x), .string (moz u.x), .bool (sgz u.y), .string (moz u.y), .bool (sgz u.z), .string (moz u.z)]] w fun e w' =>
      e = .returned (.agg #[.bool (sgz (dotI v u)), .string (moz (dotI v u))]) ∧ Tch [] w w' := by
  have px := hv.x.mul hu.x
  have py := hv.y.mul hu.y
  have pz := hv.z.mul hu.z
  have M1 := Lib.hid (fun w1 => IMul (hv.x.mono (l := 400) (by omega)) (hu.x.mono (l := 400) (by omega)) w1)
  have M2 := Lib.hid (fun w1 => IMul (hv.y.mono (l := 400) (by omega)) (hu.y.mono (l := 400) (by omega)) w1)
  have M3 := Lib.hid (fun w1 => IMul (hv.z.mono (l := 400) (by omega)) (hu.z.mono (l := 400) (by omega)) w1)
  have A1 : Hid (∀ w1, Calls Tryd.prog 37 #[.agg #[.bool (sgz (psum v u 0)), .string (moz (psum v u 0))], .agg #[.bool (sgz (v.x * u.x)), .string (moz (v.x * u.x))]] w1 fun e w' => e = .returned (.agg #[.bool (sgz (psum v u 1)), .string (moz (psum v u 1))]) ∧ Tch [] w1 w') := Lib.hid (fun w1 => by have := IAdd (x := 0) (y := v.x * u.x) (Sm.zero 400) (px.mono (by omega)) w1; rwa [Int.zero_add] at this)
  have A2 : Hid (∀ w1, Calls Tryd.prog 37 #[.agg #[.bool (sgz (psum v u 1)), .string (moz (psum v u 1))], .agg #[.bool (sgz (v.y * u.y)), .string (moz (v.y * u.y))]] w1 fun e w' => e = .returned (.agg #[.bool (sgz (psum v u 2)), .string (moz (psum v u 2))]) ∧ Tch [] w1 w') := Lib.hid (fun w1 => IAdd (px.mono (by omega)) (py.mono (by omega)) w1)
  have A3 : Hid (∀ w1, Calls Tryd.prog 37 #[.agg #[.bool (sgz (psum v u 2)), .string (moz (psum v u 2))], .agg #[.bool (sgz (v.z * u.z)), .string (moz (v.z * u.z))]] w1 fun e w' => e = .returned (.agg #[.bool (sgz (psum v u 3)), .string (moz (psum v u 3))]) ∧ Tch [] w1 w') := Lib.hid (fun w1 => IAdd ((px.add py).mono (by omega)) (pz.mono (by omega)) w1)
  have e0 : sgz (psum v u 0) = false ∧ moz (psum v u 0) = ⟨#[]⟩ := ⟨sgz_zero, moz_zero⟩
  have HB0 : Hid (Bs ((((w.alloc (.cells #[.bool (sgz v.x), .string (moz v.x), .bool (sgz v.y), .string (moz v.y), .bool (sgz v.z), .string (moz v.z)] 50)).alloc (.cells #[.bool (sgz u.x), .string (moz u.x), .bool (sgz u.y), .string (moz u.y), .bool (sgz u.z), .string (moz u.z)] 50)).alloc (.cells #[.bool false, .string ⟨#[]⟩] 36)).alloc (.cells #[.bool false, .string ⟨#[]⟩] 36)) w.heap.size [.cells #[.bool (sgz v.x), .string (moz v.x), .bool (sgz v.y), .string (moz v.y), .bool (sgz v.z), .string (moz v.z)] 50 (0, 0), .cells #[.bool (sgz u.x), .string (moz u.x), .bool (sgz u.y), .string (moz u.y), .bool (sgz u.z), .string (moz u.z)] 50 (0, 0), .cells #[.bool false, .string ⟨#[]⟩] 36 (0, 0), .cells #[.bool (sgz (psum v u 0)), .string (moz (psum v u 0))] 36 (0, 0)]) := Lib.hid (by rw [e0.1, e0.2]; exact ((((Bs.nil w).alloc (by simp) (.cells #[.bool (sgz v.x), .string (moz v.x), .bool (sgz v.y), .string (moz v.y), .bool (sgz v.z), .string (moz v.z)] 50)).alloc (by simp) (.cells #[.bool (sgz u.x), .string (moz u.x), .bool (sgz u.y), .string (moz u.y), .bool (sgz u.z), .string (moz u.z)] 50)).alloc (by simp) (.cells #[.bool false, .string ⟨#[]⟩] 36)).alloc (by simp) (.cells #[.bool false, .string ⟨#[]⟩] 36))
  have HT0 := Lib.hid (((((Tch.refl [] w).alloc (.cells #[.bool (sgz v.x), .string (moz v.x), .bool (sgz v.y), .string (moz v.y), .bool (sgz v.z), .string (moz v.z)] 50)).alloc (.cells #[.bool (sgz u.x), .string (moz u.x), .bool (sgz u.y), .string (moz u.y), .bool (sgz u.z), .string (moz u.z)] 50)).alloc (.cells #[.bool false, .string ⟨#[]⟩] 36)).alloc (.cells #[.bool false, .string ⟨#[]⟩] 36))
  clear hv hu px py pz e0
  go_enter Tryd.func21, Tryd.ntmps21
  go_wp2
  go_loopw [7] (fun i wr => ∃ k : Nat, k ≤ 3 ∧ i = .int .i64 (k : Int) ∧ Hid (Bs wr w.heap.size [.cells #[.bool (sgz v.x), .string (moz v.x), .bool (sgz v.y), .string (moz v.y), .bool (sgz v.z), .string (moz v.z)] 50 (0, 0), .cells #[.bool (sgz u.x), .string (moz u.x), .bool (sgz u.y), .string (moz u.y), .bool (sgz u.z), .string (moz u.z)] 50 (0, 0), .cells #[.bool false, .string ⟨#[]⟩] 36 (0, 0), .cells #[.bool (sgz (psum v u k)), .string (moz (psum v u k))] 36 (0, 0)]) ∧ Hid (Tch [] w wr))
    (fun i _ => 3 - (intOf i).toNat)
  case atStart => exact ⟨0, by omega, rfl, HB0, HT0⟩
  case round =>
    obtain ⟨k, hk, rfl, hB, hT⟩ := hrel
    rcases (show k = 0 ∨ k = 1 ∨ k = 2 ∨ k = 3 by omega) with rfl | rfl | rfl | rfl
    · obtain ⟨a0, a1, a2, a3, a4, a5⟩ := hB.out.six 0 (b := w.heap.size) rfl rfl
      obtain ⟨b0, b1, b2, b3, b4, b5⟩ := hB.out.six 1 (b := w.heap.size + 1) rfl rfl
      obtain ⟨s0, s1⟩ := hB.out.two 3 (b := w.heap.size + 1 + 1 + 1) rfl rfl
      go_wp2_with fail
      go_region_with (first
        | (go_at_call 38; refine (M1.out _).mono ?_; rintro e w3 ⟨rfl, hT1⟩; have G := Lib.hid (hB.out.drew.keep hT1); have T := Lib.hid (hT.out.drew.trans hT1 (by simp)); obtain ⟨t0, t1⟩ := G.out.two 3 (b := w.heap.size + 1 + 1 + 1) rfl rfl; clear hT1)
        | (go_at_call 37; refine (A1.out _).mono ?_; rintro e w4 ⟨rfl, hT2⟩; have G2 := Lib.hid (G.out.keep hT2); have T2 := Lib.hid (T.out.trans hT2 (by simp)); obtain ⟨t2, t3⟩ := G2.out.two 3 (b := w.heap.size + 1 + 1 + 1) rfl rfl; obtain ⟨f0, f1⟩ := G2.out.fro2 3 (b := w.heap.size + 1 + 1 + 1) rfl rfl; clear hT2))
      all_goals go_wp2
      all_goals (go_roundw; (case rel => exact ⟨1, by omega, by go_num, Lib.hid ((G2.out.set 3 0 (.bool (sgz (psum v u 1))) rfl).set 3 1 (.string (moz (psum v u 1))) rfl), Lib.hid ((T2.out.setCell (.inr (by simp; omega)) _).setCell (.inr (by simp; omega)) _)⟩); (case measure => simp [intOf]))
    · obtain ⟨a0, a1, a2, a3, a4, a5⟩ := hB.out.six 0 (b := w.heap.size) rfl rfl
      obtain ⟨b0, b1, b2, b3, b4, b5⟩ := hB.out.six 1 (b := w.heap.size + 1) rfl rfl
      obtain ⟨s0, s1⟩ := hB.out.two 3 (b := w.heap.size + 1 + 1 + 1) rfl rfl
      go_wp2_with fail
      go_region_with (first
        | (go_at_call 38; refine (M2.out _).mono ?_; rintro e w3 ⟨rfl, hT1⟩; have G := Lib.hid (hB.out.drew.keep hT1); have T := Lib.hid (hT.out.drew.trans hT1 (by simp)); obtain ⟨t0, t1⟩ := G.out.two 3 (b := w.heap.size + 1 + 1 + 1) rfl rfl; clear hT1)
        | (go_at_call 37; refine (A2.out _).mono ?_; rintro e w4 ⟨rfl, hT2⟩; have G2 := Lib.hid (G.out.keep hT2); have T2 := Lib.hid (T.out.trans hT2 (by simp)); obtain ⟨t2, t3⟩ := G2.out.two 3 (b := w.heap.size + 1 + 1 + 1) rfl rfl; obtain ⟨f0, f1⟩ := G2.out.fro2 3 (b := w.heap.size + 1 + 1 + 1) rfl rfl; clear hT2))
      all_goals go_wp2
      all_goals (go_roundw; (case rel => exact ⟨2, by omega, by go_num, Lib.hid ((G2.out.set 3 0 (.bool (sgz (psum v u 2))) rfl).set 3 1 (.string (moz (psum v u 2))) rfl), Lib.hid ((T2.out.setCell (.inr (by simp; omega)) _).setCell (.inr (by simp; omega)) _)⟩); (case measure => simp [intOf]))
    · obtain ⟨a0, a1, a2, a3, a4, a5⟩ := hB.out.six 0 (b := w.heap.size) rfl rfl
      obtain ⟨b0, b1, b2, b3, b4, b5⟩ := hB.out.six 1 (b := w.heap.size + 1) rfl rfl
      obtain ⟨s0, s1⟩ := hB.out.two 3 (b := w.heap.size + 1 + 1 + 1) rfl rfl
      go_wp2_with fail
      go_region_with (first
        | (go_at_call 38; refine (M3.out _).mono ?_; rintro e w3 ⟨rfl, hT1⟩; have G := Lib.hid (hB.out.drew.keep hT1); have T := Lib.hid (hT.out.drew.trans hT1 (by simp)); obtain ⟨t0, t1⟩ := G.out.two 3 (b := w.heap.size + 1 + 1 + 1) rfl rfl; clear hT1)
        | (go_at_call 37; refine (A3.out _).mono ?_; rintro e w4 ⟨rfl, hT2⟩; have G2 := Lib.hid (G.out.keep hT2); have T2 := Lib.hid (T.out.trans hT2 (by simp)); obtain ⟨t2, t3⟩ := G2.out.two 3 (b := w.heap.size + 1 + 1 + 1) rfl rfl; obtain ⟨f0, f1⟩ := G2.out.fro2 3 (b := w.heap.size + 1 + 1 + 1) rfl rfl; clear hT2))
      all_goals go_wp2
      all_goals (go_roundw; (case rel => exact ⟨3, by omega, by go_num, Lib.hid ((G2.out.set 3 0 (.bool (sgz (psum v u 3))) rfl).set 3 1 (.string (moz (psum v u 3))) rfl), Lib.hid ((T2.out.setCell (.inr (by simp; omega)) _).setCell (.inr (by simp; omega)) _)⟩); (case measure => simp [intOf]))
    · obtain ⟨s0, s1⟩ := hB.out.two 3 (b := w.heap.size + 1 + 1 + 1) rfl rfl
      obtain ⟨r0, r1⟩ := hB.out.two 2 (b := w.heap.size + 1 + 1) rfl rfl
      obtain ⟨f0, f1⟩ := hB.out.fro2 2 (b := w.heap.size + 1 + 1) rfl rfl
      go_wp2
      refine bodyPost_ret (v := .agg #[.bool (sgz (dotI v u)), .string (moz (dotI v u))]) (by simp [results, Tryd.results21, go_sem, r0, r1]; exact ⟨rfl, rfl⟩) rfl ⟨rfl, ?_⟩
      exact (hT.out.setCell (.inr (by simp; omega)) _).setCell (.inr (by simp; omega)) _

end Go.Proofs.YtpedbahppkimbaaDoor
