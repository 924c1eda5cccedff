/- Contracts of sums and products by integers of up to 3000 bits; (quadric.linear).at. -/
import Derived.Test.YtmpfgkpimjiecaaDoorWv
import Derived.Test.YtmpfgkpimjiecaaDoorNeg
import Derived.Test.YtmpfgkpimjiecaaDoorBoxN
import Derived.Test.YtmpfgkpimjiecaaDoorVecE
import Derived.Deep.RegionWith
namespace Go.Proofs.YtmpfgkpimjiecaaDoor
open Go Go.RowKit Dg

theorem Sm.repB {z : Int} (h : Sm 3000 z) : Rep 400000 (sgz z) (moz z) z := (Rep.mo (Sm.bytes (k := 375) (h.mono (by omega)))).mono (by omega)
theorem Sm.neg {k : Nat} {x : Int} (h : Sm k x) : Sm k (-x) := by unfold Sm at *; rwa [Int.natAbs_neg]

section
variable {x y : Int}
theorem KMul (hx : Sm 3000 x) (hy : Sm 3000 y) (w : World) :
    Calls Tryd.prog 29 #[.agg #[.bool (sgz x), .string (moz x)], .agg #[.bool (sgz y), .string (moz y)]] w fun e w' => e = .returned (.agg #[.bool (sgz (x * y)), .string (moz (x * y))]) ∧ Tch [] w w' := by
  rw [← wz_sm (x * y)]; exact ZMul hx.repB hy.repB w
theorem KAdd (hx : Sm 3000 x) (hy : Sm 3000 y) (w : World) :
    Calls Tryd.prog 30 #[.agg #[.bool (sgz x), .string (moz x)], .agg #[.bool (sgz y), .string (moz y)]] w fun e w' => e = .returned (.agg #[.bool (sgz (x + y)), .string (moz (x + y))]) ∧ Tch [] w w' := by
  rw [← wz_sm (x + y)]; exact ZAdd hx.repB hy.repB w
theorem KNeg (hx : Sm 3000 x) (w : World) :
    Calls Tryd.prog 50 #[.agg #[.bool (sgz x), .string (moz x)]] w fun e w' => e = .returned (.agg #[.bool (sgz (-x)), .string (moz (-x))]) ∧ Tch [] w w' := by
  have h := Neg (sgz x) (moz x) (hx.repB.mono (by omega)).size w
  rwa [wv_wz, zval_not, hx.repB.val, wz_sm] at h
end

/-- The last box holds two cells; they are written. -/
theorem Fr.setL2 {w0 w : World} {l : List (Nat × Obj)} {b : Nat} {T : TypeId} {x y : Value} (h : Fr w0 w (l ++ [(b, .cells #[x, y] T (0, 0))])) (hd : ∀ q ∈ l, q.1 ≠ b) (x' y' : Value) :
    Fr w0 ((w.setCell ⟨b, 0, none⟩ x').setCell ⟨b, 1, none⟩ y') (l ++ [(b, .cells #[x', y'] T (0, 0))]) := by
  have hb : w.heap[b]? = some (.cells #[x, y] T (0, 0)) := h.row (b, _) (by simp)
  have hn : w0.heap.size ≤ b := h.new (b, .cells #[x, y] T (0, 0)) (by simp)
  have hl : Fr w0 ((w.setCell ⟨b, 0, none⟩ x').setCell ⟨b, 1, none⟩ y') l := (h.front.away (p := ⟨b, 0, none⟩) hd hn x').away (p := ⟨b, 1, none⟩) hd hn y'
  exact hl.take (row_set2 hb) hn

/-- The sum f3 + f0 x + f1 y + f2 z, its first k + 1 summands. -/
def las (f0 f1 f2 f3 x y z : Int) (k : Nat) : Int := match k with | 0 => f3 | 1 => f3 + f0 * x | 2 => f3 + f0 * x + f1 * y | _ => f3 + f0 * x + f1 * y + f2 * z

theorem idxC0 (x y z : Int) (w : World) : (Instr.index 65 (.agg #[.bool (sgz x), .string (moz x), .bool (sgz y), .string (moz y), .bool (sgz z), .string (moz z)]) (.int .i64 0)).run Tryd.prog w = .ok (.agg #[.bool (sgz x), .string (moz x)]) w := by kernel_rfl
theorem idxC1 (x y z : Int) (w : World) : (Instr.index 65 (.agg #[.bool (sgz x), .string (moz x), .bool (sgz y), .string (moz y), .bool (sgz z), .string (moz z)]) (.int .i64 1)).run Tryd.prog w = .ok (.agg #[.bool (sgz y), .string (moz y)]) w := by kernel_rfl
theorem idxC2 (x y z : Int) (w : World) : (Instr.index 65 (.agg #[.bool (sgz x), .string (moz x), .bool (sgz y), .string (moz y), .bool (sgz z), .string (moz z)]) (.int .i64 2)).run Tryd.prog w = .ok (.agg #[.bool (sgz z), .string (moz z)]) w := by kernel_rfl

set_option maxHeartbeats 2000000 in
set_option maxRecDepth 100000 in
theorem linAt (f0 f1 f2 f3 x y z : Int) (h0 : Sm 2000 f0) (h1 : Sm 2000 f1) (h2 : Sm 2000 f2) (h3 : Sm 2000 f3) (hx : Sm 900 x) (hy : Sm 900 y) (hz : Sm 900 z) (w : World) :
    Calls Tryd.prog 36 #[.agg #[.bool (sgz f0), .string (moz f0), .bool (sgz f1), .string (moz f1), .bool (sgz f2), .string (moz f2), .bool (sgz f3), .string (moz f3)], .agg #[.bool (sgz x), .string (moz x), .bool (sgz y), .string (moz y), .bool (sgz z), .string (moz z)]] w fun e w' => e = .returned (.agg #[.bool (sgz (f3 + f0 * x + f1 * y + f2 * z)), .string (moz (f3 + f0 * x + f1 * y + f2 * z))]) ∧ Tch [] w w' := by
  have p0 := h0.mul hx
  have p1 := h1.mul hy
  have p2 := h2.mul hz
  have s1 := (h3.mono (l := 2900) (by omega)).add (p0.mono (l := 2900) (by omega))
  have s2 := s1.add (p1.mono (l := 2901) (by omega))
  have M0 := Lib.hid (fun w1 => KMul (h0.mono (l := 3000) (by omega)) (hx.mono (l := 3000) (by omega)) w1)
  have M1 := Lib.hid (fun w1 => KMul (h1.mono (l := 3000) (by omega)) (hy.mono (l := 3000) (by omega)) w1)
  have M2 := Lib.hid (fun w1 => KMul (h2.mono (l := 3000) (by omega)) (hz.mono (l := 3000) (by omega)) w1)
  have A0 : Hid (∀ w1, Calls Tryd.prog 30 #[.agg #[.bool (sgz (las f0 f1 f2 f3 x y z 0)), .string (moz (las f0 f1 f2 f3 x y z 0))], .agg #[.bool (sgz (f0 * x)), .string (moz (f0 * x))]] w1 fun e w' => e = .returned (.agg #[.bool (sgz (las f0 f1 f2 f3 x y z 1)), .string (moz (las f0 f1 f2 f3 x y z 1))]) ∧ Tch [] w1 w') := Lib.hid (fun w1 => KAdd (h3.mono (by omega)) (p0.mono (by omega)) w1)
  have A1 : Hid (∀ w1, Calls Tryd.prog 30 #[.agg #[.bool (sgz (las f0 f1 f2 f3 x y z 1)), .string (moz (las f0 f1 f2 f3 x y z 1))], .agg #[.bool (sgz (f1 * y)), .string (moz (f1 * y))]] w1 fun e w' => e = .returned (.agg #[.bool (sgz (las f0 f1 f2 f3 x y z 2)), .string (moz (las f0 f1 f2 f3 x y z 2))]) ∧ Tch [] w1 w') := Lib.hid (fun w1 => KAdd (s1.mono (by omega)) (p1.mono (by omega)) w1)
  have A2 : Hid (∀ w1, Calls Tryd.prog 30 #[.agg #[.bool (sgz (las f0 f1 f2 f3 x y z 2)), .string (moz (las f0 f1 f2 f3 x y z 2))], .agg #[.bool (sgz (f2 * z)), .string (moz (f2 * z))]] w1 fun e w' => e = .returned (.agg #[.bool (sgz (las f0 f1 f2 f3 x y z 3)), .string (moz (las f0 f1 f2 f3 x y z 3))]) ∧ Tch [] w1 w') := Lib.hid (fun w1 => KAdd (s2.mono (by omega)) (p2.mono (by omega)) w1)
  have F0 : Hid (Fr w ((((w.alloc (.cells #[.bool (sgz f0), .string (moz f0), .bool (sgz f1), .string (moz f1), .bool (sgz f2), .string (moz f2), .bool (sgz f3), .string (moz f3)] 57)).alloc (.cells #[.bool (sgz x), .string (moz x), .bool (sgz y), .string (moz y), .bool (sgz z), .string (moz z)] 65)).alloc (.cells #[.bool false, .string ⟨#[]⟩] 26)).alloc (.cells #[.bool (sgz f3), .string (moz f3)] 26)) [(w.heap.size, .cells #[.bool (sgz f0), .string (moz f0), .bool (sgz f1), .string (moz f1), .bool (sgz f2), .string (moz f2), .bool (sgz f3), .string (moz f3)] 57 (0, 0)), (w.heap.size + 1, .cells #[.bool (sgz x), .string (moz x), .bool (sgz y), .string (moz y), .bool (sgz z), .string (moz z)] 65 (0, 0)), (w.heap.size + 1 + 1, .cells #[.bool false, .string ⟨#[]⟩] 26 (0, 0)), (w.heap.size + 1 + 1 + 1, .cells #[.bool (sgz (las f0 f1 f2 f3 x y z 0)), .string (moz (las f0 f1 f2 f3 x y z 0))] 26 (0, 0))]) := Lib.hid (((((Fr.nil w).add (.cells #[.bool (sgz f0), .string (moz f0), .bool (sgz f1), .string (moz f1), .bool (sgz f2), .string (moz f2), .bool (sgz f3), .string (moz f3)] 57) (w.heap.size) rfl).add (.cells #[.bool (sgz x), .string (moz x), .bool (sgz y), .string (moz y), .bool (sgz z), .string (moz z)] 65) (w.heap.size + 1) (by simp)).add (.cells #[.bool false, .string ⟨#[]⟩] 26) (w.heap.size + 1 + 1) (by simp)).add (.cells #[.bool (sgz f3), .string (moz f3)] 26) (w.heap.size + 1 + 1 + 1) (by simp))
  rw [show f3 + f0 * x + f1 * y + f2 * z = las f0 f1 f2 f3 x y z 3 from rfl]
  clear h0 h1 h2 h3 hx hy hz p0 p1 p2 s1 s2
  go_enter Tryd.func36, Tryd.ntmps36
  go_wp2
  go_loopw [11] (fun i wr => ∃ k : Nat, k ≤ 3 ∧ i = .int .i64 (k : Int) ∧ Hid (Fr w wr [(w.heap.size, .cells #[.bool (sgz f0), .string (moz f0), .bool (sgz f1), .string (moz f1), .bool (sgz f2), .string (moz f2), .bool (sgz f3), .string (moz f3)] 57 (0, 0)), (w.heap.size + 1, .cells #[.bool (sgz x), .string (moz x), .bool (sgz y), .string (moz y), .bool (sgz z), .string (moz z)] 65 (0, 0)), (w.heap.size + 1 + 1, .cells #[.bool false, .string ⟨#[]⟩] 26 (0, 0)), (w.heap.size + 1 + 1 + 1, .cells #[.bool (sgz (las f0 f1 f2 f3 x y z k)), .string (moz (las f0 f1 f2 f3 x y z k))] 26 (0, 0))]))
    (fun i _ => 3 - (intOf i).toNat)
  case atStart => exact ⟨0, by omega, rfl, F0⟩
  case round =>
    obtain ⟨k, hk, rfl, F⟩ := hrel
    rcases (show k = 0 ∨ k = 1 ∨ k = 2 ∨ k = 3 by omega) with rfl | rfl | rfl | rfl
    · have X := idxC0 x y z
      have F := Lib.hid (F.out.beside (.cells #[.bool (sgz x), .string (moz x)] 26))
      have a0 := F.out.cell 0 0 rfl rfl
      have a1 := F.out.cell 0 1 rfl rfl
      obtain ⟨s0, s1⟩ := F.out.two 3 rfl
      go_wp2_with fail
      go_region_with (first
        | (go_at_call 29; refine (M0.out _).mono ?_; rintro e w3 ⟨rfl, hT1⟩; have G := Lib.hid (F.out.drew.keep hT1); obtain ⟨t0, t1⟩ := G.out.two 3 rfl; clear hT1)
        | (go_at_call 30; refine (A0.out _).mono ?_; rintro e w4 ⟨rfl, hT2⟩; have G2 := Lib.hid (G.out.keep hT2); obtain ⟨t2, t3⟩ := G2.out.two 3 rfl; obtain ⟨g0, g1⟩ := G2.out.fro2 3 rfl; clear hT2))
      all_goals go_wp2
      all_goals (go_roundw; (case rel => exact ⟨1, by omega, by go_num, Lib.hid (Fr.setL2 (l := [(w.heap.size, .cells #[.bool (sgz f0), .string (moz f0), .bool (sgz f1), .string (moz f1), .bool (sgz f2), .string (moz f2), .bool (sgz f3), .string (moz f3)] 57 (0, 0)), (w.heap.size + 1, .cells #[.bool (sgz x), .string (moz x), .bool (sgz y), .string (moz y), .bool (sgz z), .string (moz z)] 65 (0, 0)), (w.heap.size + 1 + 1, .cells #[.bool false, .string ⟨#[]⟩] 26 (0, 0))]) G2.out (by simp <;> omega) _ _)⟩); (case measure => simp [intOf]))
    · have X := idxC1 x y z
      have F := Lib.hid (F.out.beside (.cells #[.bool (sgz y), .string (moz y)] 26))
      have a0 := F.out.cell 0 2 rfl rfl
      have a1 := F.out.cell 0 3 rfl rfl
      obtain ⟨s0, s1⟩ := F.out.two 3 rfl
      go_wp2_with fail
      go_region_with (first
        | (go_at_call 29; refine (M1.out _).mono ?_; rintro e w3 ⟨rfl, hT1⟩; have G := Lib.hid (F.out.drew.keep hT1); obtain ⟨t0, t1⟩ := G.out.two 3 rfl; clear hT1)
        | (go_at_call 30; refine (A1.out _).mono ?_; rintro e w4 ⟨rfl, hT2⟩; have G2 := Lib.hid (G.out.keep hT2); obtain ⟨t2, t3⟩ := G2.out.two 3 rfl; obtain ⟨g0, g1⟩ := G2.out.fro2 3 rfl; clear hT2))
      all_goals go_wp2
      all_goals (go_roundw; (case rel => exact ⟨2, by omega, by go_num, Lib.hid (Fr.setL2 (l := [(w.heap.size, .cells #[.bool (sgz f0), .string (moz f0), .bool (sgz f1), .string (moz f1), .bool (sgz f2), .string (moz f2), .bool (sgz f3), .string (moz f3)] 57 (0, 0)), (w.heap.size + 1, .cells #[.bool (sgz x), .string (moz x), .bool (sgz y), .string (moz y), .bool (sgz z), .string (moz z)] 65 (0, 0)), (w.heap.size + 1 + 1, .cells #[.bool false, .string ⟨#[]⟩] 26 (0, 0))]) G2.out (by simp <;> omega) _ _)⟩); (case measure => simp [intOf]))
    · have X := idxC2 x y z
      have F := Lib.hid (F.out.beside (.cells #[.bool (sgz z), .string (moz z)] 26))
      have a0 := F.out.cell 0 4 rfl rfl
      have a1 := F.out.cell 0 5 rfl rfl
      obtain ⟨s0, s1⟩ := F.out.two 3 rfl
      go_wp2_with fail
      go_region_with (first
        | (go_at_call 29; refine (M2.out _).mono ?_; rintro e w3 ⟨rfl, hT1⟩; have G := Lib.hid (F.out.drew.keep hT1); obtain ⟨t0, t1⟩ := G.out.two 3 rfl; clear hT1)
        | (go_at_call 30; refine (A2.out _).mono ?_; rintro e w4 ⟨rfl, hT2⟩; have G2 := Lib.hid (G.out.keep hT2); obtain ⟨t2, t3⟩ := G2.out.two 3 rfl; obtain ⟨g0, g1⟩ := G2.out.fro2 3 rfl; clear hT2))
      all_goals go_wp2
      all_goals (go_roundw; (case rel => exact ⟨3, by omega, by go_num, Lib.hid (Fr.setL2 (l := [(w.heap.size, .cells #[.bool (sgz f0), .string (moz f0), .bool (sgz f1), .string (moz f1), .bool (sgz f2), .string (moz f2), .bool (sgz f3), .string (moz f3)] 57 (0, 0)), (w.heap.size + 1, .cells #[.bool (sgz x), .string (moz x), .bool (sgz y), .string (moz y), .bool (sgz z), .string (moz z)] 65 (0, 0)), (w.heap.size + 1 + 1, .cells #[.bool false, .string ⟨#[]⟩] 26 (0, 0))]) G2.out (by simp <;> omega) _ _)⟩); (case measure => simp [intOf]))
    · obtain ⟨s0, s1⟩ := F.out.two 3 rfl
      obtain ⟨r0, r1⟩ := F.out.two 2 rfl
      obtain ⟨g0, g1⟩ := F.out.fro2 2 rfl
      go_wp2
      refine bodyPost_ret (v := .agg #[.bool (sgz (las f0 f1 f2 f3 x y z 3)), .string (moz (las f0 f1 f2 f3 x y z 3))]) (by simp [results, Tryd.results36, go_sem, r0, r1]) rfl ⟨rfl, F.out.fin2 2 rfl _ _⟩

end Go.Proofs.YtmpfgkpimjiecaaDoor
