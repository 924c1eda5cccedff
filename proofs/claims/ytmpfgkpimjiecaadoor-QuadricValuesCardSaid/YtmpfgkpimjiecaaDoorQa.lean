/- quadric.At. -/
import Derived.Test.YtmpfgkpimjiecaaDoorQe
import Derived.Deep.MidRow
namespace Go.Proofs.YtmpfgkpimjiecaaDoor
open Go Go.RowKit Dg

/-- The package's table of factors. -/
def FV : List Value := [.int .i64 0, .int .i64 0, .int .i64 0, .int .i64 1, .int .i64 0, .int .i64 2, .int .i64 0, .int .i64 3, .int .i64 1, .int .i64 1, .int .i64 1, .int .i64 2, .int .i64 1, .int .i64 3, .int .i64 2, .int .i64 2, .int .i64 2, .int .i64 3, .int .i64 3, .int .i64 3]
theorem FacOk.range {w : World} (h : FacOk w) : w.rangeAt 0 0 FV := by
  intro j v hv
  have hj : j < 20 := (List.getElem?_eq_some_iff.1 hv).1
  rw [Nat.zero_add]
  have hk : j / 2 < 10 := by omega
  have e := h (j / 2) hk
  obtain ⟨k, hk2, rfl | rfl⟩ : ∃ k, k < 10 ∧ (j = k * 2 ∨ j = k * 2 + 1) := ⟨j / 2, hk, by omega⟩
  · rw [(h k hk2).1, ← hv]
    rcases (show k = 0 ∨ k = 1 ∨ k = 2 ∨ k = 3 ∨ k = 4 ∨ k = 5 ∨ k = 6 ∨ k = 7 ∨ k = 8 ∨ k = 9 by omega) with rfl | rfl | rfl | rfl | rfl | rfl | rfl | rfl | rfl | rfl <;> rfl
  · rw [(h k hk2).2, ← hv]
    rcases (show k = 0 ∨ k = 1 ∨ k = 2 ∨ k = 3 ∨ k = 4 ∨ k = 5 ∨ k = 6 ∨ k = 7 ∨ k = 8 ∨ k = 9 by omega) with rfl | rfl | rfl | rfl | rfl | rfl | rfl | rfl | rfl | rfl <;> rfl
theorem idxF (k : Nat) (hk : k < 10) (w : World) : (Instr.index 61 (.agg FV.toArray) (.int .i64 (k : Int))).run Tryd.prog w = .ok (.agg #[.int .i64 (facI k : Int), .int .i64 (facJ k : Int)]) w := by
  rcases (show k = 0 ∨ k = 1 ∨ k = 2 ∨ k = 3 ∨ k = 4 ∨ k = 5 ∨ k = 6 ∨ k = 7 ∨ k = 8 ∨ k = 9 by omega) with rfl | rfl | rfl | rfl | rfl | rfl | rfl | rfl | rfl | rfl <;> kernel_rfl
theorem infoF : (Tryd.prog.info? 61).map (·.size) = some 20 := by kernel_rfl
theorem infoR : (Tryd.prog.info? 63).map (·.size) = some 32 := by kernel_rfl

/-- The cells of the four linear functions of which the first k coefficients are there. -/
def fst4 (q : Nat → Int) (k : Nat) : Array Value :=
  match k with
  | 0 => #[.bool false, .string ⟨#[]⟩, .bool false, .string ⟨#[]⟩, .bool false, .string ⟨#[]⟩, .bool false, .string ⟨#[]⟩, .bool false, .string ⟨#[]⟩, .bool false, .string ⟨#[]⟩, .bool false, .string ⟨#[]⟩, .bool false, .string ⟨#[]⟩, .bool false, .string ⟨#[]⟩, .bool false, .string ⟨#[]⟩, .bool false, .string ⟨#[]⟩, .bool false, .string ⟨#[]⟩, .bool false, .string ⟨#[]⟩, .bool false, .string ⟨#[]⟩, .bool false, .string ⟨#[]⟩, .bool false, .string ⟨#[]⟩]
  | 1 => #[.bool (sgz (q 0)), .string (moz (q 0)), .bool false, .string ⟨#[]⟩, .bool false, .string ⟨#[]⟩, .bool false, .string ⟨#[]⟩, .bool false, .string ⟨#[]⟩, .bool false, .string ⟨#[]⟩, .bool false, .string ⟨#[]⟩, .bool false, .string ⟨#[]⟩, .bool false, .string ⟨#[]⟩, .bool false, .string ⟨#[]⟩, .bool false, .string ⟨#[]⟩, .bool false, .string ⟨#[]⟩, .bool false, .string ⟨#[]⟩, .bool false, .string ⟨#[]⟩, .bool false, .string ⟨#[]⟩, .bool false, .string ⟨#[]⟩]
  | 2 => #[.bool (sgz (q 0)), .string (moz (q 0)), .bool (sgz (q 1)), .string (moz (q 1)), .bool false, .string ⟨#[]⟩, .bool false, .string ⟨#[]⟩, .bool false, .string ⟨#[]⟩, .bool false, .string ⟨#[]⟩, .bool false, .string ⟨#[]⟩, .bool false, .string ⟨#[]⟩, .bool false, .string ⟨#[]⟩, .bool false, .string ⟨#[]⟩, .bool false, .string ⟨#[]⟩, .bool false, .string ⟨#[]⟩, .bool false, .string ⟨#[]⟩, .bool false, .string ⟨#[]⟩, .bool false, .string ⟨#[]⟩, .bool false, .string ⟨#[]⟩]
  | 3 => #[.bool (sgz (q 0)), .string (moz (q 0)), .bool (sgz (q 1)), .string (moz (q 1)), .bool (sgz (q 2)), .string (moz (q 2)), .bool false, .string ⟨#[]⟩, .bool false, .string ⟨#[]⟩, .bool false, .string ⟨#[]⟩, .bool false, .string ⟨#[]⟩, .bool false, .string ⟨#[]⟩, .bool false, .string ⟨#[]⟩, .bool false, .string ⟨#[]⟩, .bool false, .string ⟨#[]⟩, .bool false, .string ⟨#[]⟩, .bool false, .string ⟨#[]⟩, .bool false, .string ⟨#[]⟩, .bool false, .string ⟨#[]⟩, .bool false, .string ⟨#[]⟩]
  | 4 => #[.bool (sgz (q 0)), .string (moz (q 0)), .bool (sgz (q 1)), .string (moz (q 1)), .bool (sgz (q 2)), .string (moz (q 2)), .bool (sgz (q 3)), .string (moz (q 3)), .bool false, .string ⟨#[]⟩, .bool false, .string ⟨#[]⟩, .bool false, .string ⟨#[]⟩, .bool false, .string ⟨#[]⟩, .bool false, .string ⟨#[]⟩, .bool false, .string ⟨#[]⟩, .bool false, .string ⟨#[]⟩, .bool false, .string ⟨#[]⟩, .bool false, .string ⟨#[]⟩, .bool false, .string ⟨#[]⟩, .bool false, .string ⟨#[]⟩, .bool false, .string ⟨#[]⟩]
  | 5 => #[.bool (sgz (q 0)), .string (moz (q 0)), .bool (sgz (q 1)), .string (moz (q 1)), .bool (sgz (q 2)), .string (moz (q 2)), .bool (sgz (q 3)), .string (moz (q 3)), .bool false, .string ⟨#[]⟩, .bool (sgz (q 4)), .string (moz (q 4)), .bool false, .string ⟨#[]⟩, .bool false, .string ⟨#[]⟩, .bool false, .string ⟨#[]⟩, .bool false, .string ⟨#[]⟩, .bool false, .string ⟨#[]⟩, .bool false, .string ⟨#[]⟩, .bool false, .string ⟨#[]⟩, .bool false, .string ⟨#[]⟩, .bool false, .string ⟨#[]⟩, .bool false, .string ⟨#[]⟩]
  | 6 => #[.bool (sgz (q 0)), .string (moz (q 0)), .bool (sgz (q 1)), .string (moz (q 1)), .bool (sgz (q 2)), .string (moz (q 2)), .bool (sgz (q 3)), .string (moz (q 3)), .bool false, .string ⟨#[]⟩, .bool (sgz (q 4)), .string (moz (q 4)), .bool (sgz (q 5)), .string (moz (q 5)), .bool false, .string ⟨#[]⟩, .bool false, .string ⟨#[]⟩, .bool false, .string ⟨#[]⟩, .bool false, .string ⟨#[]⟩, .bool false, .string ⟨#[]⟩, .bool false, .string ⟨#[]⟩, .bool false, .string ⟨#[]⟩, .bool false, .string ⟨#[]⟩, .bool false, .string ⟨#[]⟩]
  | 7 => #[.bool (sgz (q 0)), .string (moz (q 0)), .bool (sgz (q 1)), .string (moz (q 1)), .bool (sgz (q 2)), .string (moz (q 2)), .bool (sgz (q 3)), .string (moz (q 3)), .bool false, .string ⟨#[]⟩, .bool (sgz (q 4)), .string (moz (q 4)), .bool (sgz (q 5)), .string (moz (q 5)), .bool (sgz (q 6)), .string (moz (q 6)), .bool false, .string ⟨#[]⟩, .bool false, .string ⟨#[]⟩, .bool false, .string ⟨#[]⟩, .bool false, .string ⟨#[]⟩, .bool false, .string ⟨#[]⟩, .bool false, .string ⟨#[]⟩, .bool false, .string ⟨#[]⟩, .bool false, .string ⟨#[]⟩]
  | 8 => #[.bool (sgz (q 0)), .string (moz (q 0)), .bool (sgz (q 1)), .string (moz (q 1)), .bool (sgz (q 2)), .string (moz (q 2)), .bool (sgz (q 3)), .string (moz (q 3)), .bool false, .string ⟨#[]⟩, .bool (sgz (q 4)), .string (moz (q 4)), .bool (sgz (q 5)), .string (moz (q 5)), .bool (sgz (q 6)), .string (moz (q 6)), .bool false, .string ⟨#[]⟩, .bool false, .string ⟨#[]⟩, .bool (sgz (q 7)), .string (moz (q 7)), .bool false, .string ⟨#[]⟩, .bool false, .string ⟨#[]⟩, .bool false, .string ⟨#[]⟩, .bool false, .string ⟨#[]⟩, .bool false, .string ⟨#[]⟩]
  | 9 => #[.bool (sgz (q 0)), .string (moz (q 0)), .bool (sgz (q 1)), .string (moz (q 1)), .bool (sgz (q 2)), .string (moz (q 2)), .bool (sgz (q 3)), .string (moz (q 3)), .bool false, .string ⟨#[]⟩, .bool (sgz (q 4)), .string (moz (q 4)), .bool (sgz (q 5)), .string (moz (q 5)), .bool (sgz (q 6)), .string (moz (q 6)), .bool false, .string ⟨#[]⟩, .bool false, .string ⟨#[]⟩, .bool (sgz (q 7)), .string (moz (q 7)), .bool (sgz (q 8)), .string (moz (q 8)), .bool false, .string ⟨#[]⟩, .bool false, .string ⟨#[]⟩, .bool false, .string ⟨#[]⟩, .bool false, .string ⟨#[]⟩]
  | _ => #[.bool (sgz (q 0)), .string (moz (q 0)), .bool (sgz (q 1)), .string (moz (q 1)), .bool (sgz (q 2)), .string (moz (q 2)), .bool (sgz (q 3)), .string (moz (q 3)), .bool false, .string ⟨#[]⟩, .bool (sgz (q 4)), .string (moz (q 4)), .bool (sgz (q 5)), .string (moz (q 5)), .bool (sgz (q 6)), .string (moz (q 6)), .bool false, .string ⟨#[]⟩, .bool false, .string ⟨#[]⟩, .bool (sgz (q 7)), .string (moz (q 7)), .bool (sgz (q 8)), .string (moz (q 8)), .bool false, .string ⟨#[]⟩, .bool false, .string ⟨#[]⟩, .bool false, .string ⟨#[]⟩, .bool (sgz (q 9)), .string (moz (q 9))]
theorem fst4_old (q : Nat → Int) (k : Nat) (hk : k < 10) : (fst4 q k)[facI k * 8 + facJ k * 2]? = some (.bool false) ∧ (fst4 q k)[facI k * 8 + facJ k * 2 + 1]? = some (.string ⟨#[]⟩) := by
  rcases (show k = 0 ∨ k = 1 ∨ k = 2 ∨ k = 3 ∨ k = 4 ∨ k = 5 ∨ k = 6 ∨ k = 7 ∨ k = 8 ∨ k = 9 by omega) with rfl | rfl | rfl | rfl | rfl | rfl | rfl | rfl | rfl | rfl <;> exact ⟨rfl, rfl⟩
theorem fst4_step (q : Nat → Int) (k : Nat) (hk : k < 10) : ((fst4 q k).setIfInBounds (facI k * 8 + facJ k * 2) (.bool (sgz (q k)))).setIfInBounds (facI k * 8 + facJ k * 2 + 1) (.string (moz (q k))) = fst4 q (k + 1) := by
  rcases (show k = 0 ∨ k = 1 ∨ k = 2 ∨ k = 3 ∨ k = 4 ∨ k = 5 ∨ k = 6 ∨ k = 7 ∨ k = 8 ∨ k = 9 by omega) with rfl | rfl | rfl | rfl | rfl | rfl | rfl | rfl | rfl | rfl <;> rfl
theorem idxR0 (q : Nat → Int) (w : World) : (Instr.index 63 (.agg (fst4 q 10)) (.int .i64 0)).run Tryd.prog w = .ok (.agg #[.bool (sgz (q 0)), .string (moz (q 0)), .bool (sgz (q 1)), .string (moz (q 1)), .bool (sgz (q 2)), .string (moz (q 2)), .bool (sgz (q 3)), .string (moz (q 3))]) w := by kernel_rfl
theorem idxR1 (q : Nat → Int) (w : World) : (Instr.index 63 (.agg (fst4 q 10)) (.int .i64 1)).run Tryd.prog w = .ok (.agg #[.bool false, .string ⟨#[]⟩, .bool (sgz (q 4)), .string (moz (q 4)), .bool (sgz (q 5)), .string (moz (q 5)), .bool (sgz (q 6)), .string (moz (q 6))]) w := by kernel_rfl
theorem idxR2 (q : Nat → Int) (w : World) : (Instr.index 63 (.agg (fst4 q 10)) (.int .i64 2)).run Tryd.prog w = .ok (.agg #[.bool false, .string ⟨#[]⟩, .bool false, .string ⟨#[]⟩, .bool (sgz (q 7)), .string (moz (q 7)), .bool (sgz (q 8)), .string (moz (q 8))]) w := by kernel_rfl
theorem idxR3 (q : Nat → Int) (w : World) : (Instr.index 63 (.agg (fst4 q 10)) (.int .i64 3)).run Tryd.prog w = .ok (.agg #[.bool false, .string ⟨#[]⟩, .bool false, .string ⟨#[]⟩, .bool false, .string ⟨#[]⟩, .bool (sgz (q 9)), .string (moz (q 9))]) w := by kernel_rfl
/-- The values of the four linear functions. -/
def vI (q : Nat → Int) (p : P3) (i : Nat) : Int :=
  match i with
  | 0 => q 3 + q 0 * p.x + q 1 * p.y + q 2 * p.z
  | 1 => q 6 + 0 * p.x + q 4 * p.y + q 5 * p.z
  | 2 => q 8 + 0 * p.x + 0 * p.y + q 7 * p.z
  | _ => q 9 + 0 * p.x + 0 * p.y + 0 * p.z
/-- The value of a quadric at a point. -/
def atI (q : Nat → Int) (p : P3) : Int := vI q p 3 + vI q p 0 * p.x + vI q p 1 * p.y + vI q p 2 * p.z
/-- The cells of these values of which the first k are there. -/
def vst (q : Nat → Int) (p : P3) (k : Nat) : Array Value :=
  match k with
  | 0 => #[.bool false, .string ⟨#[]⟩, .bool false, .string ⟨#[]⟩, .bool false, .string ⟨#[]⟩, .bool false, .string ⟨#[]⟩]
  | 1 => #[.bool (sgz (vI q p 0)), .string (moz (vI q p 0)), .bool false, .string ⟨#[]⟩, .bool false, .string ⟨#[]⟩, .bool false, .string ⟨#[]⟩]
  | 2 => #[.bool (sgz (vI q p 0)), .string (moz (vI q p 0)), .bool (sgz (vI q p 1)), .string (moz (vI q p 1)), .bool false, .string ⟨#[]⟩, .bool false, .string ⟨#[]⟩]
  | 3 => #[.bool (sgz (vI q p 0)), .string (moz (vI q p 0)), .bool (sgz (vI q p 1)), .string (moz (vI q p 1)), .bool (sgz (vI q p 2)), .string (moz (vI q p 2)), .bool false, .string ⟨#[]⟩]
  | _ => #[.bool (sgz (vI q p 0)), .string (moz (vI q p 0)), .bool (sgz (vI q p 1)), .string (moz (vI q p 1)), .bool (sgz (vI q p 2)), .string (moz (vI q p 2)), .bool (sgz (vI q p 3)), .string (moz (vI q p 3))]
theorem lin_sm {a b c d x y z : Int} {m : Nat} (ha : Sm m a) (hb : Sm m b) (hc : Sm m c) (hd : Sm m d) (hx : Sm 64 x) (hy : Sm 64 y) (hz : Sm 64 z) : Sm (m + 67) (d + a * x + b * y + c * z) :=
  ((((hd.mono (l := m + 64) (by omega)).add (ha.mul hx)).add ((hb.mul hy).mono (l := m + 65) (by omega))).add ((hc.mul hz).mono (l := m + 66) (by omega))).mono (by omega)
theorem vI_sm {q : Nat → Int} {p : P3} {m : Nat} (h : ∀ k, k < 10 → Sm m (q k)) (hp : p.Ok) (i : Nat) : Sm (m + 67) (vI q p i) := by
  have hx := Sm.i64 hp.x.1 hp.x.2
  have hy := Sm.i64 hp.y.1 hp.y.2
  have hz := Sm.i64 hp.z.1 hp.z.2
  unfold vI
  split
  · exact lin_sm (h 0 (by omega)) (h 1 (by omega)) (h 2 (by omega)) (h 3 (by omega)) hx hy hz
  · exact lin_sm (Sm.nul m) (h 4 (by omega)) (h 5 (by omega)) (h 6 (by omega)) hx hy hz
  · exact lin_sm (Sm.nul m) (Sm.nul m) (h 7 (by omega)) (h 8 (by omega)) hx hy hz
  · exact lin_sm (Sm.nul m) (Sm.nul m) (Sm.nul m) (h 9 (by omega)) hx hy hz
theorem atI_sm {q : Nat → Int} {p : P3} {m : Nat} (h : ∀ k, k < 10 → Sm m (q k)) (hp : p.Ok) : Sm (m + 134) (atI q p) :=
  (lin_sm (vI_sm h hp 0) (vI_sm h hp 1) (vI_sm h hp 2) (vI_sm h hp 3) (Sm.i64 hp.x.1 hp.x.2) (Sm.i64 hp.y.1 hp.y.2) (Sm.i64 hp.z.1 hp.z.2)).mono (by omega)
theorem atI_zero {q : Nat → Int} {p : P3} (h : ∀ k, k < 10 → q k = 0) : atI q p = 0 := by
  unfold atI vI
  simp only [h 0 (by omega), h 1 (by omega), h 2 (by omega), h 3 (by omega), h 4 (by omega), h 5 (by omega), h 6 (by omega), h 7 (by omega), h 8 (by omega), h 9 (by omega), Int.zero_mul, Int.zero_add]

theorem cell_keptS {S : List Nat} {w w' : World} {b j : Nat} {v : Value} (h : w.cell? ⟨b, j, none⟩ = some v) (t : Tch S w w') (hb : b ∉ S) : w'.cell? ⟨b, j, none⟩ = some v := by
  have hl := World.block_lt_of_cell? w _ h
  have e := t.block b hl hb
  unfold World.cell? at h ⊢
  rw [e]
  exact h

attribute [local go_sem ↓] eqlQZ

set_option maxHeartbeats 4000000 in
set_option maxRecDepth 100000 in
theorem At (q : Nat → Int) (p : P3) (hq : ∀ k, k < 10 → Sm 1000 (q k)) (hp : p.Ok) (w : World) (hF : FacOk w) :
    Calls Tryd.prog 14 #[.agg (QV q), .agg #[.int .i64 p.x, .int .i64 p.y, .int .i64 p.z]] w fun e w' => e = .returned (.agg #[.bool (sgz (atI q p)), .string (moz (atI q p))]) ∧ Tch [] w w' := by
  have hv := vI_sm hq hp
  have hx := Sm.i64 hp.x.1 hp.x.2
  have hy := Sm.i64 hp.y.1 hp.y.2
  have hz := Sm.i64 hp.z.1 hp.z.2
  have c0 := fun w1 => coordsOf p hp w1
  have d0 := fun w1 => linAt (q 0) (q 1) (q 2) (q 3) p.x p.y p.z ((hq 0 (by omega)).mono (by omega)) ((hq 1 (by omega)).mono (by omega)) ((hq 2 (by omega)).mono (by omega)) ((hq 3 (by omega)).mono (by omega)) (hx.mono (by omega)) (hy.mono (by omega)) (hz.mono (by omega)) w1
  have d1 := fun w1 => linAt 0 (q 4) (q 5) (q 6) p.x p.y p.z (Sm.nul _) ((hq 4 (by omega)).mono (by omega)) ((hq 5 (by omega)).mono (by omega)) ((hq 6 (by omega)).mono (by omega)) (hx.mono (by omega)) (hy.mono (by omega)) (hz.mono (by omega)) w1
  have d2 := fun w1 => linAt 0 0 (q 7) (q 8) p.x p.y p.z (Sm.nul _) (Sm.nul _) ((hq 7 (by omega)).mono (by omega)) ((hq 8 (by omega)).mono (by omega)) (hx.mono (by omega)) (hy.mono (by omega)) (hz.mono (by omega)) w1
  have d3 := fun w1 => linAt 0 0 0 (q 9) p.x p.y p.z (Sm.nul _) (Sm.nul _) (Sm.nul _) ((hq 9 (by omega)).mono (by omega)) (hx.mono (by omega)) (hy.mono (by omega)) (hz.mono (by omega)) w1
  have d4 := fun w1 => linAt (vI q p 0) (vI q p 1) (vI q p 2) (vI q p 3) p.x p.y p.z ((hv 0).mono (by omega)) ((hv 1).mono (by omega)) ((hv 2).mono (by omega)) ((hv 3).mono (by omega)) (hx.mono (by omega)) (hy.mono (by omega)) (hz.mono (by omega)) w1
  rw [show q 3 + q 0 * p.x + q 1 * p.y + q 2 * p.z = vI q p 0 from rfl] at d0
  rw [show q 6 + 0 * p.x + q 4 * p.y + q 5 * p.z = vI q p 1 from rfl, sgz_nul, moz_nul] at d1
  rw [show q 8 + 0 * p.x + 0 * p.y + q 7 * p.z = vI q p 2 from rfl, sgz_nul, moz_nul] at d2
  rw [show q 9 + 0 * p.x + 0 * p.y + 0 * p.z = vI q p 3 from rfl, sgz_nul, moz_nul] at d3
  rw [show vI q p 3 + vI q p 0 * p.x + vI q p 1 * p.y + vI q p 2 * p.z = atI q p from rfl] at d4
  have C0 := Lib.hid c0
  have D0 := Lib.hid d0
  have D1 := Lib.hid d1
  have D2 := Lib.hid d2
  have D3 := Lib.hid d3
  have D4 := Lib.hid d4
  have HF := Lib.hid hF
  clear c0 d0 d1 d2 d3 d4 hv hx hy hz hq hp hF
  have F : Hid (Fr w (((w.alloc (.cells (QV q) 28)).alloc (.cells #[.int .i64 p.x, .int .i64 p.y, .int .i64 p.z] 23)).alloc (.cells #[.bool false, .string ⟨#[]⟩] 26)) [(w.heap.size, .cells (QV q) 28 (0, 0)), (w.heap.size + 1, .cells #[.int .i64 p.x, .int .i64 p.y, .int .i64 p.z] 23 (0, 0)), (w.heap.size + 1 + 1, .cells #[.bool false, .string ⟨#[]⟩] 26 (0, 0))]) := Lib.hid ((((Fr.nil w).add (.cells (QV q) 28) w.heap.size rfl).add (.cells #[.int .i64 p.x, .int .i64 p.y, .int .i64 p.z] 23) (w.heap.size + 1) (by simp)).add (.cells #[.bool false, .string ⟨#[]⟩] 26) (w.heap.size + 1 + 1) (by simp))
  have HF := Lib.hid (HF.out.tch F.out.t)
  cases hs : sameQ q fun _ => 0
  case true =>
    have HZ : Hid (atI q p = 0) := Lib.hid (atI_zero ((sameQ_iff q fun _ => 0).1 hs))
    obtain ⟨r0, r1⟩ := F.out.two 2 rfl
    obtain ⟨g0, g1⟩ := F.out.fro2 2 rfl
    go_enter Tryd.func14, Tryd.ntmps14
    go_wp2_with (first | (refine wpList_load_row rfl 28 _ rfl w.heap.size rfl _ _ _ 20 (F.out.at 0 rfl) (QV_size q) Tryd.underlying28 rfl infoQ ?_; simp only [Act.put, List.setIfInBounds_toArray, List.set_cons_zero, List.set_cons_succ]))
    refine bodyPost_ret (v := .agg #[.bool false, .string ⟨#[]⟩]) (by simp [results, Tryd.results14, go_sem, r0, r1]) rfl ⟨by rw [HZ.out, sgz_nul, moz_nul], F.out.t⟩
  case false =>
    go_enter Tryd.func14, Tryd.ntmps14
    go_upto_region 4 with (first | (refine wpList_load_row rfl 28 _ rfl w.heap.size rfl _ _ _ 20 (F.out.at 0 rfl) (QV_size q) Tryd.underlying28 rfl infoQ ?_; simp only [Act.put, List.setIfInBounds_toArray, List.set_cons_zero, List.set_cons_succ]))
    clear hs
    have F : Hid (Fr w ((((w.alloc (.cells (QV q) 28)).alloc (.cells #[.int .i64 p.x, .int .i64 p.y, .int .i64 p.z] 23)).alloc (.cells #[.bool false, .string ⟨#[]⟩] 26)).alloc (.cells (fst4 q 0) 63)) [(w.heap.size, .cells (QV q) 28 (0, 0)), (w.heap.size + 1, .cells #[.int .i64 p.x, .int .i64 p.y, .int .i64 p.z] 23 (0, 0)), (w.heap.size + 1 + 1, .cells #[.bool false, .string ⟨#[]⟩] 26 (0, 0)), (w.heap.size + 1 + 1 + 1, .cells (fst4 q 0) 63 (0, 0))]) := Lib.hid (F.out.add (.cells (fst4 q 0) 63) (w.heap.size + 1 + 1 + 1) (by simp))
    have HF := Lib.hid (HF.out.tch ((Tch.refl [] _).alloc (.cells (fst4 q 0) 63)))
    go_wp2_with (first | (refine wpList_load_mid rfl 61 _ rfl 0 0 rfl FV _ HF.out.range Tryd.underlying61 rfl infoF ?_; simp only [Act.put, List.setIfInBounds_toArray, List.set_cons_zero, List.set_cons_succ]))
    go_loopw [17] (fun i wr => ∃ k : Nat, k ≤ 10 ∧ i = .int .i64 (k : Int) ∧ Hid (Fr w wr [(w.heap.size, .cells (QV q) 28 (0, 0)), (w.heap.size + 1, .cells #[.int .i64 p.x, .int .i64 p.y, .int .i64 p.z] 23 (0, 0)), (w.heap.size + 1 + 1, .cells #[.bool false, .string ⟨#[]⟩] 26 (0, 0)), (w.heap.size + 1 + 1 + 1, .cells (fst4 q k) 63 (0, 0))]))
      (fun i _ => 10 - (intOf i).toNat)
    case atStart => exact ⟨0, by omega, rfl, F⟩
    case round =>
      clear F HF
      obtain ⟨k, hk, rfl, F⟩ := hrel
      rcases (show k = 10 ∨ k < 10 by omega) with rfl | hk
      · obtain ⟨W, rfl⟩ : ∃ W : World, W = wr := ⟨_, rfl⟩
        have F : Hid (Fr w W [(w.heap.size, .cells (QV q) 28 (0, 0)), (w.heap.size + 1, .cells #[.int .i64 p.x, .int .i64 p.y, .int .i64 p.z] 23 (0, 0)), (w.heap.size + 1 + 1, .cells #[.bool false, .string ⟨#[]⟩] 26 (0, 0)), (w.heap.size + 1 + 1 + 1, .cells (fst4 q 10) 63 (0, 0))]) := F
        obtain ⟨a0, a1, a2⟩ := (F.out.beside (.cells #[.bool false, .string ⟨#[]⟩, .bool false, .string ⟨#[]⟩, .bool false, .string ⟨#[]⟩, .bool false, .string ⟨#[]⟩] 57)).three 1 rfl
        go_wp2_with fail
        refine (C0.out _).mono ?_
        rintro e w1 ⟨rfl, hT⟩
        have F1 : Hid (Fr w (W.alloc (.cells #[.bool false, .string ⟨#[]⟩, .bool false, .string ⟨#[]⟩, .bool false, .string ⟨#[]⟩, .bool false, .string ⟨#[]⟩] 57)) [(w.heap.size, .cells (QV q) 28 (0, 0)), (w.heap.size + 1, .cells #[.int .i64 p.x, .int .i64 p.y, .int .i64 p.z] 23 (0, 0)), (w.heap.size + 1 + 1, .cells #[.bool false, .string ⟨#[]⟩] 26 (0, 0)), (w.heap.size + 1 + 1 + 1, .cells (fst4 q 10) 63 (0, 0)), (W.heap.size, .cells #[.bool false, .string ⟨#[]⟩, .bool false, .string ⟨#[]⟩, .bool false, .string ⟨#[]⟩, .bool false, .string ⟨#[]⟩] 57 (0, 0))]) := Lib.hid (F.out.add (.cells #[.bool false, .string ⟨#[]⟩, .bool false, .string ⟨#[]⟩, .bool false, .string ⟨#[]⟩, .bool false, .string ⟨#[]⟩] 57) W.heap.size rfl)
        have HN : Hid (w.heap.size + 4 ≤ W.heap.size ∧ W.heap.size + 1 ≤ w1.heap.size) := Lib.hid ⟨by have := (Array.getElem?_eq_some_iff.1 (F.out.at 3 rfl)).1; omega, by have := hT.size; simp at this; omega⟩
        have F : Hid (Fr w (w1.alloc (.cells #[.bool (sgz p.x), .string (moz p.x), .bool (sgz p.y), .string (moz p.y), .bool (sgz p.z), .string (moz p.z)] 65)) [(w.heap.size, .cells (QV q) 28 (0, 0)), (w.heap.size + 1, .cells #[.int .i64 p.x, .int .i64 p.y, .int .i64 p.z] 23 (0, 0)), (w.heap.size + 1 + 1, .cells #[.bool false, .string ⟨#[]⟩] 26 (0, 0)), (w.heap.size + 1 + 1 + 1, .cells (fst4 q 10) 63 (0, 0)), (W.heap.size, .cells #[.bool false, .string ⟨#[]⟩, .bool false, .string ⟨#[]⟩, .bool false, .string ⟨#[]⟩, .bool false, .string ⟨#[]⟩] 57 (0, 0)), (w1.heap.size, .cells #[.bool (sgz p.x), .string (moz p.x), .bool (sgz p.y), .string (moz p.y), .bool (sgz p.z), .string (moz p.z)] 65 (0, 0))]) := Lib.hid ((F1.out.keep hT).add (.cells #[.bool (sgz p.x), .string (moz p.x), .bool (sgz p.y), .string (moz p.y), .bool (sgz p.z), .string (moz p.z)] 65) w1.heap.size rfl)
        have F2 : Hid (Fr w (w1.alloc (.cells #[.bool (sgz p.x), .string (moz p.x), .bool (sgz p.y), .string (moz p.y), .bool (sgz p.z), .string (moz p.z)] 65)) [(w.heap.size, .cells (QV q) 28 (0, 0)), (w.heap.size + 1, .cells #[.int .i64 p.x, .int .i64 p.y, .int .i64 p.z] 23 (0, 0)), (w.heap.size + 1 + 1, .cells #[.bool false, .string ⟨#[]⟩] 26 (0, 0)), (w.heap.size + 1 + 1 + 1, .cells (fst4 q 10) 63 (0, 0)), (w1.heap.size, .cells #[.bool (sgz p.x), .string (moz p.x), .bool (sgz p.y), .string (moz p.y), .bool (sgz p.z), .string (moz p.z)] 65 (0, 0)), (W.heap.size, .cells #[.bool false, .string ⟨#[]⟩, .bool false, .string ⟨#[]⟩, .bool false, .string ⟨#[]⟩, .bool false, .string ⟨#[]⟩] 57 (0, 0))]) := Lib.hid ⟨fun q hq => F.out.row q (by simp only [List.mem_cons, List.not_mem_nil, or_false] at hq ⊢; rcases hq with h | h | h | h | h | h <;> simp [h]), fun q hq => F.out.new q (by simp only [List.mem_cons, List.not_mem_nil, or_false] at hq ⊢; rcases hq with h | h | h | h | h | h <;> simp [h]), F.out.t⟩
        clear hT F1 a0 a1 a2 C0 hk
        go_wp2_with (first | (refine wpList_load_row rfl 63 _ rfl (w.heap.size + 1 + 1 + 1) rfl _ _ _ 32 (F.out.at 3 rfl) rfl Tryd.underlying63 rfl infoR ?_; simp only [Act.put, List.setIfInBounds_toArray, List.set_cons_zero, List.set_cons_succ]))
        go_loopw [34] (fun i wx => ∃ k : Nat, k ≤ 4 ∧ i = .int .i64 (k : Int) ∧ Hid (Fr w wx [(w.heap.size, .cells (QV q) 28 (0, 0)), (w.heap.size + 1, .cells #[.int .i64 p.x, .int .i64 p.y, .int .i64 p.z] 23 (0, 0)), (w.heap.size + 1 + 1, .cells #[.bool false, .string ⟨#[]⟩] 26 (0, 0)), (w.heap.size + 1 + 1 + 1, .cells (fst4 q 10) 63 (0, 0)), (w1.heap.size, .cells #[.bool (sgz p.x), .string (moz p.x), .bool (sgz p.y), .string (moz p.y), .bool (sgz p.z), .string (moz p.z)] 65 (0, 0)), (W.heap.size, .cells (vst q p k) 57 (0, 0))]))
          (fun i _ => 4 - (intOf i).toNat)
        case atStart => exact ⟨0, by omega, rfl, F2⟩
        case round =>
          clear F F2
          obtain ⟨k, hk, rfl, F⟩ := hrel
          rcases (show k = 0 ∨ k = 1 ∨ k = 2 ∨ k = 3 ∨ k = 4 by omega) with rfl | rfl | rfl | rfl | rfl
          · have F : Hid (Fr w wr [(w.heap.size, .cells (QV q) 28 (0, 0)), (w.heap.size + 1, .cells #[.int .i64 p.x, .int .i64 p.y, .int .i64 p.z] 23 (0, 0)), (w.heap.size + 1 + 1, .cells #[.bool false, .string ⟨#[]⟩] 26 (0, 0)), (w.heap.size + 1 + 1 + 1, .cells (fst4 q 10) 63 (0, 0)), (w1.heap.size, .cells #[.bool (sgz p.x), .string (moz p.x), .bool (sgz p.y), .string (moz p.y), .bool (sgz p.z), .string (moz p.z)] 65 (0, 0)), (W.heap.size, .cells (vst q p 0) 57 (0, 0))]) := F
            have X := idxR0 q
            have F := Lib.hid (F.out.beside (.cells #[.bool (sgz (q 0)), .string (moz (q 0)), .bool (sgz (q 1)), .string (moz (q 1)), .bool (sgz (q 2)), .string (moz (q 2)), .bool (sgz (q 3)), .string (moz (q 3))] 57))
            obtain ⟨u0, u1, u2, u3, u4, u5⟩ := F.out.six 4 rfl
            go_wp2_with fail
            refine (D0.out _).mono ?_
            rintro e w2 ⟨rfl, hT⟩
            have F := Lib.hid (F.out.keep hT)
            clear hT u0 u1 u2 u3 u4 u5
            have s0 := F.out.cell 5 0 rfl rfl
            have s1 := F.out.cell 5 1 rfl rfl
            have g0 := F.out.frozen 5 0 rfl
            have g1 := F.out.frozen 5 1 rfl
            go_wp2
            go_roundw
            case rel => exact ⟨1, by omega, by go_num, Lib.hid ((Fr.setC (l1 := [(w.heap.size, .cells (QV q) 28 (0, 0)), (w.heap.size + 1, .cells #[.int .i64 p.x, .int .i64 p.y, .int .i64 p.z] 23 (0, 0)), (w.heap.size + 1 + 1, .cells #[.bool false, .string ⟨#[]⟩] 26 (0, 0)), (w.heap.size + 1 + 1 + 1, .cells (fst4 q 10) 63 (0, 0)), (w1.heap.size, .cells #[.bool (sgz p.x), .string (moz p.x), .bool (sgz p.y), .string (moz p.y), .bool (sgz p.z), .string (moz p.z)] 65 (0, 0))]) (l2 := []) F.out (by have := HN.out; simp; omega) 0 (.bool (sgz (vI q p 0)))).setC (l1 := [(w.heap.size, .cells (QV q) 28 (0, 0)), (w.heap.size + 1, .cells #[.int .i64 p.x, .int .i64 p.y, .int .i64 p.z] 23 (0, 0)), (w.heap.size + 1 + 1, .cells #[.bool false, .string ⟨#[]⟩] 26 (0, 0)), (w.heap.size + 1 + 1 + 1, .cells (fst4 q 10) 63 (0, 0)), (w1.heap.size, .cells #[.bool (sgz p.x), .string (moz p.x), .bool (sgz p.y), .string (moz p.y), .bool (sgz p.z), .string (moz p.z)] 65 (0, 0))]) (l2 := []) (by have := HN.out; simp; omega) 1 (.string (moz (vI q p 0))))⟩
            case measure => simp [intOf]
          · have F : Hid (Fr w wr [(w.heap.size, .cells (QV q) 28 (0, 0)), (w.heap.size + 1, .cells #[.int .i64 p.x, .int .i64 p.y, .int .i64 p.z] 23 (0, 0)), (w.heap.size + 1 + 1, .cells #[.bool false, .string ⟨#[]⟩] 26 (0, 0)), (w.heap.size + 1 + 1 + 1, .cells (fst4 q 10) 63 (0, 0)), (w1.heap.size, .cells #[.bool (sgz p.x), .string (moz p.x), .bool (sgz p.y), .string (moz p.y), .bool (sgz p.z), .string (moz p.z)] 65 (0, 0)), (W.heap.size, .cells (vst q p 1) 57 (0, 0))]) := F
            have X := idxR1 q
            have F := Lib.hid (F.out.beside (.cells #[.bool false, .string ⟨#[]⟩, .bool (sgz (q 4)), .string (moz (q 4)), .bool (sgz (q 5)), .string (moz (q 5)), .bool (sgz (q 6)), .string (moz (q 6))] 57))
            obtain ⟨u0, u1, u2, u3, u4, u5⟩ := F.out.six 4 rfl
            go_wp2_with fail
            refine (D1.out _).mono ?_
            rintro e w2 ⟨rfl, hT⟩
            have F := Lib.hid (F.out.keep hT)
            clear hT u0 u1 u2 u3 u4 u5
            have s0 := F.out.cell 5 2 rfl rfl
            have s1 := F.out.cell 5 3 rfl rfl
            have g0 := F.out.frozen 5 2 rfl
            have g1 := F.out.frozen 5 3 rfl
            go_wp2
            go_roundw
            case rel => exact ⟨2, by omega, by go_num, Lib.hid ((Fr.setC (l1 := [(w.heap.size, .cells (QV q) 28 (0, 0)), (w.heap.size + 1, .cells #[.int .i64 p.x, .int .i64 p.y, .int .i64 p.z] 23 (0, 0)), (w.heap.size + 1 + 1, .cells #[.bool false, .string ⟨#[]⟩] 26 (0, 0)), (w.heap.size + 1 + 1 + 1, .cells (fst4 q 10) 63 (0, 0)), (w1.heap.size, .cells #[.bool (sgz p.x), .string (moz p.x), .bool (sgz p.y), .string (moz p.y), .bool (sgz p.z), .string (moz p.z)] 65 (0, 0))]) (l2 := []) F.out (by have := HN.out; simp; omega) 2 (.bool (sgz (vI q p 1)))).setC (l1 := [(w.heap.size, .cells (QV q) 28 (0, 0)), (w.heap.size + 1, .cells #[.int .i64 p.x, .int .i64 p.y, .int .i64 p.z] 23 (0, 0)), (w.heap.size + 1 + 1, .cells #[.bool false, .string ⟨#[]⟩] 26 (0, 0)), (w.heap.size + 1 + 1 + 1, .cells (fst4 q 10) 63 (0, 0)), (w1.heap.size, .cells #[.bool (sgz p.x), .string (moz p.x), .bool (sgz p.y), .string (moz p.y), .bool (sgz p.z), .string (moz p.z)] 65 (0, 0))]) (l2 := []) (by have := HN.out; simp; omega) 3 (.string (moz (vI q p 1))))⟩
            case measure => simp [intOf]
          · have F : Hid (Fr w wr [(w.heap.size, .cells (QV q) 28 (0, 0)), (w.heap.size + 1, .cells #[.int .i64 p.x, .int .i64 p.y, .int .i64 p.z] 23 (0, 0)), (w.heap.size + 1 + 1, .cells #[.bool false, .string ⟨#[]⟩] 26 (0, 0)), (w.heap.size + 1 + 1 + 1, .cells (fst4 q 10) 63 (0, 0)), (w1.heap.size, .cells #[.bool (sgz p.x), .string (moz p.x), .bool (sgz p.y), .string (moz p.y), .bool (sgz p.z), .string (moz p.z)] 65 (0, 0)), (W.heap.size, .cells (vst q p 2) 57 (0, 0))]) := F
            have X := idxR2 q
            have F := Lib.hid (F.out.beside (.cells #[.bool false, .string ⟨#[]⟩, .bool false, .string ⟨#[]⟩, .bool (sgz (q 7)), .string (moz (q 7)), .bool (sgz (q 8)), .string (moz (q 8))] 57))
            obtain ⟨u0, u1, u2, u3, u4, u5⟩ := F.out.six 4 rfl
            go_wp2_with fail
            refine (D2.out _).mono ?_
            rintro e w2 ⟨rfl, hT⟩
            have F := Lib.hid (F.out.keep hT)
            clear hT u0 u1 u2 u3 u4 u5
            have s0 := F.out.cell 5 4 rfl rfl
            have s1 := F.out.cell 5 5 rfl rfl
            have g0 := F.out.frozen 5 4 rfl
            have g1 := F.out.frozen 5 5 rfl
            go_wp2
            go_roundw
            case rel => exact ⟨3, by omega, by go_num, Lib.hid ((Fr.setC (l1 := [(w.heap.size, .cells (QV q) 28 (0, 0)), (w.heap.size + 1, .cells #[.int .i64 p.x, .int .i64 p.y, .int .i64 p.z] 23 (0, 0)), (w.heap.size + 1 + 1, .cells #[.bool false, .string ⟨#[]⟩] 26 (0, 0)), (w.heap.size + 1 + 1 + 1, .cells (fst4 q 10) 63 (0, 0)), (w1.heap.size, .cells #[.bool (sgz p.x), .string (moz p.x), .bool (sgz p.y), .string (moz p.y), .bool (sgz p.z), .string (moz p.z)] 65 (0, 0))]) (l2 := []) F.out (by have := HN.out; simp; omega) 4 (.bool (sgz (vI q p 2)))).setC (l1 := [(w.heap.size, .cells (QV q) 28 (0, 0)), (w.heap.size + 1, .cells #[.int .i64 p.x, .int .i64 p.y, .int .i64 p.z] 23 (0, 0)), (w.heap.size + 1 + 1, .cells #[.bool false, .string ⟨#[]⟩] 26 (0, 0)), (w.heap.size + 1 + 1 + 1, .cells (fst4 q 10) 63 (0, 0)), (w1.heap.size, .cells #[.bool (sgz p.x), .string (moz p.x), .bool (sgz p.y), .string (moz p.y), .bool (sgz p.z), .string (moz p.z)] 65 (0, 0))]) (l2 := []) (by have := HN.out; simp; omega) 5 (.string (moz (vI q p 2))))⟩
            case measure => simp [intOf]
          · have F : Hid (Fr w wr [(w.heap.size, .cells (QV q) 28 (0, 0)), (w.heap.size + 1, .cells #[.int .i64 p.x, .int .i64 p.y, .int .i64 p.z] 23 (0, 0)), (w.heap.size + 1 + 1, .cells #[.bool false, .string ⟨#[]⟩] 26 (0, 0)), (w.heap.size + 1 + 1 + 1, .cells (fst4 q 10) 63 (0, 0)), (w1.heap.size, .cells #[.bool (sgz p.x), .string (moz p.x), .bool (sgz p.y), .string (moz p.y), .bool (sgz p.z), .string (moz p.z)] 65 (0, 0)), (W.heap.size, .cells (vst q p 3) 57 (0, 0))]) := F
            have X := idxR3 q
            have F := Lib.hid (F.out.beside (.cells #[.bool false, .string ⟨#[]⟩, .bool false, .string ⟨#[]⟩, .bool false, .string ⟨#[]⟩, .bool (sgz (q 9)), .string (moz (q 9))] 57))
            obtain ⟨u0, u1, u2, u3, u4, u5⟩ := F.out.six 4 rfl
            go_wp2_with fail
            refine (D3.out _).mono ?_
            rintro e w2 ⟨rfl, hT⟩
            have F := Lib.hid (F.out.keep hT)
            clear hT u0 u1 u2 u3 u4 u5
            have s0 := F.out.cell 5 6 rfl rfl
            have s1 := F.out.cell 5 7 rfl rfl
            have g0 := F.out.frozen 5 6 rfl
            have g1 := F.out.frozen 5 7 rfl
            go_wp2
            go_roundw
            case rel => exact ⟨4, by omega, by go_num, Lib.hid ((Fr.setC (l1 := [(w.heap.size, .cells (QV q) 28 (0, 0)), (w.heap.size + 1, .cells #[.int .i64 p.x, .int .i64 p.y, .int .i64 p.z] 23 (0, 0)), (w.heap.size + 1 + 1, .cells #[.bool false, .string ⟨#[]⟩] 26 (0, 0)), (w.heap.size + 1 + 1 + 1, .cells (fst4 q 10) 63 (0, 0)), (w1.heap.size, .cells #[.bool (sgz p.x), .string (moz p.x), .bool (sgz p.y), .string (moz p.y), .bool (sgz p.z), .string (moz p.z)] 65 (0, 0))]) (l2 := []) F.out (by have := HN.out; simp; omega) 6 (.bool (sgz (vI q p 3)))).setC (l1 := [(w.heap.size, .cells (QV q) 28 (0, 0)), (w.heap.size + 1, .cells #[.int .i64 p.x, .int .i64 p.y, .int .i64 p.z] 23 (0, 0)), (w.heap.size + 1 + 1, .cells #[.bool false, .string ⟨#[]⟩] 26 (0, 0)), (w.heap.size + 1 + 1 + 1, .cells (fst4 q 10) 63 (0, 0)), (w1.heap.size, .cells #[.bool (sgz p.x), .string (moz p.x), .bool (sgz p.y), .string (moz p.y), .bool (sgz p.z), .string (moz p.z)] 65 (0, 0))]) (l2 := []) (by have := HN.out; simp; omega) 7 (.string (moz (vI q p 3))))⟩
            case measure => simp [intOf]
          · have F : Hid (Fr w wr [(w.heap.size, .cells (QV q) 28 (0, 0)), (w.heap.size + 1, .cells #[.int .i64 p.x, .int .i64 p.y, .int .i64 p.z] 23 (0, 0)), (w.heap.size + 1 + 1, .cells #[.bool false, .string ⟨#[]⟩] 26 (0, 0)), (w.heap.size + 1 + 1 + 1, .cells (fst4 q 10) 63 (0, 0)), (w1.heap.size, .cells #[.bool (sgz p.x), .string (moz p.x), .bool (sgz p.y), .string (moz p.y), .bool (sgz p.z), .string (moz p.z)] 65 (0, 0)), (W.heap.size, .cells #[.bool (sgz (vI q p 0)), .string (moz (vI q p 0)), .bool (sgz (vI q p 1)), .string (moz (vI q p 1)), .bool (sgz (vI q p 2)), .string (moz (vI q p 2)), .bool (sgz (vI q p 3)), .string (moz (vI q p 3))] 57 (0, 0))]) := F
            obtain ⟨⟨t0, t1, t2, t3⟩, t4, t5, t6, t7⟩ := F.out.eight 5 rfl
            obtain ⟨u0, u1, u2, u3, u4, u5⟩ := F.out.six 4 rfl
            go_wp2_with fail
            refine (D4.out _).mono ?_
            rintro e w2 ⟨rfl, hT⟩
            have F := Lib.hid (F.out.keep hT)
            clear hT t0 t1 t2 t3 t4 t5 t6 t7 u0 u1 u2 u3 u4 u5
            obtain ⟨r0, r1⟩ := F.out.two 2 rfl
            obtain ⟨g0, g1⟩ := F.out.fro2 2 rfl
            go_wp2
            refine bodyPost_ret (v := .agg #[.bool (sgz (atI q p)), .string (moz (atI q p))]) (by simp [results, Tryd.results14, go_sem, r0, r1]) rfl ⟨rfl, F.out.fin2 2 rfl _ _⟩
      · have X := idxF k hk
        have ik : (0 : Int) ≤ k := by omega
        have ik2 : (k : Int) < 10 := by omega
        have fl := fac_lt k hk
        have ii : (0 : Int) ≤ facI k := by omega
        have ii2 : (facI k : Int) < 4 := by omega
        have ij : (0 : Int) ≤ facJ k := by omega
        have ij2 : (facJ k : Int) < 4 := by omega
        have HN : Hid (w.heap.size + 4 ≤ wr.heap.size) := Lib.hid (by have := (Array.getElem?_eq_some_iff.1 (F.out.at 3 rfl)).1; omega)
        have G : Hid (Fr w (wr.alloc (.cells #[.int .i64 (facI k : Int), .int .i64 (facJ k : Int)] 60)) [(w.heap.size, .cells (QV q) 28 (0, 0)), (w.heap.size + 1, .cells #[.int .i64 p.x, .int .i64 p.y, .int .i64 p.z] 23 (0, 0)), (w.heap.size + 1 + 1, .cells #[.bool false, .string ⟨#[]⟩] 26 (0, 0)), (w.heap.size + 1 + 1 + 1, .cells (fst4 q k) 63 (0, 0)), (wr.heap.size, .cells #[.int .i64 (facI k : Int), .int .i64 (facJ k : Int)] 60 (0, 0))]) := Lib.hid (F.out.add (.cells #[.int .i64 (facI k : Int), .int .i64 (facJ k : Int)] 60) wr.heap.size rfl)
        have e0 : (wr.alloc (.cells #[.int .i64 (facI k : Int), .int .i64 (facJ k : Int)] 60)).cell? ⟨wr.heap.size, 0, none⟩ = some (.int .i64 (facI k : Int)) := G.out.cell 4 0 rfl rfl
        have e1 : (wr.alloc (.cells #[.int .i64 (facI k : Int), .int .i64 (facJ k : Int)] 60)).cell? ⟨wr.heap.size, 1, none⟩ = some (.int .i64 (facJ k : Int)) := G.out.cell 4 1 rfl rfl
        have q0 := G.out.cell 0 (k * 2) rfl (QV_cell q k hk).1
        have q1 := G.out.cell 0 (k * 2 + 1) rfl (QV_cell q k hk).2
        have SA := Lib.hid (fun (w' : World) (h : Tch [w.heap.size + 1 + 1 + 1] (wr.alloc (.cells #[.int .i64 (facI k : Int), .int .i64 (facJ k : Int)] 60)) w') => And.intro (cell_keptS e0 h (by have := HN.out; simp; omega)) (And.intro (cell_keptS e1 h (by have := HN.out; simp; omega)) (And.intro (cell_keptS q0 h (by simp; try omega)) (cell_keptS q1 h (by simp; try omega)))))
        have c0 := G.out.cell 3 (facI k * 8 + facJ k * 2) rfl (fst4_old q k hk).1
        have c1 := G.out.cell 3 (facI k * 8 + facJ k * 2 + 1) rfl (fst4_old q k hk).2
        have z0 := G.out.frozen 3 (facI k * 8 + facJ k * 2) rfl
        have z1 := G.out.frozen 3 (facI k * 8 + facJ k * 2 + 1) rfl
        have F := Lib.hid (F.out.beside (.cells #[.int .i64 (facI k : Int), .int .i64 (facJ k : Int)] 60))
        clear fl
        go_upto_region 7 with (fail)
        go_region_held3 (fun w' => w'.cell? ⟨wr.heap.size, 0, none⟩ = some (.int .i64 (facI k : Int)) ∧ w'.cell? ⟨wr.heap.size, 1, none⟩ = some (.int .i64 (facJ k : Int)) ∧ w'.cell? ⟨w.heap.size, k * 2, none⟩ = some (.bool (sgz (q k))) ∧ w'.cell? ⟨w.heap.size, k * 2 + 1, none⟩ = some (.string (moz (q k)))) (first | with_reducible exact SA.out _ (Tch.refl _ _).drew | exact SA.out _ (((Tch.refl _ _).drew.setCell (.inl (by simp)) _).setCell (.inl (by simp)) _)) (first | fail)
        go_wp2
        go_roundw
        case rel =>
          have h := ((Fr.setC (l1 := [(w.heap.size, .cells (QV q) 28 (0, 0)), (w.heap.size + 1, .cells #[.int .i64 p.x, .int .i64 p.y, .int .i64 p.z] 23 (0, 0)), (w.heap.size + 1 + 1, .cells #[.bool false, .string ⟨#[]⟩] 26 (0, 0))]) (l2 := []) F.out.drew (by simp <;> omega) (facI k * 8 + facJ k * 2) (.bool (sgz (q k)))).setC (l1 := [(w.heap.size, .cells (QV q) 28 (0, 0)), (w.heap.size + 1, .cells #[.int .i64 p.x, .int .i64 p.y, .int .i64 p.z] 23 (0, 0)), (w.heap.size + 1 + 1, .cells #[.bool false, .string ⟨#[]⟩] 26 (0, 0))]) (l2 := []) (by simp <;> omega) (facI k * 8 + facJ k * 2 + 1) (.string (moz (q k))))
          rw [fst4_step q k hk] at h
          exact ⟨k + 1, by omega, by go_num, Lib.hid h⟩
        case measure => simp [intOf]; omega

end Go.Proofs.YtmpfgkpimjiecaaDoor
