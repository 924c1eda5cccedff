/- Wide vectors in the program: fields, wideBetween, cross, dot, wideNormal. -/
import Derived.Laws.EntriesVeiled
import Derived.Deep.RegionHeld3
import Derived.Test.YtmpfgkpimjiecaaDoorVecA
import Derived.Test.YtmpfgkpimjiecaaDoorWv
namespace Go.Proofs.YtmpfgkpimjiecaaDoor
open Go Go.RowKit Dg
set_option maxHeartbeats 1000000 in
set_option maxRecDepth 100000 in
theorem pointX (a : P3) (w : World) : Calls Tryd.prog 105 #[.agg #[.int .i64 a.x, .int .i64 a.y, .int .i64 a.z]] w fun e w' => e = .returned (.int .i64 a.x) ∧ Tch [] w w' := by
  go_enter Tryd.func105, Tryd.ntmps105
  go_wp2
  go_ret
  exact ⟨rfl, (Tch.refl [] w).alloc _⟩

set_option maxHeartbeats 1000000 in
set_option maxRecDepth 100000 in
theorem pointY (a : P3) (w : World) : Calls Tryd.prog 106 #[.agg #[.int .i64 a.x, .int .i64 a.y, .int .i64 a.z]] w fun e w' => e = .returned (.int .i64 a.y) ∧ Tch [] w w' := by
  go_enter Tryd.func106, Tryd.ntmps106
  go_wp2
  go_ret
  exact ⟨rfl, (Tch.refl [] w).alloc _⟩

set_option maxHeartbeats 1000000 in
set_option maxRecDepth 100000 in
theorem pointZ (a : P3) (w : World) : Calls Tryd.prog 107 #[.agg #[.int .i64 a.x, .int .i64 a.y, .int .i64 a.z]] w fun e w' => e = .returned (.int .i64 a.z) ∧ Tch [] w w' := by
  go_enter Tryd.func107, Tryd.ntmps107
  go_wp2
  go_ret
  exact ⟨rfl, (Tch.refl [] w).alloc _⟩

set_option maxHeartbeats 1000000 in
set_option maxRecDepth 100000 in
theorem xfields (w : World) : Calls Tryd.prog 96 #[] w fun e w' => e = .returned (.agg #[.func (.func 105) #[] #[], .func (.func 106) #[] #[], .func (.func 107) #[] #[]]) ∧ Tch [] w w' := by
  go_enter Tryd.func96, Tryd.ntmps96
  go_wp2
  exact bodyPost_ret (v := .agg #[.func (.func 105) #[] #[], .func (.func 106) #[] #[], .func (.func 107) #[] #[]]) (by simp [results, Tryd.results96, go_sem]) rfl ⟨rfl, (Tch.refl [] w).alloc _⟩

theorem idx0 (w : World) : (Instr.index 126 (.agg #[.func (.func 105) #[] #[], .func (.func 106) #[] #[], .func (.func 107) #[] #[]]) (.int .i64 0)).run Tryd.prog w = .ok (.func (.func 105) #[] #[]) w := by kernel_rfl

theorem idx1 (w : World) : (Instr.index 126 (.agg #[.func (.func 105) #[] #[], .func (.func 106) #[] #[], .func (.func 107) #[] #[]]) (.int .i64 1)).run Tryd.prog w = .ok (.func (.func 106) #[] #[]) w := by kernel_rfl

theorem idx2 (w : World) : (Instr.index 126 (.agg #[.func (.func 105) #[] #[], .func (.func 106) #[] #[], .func (.func 107) #[] #[]]) (.int .i64 2)).run Tryd.prog w = .ok (.func (.func 107) #[] #[]) w := by kernel_rfl

/-- The cells of a wide vector of which the first k components are there. -/
def wst (x y z : Int) (k : Nat) : Array Value :=
  match k with
  | 0 => #[.bool false, .string ⟨#[]⟩, .bool false, .string ⟨#[]⟩, .bool false, .string ⟨#[]⟩]
  | 1 => #[.bool (sgz x), .string (moz x), .bool false, .string ⟨#[]⟩, .bool false, .string ⟨#[]⟩]
  | 2 => #[.bool (sgz x), .string (moz x), .bool (sgz y), .string (moz y), .bool false, .string ⟨#[]⟩]
  | _ => #[.bool (sgz x), .string (moz x), .bool (sgz y), .string (moz y), .bool (sgz z), .string (moz z)]

section
variable {w : World} {A : Nat} {L : List Obj}
theorem Bs.three (h : Bs w A L) (i : Nat) {b : Nat} {x y z : Value} {T : TypeId} (hb : A + i = b) (hi : L[i]? = some (.cells #[x, y, z] T (0, 0))) : w.cell? ⟨b, 0, none⟩ = some x ∧ w.cell? ⟨b, 1, none⟩ = some y ∧ w.cell? ⟨b, 2, none⟩ = some z := by
  subst hb; exact ⟨h.cell i 0 hi rfl, h.cell i 1 hi rfl, h.cell i 2 hi rfl⟩

theorem Bs.six (h : Bs w A L) (i : Nat) {b : Nat} {x y z p q r : Value} {T : TypeId} (hb : A + i = b) (hi : L[i]? = some (.cells #[x, y, z, p, q, r] T (0, 0))) :
    w.cell? ⟨b, 0, none⟩ = some x ∧ w.cell? ⟨b, 1, none⟩ = some y ∧ w.cell? ⟨b, 2, none⟩ = some z ∧ w.cell? ⟨b, 3, none⟩ = some p ∧ w.cell? ⟨b, 4, none⟩ = some q ∧ w.cell? ⟨b, 5, none⟩ = some r := by
  subst hb; exact ⟨h.cell i 0 hi rfl, h.cell i 1 hi rfl, h.cell i 2 hi rfl, h.cell i 3 hi rfl, h.cell i 4 hi rfl, h.cell i 5 hi rfl⟩

theorem Bs.fro6 (h : Bs w A L) (i : Nat) {b : Nat} {vs : Array Value} {T : TypeId} (hb : A + i = b) (hi : L[i]? = some (.cells vs T (0, 0))) :
    w.frozen? ⟨b, 0, none⟩ = false ∧ w.frozen? ⟨b, 1, none⟩ = false ∧ w.frozen? ⟨b, 2, none⟩ = false ∧ w.frozen? ⟨b, 3, none⟩ = false ∧ w.frozen? ⟨b, 4, none⟩ = false ∧ w.frozen? ⟨b, 5, none⟩ = false := by
  subst hb; exact ⟨h.frozen i 0 hi, h.frozen i 1 hi, h.frozen i 2 hi, h.frozen i 3 hi, h.frozen i 4 hi, h.frozen i 5 hi⟩

end
set_option maxHeartbeats 1000000 in
set_option maxRecDepth 100000 in
theorem xwideBetween (a b : P3) (ha : a.Ok) (hb : b.Ok) (w : World) :
    Calls Tryd.prog 83 #[.agg #[.int .i64 a.x, .int .i64 a.y, .int .i64 a.z], .agg #[.int .i64 b.x, .int .i64 b.y, .int .i64 b.z]] w fun e w' =>
      e = .returned (.agg (wst (b.x - a.x) (b.y - a.y) (b.z - a.z) 3)) ∧ Tch [] w w' := by
  have CF := Lib.hid (fun w1 => xfields w1)
  have PX := Lib.hid (fun p w1 => pointX p w1)
  have PY := Lib.hid (fun p w1 => pointY p w1)
  have PZ := Lib.hid (fun p w1 => pointZ p w1)
  have A1 := Lib.hid (fun w1 => IFrom ha.x.1 ha.x.2 w1)
  have A2 := Lib.hid (fun w1 => IFrom ha.y.1 ha.y.2 w1)
  have A3 := Lib.hid (fun w1 => IFrom ha.z.1 ha.z.2 w1)
  have B1 := Lib.hid (fun w1 => IFrom hb.x.1 hb.x.2 w1)
  have B2 := Lib.hid (fun w1 => IFrom hb.y.1 hb.y.2 w1)
  have B3 := Lib.hid (fun w1 => IFrom hb.z.1 hb.z.2 w1)
  have S1 := Lib.hid (fun w1 => ISub ((Sm.i64 hb.x.1 hb.x.2).mono (by omega)) ((Sm.i64 ha.x.1 ha.x.2).mono (by omega)) w1)
  have S2 := Lib.hid (fun w1 => ISub ((Sm.i64 hb.y.1 hb.y.2).mono (by omega)) ((Sm.i64 ha.y.1 ha.y.2).mono (by omega)) w1)
  have S3 := Lib.hid (fun w1 => ISub ((Sm.i64 hb.z.1 hb.z.2).mono (by omega)) ((Sm.i64 ha.z.1 ha.z.2).mono (by omega)) w1)
  have B0 := ((((Bs.nil w).alloc (by simp) (.cells #[.int .i64 a.x, .int .i64 a.y, .int .i64 a.z] 23)).alloc (by simp) (.cells #[.int .i64 b.x, .int .i64 b.y, .int .i64 b.z] 23)).alloc (by simp) (.cells (wst (b.x - a.x) (b.y - a.y) (b.z - a.z) 0) 99)).alloc (by simp) (.cells (wst (b.x - a.x) (b.y - a.y) (b.z - a.z) 0) 99)
  have HB0 := Lib.hid B0
  have HT0 := Lib.hid ((((Tch.refl [] w).alloc (.cells #[.int .i64 a.x, .int .i64 a.y, .int .i64 a.z] 23)).alloc (.cells #[.int .i64 b.x, .int .i64 b.y, .int .i64 b.z] 23)).alloc (.cells (wst (b.x - a.x) (b.y - a.y) (b.z - a.z) 0) 99) |>.alloc (.cells (wst (b.x - a.x) (b.y - a.y) (b.z - a.z) 0) 99))
  clear B0 ha hb
  go_enter Tryd.func83, Tryd.ntmps83
  go_wp2_with fail
  refine (CF.out _).mono ?_
  rintro e w1 ⟨rfl, hT⟩
  have HB1 := Lib.hid (HB0.out.keep hT)
  have HT1 := Lib.hid (HT0.out.trans hT (by simp))
  clear hT HB0 HT0
  go_wp2
  go_loopw [9] (fun i wr => ∃ k : Nat, k ≤ 3 ∧ i = .int .i64 (k : Int) ∧ Hid (Bs wr w.heap.size [.cells #[.int .i64 a.x, .int .i64 a.y, .int .i64 a.z] 23 (0, 0), .cells #[.int .i64 b.x, .int .i64 b.y, .int .i64 b.z] 23 (0, 0), .cells (wst (b.x - a.x) (b.y - a.y) (b.z - a.z) 0) 99 (0, 0), .cells (wst (b.x - a.x) (b.y - a.y) (b.z - a.z) k) 99 (0, 0)]) ∧ Hid (Tch [] w wr))
    (fun i _ => 3 - (intOf i).toNat)
  case atStart => exact ⟨0, by omega, rfl, HB1, HT1⟩
  case round =>
    obtain ⟨k, hk, rfl, hB, hT⟩ := hrel
    rcases (show k = 0 ∨ k = 1 ∨ k = 2 ∨ k = 3 by omega) with rfl | rfl | rfl | rfl
    · obtain ⟨a0, a1, a2⟩ := hB.out.three 0 (b := w.heap.size) rfl rfl
      obtain ⟨b0, b1, b2⟩ := hB.out.three 1 (b := w.heap.size + 1) rfl rfl
      have G := hB
      have T := hT
      have SF := Lib.hid (fun (w3 : World) (v : Array Value) (h : Bs w3 w.heap.size [.cells #[.int .i64 a.x, .int .i64 a.y, .int .i64 a.z] 23 (0, 0), .cells #[.int .i64 b.x, .int .i64 b.y, .int .i64 b.z] 23 (0, 0), .cells (wst (b.x - a.x) (b.y - a.y) (b.z - a.z) 0) 99 (0, 0), .cells v 99 (0, 0)]) => And.intro (h.three 0 (b := w.heap.size) rfl rfl) (h.three 1 (b := w.heap.size + 1) rfl rfl))
      have X0 := idx0
      go_wp2_with fail
      go_region_held3 (fun w3 => (w3.cell? ⟨w.heap.size, 0, none⟩ = some (.int .i64 a.x) ∧ w3.cell? ⟨w.heap.size, 1, none⟩ = some (.int .i64 a.y) ∧ w3.cell? ⟨w.heap.size, 2, none⟩ = some (.int .i64 a.z)) ∧ (w3.cell? ⟨w.heap.size + 1, 0, none⟩ = some (.int .i64 b.x) ∧ w3.cell? ⟨w.heap.size + 1, 1, none⟩ = some (.int .i64 b.y) ∧ w3.cell? ⟨w.heap.size + 1, 2, none⟩ = some (.int .i64 b.z))) (first | with_reducible exact SF.out _ _ G.out | exact SF.out _ _ G.out.drew | exact SF.out _ _ ((G.out.set 3 0 (.bool (sgz (b.x - a.x))) rfl).set 3 1 (.string (moz (b.x - a.x))) rfl)) (first
        | (go_at_call 105; (first | (with_reducible refine (PX.out b _).mono ?_) | (with_reducible refine (PX.out a _).mono ?_)); rintro e w3 ⟨rfl, hT⟩; (first | (with_reducible have T := Lib.hid (T.out.trans hT (by simp)); have G := Lib.hid (G.out.keep hT)) | (have T := Lib.hid (T.out.drew.trans hT (by simp)); have G := Lib.hid (G.out.drew.keep hT))); clear hT)
        | (go_at_call 58; (first | (with_reducible refine (B1.out _).mono ?_) | (with_reducible refine (A1.out _).mono ?_)); rintro e w3 ⟨rfl, hT⟩; have T := Lib.hid (T.out.trans hT (by simp)); have G := Lib.hid (G.out.keep hT); clear hT)
        | (go_at_call 97; (with_reducible refine (S1.out _).mono ?_); rintro e w3 ⟨rfl, hT⟩; have T := Lib.hid (T.out.trans hT (by simp)); have G := Lib.hid (G.out.keep hT); clear hT; obtain ⟨v0, v1, v2, v3, v4, v5⟩ := G.out.six 3 (b := w.heap.size + 1 + 1 + 1) rfl rfl; obtain ⟨f0, f1, f2, f3, f4, f5⟩ := G.out.fro6 3 (b := w.heap.size + 1 + 1 + 1) rfl rfl))
      go_wp2
      go_roundw
      case rel => exact ⟨1, by omega, by go_num, Lib.hid ((G.out.set 3 0 (.bool (sgz (b.x - a.x))) rfl).set 3 1 (.string (moz (b.x - a.x))) rfl), Lib.hid ((T.out.setCell (.inr (by simp; omega)) _).setCell (.inr (by simp; omega)) _)⟩
      case measure => simp [intOf]
    · obtain ⟨a0, a1, a2⟩ := hB.out.three 0 (b := w.heap.size) rfl rfl
      obtain ⟨b0, b1, b2⟩ := hB.out.three 1 (b := w.heap.size + 1) rfl rfl
      have G := hB
      have T := hT
      have SF := Lib.hid (fun (w3 : World) (v : Array Value) (h : Bs w3 w.heap.size [.cells #[.int .i64 a.x, .int .i64 a.y, .int .i64 a.z] 23 (0, 0), .cells #[.int .i64 b.x, .int .i64 b.y, .int .i64 b.z] 23 (0, 0), .cells (wst (b.x - a.x) (b.y - a.y) (b.z - a.z) 0) 99 (0, 0), .cells v 99 (0, 0)]) => And.intro (h.three 0 (b := w.heap.size) rfl rfl) (h.three 1 (b := w.heap.size + 1) rfl rfl))
      have X0 := idx1
      go_wp2_with fail
      go_region_held3 (fun w3 => (w3.cell? ⟨w.heap.size, 0, none⟩ = some (.int .i64 a.x) ∧ w3.cell? ⟨w.heap.size, 1, none⟩ = some (.int .i64 a.y) ∧ w3.cell? ⟨w.heap.size, 2, none⟩ = some (.int .i64 a.z)) ∧ (w3.cell? ⟨w.heap.size + 1, 0, none⟩ = some (.int .i64 b.x) ∧ w3.cell? ⟨w.heap.size + 1, 1, none⟩ = some (.int .i64 b.y) ∧ w3.cell? ⟨w.heap.size + 1, 2, none⟩ = some (.int .i64 b.z))) (first | with_reducible exact SF.out _ _ G.out | exact SF.out _ _ G.out.drew | exact SF.out _ _ ((G.out.set 3 2 (.bool (sgz (b.y - a.y))) rfl).set 3 3 (.string (moz (b.y - a.y))) rfl)) (first
        | (go_at_call 106; (first | (with_reducible refine (PY.out b _).mono ?_) | (with_reducible refine (PY.out a _).mono ?_)); rintro e w3 ⟨rfl, hT⟩; (first | (with_reducible have T := Lib.hid (T.out.trans hT (by simp)); have G := Lib.hid (G.out.keep hT)) | (have T := Lib.hid (T.out.drew.trans hT (by simp)); have G := Lib.hid (G.out.drew.keep hT))); clear hT)
        | (go_at_call 58; (first | (with_reducible refine (B2.out _).mono ?_) | (with_reducible refine (A2.out _).mono ?_)); rintro e w3 ⟨rfl, hT⟩; have T := Lib.hid (T.out.trans hT (by simp)); have G := Lib.hid (G.out.keep hT); clear hT)
        | (go_at_call 97; (with_reducible refine (S2.out _).mono ?_); rintro e w3 ⟨rfl, hT⟩; have T := Lib.hid (T.out.trans hT (by simp)); have G := Lib.hid (G.out.keep hT); clear hT; obtain ⟨v0, v1, v2, v3, v4, v5⟩ := G.out.six 3 (b := w.heap.size + 1 + 1 + 1) rfl rfl; obtain ⟨f0, f1, f2, f3, f4, f5⟩ := G.out.fro6 3 (b := w.heap.size + 1 + 1 + 1) rfl rfl))
      go_wp2
      go_roundw
      case rel => exact ⟨2, by omega, by go_num, Lib.hid ((G.out.set 3 2 (.bool (sgz (b.y - a.y))) rfl).set 3 3 (.string (moz (b.y - a.y))) rfl), Lib.hid ((T.out.setCell (.inr (by simp; omega)) _).setCell (.inr (by simp; omega)) _)⟩
      case measure => simp [intOf]
    · obtain ⟨a0, a1, a2⟩ := hB.out.three 0 (b := w.heap.size) rfl rfl
      obtain ⟨b0, b1, b2⟩ := hB.out.three 1 (b := w.heap.size + 1) rfl rfl
      have G := hB
      have T := hT
      have SF := Lib.hid (fun (w3 : World) (v : Array Value) (h : Bs w3 w.heap.size [.cells #[.int .i64 a.x, .int .i64 a.y, .int .i64 a.z] 23 (0, 0), .cells #[.int .i64 b.x, .int .i64 b.y, .int .i64 b.z] 23 (0, 0), .cells (wst (b.x - a.x) (b.y - a.y) (b.z - a.z) 0) 99 (0, 0), .cells v 99 (0, 0)]) => And.intro (h.three 0 (b := w.heap.size) rfl rfl) (h.three 1 (b := w.heap.size + 1) rfl rfl))
      have X0 := idx2
      go_wp2_with fail
      go_region_held3 (fun w3 => (w3.cell? ⟨w.heap.size, 0, none⟩ = some (.int .i64 a.x) ∧ w3.cell? ⟨w.heap.size, 1, none⟩ = some (.int .i64 a.y) ∧ w3.cell? ⟨w.heap.size, 2, none⟩ = some (.int .i64 a.z)) ∧ (w3.cell? ⟨w.heap.size + 1, 0, none⟩ = some (.int .i64 b.x) ∧ w3.cell? ⟨w.heap.size + 1, 1, none⟩ = some (.int .i64 b.y) ∧ w3.cell? ⟨w.heap.size + 1, 2, none⟩ = some (.int .i64 b.z))) (first | with_reducible exact SF.out _ _ G.out | exact SF.out _ _ G.out.drew | exact SF.out _ _ ((G.out.set 3 4 (.bool (sgz (b.z - a.z))) rfl).set 3 5 (.string (moz (b.z - a.z))) rfl)) (first
        | (go_at_call 107; (first | (with_reducible refine (PZ.out b _).mono ?_) | (with_reducible refine (PZ.out a _).mono ?_)); rintro e w3 ⟨rfl, hT⟩; (first | (with_reducible have T := Lib.hid (T.out.trans hT (by simp)); have G := Lib.hid (G.out.keep hT)) | (have T := Lib.hid (T.out.drew.trans hT (by simp)); have G := Lib.hid (G.out.drew.keep hT))); clear hT)
        | (go_at_call 58; (first | (with_reducible refine (B3.out _).mono ?_) | (with_reducible refine (A3.out _).mono ?_)); rintro e w3 ⟨rfl, hT⟩; have T := Lib.hid (T.out.trans hT (by simp)); have G := Lib.hid (G.out.keep hT); clear hT)
        | (go_at_call 97; (with_reducible refine (S3.out _).mono ?_); rintro e w3 ⟨rfl, hT⟩; have T := Lib.hid (T.out.trans hT (by simp)); have G := Lib.hid (G.out.keep hT); clear hT; obtain ⟨v0, v1, v2, v3, v4, v5⟩ := G.out.six 3 (b := w.heap.size + 1 + 1 + 1) rfl rfl; obtain ⟨f0, f1, f2, f3, f4, f5⟩ := G.out.fro6 3 (b := w.heap.size + 1 + 1 + 1) rfl rfl))
      go_wp2
      go_roundw
      case rel => exact ⟨3, by omega, by go_num, Lib.hid ((G.out.set 3 4 (.bool (sgz (b.z - a.z))) rfl).set 3 5 (.string (moz (b.z - a.z))) rfl), Lib.hid ((T.out.setCell (.inr (by simp; omega)) _).setCell (.inr (by simp; omega)) _)⟩
      case measure => simp [intOf]
    · obtain ⟨v0, v1, v2, v3, v4, v5⟩ := hB.out.six 3 (b := w.heap.size + 1 + 1 + 1) rfl rfl
      obtain ⟨r0, r1, r2, r3, r4, r5⟩ := hB.out.six 2 (b := w.heap.size + 1 + 1) rfl rfl
      obtain ⟨f0, f1, f2, f3, f4, f5⟩ := hB.out.fro6 2 (b := w.heap.size + 1 + 1) rfl rfl
      go_wp2
      refine bodyPost_ret (v := .agg (wst (b.x - a.x) (b.y - a.y) (b.z - a.z) 3)) (by simp [results, Tryd.results83, go_sem, r0, r1, r2, r3, r4, r5, wst]) rfl ⟨rfl, ?_⟩
      exact (((((hT.out.setCell (.inr (by simp; omega)) _).setCell (.inr (by simp; omega)) _).setCell (.inr (by simp; omega)) _).setCell (.inr (by simp; omega)) _).setCell (.inr (by simp; omega)) _).setCell (.inr (by simp; omega)) _

end Go.Proofs.YtmpfgkpimjiecaaDoor
