/- exact.commonCorners. -/
import Derived.Test.YtpedbahppkimbaaDoorCor
namespace Go.Proofs.YtpedbahppkimbaaDoor
open Go Go.RowKit Dg

theorem idxT0 (a b c : P3) (w : World) : (Instr.index 28 (.agg #[.int .i64 a.x, .int .i64 a.y, .int .i64 a.z, .int .i64 b.x, .int .i64 b.y, .int .i64 b.z, .int .i64 c.x, .int .i64 c.y, .int .i64 c.z]) (.int .i64 0)).run Tryd.prog w = .ok (.agg #[.int .i64 a.x, .int .i64 a.y, .int .i64 a.z]) w := by kernel_rfl
theorem idxT1 (a b c : P3) (w : World) : (Instr.index 28 (.agg #[.int .i64 a.x, .int .i64 a.y, .int .i64 a.z, .int .i64 b.x, .int .i64 b.y, .int .i64 b.z, .int .i64 c.x, .int .i64 c.y, .int .i64 c.z]) (.int .i64 1)).run Tryd.prog w = .ok (.agg #[.int .i64 b.x, .int .i64 b.y, .int .i64 b.z]) w := by kernel_rfl
theorem idxT2 (a b c : P3) (w : World) : (Instr.index 28 (.agg #[.int .i64 a.x, .int .i64 a.y, .int .i64 a.z, .int .i64 b.x, .int .i64 b.y, .int .i64 b.z, .int .i64 c.x, .int .i64 c.y, .int .i64 c.z]) (.int .i64 2)).run Tryd.prog w = .ok (.agg #[.int .i64 c.x, .int .i64 c.y, .int .i64 c.z]) w := by kernel_rfl

/-- How many of the three hold. -/
def cnt (e f g : Bool) : Nat := (if e then 1 else 0) + (if f then 1 else 0) + (if g then 1 else 0)
/-- How many of the first k hold. -/
def cst (e f g : Bool) (k : Nat) : Nat :=
  match k with
  | 0 => 0
  | 1 => cnt e false false
  | 2 => cnt e f false
  | _ => cnt e f g
/-- How many corners of the first triangle are corners of the second. -/
def comI (a b c p q r : P3) : Nat := cnt (isC p q r a) (isC p q r b) (isC p q r c)

set_option maxHeartbeats 2000000 in
set_option maxRecDepth 100000 in
theorem commonCorners (a b c p q r : P3) (w : World) :
    Calls Tryd.prog 28 #[.agg #[.int .i64 a.x, .int .i64 a.y, .int .i64 a.z, .int .i64 b.x, .int .i64 b.y, .int .i64 b.z, .int .i64 c.x, .int .i64 c.y, .int .i64 c.z], .agg #[.int .i64 p.x, .int .i64 p.y, .int .i64 p.z, .int .i64 q.x, .int .i64 q.y, .int .i64 q.z, .int .i64 r.x, .int .i64 r.y, .int .i64 r.z]] w fun e w' => e = .returned (.int .i64 (comI a b c p q r : Nat)) ∧ Tch [] w w' := by
  have c1 := fun w1 => isCorner p q r a w1
  have c2 := fun w1 => isCorner p q r b w1
  have c3 := fun w1 => isCorner p q r c w1
  have ho : comI a b c p q r = cnt (isC p q r a) (isC p q r b) (isC p q r c) := rfl
  rw [ho]
  obtain ⟨e1, h1⟩ : ∃ e1, e1 = isC p q r a := ⟨_, rfl⟩
  obtain ⟨e2, h2⟩ : ∃ e2, e2 = isC p q r b := ⟨_, rfl⟩
  obtain ⟨e3, h3⟩ : ∃ e3, e3 = isC p q r c := ⟨_, rfl⟩
  rw [← h1] at c1 ⊢
  rw [← h2] at c2 ⊢
  rw [← h3] at c3 ⊢
  have C1 := Lib.hid c1
  have C2 := Lib.hid c2
  have C3 := Lib.hid c3
  have F0 : Hid (Fr w ((w.alloc (.cells #[.int .i64 a.x, .int .i64 a.y, .int .i64 a.z, .int .i64 b.x, .int .i64 b.y, .int .i64 b.z, .int .i64 c.x, .int .i64 c.y, .int .i64 c.z] 28)).alloc (.cells #[.int .i64 p.x, .int .i64 p.y, .int .i64 p.z, .int .i64 q.x, .int .i64 q.y, .int .i64 q.z, .int .i64 r.x, .int .i64 r.y, .int .i64 r.z] 28)) [(w.heap.size, .cells #[.int .i64 a.x, .int .i64 a.y, .int .i64 a.z, .int .i64 b.x, .int .i64 b.y, .int .i64 b.z, .int .i64 c.x, .int .i64 c.y, .int .i64 c.z] 28 (0, 0)), (w.heap.size + 1, .cells #[.int .i64 p.x, .int .i64 p.y, .int .i64 p.z, .int .i64 q.x, .int .i64 q.y, .int .i64 q.z, .int .i64 r.x, .int .i64 r.y, .int .i64 r.z] 28 (0, 0))]) := Lib.hid (((Fr.nil w).add (.cells #[.int .i64 a.x, .int .i64 a.y, .int .i64 a.z, .int .i64 b.x, .int .i64 b.y, .int .i64 b.z, .int .i64 c.x, .int .i64 c.y, .int .i64 c.z] 28) w.heap.size rfl).add (.cells #[.int .i64 p.x, .int .i64 p.y, .int .i64 p.z, .int .i64 q.x, .int .i64 q.y, .int .i64 q.z, .int .i64 r.x, .int .i64 r.y, .int .i64 r.z] 28) (w.heap.size + 1) (by simp))
  clear c1 c2 c3 h1 h2 h3 ho
  go_enter Tryd.func28, Tryd.ntmps28
  go_wp2
  go_loopw [5, 9] (fun ct i wr => ∃ k v : Nat, k ≤ 3 ∧ v ≤ k ∧ ct = .int .i64 (v : Int) ∧ i = .int .i64 (k : Int) ∧ Hid (v = cst e1 e2 e3 k) ∧ Hid (Fr w wr [(w.heap.size, .cells #[.int .i64 a.x, .int .i64 a.y, .int .i64 a.z, .int .i64 b.x, .int .i64 b.y, .int .i64 b.z, .int .i64 c.x, .int .i64 c.y, .int .i64 c.z] 28 (0, 0)), (w.heap.size + 1, .cells #[.int .i64 p.x, .int .i64 p.y, .int .i64 p.z, .int .i64 q.x, .int .i64 q.y, .int .i64 q.z, .int .i64 r.x, .int .i64 r.y, .int .i64 r.z] 28 (0, 0))]))
    (fun _ i _ => 3 - (intOf i).toNat)
  case atStart => exact ⟨0, 0, by omega, by omega, rfl, rfl, Lib.hid rfl, F0⟩
  case round =>
    obtain ⟨k, v, hk, hv, rfl, rfl, HV, F⟩ := hrel
    rcases (show k = 0 ∨ k = 1 ∨ k = 2 ∨ k = 3 by omega) with rfl | rfl | rfl | rfl
    · have X := idxT0 a b c
      cases e1
      · have HV' : Hid (v = cst false e2 e3 1) := Lib.hid (by have h := HV.out; unfold cst cnt at h ⊢; simp at h ⊢; try omega)
        clear HV
        have F := Lib.hid (F.out.beside (.cells #[.int .i64 a.x, .int .i64 a.y, .int .i64 a.z] 26))
        obtain ⟨⟨t0, t1, t2⟩, ⟨t3, t4, t5⟩, t6, t7, t8⟩ := F.out.nine 1 rfl
        go_wp2_with fail
        refine (C1.out _).mono ?_
        rintro e w4 ⟨rfl, hT⟩
        have F := Lib.hid (F.out.keep hT)
        clear hT t0 t1 t2 t3 t4 t5 t6 t7 t8
        go_wp2
        go_roundw
        case rel => exact ⟨1, v, by omega, by omega, by first | rfl | go_num, by go_num, HV', F⟩
        case measure => simp [intOf]
      · have HV' : Hid (v + 1 = cst true e2 e3 1) := Lib.hid (by have h := HV.out; unfold cst cnt at h ⊢; simp at h ⊢; try omega)
        clear HV
        have F := Lib.hid (F.out.beside (.cells #[.int .i64 a.x, .int .i64 a.y, .int .i64 a.z] 26))
        obtain ⟨⟨t0, t1, t2⟩, ⟨t3, t4, t5⟩, t6, t7, t8⟩ := F.out.nine 1 rfl
        go_wp2_with fail
        refine (C1.out _).mono ?_
        rintro e w4 ⟨rfl, hT⟩
        have F := Lib.hid (F.out.keep hT)
        clear hT t0 t1 t2 t3 t4 t5 t6 t7 t8
        go_wp2
        go_roundw
        case rel => exact ⟨1, v + 1, by omega, by omega, by first | rfl | go_num, by go_num, HV', F⟩
        case measure => simp [intOf]
    · have X := idxT1 a b c
      cases e2
      · have HV' : Hid (v = cst e1 false e3 2) := Lib.hid (by have h := HV.out; unfold cst cnt at h ⊢; simp at h ⊢; try omega)
        clear HV
        have F := Lib.hid (F.out.beside (.cells #[.int .i64 b.x, .int .i64 b.y, .int .i64 b.z] 26))
        obtain ⟨⟨t0, t1, t2⟩, ⟨t3, t4, t5⟩, t6, t7, t8⟩ := F.out.nine 1 rfl
        go_wp2_with fail
        refine (C2.out _).mono ?_
        rintro e w4 ⟨rfl, hT⟩
        have F := Lib.hid (F.out.keep hT)
        clear hT t0 t1 t2 t3 t4 t5 t6 t7 t8
        go_wp2
        go_roundw
        case rel => exact ⟨2, v, by omega, by omega, by first | rfl | go_num, by go_num, HV', F⟩
        case measure => simp [intOf]
      · have HV' : Hid (v + 1 = cst e1 true e3 2) := Lib.hid (by have h := HV.out; unfold cst cnt at h ⊢; simp at h ⊢; try omega)
        clear HV
        have F := Lib.hid (F.out.beside (.cells #[.int .i64 b.x, .int .i64 b.y, .int .i64 b.z] 26))
        obtain ⟨⟨t0, t1, t2⟩, ⟨t3, t4, t5⟩, t6, t7, t8⟩ := F.out.nine 1 rfl
        go_wp2_with fail
        refine (C2.out _).mono ?_
        rintro e w4 ⟨rfl, hT⟩
        have F := Lib.hid (F.out.keep hT)
        clear hT t0 t1 t2 t3 t4 t5 t6 t7 t8
        go_wp2
        go_roundw
        case rel => exact ⟨2, v + 1, by omega, by omega, by first | rfl | go_num, by go_num, HV', F⟩
        case measure => simp [intOf]
    · have X := idxT2 a b c
      cases e3
      · have HV' : Hid (v = cst e1 e2 false 3) := Lib.hid (by have h := HV.out; unfold cst cnt at h ⊢; simp at h ⊢; try omega)
        clear HV
        have F := Lib.hid (F.out.beside (.cells #[.int .i64 c.x, .int .i64 c.y, .int .i64 c.z] 26))
        obtain ⟨⟨t0, t1, t2⟩, ⟨t3, t4, t5⟩, t6, t7, t8⟩ := F.out.nine 1 rfl
        go_wp2_with fail
        refine (C3.out _).mono ?_
        rintro e w4 ⟨rfl, hT⟩
        have F := Lib.hid (F.out.keep hT)
        clear hT t0 t1 t2 t3 t4 t5 t6 t7 t8
        go_wp2
        go_roundw
        case rel => exact ⟨3, v, by omega, by omega, by first | rfl | go_num, by go_num, HV', F⟩
        case measure => simp [intOf]
      · have HV' : Hid (v + 1 = cst e1 e2 true 3) := Lib.hid (by have h := HV.out; unfold cst cnt at h ⊢; simp at h ⊢; try omega)
        clear HV
        have F := Lib.hid (F.out.beside (.cells #[.int .i64 c.x, .int .i64 c.y, .int .i64 c.z] 26))
        obtain ⟨⟨t0, t1, t2⟩, ⟨t3, t4, t5⟩, t6, t7, t8⟩ := F.out.nine 1 rfl
        go_wp2_with fail
        refine (C3.out _).mono ?_
        rintro e w4 ⟨rfl, hT⟩
        have F := Lib.hid (F.out.keep hT)
        clear hT t0 t1 t2 t3 t4 t5 t6 t7 t8
        go_wp2
        go_roundw
        case rel => exact ⟨3, v + 1, by omega, by omega, by first | rfl | go_num, by go_num, HV', F⟩
        case measure => simp [intOf]
    · go_wp2
      go_ret
      exact ⟨by rw [HV.out]; rfl, F.out.t⟩

end Go.Proofs.YtpedbahppkimbaaDoor
