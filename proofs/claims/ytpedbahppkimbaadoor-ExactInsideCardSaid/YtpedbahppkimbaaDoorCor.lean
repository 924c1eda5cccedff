/- exact.isCorner, sameSide. -/
import Derived.Test.YtpedbahppkimbaaDoorFac
import Derived.BigQuiet
namespace Go.Proofs.YtpedbahppkimbaaDoor
open Go Go.RowKit Dg

/-- Two points are equal. -/
def ptE (p q : P3) : Bool := p.x == q.x && p.y == q.y && p.z == q.z
/-- A point is one of the three. -/
def isC (a b c p : P3) : Bool := ptE p a || ptE p b || ptE p c

set_option maxRecDepth 100000 in
theorem eqPt (p q : P3) (w : World) : (Op.equalIn 10000 26 (.agg #[.int .i64 p.x, .int .i64 p.y, .int .i64 p.z]) (.agg #[.int .i64 q.x, .int .i64 q.y, .int .i64 q.z])).run Tryd.prog w = .ok (ptE p q) w := by
  have u3 := Tryd.underlying3
  have a3 := Tryd.isAgg3
  have z3 := Tryd.sizeOf3
  have hS : Tryd.prog.underlying 26 = some (.struct (Tryd.prog.fieldsOf 26)) := by kernel_rfl
  have hp : Tryd.prog.stoodInHeld 26 = false := by kernel_rfl
  rw [show (10000 : Nat) = 9999 + 1 from rfl, run_equalIn_agg w 9999 26 _ _ hS hp]
  simp only [Program.fieldsOf, Tryd.underlying26]
  go_simp
  unfold ptE
  by_cases h1 : p.x = q.x <;> by_cases h2 : p.y = q.y <;> by_cases h3 : p.z = q.z <;> simp [h1, h2, h3]

theorem eqlPt (p q : P3) (w : World) : (binOp .eql 26 (.agg #[.int .i64 p.x, .int .i64 p.y, .int .i64 p.z]) (.agg #[.int .i64 q.x, .int .i64 q.y, .int .i64 q.z])).run Tryd.prog w = .ok (.bool (ptE p q)) w := by
  rw [run_eql_struct, eqPt]; rfl
attribute [local go_sem ↓] eqlPt

set_option maxHeartbeats 2000000 in
set_option maxRecDepth 100000 in
theorem isCorner (a b c p : P3) (w : World) :
    Calls Tryd.prog 46 #[.agg #[.int .i64 a.x, .int .i64 a.y, .int .i64 a.z, .int .i64 b.x, .int .i64 b.y, .int .i64 b.z, .int .i64 c.x, .int .i64 c.y, .int .i64 c.z], .agg #[.int .i64 p.x, .int .i64 p.y, .int .i64 p.z]] w fun e w' => e = .returned (.bool (isC a b c p)) ∧ Tch [] w w' := by
  have F0 : Hid (Fr w ((w.alloc (.cells #[.int .i64 a.x, .int .i64 a.y, .int .i64 a.z, .int .i64 b.x, .int .i64 b.y, .int .i64 b.z, .int .i64 c.x, .int .i64 c.y, .int .i64 c.z] 28)).alloc (.cells #[.int .i64 p.x, .int .i64 p.y, .int .i64 p.z] 26)) [(w.heap.size, .cells #[.int .i64 a.x, .int .i64 a.y, .int .i64 a.z, .int .i64 b.x, .int .i64 b.y, .int .i64 b.z, .int .i64 c.x, .int .i64 c.y, .int .i64 c.z] 28 (0, 0)), (w.heap.size + 1, .cells #[.int .i64 p.x, .int .i64 p.y, .int .i64 p.z] 26 (0, 0))]) := Lib.hid (((Fr.nil w).add (.cells #[.int .i64 a.x, .int .i64 a.y, .int .i64 a.z, .int .i64 b.x, .int .i64 b.y, .int .i64 b.z, .int .i64 c.x, .int .i64 c.y, .int .i64 c.z] 28) w.heap.size rfl).add (.cells #[.int .i64 p.x, .int .i64 p.y, .int .i64 p.z] 26) (w.heap.size + 1) (by simp))
  go_enter Tryd.func46, Tryd.ntmps46
  go_wp2
  · rename_i h
    go_ret
    exact ⟨by unfold isC; rw [h]; rfl, F0.out.t⟩
  · rename_i h h2
    go_ret
    exact ⟨by unfold isC; rw [h2, Bool.or_true]; rfl, F0.out.t⟩
  · rename_i h h2
    go_ret
    exact ⟨by unfold isC; rw [Bool.not_eq_true] at h h2; rw [h, h2]; rfl, F0.out.t⟩

/-- The normals of two triangles over one edge: on the same side. -/
def sameI (p q r s : P3) : Bool := decide (0 < (dotI (nrmI p q r) (nrmI p q s)).sign)

set_option maxHeartbeats 2000000 in
set_option maxRecDepth 100000 in
theorem sameSide (p q r s : P3) (hp : p.Ok) (hq : q.Ok) (hr : r.Ok) (hs : s.Ok) (w : World) :
    Calls Tryd.prog 32 #[.agg #[.int .i64 p.x, .int .i64 p.y, .int .i64 p.z], .agg #[.int .i64 q.x, .int .i64 q.y, .int .i64 q.z], .agg #[.int .i64 r.x, .int .i64 r.y, .int .i64 r.z], .agg #[.int .i64 s.x, .int .i64 s.y, .int .i64 s.z]] w fun e w' => e = .returned (.bool (sameI p q r s)) ∧ Tch [] w w' := by
  have c1 := fun w1 => Facing p q r p q s hp hq hr hp hq hs w1
  obtain ⟨o, ho⟩ : ∃ o, o = (dotI (nrmI p q r) (nrmI p q s)).sign := ⟨_, rfl⟩
  have hv : sameI p q r s = decide (0 < o) := by rw [ho]; rfl
  rw [← ho] at c1
  rw [hv]
  have C1 := Lib.hid c1
  clear c1 hv ho hp hq hr hs
  go_enter Tryd.func32, Tryd.ntmps32
  go_wp2_with fail
  refine (C1.out _).mono ?_
  rintro e w1 ⟨rfl, hT⟩
  have HT := Lib.hid ((((((Tch.refl [] w).alloc _).alloc _).alloc _).alloc _).trans hT (by simp))
  clear hT
  go_wp2
  go_ret
  exact ⟨rfl, HT.out⟩

end Go.Proofs.YtpedbahppkimbaaDoor
