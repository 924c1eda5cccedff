/- exact.Meet. -/
import Derived.Test.YtandlbacjfdkpaaGreatDoorMe
namespace Go.Proofs.YtandlbacjfdkpaaGreatDoor
open Go Go.RowKit Dg

theorem cf_ok (a b c p q r : P3) (ha : a.Ok) (hb : b.Ok) (hc : c.Ok) : (cfI a b c p q r).a.Ok ∧ (cfI a b c p q r).b.Ok ∧ (cfI a b c p q r).c.Ok := by
  unfold cfI turns
  simp only [List.find?_cons, List.find?_nil]
  split
  · exact ⟨ha, hb, hc⟩
  · split
    · exact ⟨hb, hc, ha⟩
    · split
      · exact ⟨hc, ha, hb⟩
      · exact ⟨ha, hb, hc⟩

/-- The region of Meet that turns both triangles: its operations, and what may come up when. -/
structure TurnOps (ops : Array Oper) : Prop where
  sz : ops.size = 8
  o0 : ops[0]? = some { dst := some 26, op := Op.load 33 (.tmp 2), type := 33, pos := "meet.go:15", after := #[], guard := none }
  o1 : ops[1]? = some { dst := some 27, op := Op.load 33 (.tmp 3), type := 33, pos := "meet.go:15", after := #[], guard := none }
  o2 : ops[2]? = some { dst := some 28, op := Op.call { callee := Callee.value (.func 46), args := #[.tmp 26, .tmp 27], argTypes := #[33, 33] }, type := 33, pos := "meet.go:15", after := #[{ on := 0, ground := .data }, { on := 1, ground := .data }], guard := none }
  o3 : ops[3]? = some { dst := some 29, op := Op.load 33 (.tmp 3), type := 33, pos := "meet.go:15", after := #[], guard := none }
  o4 : ops[4]? = some { dst := some 30, op := Op.load 33 (.tmp 2), type := 33, pos := "meet.go:15", after := #[], guard := none }
  o5 : ops[5]? = some { dst := some 31, op := Op.call { callee := Callee.value (.func 46), args := #[.tmp 29, .tmp 30], argTypes := #[33, 33] }, type := 33, pos := "meet.go:15", after := #[{ on := 3, ground := .data }, { on := 4, ground := .data }, { on := 2, ground := .chain }], guard := none }
  o6 : ∃ A, ops[6]? = some { dst := none, op := Op.store 33 (.tmp 2) (.tmp 28), type := 0, pos := "meet.go:15", after := A, guard := none }
  o7 : ∃ A, ops[7]? = some { dst := none, op := Op.store 33 (.tmp 3) (.tmp 31), type := 0, pos := "meet.go:15", after := A, guard := none }
  r11111111 : Region.ready .any ops #[true, true, true, true, true, true, true, true] = []
  r11111110 : Region.ready .any ops #[true, true, true, true, true, true, true, false] = [7]
  r11111100 : Region.ready .any ops #[true, true, true, true, true, true, false, false] = [6]
  r11111000 : Region.ready .any ops #[true, true, true, true, true, false, false, false] = [5]
  r11110000 : Region.ready .any ops #[true, true, true, true, false, false, false, false] = [4]
  r11101000 : Region.ready .any ops #[true, true, true, false, true, false, false, false] = [3]
  r11100000 : Region.ready .any ops #[true, true, true, false, false, false, false, false] = [3, 4]
  r11011000 : Region.ready .any ops #[true, true, false, true, true, false, false, false] = [2]
  r11010000 : Region.ready .any ops #[true, true, false, true, false, false, false, false] = [2, 4]
  r11001000 : Region.ready .any ops #[true, true, false, false, true, false, false, false] = [2, 3]
  r11000000 : Region.ready .any ops #[true, true, false, false, false, false, false, false] = [2, 3, 4]
  r10011000 : Region.ready .any ops #[true, false, false, true, true, false, false, false] = [1]
  r10010000 : Region.ready .any ops #[true, false, false, true, false, false, false, false] = [1, 4]
  r10001000 : Region.ready .any ops #[true, false, false, false, true, false, false, false] = [1, 3]
  r10000000 : Region.ready .any ops #[true, false, false, false, false, false, false, false] = [1, 3, 4]
  r01011000 : Region.ready .any ops #[false, true, false, true, true, false, false, false] = [0]
  r01010000 : Region.ready .any ops #[false, true, false, true, false, false, false, false] = [0, 4]
  r01001000 : Region.ready .any ops #[false, true, false, false, true, false, false, false] = [0, 3]
  r01000000 : Region.ready .any ops #[false, true, false, false, false, false, false, false] = [0, 3, 4]
  r00011000 : Region.ready .any ops #[false, false, false, true, true, false, false, false] = [0, 1]
  r00010000 : Region.ready .any ops #[false, false, false, true, false, false, false, false] = [0, 1, 4]
  r00001000 : Region.ready .any ops #[false, false, false, false, true, false, false, false] = [0, 1, 3]
  r00000000 : Region.ready .any ops #[false, false, false, false, false, false, false, false] = [0, 1, 3, 4]

theorem Fr.toB {w0 w : World} {b b' : Nat} {x y : Obj} (h : Fr w0 w [(b, x), (b', y)]) (hn : b ≠ b') : FrB w0 w [(b', y)] b x :=
  ⟨h.sub (by intro q hq; simp only [List.mem_cons, List.not_mem_nil, or_false] at hq ⊢; exact .inr hq), h.at 0 rfl, by intro q hq; simp only [List.mem_cons, List.not_mem_nil, or_false] at hq; subst hq; exact hn.symm, h.new (b, x) (by simp)⟩
theorem FrB.flip {w0 w : World} {b b' : Nat} {x y : Obj} (h : FrB w0 w [(b', y)] b x) : FrB w0 w [(b, x)] b' y :=
  ⟨h.all.sub (by intro q hq; simp only [List.mem_cons, List.not_mem_nil, or_false, List.cons_append, List.nil_append] at hq ⊢; exact .inr hq), h.f.row (b', y) (by simp), by intro q hq; simp only [List.mem_cons, List.not_mem_nil, or_false] at hq; subst hq; exact (h.ne (b', y) (by simp)).symm, h.f.new (b', y) (by simp)⟩

set_option maxHeartbeats 16000000 in
set_option maxRecDepth 100000 in
theorem turn_law (a b c p q r s1 s2 s3 u1 u2 u3 : P3) (n : Int) (w0 W : World) (g2 g3 : Nat)
    (C1 : ∀ w1, Calls Tryz.prog 46 #[.agg #[.int .i64 a.x, .int .i64 a.y, .int .i64 a.z, .int .i64 b.x, .int .i64 b.y, .int .i64 b.z, .int .i64 c.x, .int .i64 c.y, .int .i64 c.z], .agg #[.int .i64 p.x, .int .i64 p.y, .int .i64 p.z, .int .i64 q.x, .int .i64 q.y, .int .i64 q.z, .int .i64 r.x, .int .i64 r.y, .int .i64 r.z]] w1 fun e w' => e = .returned (.agg #[.int .i64 s1.x, .int .i64 s1.y, .int .i64 s1.z, .int .i64 s2.x, .int .i64 s2.y, .int .i64 s2.z, .int .i64 s3.x, .int .i64 s3.y, .int .i64 s3.z]) ∧ Tch [] w1 w')
    (C2 : ∀ w1, Calls Tryz.prog 46 #[.agg #[.int .i64 p.x, .int .i64 p.y, .int .i64 p.z, .int .i64 q.x, .int .i64 q.y, .int .i64 q.z, .int .i64 r.x, .int .i64 r.y, .int .i64 r.z], .agg #[.int .i64 a.x, .int .i64 a.y, .int .i64 a.z, .int .i64 b.x, .int .i64 b.y, .int .i64 b.z, .int .i64 c.x, .int .i64 c.y, .int .i64 c.z]] w1 fun e w' => e = .returned (.agg #[.int .i64 u1.x, .int .i64 u1.y, .int .i64 u1.z, .int .i64 u2.x, .int .i64 u2.y, .int .i64 u2.z, .int .i64 u3.x, .int .i64 u3.y, .int .i64 u3.z]) ∧ Tch [] w1 w')
    (F : Fr w0 W [(g2, .cells #[.int .i64 a.x, .int .i64 a.y, .int .i64 a.z, .int .i64 b.x, .int .i64 b.y, .int .i64 b.z, .int .i64 c.x, .int .i64 c.y, .int .i64 c.z] 33 (0, 0)), (g3, .cells #[.int .i64 p.x, .int .i64 p.y, .int .i64 p.z, .int .i64 q.x, .int .i64 q.y, .int .i64 q.z, .int .i64 r.x, .int .i64 r.y, .int .i64 r.z] 33 (0, 0))]) (hne : g2 ≠ g3) (hm : Tryz.prog.follows .mixedOrders = true) {id : Nat} {ops : Array Oper} (E : TurnOps ops) {Q : Exit → Act → World → Prop}
    (h : ∀ w', Fr w0 w' [(g2, .cells #[.int .i64 s1.x, .int .i64 s1.y, .int .i64 s1.z, .int .i64 s2.x, .int .i64 s2.y, .int .i64 s2.z, .int .i64 s3.x, .int .i64 s3.y, .int .i64 s3.z] 33 (0, 0)), (g3, .cells #[.int .i64 u1.x, .int .i64 u1.y, .int .i64 u1.z, .int .i64 u2.x, .int .i64 u2.y, .int .i64 u2.z, .int .i64 u3.x, .int .i64 u3.y, .int .i64 u3.z] 33 (0, 0))] → Q .normal { tmps := List.toArray ((.agg #[.int .i64 a.x, .int .i64 a.y, .int .i64 a.z, .int .i64 b.x, .int .i64 b.y, .int .i64 b.z, .int .i64 c.x, .int .i64 c.y, .int .i64 c.z]) :: (.agg #[.int .i64 p.x, .int .i64 p.y, .int .i64 p.z, .int .i64 q.x, .int .i64 q.y, .int .i64 q.z, .int .i64 r.x, .int .i64 r.y, .int .i64 r.z]) :: (.pointer (some ⟨g2, 0, none⟩)) :: (.pointer (some ⟨g3, 0, none⟩)) :: (.bool false) :: (.int .i64 n) :: (.agg #[.int .i64 a.x, .int .i64 a.y, .int .i64 a.z, .int .i64 b.x, .int .i64 b.y, .int .i64 b.z, .int .i64 c.x, .int .i64 c.y, .int .i64 c.z]) :: (.agg #[.int .i64 p.x, .int .i64 p.y, .int .i64 p.z, .int .i64 q.x, .int .i64 q.y, .int .i64 q.z, .int .i64 r.x, .int .i64 r.y, .int .i64 r.z]) :: (.int .i64 n) :: (.bool false) :: (.int .i64 n) :: (.bool false) :: undef :: undef :: undef :: (.bool false) :: (.int .i64 n) :: (.bool false) :: (.bool false) :: (.agg #[.int .i64 a.x, .int .i64 a.y, .int .i64 a.z, .int .i64 b.x, .int .i64 b.y, .int .i64 b.z, .int .i64 c.x, .int .i64 c.y, .int .i64 c.z]) :: (.bool false) :: (.bool false) :: (.bool false) :: (.agg #[.int .i64 p.x, .int .i64 p.y, .int .i64 p.z, .int .i64 q.x, .int .i64 q.y, .int .i64 q.z, .int .i64 r.x, .int .i64 r.y, .int .i64 r.z]) :: (.bool false) :: (.bool false) :: (.agg #[.int .i64 a.x, .int .i64 a.y, .int .i64 a.z, .int .i64 b.x, .int .i64 b.y, .int .i64 b.z, .int .i64 c.x, .int .i64 c.y, .int .i64 c.z]) :: (.agg #[.int .i64 p.x, .int .i64 p.y, .int .i64 p.z, .int .i64 q.x, .int .i64 q.y, .int .i64 q.z, .int .i64 r.x, .int .i64 r.y, .int .i64 r.z]) :: (.agg #[.int .i64 s1.x, .int .i64 s1.y, .int .i64 s1.z, .int .i64 s2.x, .int .i64 s2.y, .int .i64 s2.z, .int .i64 s3.x, .int .i64 s3.y, .int .i64 s3.z]) :: (.agg #[.int .i64 p.x, .int .i64 p.y, .int .i64 p.z, .int .i64 q.x, .int .i64 q.y, .int .i64 q.z, .int .i64 r.x, .int .i64 r.y, .int .i64 r.z]) :: (.agg #[.int .i64 a.x, .int .i64 a.y, .int .i64 a.z, .int .i64 b.x, .int .i64 b.y, .int .i64 b.z, .int .i64 c.x, .int .i64 c.y, .int .i64 c.z]) :: (.agg #[.int .i64 u1.x, .int .i64 u1.y, .int .i64 u1.z, .int .i64 u2.x, .int .i64 u2.y, .int .i64 u2.z, .int .i64 u3.x, .int .i64 u3.y, .int .i64 u3.z]) :: undef :: undef :: undef :: undef :: undef :: undef :: undef :: undef :: undef :: undef :: undef :: undef :: undef :: undef :: undef :: undef :: undef :: undef :: undef :: undef :: undef :: undef :: undef :: undef :: undef :: undef :: undef :: undef :: undef :: undef :: undef :: undef :: undef :: undef :: undef :: undef :: undef :: []), defers := [] } w') :
    (Code.region id ops true).wp Tryz.prog Q { tmps := List.toArray ((.agg #[.int .i64 a.x, .int .i64 a.y, .int .i64 a.z, .int .i64 b.x, .int .i64 b.y, .int .i64 b.z, .int .i64 c.x, .int .i64 c.y, .int .i64 c.z]) :: (.agg #[.int .i64 p.x, .int .i64 p.y, .int .i64 p.z, .int .i64 q.x, .int .i64 q.y, .int .i64 q.z, .int .i64 r.x, .int .i64 r.y, .int .i64 r.z]) :: (.pointer (some ⟨g2, 0, none⟩)) :: (.pointer (some ⟨g3, 0, none⟩)) :: (.bool false) :: (.int .i64 n) :: (.agg #[.int .i64 a.x, .int .i64 a.y, .int .i64 a.z, .int .i64 b.x, .int .i64 b.y, .int .i64 b.z, .int .i64 c.x, .int .i64 c.y, .int .i64 c.z]) :: (.agg #[.int .i64 p.x, .int .i64 p.y, .int .i64 p.z, .int .i64 q.x, .int .i64 q.y, .int .i64 q.z, .int .i64 r.x, .int .i64 r.y, .int .i64 r.z]) :: (.int .i64 n) :: (.bool false) :: (.int .i64 n) :: (.bool false) :: undef :: undef :: undef :: (.bool false) :: (.int .i64 n) :: (.bool false) :: (.bool false) :: (.agg #[.int .i64 a.x, .int .i64 a.y, .int .i64 a.z, .int .i64 b.x, .int .i64 b.y, .int .i64 b.z, .int .i64 c.x, .int .i64 c.y, .int .i64 c.z]) :: (.bool false) :: (.bool false) :: (.bool false) :: (.agg #[.int .i64 p.x, .int .i64 p.y, .int .i64 p.z, .int .i64 q.x, .int .i64 q.y, .int .i64 q.z, .int .i64 r.x, .int .i64 r.y, .int .i64 r.z]) :: (.bool false) :: (.bool false) :: undef :: undef :: undef :: undef :: undef :: undef :: undef :: undef :: undef :: undef :: undef :: undef :: undef :: undef :: undef :: undef :: undef :: undef :: undef :: undef :: undef :: undef :: undef :: undef :: undef :: undef :: undef :: undef :: undef :: undef :: undef :: undef :: undef :: undef :: undef :: undef :: undef :: undef :: undef :: undef :: undef :: undef :: undef :: []), defers := [] } W := by
  have HE := Lib.hid E
  have HC1 := Lib.hid C1
  have HC2 := Lib.hid C2
  have HQ := Lib.hid h
  have HN := Lib.hid hne
  have HF := Lib.hid F
  clear C1 C2 h hne F
  refine wp_region_any hm ?_
  rw [E.sz]
  clear E
  have H11111111 : Hid (∀ W, Hid (Fr w0 W [(g2, .cells #[.int .i64 s1.x, .int .i64 s1.y, .int .i64 s1.z, .int .i64 s2.x, .int .i64 s2.y, .int .i64 s2.z, .int .i64 s3.x, .int .i64 s3.y, .int .i64 s3.z] 33 (0, 0)), (g3, .cells #[.int .i64 u1.x, .int .i64 u1.y, .int .i64 u1.z, .int .i64 u2.x, .int .i64 u2.y, .int .i64 u2.z, .int .i64 u3.x, .int .i64 u3.y, .int .i64 u3.z] 33 (0, 0))]) → wpAny Tryz.prog .any ops Q 0 #[true, true, true, true, true, true, true, true] { tmps := List.toArray ((.agg #[.int .i64 a.x, .int .i64 a.y, .int .i64 a.z, .int .i64 b.x, .int .i64 b.y, .int .i64 b.z, .int .i64 c.x, .int .i64 c.y, .int .i64 c.z]) :: (.agg #[.int .i64 p.x, .int .i64 p.y, .int .i64 p.z, .int .i64 q.x, .int .i64 q.y, .int .i64 q.z, .int .i64 r.x, .int .i64 r.y, .int .i64 r.z]) :: (.pointer (some ⟨g2, 0, none⟩)) :: (.pointer (some ⟨g3, 0, none⟩)) :: (.bool false) :: (.int .i64 n) :: (.agg #[.int .i64 a.x, .int .i64 a.y, .int .i64 a.z, .int .i64 b.x, .int .i64 b.y, .int .i64 b.z, .int .i64 c.x, .int .i64 c.y, .int .i64 c.z]) :: (.agg #[.int .i64 p.x, .int .i64 p.y, .int .i64 p.z, .int .i64 q.x, .int .i64 q.y, .int .i64 q.z, .int .i64 r.x, .int .i64 r.y, .int .i64 r.z]) :: (.int .i64 n) :: (.bool false) :: (.int .i64 n) :: (.bool false) :: undef :: undef :: undef :: (.bool false) :: (.int .i64 n) :: (.bool false) :: (.bool false) :: (.agg #[.int .i64 a.x, .int .i64 a.y, .int .i64 a.z, .int .i64 b.x, .int .i64 b.y, .int .i64 b.z, .int .i64 c.x, .int .i64 c.y, .int .i64 c.z]) :: (.bool false) :: (.bool false) :: (.bool false) :: (.agg #[.int .i64 p.x, .int .i64 p.y, .int .i64 p.z, .int .i64 q.x, .int .i64 q.y, .int .i64 q.z, .int .i64 r.x, .int .i64 r.y, .int .i64 r.z]) :: (.bool false) :: (.bool false) :: (.agg #[.int .i64 a.x, .int .i64 a.y, .int .i64 a.z, .int .i64 b.x, .int .i64 b.y, .int .i64 b.z, .int .i64 c.x, .int .i64 c.y, .int .i64 c.z]) :: (.agg #[.int .i64 p.x, .int .i64 p.y, .int .i64 p.z, .int .i64 q.x, .int .i64 q.y, .int .i64 q.z, .int .i64 r.x, .int .i64 r.y, .int .i64 r.z]) :: (.agg #[.int .i64 s1.x, .int .i64 s1.y, .int .i64 s1.z, .int .i64 s2.x, .int .i64 s2.y, .int .i64 s2.z, .int .i64 s3.x, .int .i64 s3.y, .int .i64 s3.z]) :: (.agg #[.int .i64 p.x, .int .i64 p.y, .int .i64 p.z, .int .i64 q.x, .int .i64 q.y, .int .i64 q.z, .int .i64 r.x, .int .i64 r.y, .int .i64 r.z]) :: (.agg #[.int .i64 a.x, .int .i64 a.y, .int .i64 a.z, .int .i64 b.x, .int .i64 b.y, .int .i64 b.z, .int .i64 c.x, .int .i64 c.y, .int .i64 c.z]) :: (.agg #[.int .i64 u1.x, .int .i64 u1.y, .int .i64 u1.z, .int .i64 u2.x, .int .i64 u2.y, .int .i64 u2.z, .int .i64 u3.x, .int .i64 u3.y, .int .i64 u3.z]) :: undef :: undef :: undef :: undef :: undef :: undef :: undef :: undef :: undef :: undef :: undef :: undef :: undef :: undef :: undef :: undef :: undef :: undef :: undef :: undef :: undef :: undef :: undef :: undef :: undef :: undef :: undef :: undef :: undef :: undef :: undef :: undef :: undef :: undef :: undef :: undef :: undef :: []), defers := [] } W) := Lib.hid (fun W F => by
    exact wpAny_done HE.out.r11111111 (HQ.out W F.out) _)
  have H11111110 : Hid (∀ W, Hid (Fr w0 W [(g2, .cells #[.int .i64 s1.x, .int .i64 s1.y, .int .i64 s1.z, .int .i64 s2.x, .int .i64 s2.y, .int .i64 s2.z, .int .i64 s3.x, .int .i64 s3.y, .int .i64 s3.z] 33 (0, 0)), (g3, .cells #[.int .i64 p.x, .int .i64 p.y, .int .i64 p.z, .int .i64 q.x, .int .i64 q.y, .int .i64 q.z, .int .i64 r.x, .int .i64 r.y, .int .i64 r.z] 33 (0, 0))]) → wpAny Tryz.prog .any ops Q 1 #[true, true, true, true, true, true, true, false] { tmps := List.toArray ((.agg #[.int .i64 a.x, .int .i64 a.y, .int .i64 a.z, .int .i64 b.x, .int .i64 b.y, .int .i64 b.z, .int .i64 c.x, .int .i64 c.y, .int .i64 c.z]) :: (.agg #[.int .i64 p.x, .int .i64 p.y, .int .i64 p.z, .int .i64 q.x, .int .i64 q.y, .int .i64 q.z, .int .i64 r.x, .int .i64 r.y, .int .i64 r.z]) :: (.pointer (some ⟨g2, 0, none⟩)) :: (.pointer (some ⟨g3, 0, none⟩)) :: (.bool false) :: (.int .i64 n) :: (.agg #[.int .i64 a.x, .int .i64 a.y, .int .i64 a.z, .int .i64 b.x, .int .i64 b.y, .int .i64 b.z, .int .i64 c.x, .int .i64 c.y, .int .i64 c.z]) :: (.agg #[.int .i64 p.x, .int .i64 p.y, .int .i64 p.z, .int .i64 q.x, .int .i64 q.y, .int .i64 q.z, .int .i64 r.x, .int .i64 r.y, .int .i64 r.z]) :: (.int .i64 n) :: (.bool false) :: (.int .i64 n) :: (.bool false) :: undef :: undef :: undef :: (.bool false) :: (.int .i64 n) :: (.bool false) :: (.bool false) :: (.agg #[.int .i64 a.x, .int .i64 a.y, .int .i64 a.z, .int .i64 b.x, .int .i64 b.y, .int .i64 b.z, .int .i64 c.x, .int .i64 c.y, .int .i64 c.z]) :: (.bool false) :: (.bool false) :: (.bool false) :: (.agg #[.int .i64 p.x, .int .i64 p.y, .int .i64 p.z, .int .i64 q.x, .int .i64 q.y, .int .i64 q.z, .int .i64 r.x, .int .i64 r.y, .int .i64 r.z]) :: (.bool false) :: (.bool false) :: (.agg #[.int .i64 a.x, .int .i64 a.y, .int .i64 a.z, .int .i64 b.x, .int .i64 b.y, .int .i64 b.z, .int .i64 c.x, .int .i64 c.y, .int .i64 c.z]) :: (.agg #[.int .i64 p.x, .int .i64 p.y, .int .i64 p.z, .int .i64 q.x, .int .i64 q.y, .int .i64 q.z, .int .i64 r.x, .int .i64 r.y, .int .i64 r.z]) :: (.agg #[.int .i64 s1.x, .int .i64 s1.y, .int .i64 s1.z, .int .i64 s2.x, .int .i64 s2.y, .int .i64 s2.z, .int .i64 s3.x, .int .i64 s3.y, .int .i64 s3.z]) :: (.agg #[.int .i64 p.x, .int .i64 p.y, .int .i64 p.z, .int .i64 q.x, .int .i64 q.y, .int .i64 q.z, .int .i64 r.x, .int .i64 r.y, .int .i64 r.z]) :: (.agg #[.int .i64 a.x, .int .i64 a.y, .int .i64 a.z, .int .i64 b.x, .int .i64 b.y, .int .i64 b.z, .int .i64 c.x, .int .i64 c.y, .int .i64 c.z]) :: (.agg #[.int .i64 u1.x, .int .i64 u1.y, .int .i64 u1.z, .int .i64 u2.x, .int .i64 u2.y, .int .i64 u2.z, .int .i64 u3.x, .int .i64 u3.y, .int .i64 u3.z]) :: undef :: undef :: undef :: undef :: undef :: undef :: undef :: undef :: undef :: undef :: undef :: undef :: undef :: undef :: undef :: undef :: undef :: undef :: undef :: undef :: undef :: undef :: undef :: undef :: undef :: undef :: undef :: undef :: undef :: undef :: undef :: undef :: undef :: undef :: undef :: undef :: undef :: []), defers := [] } W) := Lib.hid (fun W F => by
    refine wpAny_ready HE.out.r11111110 (by simp) ?_
    obtain ⟨A, hA⟩ := HE.out.o7
    refine AllReady.cons hA (fun K hK => ?_) AllReady.nil
    · have HK := Lib.hid hK
      clear hK hA
      have FB := Lib.hid ((F.out.toB HN.out).flip)
      obtain ⟨⟨x0, x1, x2, x3, x4, x5, x6, x7, x8⟩, ⟨f0, f1, f2, f3, f4, f5, f6, f7, f8⟩⟩ := FB.out.nine
      go_simp
      refine HK.out _ _ (H11111111.out _ (Lib.hid (FB.out.put9 (.int .i64 u1.x) (.int .i64 u1.y) (.int .i64 u1.z) (.int .i64 u2.x) (.int .i64 u2.y) (.int .i64 u2.z) (.int .i64 u3.x) (.int .i64 u3.y) (.int .i64 u3.z)).all)))
  have H11111100 : Hid (∀ W, Hid (Fr w0 W [(g2, .cells #[.int .i64 a.x, .int .i64 a.y, .int .i64 a.z, .int .i64 b.x, .int .i64 b.y, .int .i64 b.z, .int .i64 c.x, .int .i64 c.y, .int .i64 c.z] 33 (0, 0)), (g3, .cells #[.int .i64 p.x, .int .i64 p.y, .int .i64 p.z, .int .i64 q.x, .int .i64 q.y, .int .i64 q.z, .int .i64 r.x, .int .i64 r.y, .int .i64 r.z] 33 (0, 0))]) → wpAny Tryz.prog .any ops Q 2 #[true, true, true, true, true, true, false, false] { tmps := List.toArray ((.agg #[.int .i64 a.x, .int .i64 a.y, .int .i64 a.z, .int .i64 b.x, .int .i64 b.y, .int .i64 b.z, .int .i64 c.x, .int .i64 c.y, .int .i64 c.z]) :: (.agg #[.int .i64 p.x, .int .i64 p.y, .int .i64 p.z, .int .i64 q.x, .int .i64 q.y, .int .i64 q.z, .int .i64 r.x, .int .i64 r.y, .int .i64 r.z]) :: (.pointer (some ⟨g2, 0, none⟩)) :: (.pointer (some ⟨g3, 0, none⟩)) :: (.bool false) :: (.int .i64 n) :: (.agg #[.int .i64 a.x, .int .i64 a.y, .int .i64 a.z, .int .i64 b.x, .int .i64 b.y, .int .i64 b.z, .int .i64 c.x, .int .i64 c.y, .int .i64 c.z]) :: (.agg #[.int .i64 p.x, .int .i64 p.y, .int .i64 p.z, .int .i64 q.x, .int .i64 q.y, .int .i64 q.z, .int .i64 r.x, .int .i64 r.y, .int .i64 r.z]) :: (.int .i64 n) :: (.bool false) :: (.int .i64 n) :: (.bool false) :: undef :: undef :: undef :: (.bool false) :: (.int .i64 n) :: (.bool false) :: (.bool false) :: (.agg #[.int .i64 a.x, .int .i64 a.y, .int .i64 a.z, .int .i64 b.x, .int .i64 b.y, .int .i64 b.z, .int .i64 c.x, .int .i64 c.y, .int .i64 c.z]) :: (.bool false) :: (.bool false) :: (.bool false) :: (.agg #[.int .i64 p.x, .int .i64 p.y, .int .i64 p.z, .int .i64 q.x, .int .i64 q.y, .int .i64 q.z, .int .i64 r.x, .int .i64 r.y, .int .i64 r.z]) :: (.bool false) :: (.bool false) :: (.agg #[.int .i64 a.x, .int .i64 a.y, .int .i64 a.z, .int .i64 b.x, .int .i64 b.y, .int .i64 b.z, .int .i64 c.x, .int .i64 c.y, .int .i64 c.z]) :: (.agg #[.int .i64 p.x, .int .i64 p.y, .int .i64 p.z, .int .i64 q.x, .int .i64 q.y, .int .i64 q.z, .int .i64 r.x, .int .i64 r.y, .int .i64 r.z]) :: (.agg #[.int .i64 s1.x, .int .i64 s1.y, .int .i64 s1.z, .int .i64 s2.x, .int .i64 s2.y, .int .i64 s2.z, .int .i64 s3.x, .int .i64 s3.y, .int .i64 s3.z]) :: (.agg #[.int .i64 p.x, .int .i64 p.y, .int .i64 p.z, .int .i64 q.x, .int .i64 q.y, .int .i64 q.z, .int .i64 r.x, .int .i64 r.y, .int .i64 r.z]) :: (.agg #[.int .i64 a.x, .int .i64 a.y, .int .i64 a.z, .int .i64 b.x, .int .i64 b.y, .int .i64 b.z, .int .i64 c.x, .int .i64 c.y, .int .i64 c.z]) :: (.agg #[.int .i64 u1.x, .int .i64 u1.y, .int .i64 u1.z, .int .i64 u2.x, .int .i64 u2.y, .int .i64 u2.z, .int .i64 u3.x, .int .i64 u3.y, .int .i64 u3.z]) :: undef :: undef :: undef :: undef :: undef :: undef :: undef :: undef :: undef :: undef :: undef :: undef :: undef :: undef :: undef :: undef :: undef :: undef :: undef :: undef :: undef :: undef :: undef :: undef :: undef :: undef :: undef :: undef :: undef :: undef :: undef :: undef :: undef :: undef :: undef :: undef :: undef :: []), defers := [] } W) := Lib.hid (fun W F => by
    refine wpAny_ready HE.out.r11111100 (by simp) ?_
    obtain ⟨A, hA⟩ := HE.out.o6
    refine AllReady.cons hA (fun K hK => ?_) AllReady.nil
    · have HK := Lib.hid hK
      clear hK hA
      have FB := Lib.hid (F.out.toB HN.out)
      obtain ⟨⟨x0, x1, x2, x3, x4, x5, x6, x7, x8⟩, ⟨f0, f1, f2, f3, f4, f5, f6, f7, f8⟩⟩ := FB.out.nine
      go_simp
      refine HK.out _ _ (H11111110.out _ (Lib.hid (FB.out.put9 (.int .i64 s1.x) (.int .i64 s1.y) (.int .i64 s1.z) (.int .i64 s2.x) (.int .i64 s2.y) (.int .i64 s2.z) (.int .i64 s3.x) (.int .i64 s3.y) (.int .i64 s3.z)).flip.all)))
  have H11111000 : Hid (∀ W, Hid (Fr w0 W [(g2, .cells #[.int .i64 a.x, .int .i64 a.y, .int .i64 a.z, .int .i64 b.x, .int .i64 b.y, .int .i64 b.z, .int .i64 c.x, .int .i64 c.y, .int .i64 c.z] 33 (0, 0)), (g3, .cells #[.int .i64 p.x, .int .i64 p.y, .int .i64 p.z, .int .i64 q.x, .int .i64 q.y, .int .i64 q.z, .int .i64 r.x, .int .i64 r.y, .int .i64 r.z] 33 (0, 0))]) → wpAny Tryz.prog .any ops Q 3 #[true, true, true, true, true, false, false, false] { tmps := List.toArray ((.agg #[.int .i64 a.x, .int .i64 a.y, .int .i64 a.z, .int .i64 b.x, .int .i64 b.y, .int .i64 b.z, .int .i64 c.x, .int .i64 c.y, .int .i64 c.z]) :: (.agg #[.int .i64 p.x, .int .i64 p.y, .int .i64 p.z, .int .i64 q.x, .int .i64 q.y, .int .i64 q.z, .int .i64 r.x, .int .i64 r.y, .int .i64 r.z]) :: (.pointer (some ⟨g2, 0, none⟩)) :: (.pointer (some ⟨g3, 0, none⟩)) :: (.bool false) :: (.int .i64 n) :: (.agg #[.int .i64 a.x, .int .i64 a.y, .int .i64 a.z, .int .i64 b.x, .int .i64 b.y, .int .i64 b.z, .int .i64 c.x, .int .i64 c.y, .int .i64 c.z]) :: (.agg #[.int .i64 p.x, .int .i64 p.y, .int .i64 p.z, .int .i64 q.x, .int .i64 q.y, .int .i64 q.z, .int .i64 r.x, .int .i64 r.y, .int .i64 r.z]) :: (.int .i64 n) :: (.bool false) :: (.int .i64 n) :: (.bool false) :: undef :: undef :: undef :: (.bool false) :: (.int .i64 n) :: (.bool false) :: (.bool false) :: (.agg #[.int .i64 a.x, .int .i64 a.y, .int .i64 a.z, .int .i64 b.x, .int .i64 b.y, .int .i64 b.z, .int .i64 c.x, .int .i64 c.y, .int .i64 c.z]) :: (.bool false) :: (.bool false) :: (.bool false) :: (.agg #[.int .i64 p.x, .int .i64 p.y, .int .i64 p.z, .int .i64 q.x, .int .i64 q.y, .int .i64 q.z, .int .i64 r.x, .int .i64 r.y, .int .i64 r.z]) :: (.bool false) :: (.bool false) :: (.agg #[.int .i64 a.x, .int .i64 a.y, .int .i64 a.z, .int .i64 b.x, .int .i64 b.y, .int .i64 b.z, .int .i64 c.x, .int .i64 c.y, .int .i64 c.z]) :: (.agg #[.int .i64 p.x, .int .i64 p.y, .int .i64 p.z, .int .i64 q.x, .int .i64 q.y, .int .i64 q.z, .int .i64 r.x, .int .i64 r.y, .int .i64 r.z]) :: (.agg #[.int .i64 s1.x, .int .i64 s1.y, .int .i64 s1.z, .int .i64 s2.x, .int .i64 s2.y, .int .i64 s2.z, .int .i64 s3.x, .int .i64 s3.y, .int .i64 s3.z]) :: (.agg #[.int .i64 p.x, .int .i64 p.y, .int .i64 p.z, .int .i64 q.x, .int .i64 q.y, .int .i64 q.z, .int .i64 r.x, .int .i64 r.y, .int .i64 r.z]) :: (.agg #[.int .i64 a.x, .int .i64 a.y, .int .i64 a.z, .int .i64 b.x, .int .i64 b.y, .int .i64 b.z, .int .i64 c.x, .int .i64 c.y, .int .i64 c.z]) :: undef :: undef :: undef :: undef :: undef :: undef :: undef :: undef :: undef :: undef :: undef :: undef :: undef :: undef :: undef :: undef :: undef :: undef :: undef :: undef :: undef :: undef :: undef :: undef :: undef :: undef :: undef :: undef :: undef :: undef :: undef :: undef :: undef :: undef :: undef :: undef :: undef :: undef :: []), defers := [] } W) := Lib.hid (fun W F => by
    refine wpAny_ready HE.out.r11111000 (by simp) ?_
    refine AllReady.cons HE.out.o5 (fun K hK => ?_) ?_
    · have HK := Lib.hid hK
      clear hK
      go_simp
      refine (HC2.out _).mono ?_
      rintro e w6 ⟨rfl, hT⟩
      have F6 := Lib.hid (F.out.keep hT)
      clear hT
      go_wp2_with fail
      exact HK.out _ _ (H11111100.out _ F6)
    exact AllReady.nil)
  have H11110000 : Hid (∀ W, Hid (Fr w0 W [(g2, .cells #[.int .i64 a.x, .int .i64 a.y, .int .i64 a.z, .int .i64 b.x, .int .i64 b.y, .int .i64 b.z, .int .i64 c.x, .int .i64 c.y, .int .i64 c.z] 33 (0, 0)), (g3, .cells #[.int .i64 p.x, .int .i64 p.y, .int .i64 p.z, .int .i64 q.x, .int .i64 q.y, .int .i64 q.z, .int .i64 r.x, .int .i64 r.y, .int .i64 r.z] 33 (0, 0))]) → wpAny Tryz.prog .any ops Q 4 #[true, true, true, true, false, false, false, false] { tmps := List.toArray ((.agg #[.int .i64 a.x, .int .i64 a.y, .int .i64 a.z, .int .i64 b.x, .int .i64 b.y, .int .i64 b.z, .int .i64 c.x, .int .i64 c.y, .int .i64 c.z]) :: (.agg #[.int .i64 p.x, .int .i64 p.y, .int .i64 p.z, .int .i64 q.x, .int .i64 q.y, .int .i64 q.z, .int .i64 r.x, .int .i64 r.y, .int .i64 r.z]) :: (.pointer (some ⟨g2, 0, none⟩)) :: (.pointer (some ⟨g3, 0, none⟩)) :: (.bool false) :: (.int .i64 n) :: (.agg #[.int .i64 a.x, .int .i64 a.y, .int .i64 a.z, .int .i64 b.x, .int .i64 b.y, .int .i64 b.z, .int .i64 c.x, .int .i64 c.y, .int .i64 c.z]) :: (.agg #[.int .i64 p.x, .int .i64 p.y, .int .i64 p.z, .int .i64 q.x, .int .i64 q.y, .int .i64 q.z, .int .i64 r.x, .int .i64 r.y, .int .i64 r.z]) :: (.int .i64 n) :: (.bool false) :: (.int .i64 n) :: (.bool false) :: undef :: undef :: undef :: (.bool false) :: (.int .i64 n) :: (.bool false) :: (.bool false) :: (.agg #[.int .i64 a.x, .int .i64 a.y, .int .i64 a.z, .int .i64 b.x, .int .i64 b.y, .int .i64 b.z, .int .i64 c.x, .int .i64 c.y, .int .i64 c.z]) :: (.bool false) :: (.bool false) :: (.bool false) :: (.agg #[.int .i64 p.x, .int .i64 p.y, .int .i64 p.z, .int .i64 q.x, .int .i64 q.y, .int .i64 q.z, .int .i64 r.x, .int .i64 r.y, .int .i64 r.z]) :: (.bool false) :: (.bool false) :: (.agg #[.int .i64 a.x, .int .i64 a.y, .int .i64 a.z, .int .i64 b.x, .int .i64 b.y, .int .i64 b.z, .int .i64 c.x, .int .i64 c.y, .int .i64 c.z]) :: (.agg #[.int .i64 p.x, .int .i64 p.y, .int .i64 p.z, .int .i64 q.x, .int .i64 q.y, .int .i64 q.z, .int .i64 r.x, .int .i64 r.y, .int .i64 r.z]) :: (.agg #[.int .i64 s1.x, .int .i64 s1.y, .int .i64 s1.z, .int .i64 s2.x, .int .i64 s2.y, .int .i64 s2.z, .int .i64 s3.x, .int .i64 s3.y, .int .i64 s3.z]) :: (.agg #[.int .i64 p.x, .int .i64 p.y, .int .i64 p.z, .int .i64 q.x, .int .i64 q.y, .int .i64 q.z, .int .i64 r.x, .int .i64 r.y, .int .i64 r.z]) :: undef :: undef :: undef :: undef :: undef :: undef :: undef :: undef :: undef :: undef :: undef :: undef :: undef :: undef :: undef :: undef :: undef :: undef :: undef :: undef :: undef :: undef :: undef :: undef :: undef :: undef :: undef :: undef :: undef :: undef :: undef :: undef :: undef :: undef :: undef :: undef :: undef :: undef :: undef :: []), defers := [] } W) := Lib.hid (fun W F => by
    refine wpAny_ready HE.out.r11110000 (by simp) ?_
    refine AllReady.cons HE.out.o4 (fun K hK => ?_) ?_
    · have HK := Lib.hid hK
      clear hK
      obtain ⟨⟨a0, a1, a2⟩, ⟨a3, a4, a5⟩, a6, a7, a8⟩ := F.out.nine 0 rfl
      obtain ⟨⟨b0, b1, b2⟩, ⟨b3, b4, b5⟩, b6, b7, b8⟩ := F.out.nine 1 rfl
      go_simp
      exact HK.out _ _ (H11111000.out _ F)
    exact AllReady.nil)
  have H11101000 : Hid (∀ W, Hid (Fr w0 W [(g2, .cells #[.int .i64 a.x, .int .i64 a.y, .int .i64 a.z, .int .i64 b.x, .int .i64 b.y, .int .i64 b.z, .int .i64 c.x, .int .i64 c.y, .int .i64 c.z] 33 (0, 0)), (g3, .cells #[.int .i64 p.x, .int .i64 p.y, .int .i64 p.z, .int .i64 q.x, .int .i64 q.y, .int .i64 q.z, .int .i64 r.x, .int .i64 r.y, .int .i64 r.z] 33 (0, 0))]) → wpAny Tryz.prog .any ops Q 4 #[true, true, true, false, true, false, false, false] { tmps := List.toArray ((.agg #[.int .i64 a.x, .int .i64 a.y, .int .i64 a.z, .int .i64 b.x, .int .i64 b.y, .int .i64 b.z, .int .i64 c.x, .int .i64 c.y, .int .i64 c.z]) :: (.agg #[.int .i64 p.x, .int .i64 p.y, .int .i64 p.z, .int .i64 q.x, .int .i64 q.y, .int .i64 q.z, .int .i64 r.x, .int .i64 r.y, .int .i64 r.z]) :: (.pointer (some ⟨g2, 0, none⟩)) :: (.pointer (some ⟨g3, 0, none⟩)) :: (.bool false) :: (.int .i64 n) :: (.agg #[.int .i64 a.x, .int .i64 a.y, .int .i64 a.z, .int .i64 b.x, .int .i64 b.y, .int .i64 b.z, .int .i64 c.x, .int .i64 c.y, .int .i64 c.z]) :: (.agg #[.int .i64 p.x, .int .i64 p.y, .int .i64 p.z, .int .i64 q.x, .int .i64 q.y, .int .i64 q.z, .int .i64 r.x, .int .i64 r.y, .int .i64 r.z]) :: (.int .i64 n) :: (.bool false) :: (.int .i64 n) :: (.bool false) :: undef :: undef :: undef :: (.bool false) :: (.int .i64 n) :: (.bool false) :: (.bool false) :: (.agg #[.int .i64 a.x, .int .i64 a.y, .int .i64 a.z, .int .i64 b.x, .int .i64 b.y, .int .i64 b.z, .int .i64 c.x, .int .i64 c.y, .int .i64 c.z]) :: (.bool false) :: (.bool false) :: (.bool false) :: (.agg #[.int .i64 p.x, .int .i64 p.y, .int .i64 p.z, .int .i64 q.x, .int .i64 q.y, .int .i64 q.z, .int .i64 r.x, .int .i64 r.y, .int .i64 r.z]) :: (.bool false) :: (.bool false) :: (.agg #[.int .i64 a.x, .int .i64 a.y, .int .i64 a.z, .int .i64 b.x, .int .i64 b.y, .int .i64 b.z, .int .i64 c.x, .int .i64 c.y, .int .i64 c.z]) :: (.agg #[.int .i64 p.x, .int .i64 p.y, .int .i64 p.z, .int .i64 q.x, .int .i64 q.y, .int .i64 q.z, .int .i64 r.x, .int .i64 r.y, .int .i64 r.z]) :: (.agg #[.int .i64 s1.x, .int .i64 s1.y, .int .i64 s1.z, .int .i64 s2.x, .int .i64 s2.y, .int .i64 s2.z, .int .i64 s3.x, .int .i64 s3.y, .int .i64 s3.z]) :: undef :: (.agg #[.int .i64 a.x, .int .i64 a.y, .int .i64 a.z, .int .i64 b.x, .int .i64 b.y, .int .i64 b.z, .int .i64 c.x, .int .i64 c.y, .int .i64 c.z]) :: undef :: undef :: undef :: undef :: undef :: undef :: undef :: undef :: undef :: undef :: undef :: undef :: undef :: undef :: undef :: undef :: undef :: undef :: undef :: undef :: undef :: undef :: undef :: undef :: undef :: undef :: undef :: undef :: undef :: undef :: undef :: undef :: undef :: undef :: undef :: undef :: undef :: undef :: []), defers := [] } W) := Lib.hid (fun W F => by
    refine wpAny_ready HE.out.r11101000 (by simp) ?_
    refine AllReady.cons HE.out.o3 (fun K hK => ?_) ?_
    · have HK := Lib.hid hK
      clear hK
      obtain ⟨⟨a0, a1, a2⟩, ⟨a3, a4, a5⟩, a6, a7, a8⟩ := F.out.nine 0 rfl
      obtain ⟨⟨b0, b1, b2⟩, ⟨b3, b4, b5⟩, b6, b7, b8⟩ := F.out.nine 1 rfl
      go_simp
      exact HK.out _ _ (H11111000.out _ F)
    exact AllReady.nil)
  have H11100000 : Hid (∀ W, Hid (Fr w0 W [(g2, .cells #[.int .i64 a.x, .int .i64 a.y, .int .i64 a.z, .int .i64 b.x, .int .i64 b.y, .int .i64 b.z, .int .i64 c.x, .int .i64 c.y, .int .i64 c.z] 33 (0, 0)), (g3, .cells #[.int .i64 p.x, .int .i64 p.y, .int .i64 p.z, .int .i64 q.x, .int .i64 q.y, .int .i64 q.z, .int .i64 r.x, .int .i64 r.y, .int .i64 r.z] 33 (0, 0))]) → wpAny Tryz.prog .any ops Q 5 #[true, true, true, false, false, false, false, false] { tmps := List.toArray ((.agg #[.int .i64 a.x, .int .i64 a.y, .int .i64 a.z, .int .i64 b.x, .int .i64 b.y, .int .i64 b.z, .int .i64 c.x, .int .i64 c.y, .int .i64 c.z]) :: (.agg #[.int .i64 p.x, .int .i64 p.y, .int .i64 p.z, .int .i64 q.x, .int .i64 q.y, .int .i64 q.z, .int .i64 r.x, .int .i64 r.y, .int .i64 r.z]) :: (.pointer (some ⟨g2, 0, none⟩)) :: (.pointer (some ⟨g3, 0, none⟩)) :: (.bool false) :: (.int .i64 n) :: (.agg #[.int .i64 a.x, .int .i64 a.y, .int .i64 a.z, .int .i64 b.x, .int .i64 b.y, .int .i64 b.z, .int .i64 c.x, .int .i64 c.y, .int .i64 c.z]) :: (.agg #[.int .i64 p.x, .int .i64 p.y, .int .i64 p.z, .int .i64 q.x, .int .i64 q.y, .int .i64 q.z, .int .i64 r.x, .int .i64 r.y, .int .i64 r.z]) :: (.int .i64 n) :: (.bool false) :: (.int .i64 n) :: (.bool false) :: undef :: undef :: undef :: (.bool false) :: (.int .i64 n) :: (.bool false) :: (.bool false) :: (.agg #[.int .i64 a.x, .int .i64 a.y, .int .i64 a.z, .int .i64 b.x, .int .i64 b.y, .int .i64 b.z, .int .i64 c.x, .int .i64 c.y, .int .i64 c.z]) :: (.bool false) :: (.bool false) :: (.bool false) :: (.agg #[.int .i64 p.x, .int .i64 p.y, .int .i64 p.z, .int .i64 q.x, .int .i64 q.y, .int .i64 q.z, .int .i64 r.x, .int .i64 r.y, .int .i64 r.z]) :: (.bool false) :: (.bool false) :: (.agg #[.int .i64 a.x, .int .i64 a.y, .int .i64 a.z, .int .i64 b.x, .int .i64 b.y, .int .i64 b.z, .int .i64 c.x, .int .i64 c.y, .int .i64 c.z]) :: (.agg #[.int .i64 p.x, .int .i64 p.y, .int .i64 p.z, .int .i64 q.x, .int .i64 q.y, .int .i64 q.z, .int .i64 r.x, .int .i64 r.y, .int .i64 r.z]) :: (.agg #[.int .i64 s1.x, .int .i64 s1.y, .int .i64 s1.z, .int .i64 s2.x, .int .i64 s2.y, .int .i64 s2.z, .int .i64 s3.x, .int .i64 s3.y, .int .i64 s3.z]) :: undef :: undef :: undef :: undef :: undef :: undef :: undef :: undef :: undef :: undef :: undef :: undef :: undef :: undef :: undef :: undef :: undef :: undef :: undef :: undef :: undef :: undef :: undef :: undef :: undef :: undef :: undef :: undef :: undef :: undef :: undef :: undef :: undef :: undef :: undef :: undef :: undef :: undef :: undef :: undef :: []), defers := [] } W) := Lib.hid (fun W F => by
    refine wpAny_ready HE.out.r11100000 (by simp) ?_
    refine AllReady.cons HE.out.o3 (fun K hK => ?_) ?_
    · have HK := Lib.hid hK
      clear hK
      obtain ⟨⟨a0, a1, a2⟩, ⟨a3, a4, a5⟩, a6, a7, a8⟩ := F.out.nine 0 rfl
      obtain ⟨⟨b0, b1, b2⟩, ⟨b3, b4, b5⟩, b6, b7, b8⟩ := F.out.nine 1 rfl
      go_simp
      exact HK.out _ _ (H11110000.out _ F)
    refine AllReady.cons HE.out.o4 (fun K hK => ?_) ?_
    · have HK := Lib.hid hK
      clear hK
      obtain ⟨⟨a0, a1, a2⟩, ⟨a3, a4, a5⟩, a6, a7, a8⟩ := F.out.nine 0 rfl
      obtain ⟨⟨b0, b1, b2⟩, ⟨b3, b4, b5⟩, b6, b7, b8⟩ := F.out.nine 1 rfl
      go_simp
      exact HK.out _ _ (H11101000.out _ F)
    exact AllReady.nil)
  have H11011000 : Hid (∀ W, Hid (Fr w0 W [(g2, .cells #[.int .i64 a.x, .int .i64 a.y, .int .i64 a.z, .int .i64 b.x, .int .i64 b.y, .int .i64 b.z, .int .i64 c.x, .int .i64 c.y, .int .i64 c.z] 33 (0, 0)), (g3, .cells #[.int .i64 p.x, .int .i64 p.y, .int .i64 p.z, .int .i64 q.x, .int .i64 q.y, .int .i64 q.z, .int .i64 r.x, .int .i64 r.y, .int .i64 r.z] 33 (0, 0))]) → wpAny Tryz.prog .any ops Q 4 #[true, true, false, true, true, false, false, false] { tmps := List.toArray ((.agg #[.int .i64 a.x, .int .i64 a.y, .int .i64 a.z, .int .i64 b.x, .int .i64 b.y, .int .i64 b.z, .int .i64 c.x, .int .i64 c.y, .int .i64 c.z]) :: (.agg #[.int .i64 p.x, .int .i64 p.y, .int .i64 p.z, .int .i64 q.x, .int .i64 q.y, .int .i64 q.z, .int .i64 r.x, .int .i64 r.y, .int .i64 r.z]) :: (.pointer (some ⟨g2, 0, none⟩)) :: (.pointer (some ⟨g3, 0, none⟩)) :: (.bool false) :: (.int .i64 n) :: (.agg #[.int .i64 a.x, .int .i64 a.y, .int .i64 a.z, .int .i64 b.x, .int .i64 b.y, .int .i64 b.z, .int .i64 c.x, .int .i64 c.y, .int .i64 c.z]) :: (.agg #[.int .i64 p.x, .int .i64 p.y, .int .i64 p.z, .int .i64 q.x, .int .i64 q.y, .int .i64 q.z, .int .i64 r.x, .int .i64 r.y, .int .i64 r.z]) :: (.int .i64 n) :: (.bool false) :: (.int .i64 n) :: (.bool false) :: undef :: undef :: undef :: (.bool false) :: (.int .i64 n) :: (.bool false) :: (.bool false) :: (.agg #[.int .i64 a.x, .int .i64 a.y, .int .i64 a.z, .int .i64 b.x, .int .i64 b.y, .int .i64 b.z, .int .i64 c.x, .int .i64 c.y, .int .i64 c.z]) :: (.bool false) :: (.bool false) :: (.bool false) :: (.agg #[.int .i64 p.x, .int .i64 p.y, .int .i64 p.z, .int .i64 q.x, .int .i64 q.y, .int .i64 q.z, .int .i64 r.x, .int .i64 r.y, .int .i64 r.z]) :: (.bool false) :: (.bool false) :: (.agg #[.int .i64 a.x, .int .i64 a.y, .int .i64 a.z, .int .i64 b.x, .int .i64 b.y, .int .i64 b.z, .int .i64 c.x, .int .i64 c.y, .int .i64 c.z]) :: (.agg #[.int .i64 p.x, .int .i64 p.y, .int .i64 p.z, .int .i64 q.x, .int .i64 q.y, .int .i64 q.z, .int .i64 r.x, .int .i64 r.y, .int .i64 r.z]) :: undef :: (.agg #[.int .i64 p.x, .int .i64 p.y, .int .i64 p.z, .int .i64 q.x, .int .i64 q.y, .int .i64 q.z, .int .i64 r.x, .int .i64 r.y, .int .i64 r.z]) :: (.agg #[.int .i64 a.x, .int .i64 a.y, .int .i64 a.z, .int .i64 b.x, .int .i64 b.y, .int .i64 b.z, .int .i64 c.x, .int .i64 c.y, .int .i64 c.z]) :: undef :: undef :: undef :: undef :: undef :: undef :: undef :: undef :: undef :: undef :: undef :: undef :: undef :: undef :: undef :: undef :: undef :: undef :: undef :: undef :: undef :: undef :: undef :: undef :: undef :: undef :: undef :: undef :: undef :: undef :: undef :: undef :: undef :: undef :: undef :: undef :: undef :: undef :: []), defers := [] } W) := Lib.hid (fun W F => by
    refine wpAny_ready HE.out.r11011000 (by simp) ?_
    refine AllReady.cons HE.out.o2 (fun K hK => ?_) ?_
    · have HK := Lib.hid hK
      clear hK
      go_simp
      refine (HC1.out _).mono ?_
      rintro e w6 ⟨rfl, hT⟩
      have F6 := Lib.hid (F.out.keep hT)
      clear hT
      go_wp2_with fail
      exact HK.out _ _ (H11111000.out _ F6)
    exact AllReady.nil)
  have H11010000 : Hid (∀ W, Hid (Fr w0 W [(g2, .cells #[.int .i64 a.x, .int .i64 a.y, .int .i64 a.z, .int .i64 b.x, .int .i64 b.y, .int .i64 b.z, .int .i64 c.x, .int .i64 c.y, .int .i64 c.z] 33 (0, 0)), (g3, .cells #[.int .i64 p.x, .int .i64 p.y, .int .i64 p.z, .int .i64 q.x, .int .i64 q.y, .int .i64 q.z, .int .i64 r.x, .int .i64 r.y, .int .i64 r.z] 33 (0, 0))]) → wpAny Tryz.prog .any ops Q 5 #[true, true, false, true, false, false, false, false] { tmps := List.toArray ((.agg #[.int .i64 a.x, .int .i64 a.y, .int .i64 a.z, .int .i64 b.x, .int .i64 b.y, .int .i64 b.z, .int .i64 c.x, .int .i64 c.y, .int .i64 c.z]) :: (.agg #[.int .i64 p.x, .int .i64 p.y, .int .i64 p.z, .int .i64 q.x, .int .i64 q.y, .int .i64 q.z, .int .i64 r.x, .int .i64 r.y, .int .i64 r.z]) :: (.pointer (some ⟨g2, 0, none⟩)) :: (.pointer (some ⟨g3, 0, none⟩)) :: (.bool false) :: (.int .i64 n) :: (.agg #[.int .i64 a.x, .int .i64 a.y, .int .i64 a.z, .int .i64 b.x, .int .i64 b.y, .int .i64 b.z, .int .i64 c.x, .int .i64 c.y, .int .i64 c.z]) :: (.agg #[.int .i64 p.x, .int .i64 p.y, .int .i64 p.z, .int .i64 q.x, .int .i64 q.y, .int .i64 q.z, .int .i64 r.x, .int .i64 r.y, .int .i64 r.z]) :: (.int .i64 n) :: (.bool false) :: (.int .i64 n) :: (.bool false) :: undef :: undef :: undef :: (.bool false) :: (.int .i64 n) :: (.bool false) :: (.bool false) :: (.agg #[.int .i64 a.x, .int .i64 a.y, .int .i64 a.z, .int .i64 b.x, .int .i64 b.y, .int .i64 b.z, .int .i64 c.x, .int .i64 c.y, .int .i64 c.z]) :: (.bool false) :: (.bool false) :: (.bool false) :: (.agg #[.int .i64 p.x, .int .i64 p.y, .int .i64 p.z, .int .i64 q.x, .int .i64 q.y, .int .i64 q.z, .int .i64 r.x, .int .i64 r.y, .int .i64 r.z]) :: (.bool false) :: (.bool false) :: (.agg #[.int .i64 a.x, .int .i64 a.y, .int .i64 a.z, .int .i64 b.x, .int .i64 b.y, .int .i64 b.z, .int .i64 c.x, .int .i64 c.y, .int .i64 c.z]) :: (.agg #[.int .i64 p.x, .int .i64 p.y, .int .i64 p.z, .int .i64 q.x, .int .i64 q.y, .int .i64 q.z, .int .i64 r.x, .int .i64 r.y, .int .i64 r.z]) :: undef :: (.agg #[.int .i64 p.x, .int .i64 p.y, .int .i64 p.z, .int .i64 q.x, .int .i64 q.y, .int .i64 q.z, .int .i64 r.x, .int .i64 r.y, .int .i64 r.z]) :: undef :: undef :: undef :: undef :: undef :: undef :: undef :: undef :: undef :: undef :: undef :: undef :: undef :: undef :: undef :: undef :: undef :: undef :: undef :: undef :: undef :: undef :: undef :: undef :: undef :: undef :: undef :: undef :: undef :: undef :: undef :: undef :: undef :: undef :: undef :: undef :: undef :: undef :: undef :: []), defers := [] } W) := Lib.hid (fun W F => by
    refine wpAny_ready HE.out.r11010000 (by simp) ?_
    refine AllReady.cons HE.out.o2 (fun K hK => ?_) ?_
    · have HK := Lib.hid hK
      clear hK
      go_simp
      refine (HC1.out _).mono ?_
      rintro e w6 ⟨rfl, hT⟩
      have F6 := Lib.hid (F.out.keep hT)
      clear hT
      go_wp2_with fail
      exact HK.out _ _ (H11110000.out _ F6)
    refine AllReady.cons HE.out.o4 (fun K hK => ?_) ?_
    · have HK := Lib.hid hK
      clear hK
      obtain ⟨⟨a0, a1, a2⟩, ⟨a3, a4, a5⟩, a6, a7, a8⟩ := F.out.nine 0 rfl
      obtain ⟨⟨b0, b1, b2⟩, ⟨b3, b4, b5⟩, b6, b7, b8⟩ := F.out.nine 1 rfl
      go_simp
      exact HK.out _ _ (H11011000.out _ F)
    exact AllReady.nil)
  have H11001000 : Hid (∀ W, Hid (Fr w0 W [(g2, .cells #[.int .i64 a.x, .int .i64 a.y, .int .i64 a.z, .int .i64 b.x, .int .i64 b.y, .int .i64 b.z, .int .i64 c.x, .int .i64 c.y, .int .i64 c.z] 33 (0, 0)), (g3, .cells #[.int .i64 p.x, .int .i64 p.y, .int .i64 p.z, .int .i64 q.x, .int .i64 q.y, .int .i64 q.z, .int .i64 r.x, .int .i64 r.y, .int .i64 r.z] 33 (0, 0))]) → wpAny Tryz.prog .any ops Q 5 #[true, true, false, false, true, false, false, false] { tmps := List.toArray ((.agg #[.int .i64 a.x, .int .i64 a.y, .int .i64 a.z, .int .i64 b.x, .int .i64 b.y, .int .i64 b.z, .int .i64 c.x, .int .i64 c.y, .int .i64 c.z]) :: (.agg #[.int .i64 p.x, .int .i64 p.y, .int .i64 p.z, .int .i64 q.x, .int .i64 q.y, .int .i64 q.z, .int .i64 r.x, .int .i64 r.y, .int .i64 r.z]) :: (.pointer (some ⟨g2, 0, none⟩)) :: (.pointer (some ⟨g3, 0, none⟩)) :: (.bool false) :: (.int .i64 n) :: (.agg #[.int .i64 a.x, .int .i64 a.y, .int .i64 a.z, .int .i64 b.x, .int .i64 b.y, .int .i64 b.z, .int .i64 c.x, .int .i64 c.y, .int .i64 c.z]) :: (.agg #[.int .i64 p.x, .int .i64 p.y, .int .i64 p.z, .int .i64 q.x, .int .i64 q.y, .int .i64 q.z, .int .i64 r.x, .int .i64 r.y, .int .i64 r.z]) :: (.int .i64 n) :: (.bool false) :: (.int .i64 n) :: (.bool false) :: undef :: undef :: undef :: (.bool false) :: (.int .i64 n) :: (.bool false) :: (.bool false) :: (.agg #[.int .i64 a.x, .int .i64 a.y, .int .i64 a.z, .int .i64 b.x, .int .i64 b.y, .int .i64 b.z, .int .i64 c.x, .int .i64 c.y, .int .i64 c.z]) :: (.bool false) :: (.bool false) :: (.bool false) :: (.agg #[.int .i64 p.x, .int .i64 p.y, .int .i64 p.z, .int .i64 q.x, .int .i64 q.y, .int .i64 q.z, .int .i64 r.x, .int .i64 r.y, .int .i64 r.z]) :: (.bool false) :: (.bool false) :: (.agg #[.int .i64 a.x, .int .i64 a.y, .int .i64 a.z, .int .i64 b.x, .int .i64 b.y, .int .i64 b.z, .int .i64 c.x, .int .i64 c.y, .int .i64 c.z]) :: (.agg #[.int .i64 p.x, .int .i64 p.y, .int .i64 p.z, .int .i64 q.x, .int .i64 q.y, .int .i64 q.z, .int .i64 r.x, .int .i64 r.y, .int .i64 r.z]) :: undef :: undef :: (.agg #[.int .i64 a.x, .int .i64 a.y, .int .i64 a.z, .int .i64 b.x, .int .i64 b.y, .int .i64 b.z, .int .i64 c.x, .int .i64 c.y, .int .i64 c.z]) :: undef :: undef :: undef :: undef :: undef :: undef :: undef :: undef :: undef :: undef :: undef :: undef :: undef :: undef :: undef :: undef :: undef :: undef :: undef :: undef :: undef :: undef :: undef :: undef :: undef :: undef :: undef :: undef :: undef :: undef :: undef :: undef :: undef :: undef :: undef :: undef :: undef :: undef :: []), defers := [] } W) := Lib.hid (fun W F => by
    refine wpAny_ready HE.out.r11001000 (by simp) ?_
    refine AllReady.cons HE.out.o2 (fun K hK => ?_) ?_
    · have HK := Lib.hid hK
      clear hK
      go_simp
      refine (HC1.out _).mono ?_
      rintro e w6 ⟨rfl, hT⟩
      have F6 := Lib.hid (F.out.keep hT)
      clear hT
      go_wp2_with fail
      exact HK.out _ _ (H11101000.out _ F6)
    refine AllReady.cons HE.out.o3 (fun K hK => ?_) ?_
    · have HK := Lib.hid hK
      clear hK
      obtain ⟨⟨a0, a1, a2⟩, ⟨a3, a4, a5⟩, a6, a7, a8⟩ := F.out.nine 0 rfl
      obtain ⟨⟨b0, b1, b2⟩, ⟨b3, b4, b5⟩, b6, b7, b8⟩ := F.out.nine 1 rfl
      go_simp
      exact HK.out _ _ (H11011000.out _ F)
    exact AllReady.nil)
  have H11000000 : Hid (∀ W, Hid (Fr w0 W [(g2, .cells #[.int .i64 a.x, .int .i64 a.y, .int .i64 a.z, .int .i64 b.x, .int .i64 b.y, .int .i64 b.z, .int .i64 c.x, .int .i64 c.y, .int .i64 c.z] 33 (0, 0)), (g3, .cells #[.int .i64 p.x, .int .i64 p.y, .int .i64 p.z, .int .i64 q.x, .int .i64 q.y, .int .i64 q.z, .int .i64 r.x, .int .i64 r.y, .int .i64 r.z] 33 (0, 0))]) → wpAny Tryz.prog .any ops Q 6 #[true, true, false, false, false, false, false, false] { tmps := List.toArray ((.agg #[.int .i64 a.x, .int .i64 a.y, .int .i64 a.z, .int .i64 b.x, .int .i64 b.y, .int .i64 b.z, .int .i64 c.x, .int .i64 c.y, .int .i64 c.z]) :: (.agg #[.int .i64 p.x, .int .i64 p.y, .int .i64 p.z, .int .i64 q.x, .int .i64 q.y, .int .i64 q.z, .int .i64 r.x, .int .i64 r.y, .int .i64 r.z]) :: (.pointer (some ⟨g2, 0, none⟩)) :: (.pointer (some ⟨g3, 0, none⟩)) :: (.bool false) :: (.int .i64 n) :: (.agg #[.int .i64 a.x, .int .i64 a.y, .int .i64 a.z, .int .i64 b.x, .int .i64 b.y, .int .i64 b.z, .int .i64 c.x, .int .i64 c.y, .int .i64 c.z]) :: (.agg #[.int .i64 p.x, .int .i64 p.y, .int .i64 p.z, .int .i64 q.x, .int .i64 q.y, .int .i64 q.z, .int .i64 r.x, .int .i64 r.y, .int .i64 r.z]) :: (.int .i64 n) :: (.bool false) :: (.int .i64 n) :: (.bool false) :: undef :: undef :: undef :: (.bool false) :: (.int .i64 n) :: (.bool false) :: (.bool false) :: (.agg #[.int .i64 a.x, .int .i64 a.y, .int .i64 a.z, .int .i64 b.x, .int .i64 b.y, .int .i64 b.z, .int .i64 c.x, .int .i64 c.y, .int .i64 c.z]) :: (.bool false) :: (.bool false) :: (.bool false) :: (.agg #[.int .i64 p.x, .int .i64 p.y, .int .i64 p.z, .int .i64 q.x, .int .i64 q.y, .int .i64 q.z, .int .i64 r.x, .int .i64 r.y, .int .i64 r.z]) :: (.bool false) :: (.bool false) :: (.agg #[.int .i64 a.x, .int .i64 a.y, .int .i64 a.z, .int .i64 b.x, .int .i64 b.y, .int .i64 b.z, .int .i64 c.x, .int .i64 c.y, .int .i64 c.z]) :: (.agg #[.int .i64 p.x, .int .i64 p.y, .int .i64 p.z, .int .i64 q.x, .int .i64 q.y, .int .i64 q.z, .int .i64 r.x, .int .i64 r.y, .int .i64 r.z]) :: undef :: undef :: undef :: undef :: undef :: undef :: undef :: undef :: undef :: undef :: undef :: undef :: undef :: undef :: undef :: undef :: undef :: undef :: undef :: undef :: undef :: undef :: undef :: undef :: undef :: undef :: undef :: undef :: undef :: undef :: undef :: undef :: undef :: undef :: undef :: undef :: undef :: undef :: undef :: undef :: undef :: []), defers := [] } W) := Lib.hid (fun W F => by
    refine wpAny_ready HE.out.r11000000 (by simp) ?_
    refine AllReady.cons HE.out.o2 (fun K hK => ?_) ?_
    · have HK := Lib.hid hK
      clear hK
      go_simp
      refine (HC1.out _).mono ?_
      rintro e w6 ⟨rfl, hT⟩
      have F6 := Lib.hid (F.out.keep hT)
      clear hT
      go_wp2_with fail
      exact HK.out _ _ (H11100000.out _ F6)
    refine AllReady.cons HE.out.o3 (fun K hK => ?_) ?_
    · have HK := Lib.hid hK
      clear hK
      obtain ⟨⟨a0, a1, a2⟩, ⟨a3, a4, a5⟩, a6, a7, a8⟩ := F.out.nine 0 rfl
      obtain ⟨⟨b0, b1, b2⟩, ⟨b3, b4, b5⟩, b6, b7, b8⟩ := F.out.nine 1 rfl
      go_simp
      exact HK.out _ _ (H11010000.out _ F)
    refine AllReady.cons HE.out.o4 (fun K hK => ?_) ?_
    · have HK := Lib.hid hK
      clear hK
      obtain ⟨⟨a0, a1, a2⟩, ⟨a3, a4, a5⟩, a6, a7, a8⟩ := F.out.nine 0 rfl
      obtain ⟨⟨b0, b1, b2⟩, ⟨b3, b4, b5⟩, b6, b7, b8⟩ := F.out.nine 1 rfl
      go_simp
      exact HK.out _ _ (H11001000.out _ F)
    exact AllReady.nil)
  have H10011000 : Hid (∀ W, Hid (Fr w0 W [(g2, .cells #[.int .i64 a.x, .int .i64 a.y, .int .i64 a.z, .int .i64 b.x, .int .i64 b.y, .int .i64 b.z, .int .i64 c.x, .int .i64 c.y, .int .i64 c.z] 33 (0, 0)), (g3, .cells #[.int .i64 p.x, .int .i64 p.y, .int .i64 p.z, .int .i64 q.x, .int .i64 q.y, .int .i64 q.z, .int .i64 r.x, .int .i64 r.y, .int .i64 r.z] 33 (0, 0))]) → wpAny Tryz.prog .any ops Q 5 #[true, false, false, true, true, false, false, false] { tmps := List.toArray ((.agg #[.int .i64 a.x, .int .i64 a.y, .int .i64 a.z, .int .i64 b.x, .int .i64 b.y, .int .i64 b.z, .int .i64 c.x, .int .i64 c.y, .int .i64 c.z]) :: (.agg #[.int .i64 p.x, .int .i64 p.y, .int .i64 p.z, .int .i64 q.x, .int .i64 q.y, .int .i64 q.z, .int .i64 r.x, .int .i64 r.y, .int .i64 r.z]) :: (.pointer (some ⟨g2, 0, none⟩)) :: (.pointer (some ⟨g3, 0, none⟩)) :: (.bool false) :: (.int .i64 n) :: (.agg #[.int .i64 a.x, .int .i64 a.y, .int .i64 a.z, .int .i64 b.x, .int .i64 b.y, .int .i64 b.z, .int .i64 c.x, .int .i64 c.y, .int .i64 c.z]) :: (.agg #[.int .i64 p.x, .int .i64 p.y, .int .i64 p.z, .int .i64 q.x, .int .i64 q.y, .int .i64 q.z, .int .i64 r.x, .int .i64 r.y, .int .i64 r.z]) :: (.int .i64 n) :: (.bool false) :: (.int .i64 n) :: (.bool false) :: undef :: undef :: undef :: (.bool false) :: (.int .i64 n) :: (.bool false) :: (.bool false) :: (.agg #[.int .i64 a.x, .int .i64 a.y, .int .i64 a.z, .int .i64 b.x, .int .i64 b.y, .int .i64 b.z, .int .i64 c.x, .int .i64 c.y, .int .i64 c.z]) :: (.bool false) :: (.bool false) :: (.bool false) :: (.agg #[.int .i64 p.x, .int .i64 p.y, .int .i64 p.z, .int .i64 q.x, .int .i64 q.y, .int .i64 q.z, .int .i64 r.x, .int .i64 r.y, .int .i64 r.z]) :: (.bool false) :: (.bool false) :: (.agg #[.int .i64 a.x, .int .i64 a.y, .int .i64 a.z, .int .i64 b.x, .int .i64 b.y, .int .i64 b.z, .int .i64 c.x, .int .i64 c.y, .int .i64 c.z]) :: undef :: undef :: (.agg #[.int .i64 p.x, .int .i64 p.y, .int .i64 p.z, .int .i64 q.x, .int .i64 q.y, .int .i64 q.z, .int .i64 r.x, .int .i64 r.y, .int .i64 r.z]) :: (.agg #[.int .i64 a.x, .int .i64 a.y, .int .i64 a.z, .int .i64 b.x, .int .i64 b.y, .int .i64 b.z, .int .i64 c.x, .int .i64 c.y, .int .i64 c.z]) :: undef :: undef :: undef :: undef :: undef :: undef :: undef :: undef :: undef :: undef :: undef :: undef :: undef :: undef :: undef :: undef :: undef :: undef :: undef :: undef :: undef :: undef :: undef :: undef :: undef :: undef :: undef :: undef :: undef :: undef :: undef :: undef :: undef :: undef :: undef :: undef :: undef :: undef :: []), defers := [] } W) := Lib.hid (fun W F => by
    refine wpAny_ready HE.out.r10011000 (by simp) ?_
    refine AllReady.cons HE.out.o1 (fun K hK => ?_) ?_
    · have HK := Lib.hid hK
      clear hK
      obtain ⟨⟨a0, a1, a2⟩, ⟨a3, a4, a5⟩, a6, a7, a8⟩ := F.out.nine 0 rfl
      obtain ⟨⟨b0, b1, b2⟩, ⟨b3, b4, b5⟩, b6, b7, b8⟩ := F.out.nine 1 rfl
      go_simp
      exact HK.out _ _ (H11011000.out _ F)
    exact AllReady.nil)
  have H10010000 : Hid (∀ W, Hid (Fr w0 W [(g2, .cells #[.int .i64 a.x, .int .i64 a.y, .int .i64 a.z, .int .i64 b.x, .int .i64 b.y, .int .i64 b.z, .int .i64 c.x, .int .i64 c.y, .int .i64 c.z] 33 (0, 0)), (g3, .cells #[.int .i64 p.x, .int .i64 p.y, .int .i64 p.z, .int .i64 q.x, .int .i64 q.y, .int .i64 q.z, .int .i64 r.x, .int .i64 r.y, .int .i64 r.z] 33 (0, 0))]) → wpAny Tryz.prog .any ops Q 6 #[true, false, false, true, false, false, false, false] { tmps := List.toArray ((.agg #[.int .i64 a.x, .int .i64 a.y, .int .i64 a.z, .int .i64 b.x, .int .i64 b.y, .int .i64 b.z, .int .i64 c.x, .int .i64 c.y, .int .i64 c.z]) :: (.agg #[.int .i64 p.x, .int .i64 p.y, .int .i64 p.z, .int .i64 q.x, .int .i64 q.y, .int .i64 q.z, .int .i64 r.x, .int .i64 r.y, .int .i64 r.z]) :: (.pointer (some ⟨g2, 0, none⟩)) :: (.pointer (some ⟨g3, 0, none⟩)) :: (.bool false) :: (.int .i64 n) :: (.agg #[.int .i64 a.x, .int .i64 a.y, .int .i64 a.z, .int .i64 b.x, .int .i64 b.y, .int .i64 b.z, .int .i64 c.x, .int .i64 c.y, .int .i64 c.z]) :: (.agg #[.int .i64 p.x, .int .i64 p.y, .int .i64 p.z, .int .i64 q.x, .int .i64 q.y, .int .i64 q.z, .int .i64 r.x, .int .i64 r.y, .int .i64 r.z]) :: (.int .i64 n) :: (.bool false) :: (.int .i64 n) :: (.bool false) :: undef :: undef :: undef :: (.bool false) :: (.int .i64 n) :: (.bool false) :: (.bool false) :: (.agg #[.int .i64 a.x, .int .i64 a.y, .int .i64 a.z, .int .i64 b.x, .int .i64 b.y, .int .i64 b.z, .int .i64 c.x, .int .i64 c.y, .int .i64 c.z]) :: (.bool false) :: (.bool false) :: (.bool false) :: (.agg #[.int .i64 p.x, .int .i64 p.y, .int .i64 p.z, .int .i64 q.x, .int .i64 q.y, .int .i64 q.z, .int .i64 r.x, .int .i64 r.y, .int .i64 r.z]) :: (.bool false) :: (.bool false) :: (.agg #[.int .i64 a.x, .int .i64 a.y, .int .i64 a.z, .int .i64 b.x, .int .i64 b.y, .int .i64 b.z, .int .i64 c.x, .int .i64 c.y, .int .i64 c.z]) :: undef :: undef :: (.agg #[.int .i64 p.x, .int .i64 p.y, .int .i64 p.z, .int .i64 q.x, .int .i64 q.y, .int .i64 q.z, .int .i64 r.x, .int .i64 r.y, .int .i64 r.z]) :: undef :: undef :: undef :: undef :: undef :: undef :: undef :: undef :: undef :: undef :: undef :: undef :: undef :: undef :: undef :: undef :: undef :: undef :: undef :: undef :: undef :: undef :: undef :: undef :: undef :: undef :: undef :: undef :: undef :: undef :: undef :: undef :: undef :: undef :: undef :: undef :: undef :: undef :: undef :: []), defers := [] } W) := Lib.hid (fun W F => by
    refine wpAny_ready HE.out.r10010000 (by simp) ?_
    refine AllReady.cons HE.out.o1 (fun K hK => ?_) ?_
    · have HK := Lib.hid hK
      clear hK
      obtain ⟨⟨a0, a1, a2⟩, ⟨a3, a4, a5⟩, a6, a7, a8⟩ := F.out.nine 0 rfl
      obtain ⟨⟨b0, b1, b2⟩, ⟨b3, b4, b5⟩, b6, b7, b8⟩ := F.out.nine 1 rfl
      go_simp
      exact HK.out _ _ (H11010000.out _ F)
    refine AllReady.cons HE.out.o4 (fun K hK => ?_) ?_
    · have HK := Lib.hid hK
      clear hK
      obtain ⟨⟨a0, a1, a2⟩, ⟨a3, a4, a5⟩, a6, a7, a8⟩ := F.out.nine 0 rfl
      obtain ⟨⟨b0, b1, b2⟩, ⟨b3, b4, b5⟩, b6, b7, b8⟩ := F.out.nine 1 rfl
      go_simp
      exact HK.out _ _ (H10011000.out _ F)
    exact AllReady.nil)
  have H10001000 : Hid (∀ W, Hid (Fr w0 W [(g2, .cells #[.int .i64 a.x, .int .i64 a.y, .int .i64 a.z, .int .i64 b.x, .int .i64 b.y, .int .i64 b.z, .int .i64 c.x, .int .i64 c.y, .int .i64 c.z] 33 (0, 0)), (g3, .cells #[.int .i64 p.x, .int .i64 p.y, .int .i64 p.z, .int .i64 q.x, .int .i64 q.y, .int .i64 q.z, .int .i64 r.x, .int .i64 r.y, .int .i64 r.z] 33 (0, 0))]) → wpAny Tryz.prog .any ops Q 6 #[true, false, false, false, true, false, false, false] { tmps := List.toArray ((.agg #[.int .i64 a.x, .int .i64 a.y, .int .i64 a.z, .int .i64 b.x, .int .i64 b.y, .int .i64 b.z, .int .i64 c.x, .int .i64 c.y, .int .i64 c.z]) :: (.agg #[.int .i64 p.x, .int .i64 p.y, .int .i64 p.z, .int .i64 q.x, .int .i64 q.y, .int .i64 q.z, .int .i64 r.x, .int .i64 r.y, .int .i64 r.z]) :: (.pointer (some ⟨g2, 0, none⟩)) :: (.pointer (some ⟨g3, 0, none⟩)) :: (.bool false) :: (.int .i64 n) :: (.agg #[.int .i64 a.x, .int .i64 a.y, .int .i64 a.z, .int .i64 b.x, .int .i64 b.y, .int .i64 b.z, .int .i64 c.x, .int .i64 c.y, .int .i64 c.z]) :: (.agg #[.int .i64 p.x, .int .i64 p.y, .int .i64 p.z, .int .i64 q.x, .int .i64 q.y, .int .i64 q.z, .int .i64 r.x, .int .i64 r.y, .int .i64 r.z]) :: (.int .i64 n) :: (.bool false) :: (.int .i64 n) :: (.bool false) :: undef :: undef :: undef :: (.bool false) :: (.int .i64 n) :: (.bool false) :: (.bool false) :: (.agg #[.int .i64 a.x, .int .i64 a.y, .int .i64 a.z, .int .i64 b.x, .int .i64 b.y, .int .i64 b.z, .int .i64 c.x, .int .i64 c.y, .int .i64 c.z]) :: (.bool false) :: (.bool false) :: (.bool false) :: (.agg #[.int .i64 p.x, .int .i64 p.y, .int .i64 p.z, .int .i64 q.x, .int .i64 q.y, .int .i64 q.z, .int .i64 r.x, .int .i64 r.y, .int .i64 r.z]) :: (.bool false) :: (.bool false) :: (.agg #[.int .i64 a.x, .int .i64 a.y, .int .i64 a.z, .int .i64 b.x, .int .i64 b.y, .int .i64 b.z, .int .i64 c.x, .int .i64 c.y, .int .i64 c.z]) :: undef :: undef :: undef :: (.agg #[.int .i64 a.x, .int .i64 a.y, .int .i64 a.z, .int .i64 b.x, .int .i64 b.y, .int .i64 b.z, .int .i64 c.x, .int .i64 c.y, .int .i64 c.z]) :: undef :: undef :: undef :: undef :: undef :: undef :: undef :: undef :: undef :: undef :: undef :: undef :: undef :: undef :: undef :: undef :: undef :: undef :: undef :: undef :: undef :: undef :: undef :: undef :: undef :: undef :: undef :: undef :: undef :: undef :: undef :: undef :: undef :: undef :: undef :: undef :: undef :: undef :: []), defers := [] } W) := Lib.hid (fun W F => by
    refine wpAny_ready HE.out.r10001000 (by simp) ?_
    refine AllReady.cons HE.out.o1 (fun K hK => ?_) ?_
    · have HK := Lib.hid hK
      clear hK
      obtain ⟨⟨a0, a1, a2⟩, ⟨a3, a4, a5⟩, a6, a7, a8⟩ := F.out.nine 0 rfl
      obtain ⟨⟨b0, b1, b2⟩, ⟨b3, b4, b5⟩, b6, b7, b8⟩ := F.out.nine 1 rfl
      go_simp
      exact HK.out _ _ (H11001000.out _ F)
    refine AllReady.cons HE.out.o3 (fun K hK => ?_) ?_
    · have HK := Lib.hid hK
      clear hK
      obtain ⟨⟨a0, a1, a2⟩, ⟨a3, a4, a5⟩, a6, a7, a8⟩ := F.out.nine 0 rfl
      obtain ⟨⟨b0, b1, b2⟩, ⟨b3, b4, b5⟩, b6, b7, b8⟩ := F.out.nine 1 rfl
      go_simp
      exact HK.out _ _ (H10011000.out _ F)
    exact AllReady.nil)
  have H10000000 : Hid (∀ W, Hid (Fr w0 W [(g2, .cells #[.int .i64 a.x, .int .i64 a.y, .int .i64 a.z, .int .i64 b.x, .int .i64 b.y, .int .i64 b.z, .int .i64 c.x, .int .i64 c.y, .int .i64 c.z] 33 (0, 0)), (g3, .cells #[.int .i64 p.x, .int .i64 p.y, .int .i64 p.z, .int .i64 q.x, .int .i64 q.y, .int .i64 q.z, .int .i64 r.x, .int .i64 r.y, .int .i64 r.z] 33 (0, 0))]) → wpAny Tryz.prog .any ops Q 7 #[true, false, false, false, false, false, false, false] { tmps := List.toArray ((.agg #[.int .i64 a.x, .int .i64 a.y, .int .i64 a.z, .int .i64 b.x, .int .i64 b.y, .int .i64 b.z, .int .i64 c.x, .int .i64 c.y, .int .i64 c.z]) :: (.agg #[.int .i64 p.x, .int .i64 p.y, .int .i64 p.z, .int .i64 q.x, .int .i64 q.y, .int .i64 q.z, .int .i64 r.x, .int .i64 r.y, .int .i64 r.z]) :: (.pointer (some ⟨g2, 0, none⟩)) :: (.pointer (some ⟨g3, 0, none⟩)) :: (.bool false) :: (.int .i64 n) :: (.agg #[.int .i64 a.x, .int .i64 a.y, .int .i64 a.z, .int .i64 b.x, .int .i64 b.y, .int .i64 b.z, .int .i64 c.x, .int .i64 c.y, .int .i64 c.z]) :: (.agg #[.int .i64 p.x, .int .i64 p.y, .int .i64 p.z, .int .i64 q.x, .int .i64 q.y, .int .i64 q.z, .int .i64 r.x, .int .i64 r.y, .int .i64 r.z]) :: (.int .i64 n) :: (.bool false) :: (.int .i64 n) :: (.bool false) :: undef :: undef :: undef :: (.bool false) :: (.int .i64 n) :: (.bool false) :: (.bool false) :: (.agg #[.int .i64 a.x, .int .i64 a.y, .int .i64 a.z, .int .i64 b.x, .int .i64 b.y, .int .i64 b.z, .int .i64 c.x, .int .i64 c.y, .int .i64 c.z]) :: (.bool false) :: (.bool false) :: (.bool false) :: (.agg #[.int .i64 p.x, .int .i64 p.y, .int .i64 p.z, .int .i64 q.x, .int .i64 q.y, .int .i64 q.z, .int .i64 r.x, .int .i64 r.y, .int .i64 r.z]) :: (.bool false) :: (.bool false) :: (.agg #[.int .i64 a.x, .int .i64 a.y, .int .i64 a.z, .int .i64 b.x, .int .i64 b.y, .int .i64 b.z, .int .i64 c.x, .int .i64 c.y, .int .i64 c.z]) :: undef :: undef :: undef :: undef :: undef :: undef :: undef :: undef :: undef :: undef :: undef :: undef :: undef :: undef :: undef :: undef :: undef :: undef :: undef :: undef :: undef :: undef :: undef :: undef :: undef :: undef :: undef :: undef :: undef :: undef :: undef :: undef :: undef :: undef :: undef :: undef :: undef :: undef :: undef :: undef :: undef :: undef :: []), defers := [] } W) := Lib.hid (fun W F => by
    refine wpAny_ready HE.out.r10000000 (by simp) ?_
    refine AllReady.cons HE.out.o1 (fun K hK => ?_) ?_
    · have HK := Lib.hid hK
      clear hK
      obtain ⟨⟨a0, a1, a2⟩, ⟨a3, a4, a5⟩, a6, a7, a8⟩ := F.out.nine 0 rfl
      obtain ⟨⟨b0, b1, b2⟩, ⟨b3, b4, b5⟩, b6, b7, b8⟩ := F.out.nine 1 rfl
      go_simp
      exact HK.out _ _ (H11000000.out _ F)
    refine AllReady.cons HE.out.o3 (fun K hK => ?_) ?_
    · have HK := Lib.hid hK
      clear hK
      obtain ⟨⟨a0, a1, a2⟩, ⟨a3, a4, a5⟩, a6, a7, a8⟩ := F.out.nine 0 rfl
      obtain ⟨⟨b0, b1, b2⟩, ⟨b3, b4, b5⟩, b6, b7, b8⟩ := F.out.nine 1 rfl
      go_simp
      exact HK.out _ _ (H10010000.out _ F)
    refine AllReady.cons HE.out.o4 (fun K hK => ?_) ?_
    · have HK := Lib.hid hK
      clear hK
      obtain ⟨⟨a0, a1, a2⟩, ⟨a3, a4, a5⟩, a6, a7, a8⟩ := F.out.nine 0 rfl
      obtain ⟨⟨b0, b1, b2⟩, ⟨b3, b4, b5⟩, b6, b7, b8⟩ := F.out.nine 1 rfl
      go_simp
      exact HK.out _ _ (H10001000.out _ F)
    exact AllReady.nil)
  have H01011000 : Hid (∀ W, Hid (Fr w0 W [(g2, .cells #[.int .i64 a.x, .int .i64 a.y, .int .i64 a.z, .int .i64 b.x, .int .i64 b.y, .int .i64 b.z, .int .i64 c.x, .int .i64 c.y, .int .i64 c.z] 33 (0, 0)), (g3, .cells #[.int .i64 p.x, .int .i64 p.y, .int .i64 p.z, .int .i64 q.x, .int .i64 q.y, .int .i64 q.z, .int .i64 r.x, .int .i64 r.y, .int .i64 r.z] 33 (0, 0))]) → wpAny Tryz.prog .any ops Q 5 #[false, true, false, true, true, false, false, false] { tmps := List.toArray ((.agg #[.int .i64 a.x, .int .i64 a.y, .int .i64 a.z, .int .i64 b.x, .int .i64 b.y, .int .i64 b.z, .int .i64 c.x, .int .i64 c.y, .int .i64 c.z]) :: (.agg #[.int .i64 p.x, .int .i64 p.y, .int .i64 p.z, .int .i64 q.x, .int .i64 q.y, .int .i64 q.z, .int .i64 r.x, .int .i64 r.y, .int .i64 r.z]) :: (.pointer (some ⟨g2, 0, none⟩)) :: (.pointer (some ⟨g3, 0, none⟩)) :: (.bool false) :: (.int .i64 n) :: (.agg #[.int .i64 a.x, .int .i64 a.y, .int .i64 a.z, .int .i64 b.x, .int .i64 b.y, .int .i64 b.z, .int .i64 c.x, .int .i64 c.y, .int .i64 c.z]) :: (.agg #[.int .i64 p.x, .int .i64 p.y, .int .i64 p.z, .int .i64 q.x, .int .i64 q.y, .int .i64 q.z, .int .i64 r.x, .int .i64 r.y, .int .i64 r.z]) :: (.int .i64 n) :: (.bool false) :: (.int .i64 n) :: (.bool false) :: undef :: undef :: undef :: (.bool false) :: (.int .i64 n) :: (.bool false) :: (.bool false) :: (.agg #[.int .i64 a.x, .int .i64 a.y, .int .i64 a.z, .int .i64 b.x, .int .i64 b.y, .int .i64 b.z, .int .i64 c.x, .int .i64 c.y, .int .i64 c.z]) :: (.bool false) :: (.bool false) :: (.bool false) :: (.agg #[.int .i64 p.x, .int .i64 p.y, .int .i64 p.z, .int .i64 q.x, .int .i64 q.y, .int .i64 q.z, .int .i64 r.x, .int .i64 r.y, .int .i64 r.z]) :: (.bool false) :: (.bool false) :: undef :: (.agg #[.int .i64 p.x, .int .i64 p.y, .int .i64 p.z, .int .i64 q.x, .int .i64 q.y, .int .i64 q.z, .int .i64 r.x, .int .i64 r.y, .int .i64 r.z]) :: undef :: (.agg #[.int .i64 p.x, .int .i64 p.y, .int .i64 p.z, .int .i64 q.x, .int .i64 q.y, .int .i64 q.z, .int .i64 r.x, .int .i64 r.y, .int .i64 r.z]) :: (.agg #[.int .i64 a.x, .int .i64 a.y, .int .i64 a.z, .int .i64 b.x, .int .i64 b.y, .int .i64 b.z, .int .i64 c.x, .int .i64 c.y, .int .i64 c.z]) :: undef :: undef :: undef :: undef :: undef :: undef :: undef :: undef :: undef :: undef :: undef :: undef :: undef :: undef :: undef :: undef :: undef :: undef :: undef :: undef :: undef :: undef :: undef :: undef :: undef :: undef :: undef :: undef :: undef :: undef :: undef :: undef :: undef :: undef :: undef :: undef :: undef :: undef :: []), defers := [] } W) := Lib.hid (fun W F => by
    refine wpAny_ready HE.out.r01011000 (by simp) ?_
    refine AllReady.cons HE.out.o0 (fun K hK => ?_) ?_
    · have HK := Lib.hid hK
      clear hK
      obtain ⟨⟨a0, a1, a2⟩, ⟨a3, a4, a5⟩, a6, a7, a8⟩ := F.out.nine 0 rfl
      obtain ⟨⟨b0, b1, b2⟩, ⟨b3, b4, b5⟩, b6, b7, b8⟩ := F.out.nine 1 rfl
      go_simp
      exact HK.out _ _ (H11011000.out _ F)
    exact AllReady.nil)
  have H01010000 : Hid (∀ W, Hid (Fr w0 W [(g2, .cells #[.int .i64 a.x, .int .i64 a.y, .int .i64 a.z, .int .i64 b.x, .int .i64 b.y, .int .i64 b.z, .int .i64 c.x, .int .i64 c.y, .int .i64 c.z] 33 (0, 0)), (g3, .cells #[.int .i64 p.x, .int .i64 p.y, .int .i64 p.z, .int .i64 q.x, .int .i64 q.y, .int .i64 q.z, .int .i64 r.x, .int .i64 r.y, .int .i64 r.z] 33 (0, 0))]) → wpAny Tryz.prog .any ops Q 6 #[false, true, false, true, false, false, false, false] { tmps := List.toArray ((.agg #[.int .i64 a.x, .int .i64 a.y, .int .i64 a.z, .int .i64 b.x, .int .i64 b.y, .int .i64 b.z, .int .i64 c.x, .int .i64 c.y, .int .i64 c.z]) :: (.agg #[.int .i64 p.x, .int .i64 p.y, .int .i64 p.z, .int .i64 q.x, .int .i64 q.y, .int .i64 q.z, .int .i64 r.x, .int .i64 r.y, .int .i64 r.z]) :: (.pointer (some ⟨g2, 0, none⟩)) :: (.pointer (some ⟨g3, 0, none⟩)) :: (.bool false) :: (.int .i64 n) :: (.agg #[.int .i64 a.x, .int .i64 a.y, .int .i64 a.z, .int .i64 b.x, .int .i64 b.y, .int .i64 b.z, .int .i64 c.x, .int .i64 c.y, .int .i64 c.z]) :: (.agg #[.int .i64 p.x, .int .i64 p.y, .int .i64 p.z, .int .i64 q.x, .int .i64 q.y, .int .i64 q.z, .int .i64 r.x, .int .i64 r.y, .int .i64 r.z]) :: (.int .i64 n) :: (.bool false) :: (.int .i64 n) :: (.bool false) :: undef :: undef :: undef :: (.bool false) :: (.int .i64 n) :: (.bool false) :: (.bool false) :: (.agg #[.int .i64 a.x, .int .i64 a.y, .int .i64 a.z, .int .i64 b.x, .int .i64 b.y, .int .i64 b.z, .int .i64 c.x, .int .i64 c.y, .int .i64 c.z]) :: (.bool false) :: (.bool false) :: (.bool false) :: (.agg #[.int .i64 p.x, .int .i64 p.y, .int .i64 p.z, .int .i64 q.x, .int .i64 q.y, .int .i64 q.z, .int .i64 r.x, .int .i64 r.y, .int .i64 r.z]) :: (.bool false) :: (.bool false) :: undef :: (.agg #[.int .i64 p.x, .int .i64 p.y, .int .i64 p.z, .int .i64 q.x, .int .i64 q.y, .int .i64 q.z, .int .i64 r.x, .int .i64 r.y, .int .i64 r.z]) :: undef :: (.agg #[.int .i64 p.x, .int .i64 p.y, .int .i64 p.z, .int .i64 q.x, .int .i64 q.y, .int .i64 q.z, .int .i64 r.x, .int .i64 r.y, .int .i64 r.z]) :: undef :: undef :: undef :: undef :: undef :: undef :: undef :: undef :: undef :: undef :: undef :: undef :: undef :: undef :: undef :: undef :: undef :: undef :: undef :: undef :: undef :: undef :: undef :: undef :: undef :: undef :: undef :: undef :: undef :: undef :: undef :: undef :: undef :: undef :: undef :: undef :: undef :: undef :: undef :: []), defers := [] } W) := Lib.hid (fun W F => by
    refine wpAny_ready HE.out.r01010000 (by simp) ?_
    refine AllReady.cons HE.out.o0 (fun K hK => ?_) ?_
    · have HK := Lib.hid hK
      clear hK
      obtain ⟨⟨a0, a1, a2⟩, ⟨a3, a4, a5⟩, a6, a7, a8⟩ := F.out.nine 0 rfl
      obtain ⟨⟨b0, b1, b2⟩, ⟨b3, b4, b5⟩, b6, b7, b8⟩ := F.out.nine 1 rfl
      go_simp
      exact HK.out _ _ (H11010000.out _ F)
    refine AllReady.cons HE.out.o4 (fun K hK => ?_) ?_
    · have HK := Lib.hid hK
      clear hK
      obtain ⟨⟨a0, a1, a2⟩, ⟨a3, a4, a5⟩, a6, a7, a8⟩ := F.out.nine 0 rfl
      obtain ⟨⟨b0, b1, b2⟩, ⟨b3, b4, b5⟩, b6, b7, b8⟩ := F.out.nine 1 rfl
      go_simp
      exact HK.out _ _ (H01011000.out _ F)
    exact AllReady.nil)
  have H01001000 : Hid (∀ W, Hid (Fr w0 W [(g2, .cells #[.int .i64 a.x, .int .i64 a.y, .int .i64 a.z, .int .i64 b.x, .int .i64 b.y, .int .i64 b.z, .int .i64 c.x, .int .i64 c.y, .int .i64 c.z] 33 (0, 0)), (g3, .cells #[.int .i64 p.x, .int .i64 p.y, .int .i64 p.z, .int .i64 q.x, .int .i64 q.y, .int .i64 q.z, .int .i64 r.x, .int .i64 r.y, .int .i64 r.z] 33 (0, 0))]) → wpAny Tryz.prog .any ops Q 6 #[false, true, false, false, true, false, false, false] { tmps := List.toArray ((.agg #[.int .i64 a.x, .int .i64 a.y, .int .i64 a.z, .int .i64 b.x, .int .i64 b.y, .int .i64 b.z, .int .i64 c.x, .int .i64 c.y, .int .i64 c.z]) :: (.agg #[.int .i64 p.x, .int .i64 p.y, .int .i64 p.z, .int .i64 q.x, .int .i64 q.y, .int .i64 q.z, .int .i64 r.x, .int .i64 r.y, .int .i64 r.z]) :: (.pointer (some ⟨g2, 0, none⟩)) :: (.pointer (some ⟨g3, 0, none⟩)) :: (.bool false) :: (.int .i64 n) :: (.agg #[.int .i64 a.x, .int .i64 a.y, .int .i64 a.z, .int .i64 b.x, .int .i64 b.y, .int .i64 b.z, .int .i64 c.x, .int .i64 c.y, .int .i64 c.z]) :: (.agg #[.int .i64 p.x, .int .i64 p.y, .int .i64 p.z, .int .i64 q.x, .int .i64 q.y, .int .i64 q.z, .int .i64 r.x, .int .i64 r.y, .int .i64 r.z]) :: (.int .i64 n) :: (.bool false) :: (.int .i64 n) :: (.bool false) :: undef :: undef :: undef :: (.bool false) :: (.int .i64 n) :: (.bool false) :: (.bool false) :: (.agg #[.int .i64 a.x, .int .i64 a.y, .int .i64 a.z, .int .i64 b.x, .int .i64 b.y, .int .i64 b.z, .int .i64 c.x, .int .i64 c.y, .int .i64 c.z]) :: (.bool false) :: (.bool false) :: (.bool false) :: (.agg #[.int .i64 p.x, .int .i64 p.y, .int .i64 p.z, .int .i64 q.x, .int .i64 q.y, .int .i64 q.z, .int .i64 r.x, .int .i64 r.y, .int .i64 r.z]) :: (.bool false) :: (.bool false) :: undef :: (.agg #[.int .i64 p.x, .int .i64 p.y, .int .i64 p.z, .int .i64 q.x, .int .i64 q.y, .int .i64 q.z, .int .i64 r.x, .int .i64 r.y, .int .i64 r.z]) :: undef :: undef :: (.agg #[.int .i64 a.x, .int .i64 a.y, .int .i64 a.z, .int .i64 b.x, .int .i64 b.y, .int .i64 b.z, .int .i64 c.x, .int .i64 c.y, .int .i64 c.z]) :: undef :: undef :: undef :: undef :: undef :: undef :: undef :: undef :: undef :: undef :: undef :: undef :: undef :: undef :: undef :: undef :: undef :: undef :: undef :: undef :: undef :: undef :: undef :: undef :: undef :: undef :: undef :: undef :: undef :: undef :: undef :: undef :: undef :: undef :: undef :: undef :: undef :: undef :: []), defers := [] } W) := Lib.hid (fun W F => by
    refine wpAny_ready HE.out.r01001000 (by simp) ?_
    refine AllReady.cons HE.out.o0 (fun K hK => ?_) ?_
    · have HK := Lib.hid hK
      clear hK
      obtain ⟨⟨a0, a1, a2⟩, ⟨a3, a4, a5⟩, a6, a7, a8⟩ := F.out.nine 0 rfl
      obtain ⟨⟨b0, b1, b2⟩, ⟨b3, b4, b5⟩, b6, b7, b8⟩ := F.out.nine 1 rfl
      go_simp
      exact HK.out _ _ (H11001000.out _ F)
    refine AllReady.cons HE.out.o3 (fun K hK => ?_) ?_
    · have HK := Lib.hid hK
      clear hK
      obtain ⟨⟨a0, a1, a2⟩, ⟨a3, a4, a5⟩, a6, a7, a8⟩ := F.out.nine 0 rfl
      obtain ⟨⟨b0, b1, b2⟩, ⟨b3, b4, b5⟩, b6, b7, b8⟩ := F.out.nine 1 rfl
      go_simp
      exact HK.out _ _ (H01011000.out _ F)
    exact AllReady.nil)
  have H01000000 : Hid (∀ W, Hid (Fr w0 W [(g2, .cells #[.int .i64 a.x, .int .i64 a.y, .int .i64 a.z, .int .i64 b.x, .int .i64 b.y, .int .i64 b.z, .int .i64 c.x, .int .i64 c.y, .int .i64 c.z] 33 (0, 0)), (g3, .cells #[.int .i64 p.x, .int .i64 p.y, .int .i64 p.z, .int .i64 q.x, .int .i64 q.y, .int .i64 q.z, .int .i64 r.x, .int .i64 r.y, .int .i64 r.z] 33 (0, 0))]) → wpAny Tryz.prog .any ops Q 7 #[false, true, false, false, false, false, false, false] { tmps := List.toArray ((.agg #[.int .i64 a.x, .int .i64 a.y, .int .i64 a.z, .int .i64 b.x, .int .i64 b.y, .int .i64 b.z, .int .i64 c.x, .int .i64 c.y, .int .i64 c.z]) :: (.agg #[.int .i64 p.x, .int .i64 p.y, .int .i64 p.z, .int .i64 q.x, .int .i64 q.y, .int .i64 q.z, .int .i64 r.x, .int .i64 r.y, .int .i64 r.z]) :: (.pointer (some ⟨g2, 0, none⟩)) :: (.pointer (some ⟨g3, 0, none⟩)) :: (.bool false) :: (.int .i64 n) :: (.agg #[.int .i64 a.x, .int .i64 a.y, .int .i64 a.z, .int .i64 b.x, .int .i64 b.y, .int .i64 b.z, .int .i64 c.x, .int .i64 c.y, .int .i64 c.z]) :: (.agg #[.int .i64 p.x, .int .i64 p.y, .int .i64 p.z, .int .i64 q.x, .int .i64 q.y, .int .i64 q.z, .int .i64 r.x, .int .i64 r.y, .int .i64 r.z]) :: (.int .i64 n) :: (.bool false) :: (.int .i64 n) :: (.bool false) :: undef :: undef :: undef :: (.bool false) :: (.int .i64 n) :: (.bool false) :: (.bool false) :: (.agg #[.int .i64 a.x, .int .i64 a.y, .int .i64 a.z, .int .i64 b.x, .int .i64 b.y, .int .i64 b.z, .int .i64 c.x, .int .i64 c.y, .int .i64 c.z]) :: (.bool false) :: (.bool false) :: (.bool false) :: (.agg #[.int .i64 p.x, .int .i64 p.y, .int .i64 p.z, .int .i64 q.x, .int .i64 q.y, .int .i64 q.z, .int .i64 r.x, .int .i64 r.y, .int .i64 r.z]) :: (.bool false) :: (.bool false) :: undef :: (.agg #[.int .i64 p.x, .int .i64 p.y, .int .i64 p.z, .int .i64 q.x, .int .i64 q.y, .int .i64 q.z, .int .i64 r.x, .int .i64 r.y, .int .i64 r.z]) :: undef :: undef :: undef :: undef :: undef :: undef :: undef :: undef :: undef :: undef :: undef :: undef :: undef :: undef :: undef :: undef :: undef :: undef :: undef :: undef :: undef :: undef :: undef :: undef :: undef :: undef :: undef :: undef :: undef :: undef :: undef :: undef :: undef :: undef :: undef :: undef :: undef :: undef :: undef :: undef :: undef :: []), defers := [] } W) := Lib.hid (fun W F => by
    refine wpAny_ready HE.out.r01000000 (by simp) ?_
    refine AllReady.cons HE.out.o0 (fun K hK => ?_) ?_
    · have HK := Lib.hid hK
      clear hK
      obtain ⟨⟨a0, a1, a2⟩, ⟨a3, a4, a5⟩, a6, a7, a8⟩ := F.out.nine 0 rfl
      obtain ⟨⟨b0, b1, b2⟩, ⟨b3, b4, b5⟩, b6, b7, b8⟩ := F.out.nine 1 rfl
      go_simp
      exact HK.out _ _ (H11000000.out _ F)
    refine AllReady.cons HE.out.o3 (fun K hK => ?_) ?_
    · have HK := Lib.hid hK
      clear hK
      obtain ⟨⟨a0, a1, a2⟩, ⟨a3, a4, a5⟩, a6, a7, a8⟩ := F.out.nine 0 rfl
      obtain ⟨⟨b0, b1, b2⟩, ⟨b3, b4, b5⟩, b6, b7, b8⟩ := F.out.nine 1 rfl
      go_simp
      exact HK.out _ _ (H01010000.out _ F)
    refine AllReady.cons HE.out.o4 (fun K hK => ?_) ?_
    · have HK := Lib.hid hK
      clear hK
      obtain ⟨⟨a0, a1, a2⟩, ⟨a3, a4, a5⟩, a6, a7, a8⟩ := F.out.nine 0 rfl
      obtain ⟨⟨b0, b1, b2⟩, ⟨b3, b4, b5⟩, b6, b7, b8⟩ := F.out.nine 1 rfl
      go_simp
      exact HK.out _ _ (H01001000.out _ F)
    exact AllReady.nil)
  have H00011000 : Hid (∀ W, Hid (Fr w0 W [(g2, .cells #[.int .i64 a.x, .int .i64 a.y, .int .i64 a.z, .int .i64 b.x, .int .i64 b.y, .int .i64 b.z, .int .i64 c.x, .int .i64 c.y, .int .i64 c.z] 33 (0, 0)), (g3, .cells #[.int .i64 p.x, .int .i64 p.y, .int .i64 p.z, .int .i64 q.x, .int .i64 q.y, .int .i64 q.z, .int .i64 r.x, .int .i64 r.y, .int .i64 r.z] 33 (0, 0))]) → wpAny Tryz.prog .any ops Q 6 #[false, false, false, true, true, false, false, false] { tmps := List.toArray ((.agg #[.int .i64 a.x, .int .i64 a.y, .int .i64 a.z, .int .i64 b.x, .int .i64 b.y, .int .i64 b.z, .int .i64 c.x, .int .i64 c.y, .int .i64 c.z]) :: (.agg #[.int .i64 p.x, .int .i64 p.y, .int .i64 p.z, .int .i64 q.x, .int .i64 q.y, .int .i64 q.z, .int .i64 r.x, .int .i64 r.y, .int .i64 r.z]) :: (.pointer (some ⟨g2, 0, none⟩)) :: (.pointer (some ⟨g3, 0, none⟩)) :: (.bool false) :: (.int .i64 n) :: (.agg #[.int .i64 a.x, .int .i64 a.y, .int .i64 a.z, .int .i64 b.x, .int .i64 b.y, .int .i64 b.z, .int .i64 c.x, .int .i64 c.y, .int .i64 c.z]) :: (.agg #[.int .i64 p.x, .int .i64 p.y, .int .i64 p.z, .int .i64 q.x, .int .i64 q.y, .int .i64 q.z, .int .i64 r.x, .int .i64 r.y, .int .i64 r.z]) :: (.int .i64 n) :: (.bool false) :: (.int .i64 n) :: (.bool false) :: undef :: undef :: undef :: (.bool false) :: (.int .i64 n) :: (.bool false) :: (.bool false) :: (.agg #[.int .i64 a.x, .int .i64 a.y, .int .i64 a.z, .int .i64 b.x, .int .i64 b.y, .int .i64 b.z, .int .i64 c.x, .int .i64 c.y, .int .i64 c.z]) :: (.bool false) :: (.bool false) :: (.bool false) :: (.agg #[.int .i64 p.x, .int .i64 p.y, .int .i64 p.z, .int .i64 q.x, .int .i64 q.y, .int .i64 q.z, .int .i64 r.x, .int .i64 r.y, .int .i64 r.z]) :: (.bool false) :: (.bool false) :: undef :: undef :: undef :: (.agg #[.int .i64 p.x, .int .i64 p.y, .int .i64 p.z, .int .i64 q.x, .int .i64 q.y, .int .i64 q.z, .int .i64 r.x, .int .i64 r.y, .int .i64 r.z]) :: (.agg #[.int .i64 a.x, .int .i64 a.y, .int .i64 a.z, .int .i64 b.x, .int .i64 b.y, .int .i64 b.z, .int .i64 c.x, .int .i64 c.y, .int .i64 c.z]) :: undef :: undef :: undef :: undef :: undef :: undef :: undef :: undef :: undef :: undef :: undef :: undef :: undef :: undef :: undef :: undef :: undef :: undef :: undef :: undef :: undef :: undef :: undef :: undef :: undef :: undef :: undef :: undef :: undef :: undef :: undef :: undef :: undef :: undef :: undef :: undef :: undef :: undef :: []), defers := [] } W) := Lib.hid (fun W F => by
    refine wpAny_ready HE.out.r00011000 (by simp) ?_
    refine AllReady.cons HE.out.o0 (fun K hK => ?_) ?_
    · have HK := Lib.hid hK
      clear hK
      obtain ⟨⟨a0, a1, a2⟩, ⟨a3, a4, a5⟩, a6, a7, a8⟩ := F.out.nine 0 rfl
      obtain ⟨⟨b0, b1, b2⟩, ⟨b3, b4, b5⟩, b6, b7, b8⟩ := F.out.nine 1 rfl
      go_simp
      exact HK.out _ _ (H10011000.out _ F)
    refine AllReady.cons HE.out.o1 (fun K hK => ?_) ?_
    · have HK := Lib.hid hK
      clear hK
      obtain ⟨⟨a0, a1, a2⟩, ⟨a3, a4, a5⟩, a6, a7, a8⟩ := F.out.nine 0 rfl
      obtain ⟨⟨b0, b1, b2⟩, ⟨b3, b4, b5⟩, b6, b7, b8⟩ := F.out.nine 1 rfl
      go_simp
      exact HK.out _ _ (H01011000.out _ F)
    exact AllReady.nil)
  have H00010000 : Hid (∀ W, Hid (Fr w0 W [(g2, .cells #[.int .i64 a.x, .int .i64 a.y, .int .i64 a.z, .int .i64 b.x, .int .i64 b.y, .int .i64 b.z, .int .i64 c.x, .int .i64 c.y, .int .i64 c.z] 33 (0, 0)), (g3, .cells #[.int .i64 p.x, .int .i64 p.y, .int .i64 p.z, .int .i64 q.x, .int .i64 q.y, .int .i64 q.z, .int .i64 r.x, .int .i64 r.y, .int .i64 r.z] 33 (0, 0))]) → wpAny Tryz.prog .any ops Q 7 #[false, false, false, true, false, false, false, false] { tmps := List.toArray ((.agg #[.int .i64 a.x, .int .i64 a.y, .int .i64 a.z, .int .i64 b.x, .int .i64 b.y, .int .i64 b.z, .int .i64 c.x, .int .i64 c.y, .int .i64 c.z]) :: (.agg #[.int .i64 p.x, .int .i64 p.y, .int .i64 p.z, .int .i64 q.x, .int .i64 q.y, .int .i64 q.z, .int .i64 r.x, .int .i64 r.y, .int .i64 r.z]) :: (.pointer (some ⟨g2, 0, none⟩)) :: (.pointer (some ⟨g3, 0, none⟩)) :: (.bool false) :: (.int .i64 n) :: (.agg #[.int .i64 a.x, .int .i64 a.y, .int .i64 a.z, .int .i64 b.x, .int .i64 b.y, .int .i64 b.z, .int .i64 c.x, .int .i64 c.y, .int .i64 c.z]) :: (.agg #[.int .i64 p.x, .int .i64 p.y, .int .i64 p.z, .int .i64 q.x, .int .i64 q.y, .int .i64 q.z, .int .i64 r.x, .int .i64 r.y, .int .i64 r.z]) :: (.int .i64 n) :: (.bool false) :: (.int .i64 n) :: (.bool false) :: undef :: undef :: undef :: (.bool false) :: (.int .i64 n) :: (.bool false) :: (.bool false) :: (.agg #[.int .i64 a.x, .int .i64 a.y, .int .i64 a.z, .int .i64 b.x, .int .i64 b.y, .int .i64 b.z, .int .i64 c.x, .int .i64 c.y, .int .i64 c.z]) :: (.bool false) :: (.bool false) :: (.bool false) :: (.agg #[.int .i64 p.x, .int .i64 p.y, .int .i64 p.z, .int .i64 q.x, .int .i64 q.y, .int .i64 q.z, .int .i64 r.x, .int .i64 r.y, .int .i64 r.z]) :: (.bool false) :: (.bool false) :: undef :: undef :: undef :: (.agg #[.int .i64 p.x, .int .i64 p.y, .int .i64 p.z, .int .i64 q.x, .int .i64 q.y, .int .i64 q.z, .int .i64 r.x, .int .i64 r.y, .int .i64 r.z]) :: undef :: undef :: undef :: undef :: undef :: undef :: undef :: undef :: undef :: undef :: undef :: undef :: undef :: undef :: undef :: undef :: undef :: undef :: undef :: undef :: undef :: undef :: undef :: undef :: undef :: undef :: undef :: undef :: undef :: undef :: undef :: undef :: undef :: undef :: undef :: undef :: undef :: undef :: undef :: []), defers := [] } W) := Lib.hid (fun W F => by
    refine wpAny_ready HE.out.r00010000 (by simp) ?_
    refine AllReady.cons HE.out.o0 (fun K hK => ?_) ?_
    · have HK := Lib.hid hK
      clear hK
      obtain ⟨⟨a0, a1, a2⟩, ⟨a3, a4, a5⟩, a6, a7, a8⟩ := F.out.nine 0 rfl
      obtain ⟨⟨b0, b1, b2⟩, ⟨b3, b4, b5⟩, b6, b7, b8⟩ := F.out.nine 1 rfl
      go_simp
      exact HK.out _ _ (H10010000.out _ F)
    refine AllReady.cons HE.out.o1 (fun K hK => ?_) ?_
    · have HK := Lib.hid hK
      clear hK
      obtain ⟨⟨a0, a1, a2⟩, ⟨a3, a4, a5⟩, a6, a7, a8⟩ := F.out.nine 0 rfl
      obtain ⟨⟨b0, b1, b2⟩, ⟨b3, b4, b5⟩, b6, b7, b8⟩ := F.out.nine 1 rfl
      go_simp
      exact HK.out _ _ (H01010000.out _ F)
    refine AllReady.cons HE.out.o4 (fun K hK => ?_) ?_
    · have HK := Lib.hid hK
      clear hK
      obtain ⟨⟨a0, a1, a2⟩, ⟨a3, a4, a5⟩, a6, a7, a8⟩ := F.out.nine 0 rfl
      obtain ⟨⟨b0, b1, b2⟩, ⟨b3, b4, b5⟩, b6, b7, b8⟩ := F.out.nine 1 rfl
      go_simp
      exact HK.out _ _ (H00011000.out _ F)
    exact AllReady.nil)
  have H00001000 : Hid (∀ W, Hid (Fr w0 W [(g2, .cells #[.int .i64 a.x, .int .i64 a.y, .int .i64 a.z, .int .i64 b.x, .int .i64 b.y, .int .i64 b.z, .int .i64 c.x, .int .i64 c.y, .int .i64 c.z] 33 (0, 0)), (g3, .cells #[.int .i64 p.x, .int .i64 p.y, .int .i64 p.z, .int .i64 q.x, .int .i64 q.y, .int .i64 q.z, .int .i64 r.x, .int .i64 r.y, .int .i64 r.z] 33 (0, 0))]) → wpAny Tryz.prog .any ops Q 7 #[false, false, false, false, true, false, false, false] { tmps := List.toArray ((.agg #[.int .i64 a.x, .int .i64 a.y, .int .i64 a.z, .int .i64 b.x, .int .i64 b.y, .int .i64 b.z, .int .i64 c.x, .int .i64 c.y, .int .i64 c.z]) :: (.agg #[.int .i64 p.x, .int .i64 p.y, .int .i64 p.z, .int .i64 q.x, .int .i64 q.y, .int .i64 q.z, .int .i64 r.x, .int .i64 r.y, .int .i64 r.z]) :: (.pointer (some ⟨g2, 0, none⟩)) :: (.pointer (some ⟨g3, 0, none⟩)) :: (.bool false) :: (.int .i64 n) :: (.agg #[.int .i64 a.x, .int .i64 a.y, .int .i64 a.z, .int .i64 b.x, .int .i64 b.y, .int .i64 b.z, .int .i64 c.x, .int .i64 c.y, .int .i64 c.z]) :: (.agg #[.int .i64 p.x, .int .i64 p.y, .int .i64 p.z, .int .i64 q.x, .int .i64 q.y, .int .i64 q.z, .int .i64 r.x, .int .i64 r.y, .int .i64 r.z]) :: (.int .i64 n) :: (.bool false) :: (.int .i64 n) :: (.bool false) :: undef :: undef :: undef :: (.bool false) :: (.int .i64 n) :: (.bool false) :: (.bool false) :: (.agg #[.int .i64 a.x, .int .i64 a.y, .int .i64 a.z, .int .i64 b.x, .int .i64 b.y, .int .i64 b.z, .int .i64 c.x, .int .i64 c.y, .int .i64 c.z]) :: (.bool false) :: (.bool false) :: (.bool false) :: (.agg #[.int .i64 p.x, .int .i64 p.y, .int .i64 p.z, .int .i64 q.x, .int .i64 q.y, .int .i64 q.z, .int .i64 r.x, .int .i64 r.y, .int .i64 r.z]) :: (.bool false) :: (.bool false) :: undef :: undef :: undef :: undef :: (.agg #[.int .i64 a.x, .int .i64 a.y, .int .i64 a.z, .int .i64 b.x, .int .i64 b.y, .int .i64 b.z, .int .i64 c.x, .int .i64 c.y, .int .i64 c.z]) :: undef :: undef :: undef :: undef :: undef :: undef :: undef :: undef :: undef :: undef :: undef :: undef :: undef :: undef :: undef :: undef :: undef :: undef :: undef :: undef :: undef :: undef :: undef :: undef :: undef :: undef :: undef :: undef :: undef :: undef :: undef :: undef :: undef :: undef :: undef :: undef :: undef :: undef :: []), defers := [] } W) := Lib.hid (fun W F => by
    refine wpAny_ready HE.out.r00001000 (by simp) ?_
    refine AllReady.cons HE.out.o0 (fun K hK => ?_) ?_
    · have HK := Lib.hid hK
      clear hK
      obtain ⟨⟨a0, a1, a2⟩, ⟨a3, a4, a5⟩, a6, a7, a8⟩ := F.out.nine 0 rfl
      obtain ⟨⟨b0, b1, b2⟩, ⟨b3, b4, b5⟩, b6, b7, b8⟩ := F.out.nine 1 rfl
      go_simp
      exact HK.out _ _ (H10001000.out _ F)
    refine AllReady.cons HE.out.o1 (fun K hK => ?_) ?_
    · have HK := Lib.hid hK
      clear hK
      obtain ⟨⟨a0, a1, a2⟩, ⟨a3, a4, a5⟩, a6, a7, a8⟩ := F.out.nine 0 rfl
      obtain ⟨⟨b0, b1, b2⟩, ⟨b3, b4, b5⟩, b6, b7, b8⟩ := F.out.nine 1 rfl
      go_simp
      exact HK.out _ _ (H01001000.out _ F)
    refine AllReady.cons HE.out.o3 (fun K hK => ?_) ?_
    · have HK := Lib.hid hK
      clear hK
      obtain ⟨⟨a0, a1, a2⟩, ⟨a3, a4, a5⟩, a6, a7, a8⟩ := F.out.nine 0 rfl
      obtain ⟨⟨b0, b1, b2⟩, ⟨b3, b4, b5⟩, b6, b7, b8⟩ := F.out.nine 1 rfl
      go_simp
      exact HK.out _ _ (H00011000.out _ F)
    exact AllReady.nil)
  have H00000000 : Hid (∀ W, Hid (Fr w0 W [(g2, .cells #[.int .i64 a.x, .int .i64 a.y, .int .i64 a.z, .int .i64 b.x, .int .i64 b.y, .int .i64 b.z, .int .i64 c.x, .int .i64 c.y, .int .i64 c.z] 33 (0, 0)), (g3, .cells #[.int .i64 p.x, .int .i64 p.y, .int .i64 p.z, .int .i64 q.x, .int .i64 q.y, .int .i64 q.z, .int .i64 r.x, .int .i64 r.y, .int .i64 r.z] 33 (0, 0))]) → wpAny Tryz.prog .any ops Q 8 #[false, false, false, false, false, false, false, false] { tmps := List.toArray ((.agg #[.int .i64 a.x, .int .i64 a.y, .int .i64 a.z, .int .i64 b.x, .int .i64 b.y, .int .i64 b.z, .int .i64 c.x, .int .i64 c.y, .int .i64 c.z]) :: (.agg #[.int .i64 p.x, .int .i64 p.y, .int .i64 p.z, .int .i64 q.x, .int .i64 q.y, .int .i64 q.z, .int .i64 r.x, .int .i64 r.y, .int .i64 r.z]) :: (.pointer (some ⟨g2, 0, none⟩)) :: (.pointer (some ⟨g3, 0, none⟩)) :: (.bool false) :: (.int .i64 n) :: (.agg #[.int .i64 a.x, .int .i64 a.y, .int .i64 a.z, .int .i64 b.x, .int .i64 b.y, .int .i64 b.z, .int .i64 c.x, .int .i64 c.y, .int .i64 c.z]) :: (.agg #[.int .i64 p.x, .int .i64 p.y, .int .i64 p.z, .int .i64 q.x, .int .i64 q.y, .int .i64 q.z, .int .i64 r.x, .int .i64 r.y, .int .i64 r.z]) :: (.int .i64 n) :: (.bool false) :: (.int .i64 n) :: (.bool false) :: undef :: undef :: undef :: (.bool false) :: (.int .i64 n) :: (.bool false) :: (.bool false) :: (.agg #[.int .i64 a.x, .int .i64 a.y, .int .i64 a.z, .int .i64 b.x, .int .i64 b.y, .int .i64 b.z, .int .i64 c.x, .int .i64 c.y, .int .i64 c.z]) :: (.bool false) :: (.bool false) :: (.bool false) :: (.agg #[.int .i64 p.x, .int .i64 p.y, .int .i64 p.z, .int .i64 q.x, .int .i64 q.y, .int .i64 q.z, .int .i64 r.x, .int .i64 r.y, .int .i64 r.z]) :: (.bool false) :: (.bool false) :: undef :: undef :: undef :: undef :: undef :: undef :: undef :: undef :: undef :: undef :: undef :: undef :: undef :: undef :: undef :: undef :: undef :: undef :: undef :: undef :: undef :: undef :: undef :: undef :: undef :: undef :: undef :: undef :: undef :: undef :: undef :: undef :: undef :: undef :: undef :: undef :: undef :: undef :: undef :: undef :: undef :: undef :: undef :: []), defers := [] } W) := Lib.hid (fun W F => by
    refine wpAny_ready HE.out.r00000000 (by simp) ?_
    refine AllReady.cons HE.out.o0 (fun K hK => ?_) ?_
    · have HK := Lib.hid hK
      clear hK
      obtain ⟨⟨a0, a1, a2⟩, ⟨a3, a4, a5⟩, a6, a7, a8⟩ := F.out.nine 0 rfl
      obtain ⟨⟨b0, b1, b2⟩, ⟨b3, b4, b5⟩, b6, b7, b8⟩ := F.out.nine 1 rfl
      go_simp
      exact HK.out _ _ (H10000000.out _ F)
    refine AllReady.cons HE.out.o1 (fun K hK => ?_) ?_
    · have HK := Lib.hid hK
      clear hK
      obtain ⟨⟨a0, a1, a2⟩, ⟨a3, a4, a5⟩, a6, a7, a8⟩ := F.out.nine 0 rfl
      obtain ⟨⟨b0, b1, b2⟩, ⟨b3, b4, b5⟩, b6, b7, b8⟩ := F.out.nine 1 rfl
      go_simp
      exact HK.out _ _ (H01000000.out _ F)
    refine AllReady.cons HE.out.o3 (fun K hK => ?_) ?_
    · have HK := Lib.hid hK
      clear hK
      obtain ⟨⟨a0, a1, a2⟩, ⟨a3, a4, a5⟩, a6, a7, a8⟩ := F.out.nine 0 rfl
      obtain ⟨⟨b0, b1, b2⟩, ⟨b3, b4, b5⟩, b6, b7, b8⟩ := F.out.nine 1 rfl
      go_simp
      exact HK.out _ _ (H00010000.out _ F)
    refine AllReady.cons HE.out.o4 (fun K hK => ?_) ?_
    · have HK := Lib.hid hK
      clear hK
      obtain ⟨⟨a0, a1, a2⟩, ⟨a3, a4, a5⟩, a6, a7, a8⟩ := F.out.nine 0 rfl
      obtain ⟨⟨b0, b1, b2⟩, ⟨b3, b4, b5⟩, b6, b7, b8⟩ := F.out.nine 1 rfl
      go_simp
      exact HK.out _ _ (H00001000.out _ F)
    exact AllReady.nil)
  exact H00000000.out _ (Lib.hid HF.out.drew)

set_option maxHeartbeats 16000000 in
set_option maxRecDepth 100000 in
theorem Meet (a b c p q r : P3) (ha : a.Ok) (hb : b.Ok) (hc : c.Ok) (hp : p.Ok) (hq : q.Ok) (hr : r.Ok) (w : World) :
    Calls Tryz.prog 16 #[.agg #[.int .i64 a.x, .int .i64 a.y, .int .i64 a.z, .int .i64 b.x, .int .i64 b.y, .int .i64 b.z, .int .i64 c.x, .int .i64 c.y, .int .i64 c.z], .agg #[.int .i64 p.x, .int .i64 p.y, .int .i64 p.z, .int .i64 q.x, .int .i64 q.y, .int .i64 q.z, .int .i64 r.x, .int .i64 r.y, .int .i64 r.z]] w fun e w' => e = .returned (.bool (meetI a b c p q r)) ∧ Tch [] w w' := by
  obtain ⟨o, ho⟩ : ∃ u, u = meetI a b c p q r := ⟨_, rfl⟩
  rw [← ho]
  obtain ⟨s, hs⟩ : ∃ u, u = cfI a b c p q r := ⟨_, rfl⟩
  obtain ⟨u, hu⟩ : ∃ u, u = cfI p q r a b c := ⟨_, rfl⟩
  obtain ⟨n, hn⟩ : ∃ n : Int, n = (comI a b c p q r : Nat) := ⟨_, rfl⟩
  obtain ⟨h, hh⟩ : ∃ v', v' = havI a b c p q r := ⟨_, rfl⟩
  obtain ⟨f, hf⟩ : ∃ v', v' = flatI a b c := ⟨_, rfl⟩
  obtain ⟨g, hg⟩ : ∃ v', v' = flatI p q r := ⟨_, rfl⟩
  obtain ⟨oa, ob, oc⟩ := cf_ok a b c p q r ha hb hc
  obtain ⟨op, oq, or'⟩ := cf_ok p q r a b c hp hq hr
  rw [← hs] at oa ob oc
  rw [← hu] at op oq or'
  obtain ⟨x, hx⟩ : ∃ v', v' = touchI s.b s.c u.a u.b u.c := ⟨_, rfl⟩
  obtain ⟨y, hy⟩ : ∃ v', v' = touchI u.b u.c s.a s.b s.c := ⟨_, rfl⟩
  obtain ⟨d, hd⟩ : ∃ v', v' = (detI s.a s.b s.c u.c).sign := ⟨_, rfl⟩
  obtain ⟨z, hz⟩ : ∃ v', v' = sameI s.a s.b s.c u.c := ⟨_, rfl⟩
  have hn4 : n = 0 ∨ n = 1 ∨ n = 2 ∨ n = 3 := by have := com_le a b c p q r; omega
  have HV : Hid (o = if n = 0 then h else if n = 3 ∨ f = true ∨ g = true then true else if n = 1 then (x || y) else (d == 0 && z)) := Lib.hid (by
    rw [ho]; unfold meetI met1I met2I
    rw [← hs, ← hu, ← hh, ← hf, ← hg, ← hx, ← hy, ← hd, ← hz]
    rcases hn4 with e | e | e | e
    · have k : comI a b c p q r = 0 := by omega
      rw [k, e]; simp
    · have k : comI a b c p q r = 1 := by omega
      rw [k, e]; simp
    · have k : comI a b c p q r = 2 := by omega
      rw [k, e]; simp
    · have k : comI a b c p q r = 3 := by omega
      rw [k, e]; simp)
  have C1 : Hid (∀ w1, Calls Tryz.prog 44 #[.agg #[.int .i64 a.x, .int .i64 a.y, .int .i64 a.z, .int .i64 b.x, .int .i64 b.y, .int .i64 b.z, .int .i64 c.x, .int .i64 c.y, .int .i64 c.z], .agg #[.int .i64 p.x, .int .i64 p.y, .int .i64 p.z, .int .i64 q.x, .int .i64 q.y, .int .i64 q.z, .int .i64 r.x, .int .i64 r.y, .int .i64 r.z]] w1 fun e w' => e = .returned (.int .i64 n) ∧ Tch [] w1 w') := Lib.hid (fun w1 => by rw [hn]; exact commonCorners a b c p q r w1)
  have C2 : Hid (∀ w1, Calls Tryz.prog 45 #[.agg #[.int .i64 a.x, .int .i64 a.y, .int .i64 a.z, .int .i64 b.x, .int .i64 b.y, .int .i64 b.z, .int .i64 c.x, .int .i64 c.y, .int .i64 c.z], .agg #[.int .i64 p.x, .int .i64 p.y, .int .i64 p.z, .int .i64 q.x, .int .i64 q.y, .int .i64 q.z, .int .i64 r.x, .int .i64 r.y, .int .i64 r.z]] w1 fun e w' => e = .returned (.bool h) ∧ Tch [] w1 w') := Lib.hid (fun w1 => by rw [hh]; exact haveCommonPoint a b c p q r ha hb hc hp hq hr w1)
  have C3 : Hid (∀ w1, Calls Tryz.prog 25 #[.agg #[.int .i64 a.x, .int .i64 a.y, .int .i64 a.z, .int .i64 b.x, .int .i64 b.y, .int .i64 b.z, .int .i64 c.x, .int .i64 c.y, .int .i64 c.z]] w1 fun e w' => e = .returned (.bool f) ∧ Tch [] w1 w') := Lib.hid (fun w1 => by rw [hf]; exact Flat a b c ha hb hc w1)
  have C4 : Hid (∀ w1, Calls Tryz.prog 25 #[.agg #[.int .i64 p.x, .int .i64 p.y, .int .i64 p.z, .int .i64 q.x, .int .i64 q.y, .int .i64 q.z, .int .i64 r.x, .int .i64 r.y, .int .i64 r.z]] w1 fun e w' => e = .returned (.bool g) ∧ Tch [] w1 w') := Lib.hid (fun w1 => by rw [hg]; exact Flat p q r hp hq hr w1)
  have C5 : Hid (∀ w1, Calls Tryz.prog 46 #[.agg #[.int .i64 a.x, .int .i64 a.y, .int .i64 a.z, .int .i64 b.x, .int .i64 b.y, .int .i64 b.z, .int .i64 c.x, .int .i64 c.y, .int .i64 c.z], .agg #[.int .i64 p.x, .int .i64 p.y, .int .i64 p.z, .int .i64 q.x, .int .i64 q.y, .int .i64 q.z, .int .i64 r.x, .int .i64 r.y, .int .i64 r.z]] w1 fun e w' => e = .returned (.agg #[.int .i64 s.a.x, .int .i64 s.a.y, .int .i64 s.a.z, .int .i64 s.b.x, .int .i64 s.b.y, .int .i64 s.b.z, .int .i64 s.c.x, .int .i64 s.c.y, .int .i64 s.c.z]) ∧ Tch [] w1 w') := Lib.hid (fun w1 => by rw [hs]; exact commonFirst a b c p q r ha hb hc w1)
  have C6 : Hid (∀ w1, Calls Tryz.prog 46 #[.agg #[.int .i64 p.x, .int .i64 p.y, .int .i64 p.z, .int .i64 q.x, .int .i64 q.y, .int .i64 q.z, .int .i64 r.x, .int .i64 r.y, .int .i64 r.z], .agg #[.int .i64 a.x, .int .i64 a.y, .int .i64 a.z, .int .i64 b.x, .int .i64 b.y, .int .i64 b.z, .int .i64 c.x, .int .i64 c.y, .int .i64 c.z]] w1 fun e w' => e = .returned (.agg #[.int .i64 u.a.x, .int .i64 u.a.y, .int .i64 u.a.z, .int .i64 u.b.x, .int .i64 u.b.y, .int .i64 u.b.z, .int .i64 u.c.x, .int .i64 u.c.y, .int .i64 u.c.z]) ∧ Tch [] w1 w') := Lib.hid (fun w1 => by rw [hu]; exact commonFirst p q r a b c hp hq hr w1)
  have C7 : Hid (∀ w1, Calls Tryz.prog 14 #[.agg #[.int .i64 s.b.x, .int .i64 s.b.y, .int .i64 s.b.z], .agg #[.int .i64 s.c.x, .int .i64 s.c.y, .int .i64 s.c.z], .agg #[.int .i64 u.a.x, .int .i64 u.a.y, .int .i64 u.a.z, .int .i64 u.b.x, .int .i64 u.b.y, .int .i64 u.b.z, .int .i64 u.c.x, .int .i64 u.c.y, .int .i64 u.c.z]] w1 fun e w' => e = .returned (.bool x) ∧ Tch [] w1 w') := Lib.hid (fun w1 => by rw [hx]; exact Touch s.b s.c u.a u.b u.c ob oc op oq or' w1)
  have C8 : Hid (∀ w1, Calls Tryz.prog 14 #[.agg #[.int .i64 u.b.x, .int .i64 u.b.y, .int .i64 u.b.z], .agg #[.int .i64 u.c.x, .int .i64 u.c.y, .int .i64 u.c.z], .agg #[.int .i64 s.a.x, .int .i64 s.a.y, .int .i64 s.a.z, .int .i64 s.b.x, .int .i64 s.b.y, .int .i64 s.b.z, .int .i64 s.c.x, .int .i64 s.c.y, .int .i64 s.c.z]] w1 fun e w' => e = .returned (.bool y) ∧ Tch [] w1 w') := Lib.hid (fun w1 => by rw [hy]; exact Touch u.b u.c s.a s.b s.c oq or' oa ob oc w1)
  have C9 : Hid (∀ w1, Calls Tryz.prog 20 #[.agg #[.int .i64 s.a.x, .int .i64 s.a.y, .int .i64 s.a.z], .agg #[.int .i64 s.b.x, .int .i64 s.b.y, .int .i64 s.b.z], .agg #[.int .i64 s.c.x, .int .i64 s.c.y, .int .i64 s.c.z], .agg #[.int .i64 u.c.x, .int .i64 u.c.y, .int .i64 u.c.z]] w1 fun e w' => e = .returned (.int .i64 d) ∧ Tch [] w1 w') := Lib.hid (fun w1 => by rw [hd]; exact Orient s.a s.b s.c u.c oa ob oc or' w1)
  have C0 : Hid (∀ w1, Calls Tryz.prog 47 #[.agg #[.int .i64 s.a.x, .int .i64 s.a.y, .int .i64 s.a.z], .agg #[.int .i64 s.b.x, .int .i64 s.b.y, .int .i64 s.b.z], .agg #[.int .i64 s.c.x, .int .i64 s.c.y, .int .i64 s.c.z], .agg #[.int .i64 u.c.x, .int .i64 u.c.y, .int .i64 u.c.z]] w1 fun e w' => e = .returned (.bool z) ∧ Tch [] w1 w') := Lib.hid (fun w1 => by rw [hz]; exact sameSide s.a s.b s.c u.c oa ob oc or' w1)
  clear ho hs hu hn hh hf hg hx hy hd hz oa ob oc op oq or' ha hb hc hp hq hr
  have F : Hid (Fr w ((w.alloc (.cells #[.int .i64 a.x, .int .i64 a.y, .int .i64 a.z, .int .i64 b.x, .int .i64 b.y, .int .i64 b.z, .int .i64 c.x, .int .i64 c.y, .int .i64 c.z] 33)).alloc (.cells #[.int .i64 p.x, .int .i64 p.y, .int .i64 p.z, .int .i64 q.x, .int .i64 q.y, .int .i64 q.z, .int .i64 r.x, .int .i64 r.y, .int .i64 r.z] 33)) [(w.heap.size, .cells #[.int .i64 a.x, .int .i64 a.y, .int .i64 a.z, .int .i64 b.x, .int .i64 b.y, .int .i64 b.z, .int .i64 c.x, .int .i64 c.y, .int .i64 c.z] 33 (0, 0)), (w.heap.size + 1, .cells #[.int .i64 p.x, .int .i64 p.y, .int .i64 p.z, .int .i64 q.x, .int .i64 q.y, .int .i64 q.z, .int .i64 r.x, .int .i64 r.y, .int .i64 r.z] 33 (0, 0))]) := Lib.hid (((Fr.nil w).add (.cells #[.int .i64 a.x, .int .i64 a.y, .int .i64 a.z, .int .i64 b.x, .int .i64 b.y, .int .i64 b.z, .int .i64 c.x, .int .i64 c.y, .int .i64 c.z] 33) (w.heap.size) rfl).add (.cells #[.int .i64 p.x, .int .i64 p.y, .int .i64 p.z, .int .i64 q.x, .int .i64 q.y, .int .i64 q.z, .int .i64 r.x, .int .i64 r.y, .int .i64 r.z] 33) (w.heap.size + 1) (by simp))
  obtain ⟨⟨a0, a1, a2⟩, ⟨a3, a4, a5⟩, a6, a7, a8⟩ := F.out.nine 0 rfl; obtain ⟨⟨b0, b1, b2⟩, ⟨b3, b4, b5⟩, b6, b7, b8⟩ := F.out.nine 1 rfl
  go_enter Tryz.func16, Tryz.ntmps16
  go_wp2_with fail
  refine (C1.out _).mono ?_
  rintro e w1 ⟨rfl, hT⟩
  have F := Lib.hid (F.out.keep hT)
  clear hT C1 a0 a1 a2 a3 a4 a5 a6 a7 a8 b0 b1 b2 b3 b4 b5 b6 b7 b8
  obtain ⟨⟨a0, a1, a2⟩, ⟨a3, a4, a5⟩, a6, a7, a8⟩ := F.out.nine 0 rfl; obtain ⟨⟨b0, b1, b2⟩, ⟨b3, b4, b5⟩, b6, b7, b8⟩ := F.out.nine 1 rfl
  by_cases h0 : n = 0
  · subst h0
    have HW : Hid (o = h) := Lib.hid (by rw [HV.out, if_pos rfl])
    go_wp2_with fail
    refine (C2.out _).mono ?_
    rintro e w2 ⟨rfl, hT⟩
    have F := Lib.hid (F.out.keep hT)
    clear hT a0 a1 a2 a3 a4 a5 a6 a7 a8 b0 b1 b2 b3 b4 b5 b6 b7 b8
    go_wp2
    go_ret
    exact ⟨by rw [HW.out]; rfl, F.out.t⟩
  have HV1 : Hid (o = if n = 3 ∨ f = true ∨ g = true then true else if n = 1 then (x || y) else (d == 0 && z)) := Lib.hid (by rw [HV.out, if_neg h0])
  have e0 : (n == 0) = false := beq_eq_false_iff_ne.2 h0
  clear HV C2
  by_cases h3 : n = 3
  · subst h3
    have HW : Hid (o = true) := Lib.hid (by rw [HV1.out, if_pos (.inl rfl)])
    go_wp2
    go_ret
    exact ⟨by rw [HW.out]; rfl, F.out.t⟩
  have e3 : (n == 3) = false := beq_eq_false_iff_ne.2 h3
  cases f
  case true =>
    have HW : Hid (o = true) := Lib.hid (by rw [HV1.out, if_pos (.inr (.inl rfl))])
    go_wp2_with fail
    refine (C3.out _).mono ?_
    rintro e w2 ⟨rfl, hT⟩
    have F := Lib.hid (F.out.keep hT)
    clear hT a0 a1 a2 a3 a4 a5 a6 a7 a8 b0 b1 b2 b3 b4 b5 b6 b7 b8
    go_wp2
    go_ret
    exact ⟨by rw [HW.out]; rfl, F.out.t⟩
  cases g
  case true =>
    have HW : Hid (o = true) := Lib.hid (by rw [HV1.out, if_pos (.inr (.inr rfl))])
    go_wp2_with fail
    refine (C3.out _).mono ?_
    rintro e w2 ⟨rfl, hT⟩
    have F := Lib.hid (F.out.keep hT)
    clear hT a0 a1 a2 a3 a4 a5 a6 a7 a8 b0 b1 b2 b3 b4 b5 b6 b7 b8
    obtain ⟨⟨a0, a1, a2⟩, ⟨a3, a4, a5⟩, a6, a7, a8⟩ := F.out.nine 0 rfl; obtain ⟨⟨b0, b1, b2⟩, ⟨b3, b4, b5⟩, b6, b7, b8⟩ := F.out.nine 1 rfl
    go_wp2_with fail
    refine (C4.out _).mono ?_
    rintro e w3 ⟨rfl, hT⟩
    have F := Lib.hid (F.out.keep hT)
    clear hT a0 a1 a2 a3 a4 a5 a6 a7 a8 b0 b1 b2 b3 b4 b5 b6 b7 b8
    go_wp2
    go_ret
    exact ⟨by rw [HW.out]; rfl, F.out.t⟩
  have HV2 : Hid (o = if n = 1 then (x || y) else (d == 0 && z)) := Lib.hid (by rw [HV1.out, if_neg (fun k => by rcases k with k | k | k; exact h3 k; cases k; cases k)])
  clear HV1
  go_wp2_with fail
  refine (C3.out _).mono ?_
  rintro e w2 ⟨rfl, hT⟩
  have F := Lib.hid (F.out.keep hT)
  clear hT C3 a0 a1 a2 a3 a4 a5 a6 a7 a8 b0 b1 b2 b3 b4 b5 b6 b7 b8
  obtain ⟨⟨a0, a1, a2⟩, ⟨a3, a4, a5⟩, a6, a7, a8⟩ := F.out.nine 0 rfl; obtain ⟨⟨b0, b1, b2⟩, ⟨b3, b4, b5⟩, b6, b7, b8⟩ := F.out.nine 1 rfl
  go_wp2_with fail
  refine (C4.out _).mono ?_
  rintro e w3 ⟨rfl, hT⟩
  have F := Lib.hid (F.out.keep hT)
  clear hT C4 a0 a1 a2 a3 a4 a5 a6 a7 a8 b0 b1 b2 b3 b4 b5 b6 b7 b8
  have H03 := Lib.hid (And.intro h0 h3)
  clear h0 h3
  go_upto_region 6 with (fail)
  clear e0 e3
  refine turn_law a b c p q r s.a s.b s.c u.a u.b u.c n w w3 (w.heap.size) (w.heap.size + 1) C5.out C6.out F.out (by omega) (by kernel_rfl) ⟨rfl, rfl, rfl, rfl, rfl, rfl, rfl, ⟨_, rfl⟩, ⟨_, rfl⟩, by kernel_rfl, by kernel_rfl, by kernel_rfl, by kernel_rfl, by kernel_rfl, by kernel_rfl, by kernel_rfl, by kernel_rfl, by kernel_rfl, by kernel_rfl, by kernel_rfl, by kernel_rfl, by kernel_rfl, by kernel_rfl, by kernel_rfl, by kernel_rfl, by kernel_rfl, by kernel_rfl, by kernel_rfl, by kernel_rfl, by kernel_rfl, by kernel_rfl, by kernel_rfl⟩ (fun w4 F4 => ?_)
  have F := Lib.hid F4
  clear F4 C5 C6
  obtain ⟨⟨a0, a1, a2⟩, ⟨a3, a4, a5⟩, a6, a7, a8⟩ := F.out.nine 0 rfl; obtain ⟨⟨b0, b1, b2⟩, ⟨b3, b4, b5⟩, b6, b7, b8⟩ := F.out.nine 1 rfl
  by_cases h1 : n = 1
  · subst h1
    have HW : Hid (o = (x || y)) := Lib.hid (by rw [HV2.out, if_pos rfl])
    clear C9 C0 HV2
    cases x
    all_goals
      go_wp2_with (go_at_call 14; (first | (with_reducible refine (C7.out _).mono ?_) | (with_reducible refine (C8.out _).mono ?_)); rintro e w6 ⟨rfl, hT⟩; have F := Lib.hid (F.out.keep hT); clear hT a0 a1 a2 a3 a4 a5 a6 a7 a8 b0 b1 b2 b3 b4 b5 b6 b7 b8; obtain ⟨⟨a0, a1, a2⟩, ⟨a3, a4, a5⟩, a6, a7, a8⟩ := F.out.nine 0 rfl; obtain ⟨⟨b0, b1, b2⟩, ⟨b3, b4, b5⟩, b6, b7, b8⟩ := F.out.nine 1 rfl)
      go_ret
      exact ⟨by rw [HW.out]; rfl, F.out.t⟩
  · have HW : Hid (o = (d == 0 && z)) := Lib.hid (by rw [HV2.out, if_neg h1])
    have e1 : (n == 1) = false := beq_eq_false_iff_ne.2 h1
    clear C7 C8 HV2 h1
    by_cases hd : d = 0
    · subst hd
      go_wp2_with (first | (go_at_call 20; (first | (with_reducible refine (C9.out _).mono ?_)); rintro e w6 ⟨rfl, hT⟩; have F := Lib.hid (F.out.keep hT); clear hT a0 a1 a2 a3 a4 a5 a6 a7 a8 b0 b1 b2 b3 b4 b5 b6 b7 b8; obtain ⟨⟨a0, a1, a2⟩, ⟨a3, a4, a5⟩, a6, a7, a8⟩ := F.out.nine 0 rfl; obtain ⟨⟨b0, b1, b2⟩, ⟨b3, b4, b5⟩, b6, b7, b8⟩ := F.out.nine 1 rfl) | (go_at_call 47; (first | (with_reducible refine (C0.out _).mono ?_)); rintro e w6 ⟨rfl, hT⟩; have F := Lib.hid (F.out.keep hT); clear hT a0 a1 a2 a3 a4 a5 a6 a7 a8 b0 b1 b2 b3 b4 b5 b6 b7 b8; obtain ⟨⟨a0, a1, a2⟩, ⟨a3, a4, a5⟩, a6, a7, a8⟩ := F.out.nine 0 rfl; obtain ⟨⟨b0, b1, b2⟩, ⟨b3, b4, b5⟩, b6, b7, b8⟩ := F.out.nine 1 rfl))
      go_ret
      exact ⟨by rw [HW.out]; rfl, F.out.t⟩
    · have e2 : (d == 0) = false := beq_eq_false_iff_ne.2 hd
      have HX : Hid (o = false) := Lib.hid (by rw [HW.out, e2]; rfl)
      clear hd
      go_wp2_with (go_at_call 20; (first | (with_reducible refine (C9.out _).mono ?_)); rintro e w6 ⟨rfl, hT⟩; have F := Lib.hid (F.out.keep hT); clear hT a0 a1 a2 a3 a4 a5 a6 a7 a8 b0 b1 b2 b3 b4 b5 b6 b7 b8; obtain ⟨⟨a0, a1, a2⟩, ⟨a3, a4, a5⟩, a6, a7, a8⟩ := F.out.nine 0 rfl; obtain ⟨⟨b0, b1, b2⟩, ⟨b3, b4, b5⟩, b6, b7, b8⟩ := F.out.nine 1 rfl)
      go_ret
      exact ⟨by rw [HX.out]; rfl, F.out.t⟩

end Go.Proofs.YtandlbacjfdkpaaGreatDoor
