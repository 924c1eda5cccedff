/- What rotations hands back, over triangles whose coordinates are ints. -/
import Derived.Test.YtpedbahppkimbaaDoorRot
namespace Go.Proofs.YtpedbahppkimbaaDoor
open Go Go.RowKit Go.Shelf

/-- Three corners whose coordinates are ints. -/
abbrev TO := { t : T3 // t.a.Ok ∧ t.b.Ok ∧ t.c.Ok }

/-- What 'rotations' hands back: all three turns, in order, or the first of them. -/
theorem rot_stops (n : Nat) (hn : 1 ≤ n) (B : Nat) (a b c : P3) (ha : a.Ok) (hb' : b.Ok) (hc : c.Ok) (w : World) (hB : B < w.heap.size) (hb : w.heap[B]? = some (.cells #[.int .i64 a.x, .int .i64 a.y, .int .i64 a.z, .int .i64 b.x, .int .i64 b.y, .int .i64 b.z, .int .i64 c.x, .int .i64 c.y, .int .i64 c.z] 28 (0, 0))) :
    SeqStopsK Fence.wide n Tryd.prog 59 #[.pointer (some ⟨B, 0, none⟩)] (fun t : TO => encT t.1) (fun w1 w2 => w2.heap[B]? = w1.heap[B]?) (fun ys => ys.map (·.1) = turns a b c) (fun pre => pre.map (·.1) <+: turns a b c) 3 w := fun l J Jx W hW hJ _ hY h0 => by
  refine (rot1_in n hn l B a b c (fun pre w => ∃ ps : List TO, ps.map (·.1) = pre ∧ J ps w) (fun pre w => ∃ ps : List TO, ps.map (·.1) = pre ∧ Jx ps w) W
    (fun pre w ⟨ps, e, h⟩ => ⟨ps, e, hJ ps w _ none h (grown_drew w) (fun r e => by cases e)⟩) ?_ ((hW.block B hB).trans hb) ⟨[], rfl, h0⟩).mono ?_
  · rintro pre x w1 hx ⟨ps, rfl, hj⟩ hl
    have hok : x.a.Ok ∧ x.b.Ok ∧ x.c.Ok := by
      simp only [turns, List.mem_cons, List.not_mem_nil, or_false] at hx
      rcases hx with rfl | rfl | rfl
      · exact ⟨ha, hb', hc⟩
      · exact ⟨hb', hc, ha⟩
      · exact ⟨hc, ha, hb'⟩
    refine (hY ps ⟨x, hok⟩ w1 hj (by simpa using hl)).mono ?_
    rintro e w2 (⟨rfl, g1, g2⟩ | ⟨rfl, g1⟩)
    · exact .inl ⟨rfl, ⟨_, by simp, g1⟩, g2⟩
    · exact .inr ⟨rfl, _, by simp, g1⟩
  · rintro e W' ⟨hv, (⟨ys, rfl, ps, e1, hj⟩ | ⟨pre, hp, ps, e1, hj⟩)⟩
    · exact ⟨hv, .inl ⟨ps, e1, hj⟩⟩
    · exact ⟨hv, .inr ⟨ps, by show List.map _ ps <+: _; rw [e1]; exact hp, hj⟩⟩
