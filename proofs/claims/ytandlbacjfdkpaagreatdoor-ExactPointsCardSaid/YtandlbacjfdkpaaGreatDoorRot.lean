/- exact.rotations: an iterator over the three turns of a triangle. -/
import Derived.RangeFuncNested
import Derived.RangeFuncLeaves
import Derived.RangeFuncCalls
import Derived.RangeFuncBound
import Derived.Shelf.Abstract
import Derived.Shelf.RegionOpen
import Derived.OwnWalkIn
import Derived.TacticsInMore
import Derived.LoopNIn
import Derived.LoopIn
import Derived.Test.YtandlbacjfdkpaaGreatDoorVecA
namespace Go.Proofs.YtandlbacjfdkpaaGreatDoor
open Go Go.RowKit Go.Shelf

attribute [local go_sem] Oper.semAt_some

/-- Three corners. -/
structure T3 where
  a : P3
  b : P3
  c : P3
/-- A triangle as an argument. -/
def encT (t : T3) : Array Value := #[.agg #[.int .i64 t.a.x, .int .i64 t.a.y, .int .i64 t.a.z, .int .i64 t.b.x, .int .i64 t.b.y, .int .i64 t.b.z, .int .i64 t.c.x, .int .i64 t.c.y, .int .i64 t.c.z]]
/-- The three turns. -/
def turns (a b c : P3) : List T3 := [⟨a, b, c⟩, ⟨b, c, a⟩, ⟨c, a, b⟩]

theorem grown_drew (w : World) : w.grownBy w.drew none := ⟨rfl, rfl, rfl, Nat.le_refl _, fun _ _ _ => rfl⟩

theorem cells9 {w : World} {B : Nat} {T : TypeId} {p0 p1 p2 p3 p4 p5 p6 p7 p8 : Value} (h : w.heap[B]? = some (.cells #[p0, p1, p2, p3, p4, p5, p6, p7, p8] T (0, 0))) :
    w.cell? ⟨B, 0, none⟩ = some p0 ∧ w.cell? ⟨B, 1, none⟩ = some p1 ∧ w.cell? ⟨B, 2, none⟩ = some p2 ∧ w.cell? ⟨B, 3, none⟩ = some p3 ∧ w.cell? ⟨B, 4, none⟩ = some p4 ∧ w.cell? ⟨B, 5, none⟩ = some p5 ∧ w.cell? ⟨B, 6, none⟩ = some p6 ∧ w.cell? ⟨B, 7, none⟩ = some p7 ∧ w.cell? ⟨B, 8, none⟩ = some p8 := by
  refine ⟨?_, ?_, ?_, ?_, ?_, ?_, ?_, ?_, ?_⟩ <;> (rw [cell_of_row w B _ _ T (0, 0) h]; rfl)

set_option maxHeartbeats 1000000 in
set_option maxRecDepth 100000 in
theorem rotations (a b c : P3) (w : World) :
    Calls Tryz.prog 70 #[.agg #[.int .i64 a.x, .int .i64 a.y, .int .i64 a.z, .int .i64 b.x, .int .i64 b.y, .int .i64 b.z, .int .i64 c.x, .int .i64 c.y, .int .i64 c.z]] w fun e w' => e = .returned (.func (.func 94) #[] #[.pointer (some ⟨w.heap.size, 0, none⟩)]) ∧ w' = w.alloc (.cells #[.int .i64 a.x, .int .i64 a.y, .int .i64 a.z, .int .i64 b.x, .int .i64 b.y, .int .i64 b.z, .int .i64 c.x, .int .i64 c.y, .int .i64 c.z] 33) := by
  go_enter Tryz.func70, Tryz.ntmps70
  go_wp2
  go_ret
  exact ⟨rfl, rfl⟩

set_option maxHeartbeats 9000000 in
set_option maxRecDepth 100000 in
theorem rot1_in (n : Nat) (hn : 1 ≤ n) (l B : Nat) (a b c : P3) (J Jx : List T3 → World → Prop) (W : World) (hJd : ∀ pre w, J pre w → J pre w.drew)
    (hY : ∀ pre x w1, x ∈ turns a b c → J pre w1 → pre.length < 3 → YieldAt Fence.wide (n - 1) Tryz.prog l (encT x) w1 fun e w2 =>
      (e = .returned (.bool true) ∧ J (pre ++ [x]) w2 ∧ w2.heap[B]? = w1.heap[B]?) ∨ (e = .returned (.bool false) ∧ Jx (pre ++ [x]) w2))
    (hb : W.heap[B]? = some (.cells #[.int .i64 a.x, .int .i64 a.y, .int .i64 a.z, .int .i64 b.x, .int .i64 b.y, .int .i64 b.z, .int .i64 c.x, .int .i64 c.y, .int .i64 c.z] 33 (0, 0))) (h0 : J [] W) :
    CallsIn Fence.wide n Tryz.prog 94 #[.func (.yield l) #[] #[], .pointer (some ⟨B, 0, none⟩)] W fun e W' => (∃ v, e = .returned v) ∧ ((∃ ys, ys = turns a b c ∧ J ys W') ∨ (∃ pre, pre <+: turns a b c ∧ Jx pre W')) := by
  have hmix : Tryz.prog.follows .mixedOrders = true := by kernel_rfl
  have HY := Lib.hid hY
  have HD := Lib.hid hJd
  have HBB := Lib.hid hb
  have H0 := Lib.hid h0
  clear hY hJd hb h0
  refine callsIn_of_wp Tryz.func94 rfl trivial ?_ rfl
  simp only [Tryz.ntmps94, List.size_toArray, List.length_cons, List.length_nil, Nat.reduceAdd, Nat.reduceSub, Array.replicate_succ, Array.replicate_zero, List.push_toArray, List.append_toArray, List.nil_append, List.cons_append]
  gi_wp2
  gi_loopw [4] (fun i wr => ∃ k : Nat, k ≤ 3 ∧ i = .int .i64 (k : Int) ∧ Hid (J ((turns a b c).take k) wr) ∧ Hid (wr.heap[B]? = some (.cells #[.int .i64 a.x, .int .i64 a.y, .int .i64 a.z, .int .i64 b.x, .int .i64 b.y, .int .i64 b.z, .int .i64 c.x, .int .i64 c.y, .int .i64 c.z] 33 (0, 0))))
    (fun i _ => 3 - (intOf i).toNat)
  case atStart => exact ⟨0, by omega, rfl, H0, HBB⟩
  case round =>
    obtain ⟨k, hk, rfl, HJ, HC⟩ := hrel
    rcases (show k = 0 ∨ k = 1 ∨ k = 2 ∨ k = 3 by omega) with rfl | rfl | rfl | rfl
    · obtain ⟨fn, tmps, assign, body, hy, hR⟩ := HY.out _ ⟨a, b, c⟩ wr.drew (by simp [turns]) (HD.out _ _ HJ.out) (by simp [turns])
      have hR2 := hR.mono (R' := fun e w2 => ∃ bb : Bool, e = .returned (.bool bb) ∧ Hid (if bb then J ((turns a b c).take 1) w2 ∧ w2.heap[B]? = wr.drew.heap[B]? else Jx ((turns a b c).take 1) w2)) (by
        rintro e w2 (⟨rfl, g1, g2⟩ | ⟨rfl, g1⟩)
        · exact ⟨true, rfl, Lib.hid ⟨g1, g2⟩⟩
        · exact ⟨false, rfl, Lib.hid g1⟩)
      have HR := Lib.hid hR2
      clear hR hR2 HY HD H0 HBB
      dsimp only [encT] at hy
      obtain ⟨c0, c1, c2, c3, c4, c5, c6, c7, c8⟩ := cells9 HC.out
      gi_wp2
      gi_region_with_o (refine HR.out.mono ?_; rintro e w3 ⟨bb, rfl, HP⟩)
      all_goals
        cases bb
        · have HP2 := Lib.hid (show Jx ((turns a b c).take 1) w3 from HP.out)
          clear HP HC HJ
          gi_wp2
          refine bodyPost_ret (results_none rfl _ _ _) rfl ?_
          exact ⟨⟨_, rfl⟩, .inr ⟨_, ⟨_, List.take_append_drop 1 _⟩, HP2.out⟩⟩
        · have HP2 := Lib.hid (show J ((turns a b c).take 1) w3 ∧ w3.heap[B]? = wr.drew.heap[B]? from HP.out)
          have HC3 : Hid (w3.heap[B]? = some (.cells #[.int .i64 a.x, .int .i64 a.y, .int .i64 a.z, .int .i64 b.x, .int .i64 b.y, .int .i64 b.z, .int .i64 c.x, .int .i64 c.y, .int .i64 c.z] 33 (0, 0))) := Lib.hid (HP2.out.2.trans HC.out)
          clear HP HC HJ
          gi_wp2
          go_roundw
          case rel => exact ⟨1, by omega, by go_num, Lib.hid HP2.out.1, HC3⟩
          case measure => simp [intOf]
    · obtain ⟨fn, tmps, assign, body, hy, hR⟩ := HY.out _ ⟨b, c, a⟩ wr.drew (by simp [turns]) (HD.out _ _ HJ.out) (by simp [turns])
      have hR2 := hR.mono (R' := fun e w2 => ∃ bb : Bool, e = .returned (.bool bb) ∧ Hid (if bb then J ((turns a b c).take 2) w2 ∧ w2.heap[B]? = wr.drew.heap[B]? else Jx ((turns a b c).take 2) w2)) (by
        rintro e w2 (⟨rfl, g1, g2⟩ | ⟨rfl, g1⟩)
        · exact ⟨true, rfl, Lib.hid ⟨g1, g2⟩⟩
        · exact ⟨false, rfl, Lib.hid g1⟩)
      have HR := Lib.hid hR2
      clear hR hR2 HY HD H0 HBB
      dsimp only [encT] at hy
      obtain ⟨c0, c1, c2, c3, c4, c5, c6, c7, c8⟩ := cells9 HC.out
      gi_wp2
      gi_region_with_o (refine HR.out.mono ?_; rintro e w3 ⟨bb, rfl, HP⟩)
      all_goals
        cases bb
        · have HP2 := Lib.hid (show Jx ((turns a b c).take 2) w3 from HP.out)
          clear HP HC HJ
          gi_wp2
          refine bodyPost_ret (results_none rfl _ _ _) rfl ?_
          exact ⟨⟨_, rfl⟩, .inr ⟨_, ⟨_, List.take_append_drop 2 _⟩, HP2.out⟩⟩
        · have HP2 := Lib.hid (show J ((turns a b c).take 2) w3 ∧ w3.heap[B]? = wr.drew.heap[B]? from HP.out)
          have HC3 : Hid (w3.heap[B]? = some (.cells #[.int .i64 a.x, .int .i64 a.y, .int .i64 a.z, .int .i64 b.x, .int .i64 b.y, .int .i64 b.z, .int .i64 c.x, .int .i64 c.y, .int .i64 c.z] 33 (0, 0))) := Lib.hid (HP2.out.2.trans HC.out)
          clear HP HC HJ
          gi_wp2
          go_roundw
          case rel => exact ⟨2, by omega, by go_num, Lib.hid HP2.out.1, HC3⟩
          case measure => simp [intOf]
    · obtain ⟨fn, tmps, assign, body, hy, hR⟩ := HY.out _ ⟨c, a, b⟩ wr.drew (by simp [turns]) (HD.out _ _ HJ.out) (by simp [turns])
      have hR2 := hR.mono (R' := fun e w2 => ∃ bb : Bool, e = .returned (.bool bb) ∧ Hid (if bb then J ((turns a b c).take 3) w2 ∧ w2.heap[B]? = wr.drew.heap[B]? else Jx ((turns a b c).take 3) w2)) (by
        rintro e w2 (⟨rfl, g1, g2⟩ | ⟨rfl, g1⟩)
        · exact ⟨true, rfl, Lib.hid ⟨g1, g2⟩⟩
        · exact ⟨false, rfl, Lib.hid g1⟩)
      have HR := Lib.hid hR2
      clear hR hR2 HY HD H0 HBB
      dsimp only [encT] at hy
      obtain ⟨c0, c1, c2, c3, c4, c5, c6, c7, c8⟩ := cells9 HC.out
      gi_wp2
      gi_region_with_o (refine HR.out.mono ?_; rintro e w3 ⟨bb, rfl, HP⟩)
      all_goals
        cases bb
        · have HP2 := Lib.hid (show Jx ((turns a b c).take 3) w3 from HP.out)
          clear HP HC HJ
          gi_wp2
          refine bodyPost_ret (results_none rfl _ _ _) rfl ?_
          exact ⟨⟨_, rfl⟩, .inr ⟨_, ⟨_, List.take_append_drop 3 _⟩, HP2.out⟩⟩
        · have HP2 := Lib.hid (show J ((turns a b c).take 3) w3 ∧ w3.heap[B]? = wr.drew.heap[B]? from HP.out)
          have HC3 : Hid (w3.heap[B]? = some (.cells #[.int .i64 a.x, .int .i64 a.y, .int .i64 a.z, .int .i64 b.x, .int .i64 b.y, .int .i64 b.z, .int .i64 c.x, .int .i64 c.y, .int .i64 c.z] 33 (0, 0))) := Lib.hid (HP2.out.2.trans HC.out)
          clear HP HC HJ
          gi_wp2
          go_roundw
          case rel => exact ⟨3, by omega, by go_num, Lib.hid HP2.out.1, HC3⟩
          case measure => simp [intOf]
    · clear HY HD H0 HBB HC
      gi_wp2
      go_end0
      exact ⟨⟨_, rfl⟩, .inl ⟨_, rfl, HJ.out⟩⟩

end Go.Proofs.YtandlbacjfdkpaaGreatDoor

/- What rotations hands back, over triangles whose coordinates are ints. -/
namespace Go.Proofs.YtandlbacjfdkpaaGreatDoor
open Go Go.RowKit Go.Shelf

/-- Three corners whose coordinates are ints. -/
abbrev TO := { t : T3 // t.a.Ok ∧ t.b.Ok ∧ t.c.Ok }

/-- What 'rotations' hands back: all three turns, in order, or the first of them. -/
theorem rot_stops (n : Nat) (hn : 1 ≤ n) (B : Nat) (a b c : P3) (ha : a.Ok) (hb' : b.Ok) (hc : c.Ok) (w : World) (hB : B < w.heap.size) (hb : w.heap[B]? = some (.cells #[.int .i64 a.x, .int .i64 a.y, .int .i64 a.z, .int .i64 b.x, .int .i64 b.y, .int .i64 b.z, .int .i64 c.x, .int .i64 c.y, .int .i64 c.z] 33 (0, 0))) :
    SeqStopsK Fence.wide n Tryz.prog 94 #[.pointer (some ⟨B, 0, none⟩)] (fun t : TO => encT t.1) (fun w1 w2 => w2.heap[B]? = w1.heap[B]?) (fun ys => ys.map (·.1) = turns a b c) (fun pre => pre.map (·.1) <+: turns a b c) 3 w := fun l J Jx W hW hJ _ hY h0 => by
  refine (rot1_in n hn l B a b c (fun pre w => ∃ ps : List TO, ps.map (·.1) = pre ∧ J ps w) (fun pre w => ∃ ps : List TO, ps.map (·.1) = pre ∧ Jx ps w) W
    (fun pre w ⟨ps, e, h⟩ => ⟨ps, e, hJ ps w _ none h (grown_drew w) (fun r e => by cases e)⟩) ?_ ((hW.block B hB).trans hb) ⟨[], rfl, h0⟩).mono ?_
  · rintro pre x w1 hx ⟨ps, rfl, hj⟩ hl
    have hok : x.a.Ok ∧ x.b.Ok ∧ x.c.Ok := by
      simp only [turns, List.mem_cons, List.not_mem_nil, or_false] at hx
      rcases hx with rfl | rfl | rfl
      · exact ⟨ha, hb', hc⟩
      · exact ⟨hb', hc, ha⟩
      · exact ⟨hc, ha, hb'⟩
    refine (hY ps ⟨x, hok⟩ w1 hj (by simpa using hl)).mono ?_
    rintro e w2 (⟨rfl, g1, g2⟩ | ⟨rfl, g1⟩)
    · exact .inl ⟨rfl, ⟨_, by simp, g1⟩, g2⟩
    · exact .inr ⟨rfl, _, by simp, g1⟩
  · rintro e W' ⟨hv, (⟨ys, rfl, ps, e1, hj⟩ | ⟨pre, hp, ps, e1, hj⟩)⟩
    · exact ⟨hv, .inl ⟨ps, e1, hj⟩⟩
    · exact ⟨hv, .inr ⟨ps, by show List.map _ ps <+: _; rw [e1]; exact hp, hj⟩⟩
