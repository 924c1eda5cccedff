/- exact.Touch and what it calls: segmentsOverlap, segmentsMeet, covers, touchInPlane. -/
import Derived.Test.YtandlbacjfdkpaaGreatDoorNrm
import Derived.Test.YtandlbacjfdkpaaGreatDoorLess
import Derived.Test.YtandlbacjfdkpaaGreatDoorLin
import Derived.Test.YtandlbacjfdkpaaGreatDoorBoxN
import Derived.Test.YtandlbacjfdkpaaGreatDoorOri
import Derived.Test.YtandlbacjfdkpaaGreatDoorCf
namespace Go.Proofs.YtandlbacjfdkpaaGreatDoor

section
open Go Go.RowKit Go.Shelf Dg

/-- A box among others is written, three cells. -/
theorem Fr.set3 {w0 w : World} {l1 l2 : List (Nat × Obj)} {b : Nat} {T : TypeId} {x y z : Value} (h : Fr w0 w (l1 ++ (b, .cells #[x, y, z] T (0, 0)) :: l2)) (hd : ∀ q ∈ l1 ++ l2, q.1 ≠ b) (x' y' z' : Value) :
    Fr w0 (((w.setCell ⟨b, 0, none⟩ x').setCell ⟨b, 1, none⟩ y').setCell ⟨b, 2, none⟩ z') (l1 ++ (b, .cells #[x', y', z'] T (0, 0)) :: l2) := by
  have st : ∀ (W : World) (j : Nat) (vs : Array Value) (u : Value), Fr w0 W (l1 ++ (b, .cells vs T (0, 0)) :: l2) → Fr w0 (W.setCell ⟨b, j, none⟩ u) (l1 ++ (b, .cells (vs.setIfInBounds j u) T (0, 0)) :: l2) := fun W j vs u g => by
    have hn : w0.heap.size ≤ b := g.new (b, .cells vs T (0, 0)) (by simp)
    refine ⟨fun q hq => ?_, fun q hq => ?_, g.t.setCell (.inr hn) u⟩
    · by_cases e : q = (b, .cells (vs.setIfInBounds j u) T (0, 0))
      · rw [e]; exact heap_setCell_same W b j _ T u (g.row (b, .cells vs T (0, 0)) (by simp))
      · have hq' : q ∈ l1 ++ l2 := by
          simp only [List.mem_append, List.mem_cons] at hq ⊢
          rcases hq with h | h | h
          · exact .inl h
          · exact absurd h e
          · exact .inr h
        have hm : q ∈ l1 ++ (b, .cells vs T (0, 0)) :: l2 := by
          simp only [List.mem_append, List.mem_cons] at hq' ⊢
          rcases hq' with h | h
          · exact .inl h
          · exact .inr (.inr h)
        exact (heap_setCell_other W ⟨b, j, none⟩ q.1 u (hd q hq')).trans (g.row q hm)
    · simp only [List.mem_append, List.mem_cons] at hq
      rcases hq with h | h | h
      · exact g.new q (by simp [h])
      · rw [h]; exact hn
      · exact g.new q (by simp [h])
  have h0 := st _ 0 _ x' h
  simp only [List.setIfInBounds_toArray, List.set_cons_zero] at h0
  have h1 := st _ 1 _ y' h0
  simp only [List.setIfInBounds_toArray, List.set_cons_zero, List.set_cons_succ] at h1
  have h2 := st _ 2 _ z' h1
  simp only [List.setIfInBounds_toArray, List.set_cons_zero, List.set_cons_succ] at h2
  exact h2

/-- The less of two points, the greater. -/
def lo (p q : P3) : P3 := if lessI q p then q else p
def hi (p q : P3) : P3 := if lessI q p then p else q
/-- Segments on a line have a common point. -/
def ovlI (p q r s : P3) : Bool := !lessI (hi p q) (lo r s) && !lessI (hi r s) (lo p q)

set_option maxHeartbeats 4000000 in
set_option maxRecDepth 100000 in
set_option linter.unusedSimpArgs false in
theorem segmentsOverlap (p q r s : P3) (w : World) :
    Calls Tryz.prog 95 #[(.agg #[.int .i64 p.x, .int .i64 p.y, .int .i64 p.z]), (.agg #[.int .i64 q.x, .int .i64 q.y, .int .i64 q.z]), (.agg #[.int .i64 r.x, .int .i64 r.y, .int .i64 r.z]), (.agg #[.int .i64 s.x, .int .i64 s.y, .int .i64 s.z])] w fun e w' => e = .returned (.bool (ovlI p q r s)) ∧ Tch [] w w' := by
  have c1 := fun w1 => Less q p w1
  have c2 := fun w1 => Less s r w1
  have hv : ovlI p q r s = (!lessI (if lessI q p then p else q) (if lessI s r then s else r) && !lessI (if lessI s r then r else s) (if lessI q p then q else p)) := rfl
  obtain ⟨o, ho⟩ : ∃ o, o = ovlI p q r s := ⟨_, rfl⟩
  rw [← ho] at hv ⊢
  obtain ⟨l1, h1⟩ : ∃ l, l = lessI q p := ⟨_, rfl⟩
  obtain ⟨l2, h2⟩ : ∃ l, l = lessI s r := ⟨_, rfl⟩
  rw [← h1] at c1 hv
  rw [← h2] at c2 hv
  have C1 := Lib.hid c1
  have C2 := Lib.hid c2
  have HV := Lib.hid hv
  clear c1 c2 hv ho h1 h2
  have F : Hid (Fr w ((((w.alloc (.cells #[.int .i64 p.x, .int .i64 p.y, .int .i64 p.z] 27)).alloc (.cells #[.int .i64 q.x, .int .i64 q.y, .int .i64 q.z] 27)).alloc (.cells #[.int .i64 r.x, .int .i64 r.y, .int .i64 r.z] 27)).alloc (.cells #[.int .i64 s.x, .int .i64 s.y, .int .i64 s.z] 27)) [(w.heap.size, .cells #[.int .i64 p.x, .int .i64 p.y, .int .i64 p.z] 27 (0, 0)), (w.heap.size + 1, .cells #[.int .i64 q.x, .int .i64 q.y, .int .i64 q.z] 27 (0, 0)), (w.heap.size + 1 + 1, .cells #[.int .i64 r.x, .int .i64 r.y, .int .i64 r.z] 27 (0, 0)), (w.heap.size + 1 + 1 + 1, .cells #[.int .i64 s.x, .int .i64 s.y, .int .i64 s.z] 27 (0, 0))]) := Lib.hid (((((Fr.nil w).add (.cells #[.int .i64 p.x, .int .i64 p.y, .int .i64 p.z] 27) (w.heap.size) rfl).add (.cells #[.int .i64 q.x, .int .i64 q.y, .int .i64 q.z] 27) (w.heap.size + 1) (by simp)).add (.cells #[.int .i64 r.x, .int .i64 r.y, .int .i64 r.z] 27) (w.heap.size + 1 + 1) (by simp)).add (.cells #[.int .i64 s.x, .int .i64 s.y, .int .i64 s.z] 27) (w.heap.size + 1 + 1 + 1) (by simp))
  go_enter Tryz.func95, Tryz.ntmps95
  go_wp2_with fail
  refine (C1.out _).mono ?_
  rintro e w1 ⟨rfl, hT⟩
  have F := Lib.hid (F.out.keep hT)
  clear hT C1
  cases l1
  · obtain ⟨p0, p1, p2⟩ := F.out.three 0 rfl; obtain ⟨q0, q1, q2⟩ := F.out.three 1 rfl; obtain ⟨r0, r1, r2⟩ := F.out.three 2 rfl; obtain ⟨s0, s1, s2⟩ := F.out.three 3 rfl; obtain ⟨f0, f1, f2⟩ := F.out.fro3 0 rfl; obtain ⟨g0, g1, g2⟩ := F.out.fro3 1 rfl
    go_upto_region 3 with (fail)
    obtain ⟨W, rfl⟩ : ∃ W, W = w1 := ⟨_, rfl⟩
    clear p0 p1 p2 q0 q1 q2 r0 r1 r2 s0 s1 s2 f0 f1 f2 g0 g1 g2
    obtain ⟨r0, r1, r2⟩ := F.out.three 2 rfl; obtain ⟨s0, s1, s2⟩ := F.out.three 3 rfl
    go_wp2_with fail
    refine (C2.out _).mono ?_
    rintro e w2 ⟨rfl, hT⟩
    have F := Lib.hid (F.out.keep hT)
    clear hT C2 r0 r1 r2 s0 s1 s2
    obtain ⟨r0, r1, r2⟩ := F.out.three 2 rfl; obtain ⟨s0, s1, s2⟩ := F.out.three 3 rfl; obtain ⟨f0, f1, f2⟩ := F.out.fro3 2 rfl; obtain ⟨g0, g1, g2⟩ := F.out.fro3 3 rfl
    obtain ⟨p0, p1, p2⟩ := F.out.three 0 rfl; obtain ⟨q0, q1, q2⟩ := F.out.three 1 rfl
    cases l2
    · go_upto_region 5 with (fail)
      obtain ⟨V, rfl⟩ : ∃ V, V = w2 := ⟨_, rfl⟩
      clear p0 p1 p2 q0 q1 q2 r0 r1 r2 s0 s1 s2 f0 f1 f2 g0 g1 g2
      have SF := Lib.hid (fun (w4 : World) (h : Fr w w4 [(w.heap.size, .cells #[.int .i64 p.x, .int .i64 p.y, .int .i64 p.z] 27 (0, 0)), (w.heap.size + 1, .cells #[.int .i64 q.x, .int .i64 q.y, .int .i64 q.z] 27 (0, 0)), (w.heap.size + 1 + 1, .cells #[.int .i64 r.x, .int .i64 r.y, .int .i64 r.z] 27 (0, 0)), (w.heap.size + 1 + 1 + 1, .cells #[.int .i64 s.x, .int .i64 s.y, .int .i64 s.z] 27 (0, 0))]) => And.intro (h.three 0 rfl) (And.intro (h.three 1 rfl) (And.intro (h.three 2 rfl) (h.three 3 rfl))))
      have c3 := fun w1 => Less q r w1
      have c4 := fun w1 => Less s p w1
      have hv := HV.out
      simp only [if_true, Bool.false_eq_true, if_false] at hv
      obtain ⟨l3, h3⟩ : ∃ l, l = lessI q r := ⟨_, rfl⟩
      obtain ⟨l4, h4⟩ : ∃ l, l = lessI s p := ⟨_, rfl⟩
      rw [← h3] at c3 hv
      rw [← h4] at c4 hv
      have C3 := Lib.hid c3
      have C4 := Lib.hid c4
      clear HV c3 c4 h3 h4
      have HV := Lib.hid hv
      clear hv
      obtain ⟨p0, p1, p2⟩ := F.out.three 0 rfl; obtain ⟨q0, q1, q2⟩ := F.out.three 1 rfl; obtain ⟨r0, r1, r2⟩ := F.out.three 2 rfl; obtain ⟨s0, s1, s2⟩ := F.out.three 3 rfl
      cases l3
      all_goals
        go_wp2_with (go_at_call 32; (first | (with_reducible refine (C3.out _).mono ?_) | (with_reducible refine (C4.out _).mono ?_)); rintro e w6 ⟨rfl, hT⟩; have F := Lib.hid (F.out.keep hT); clear hT p0 p1 p2 q0 q1 q2 r0 r1 r2 s0 s1 s2; obtain ⟨p0, p1, p2⟩ := F.out.three 0 rfl; obtain ⟨q0, q1, q2⟩ := F.out.three 1 rfl; obtain ⟨r0, r1, r2⟩ := F.out.three 2 rfl; obtain ⟨s0, s1, s2⟩ := F.out.three 3 rfl)
        go_ret
        exact ⟨by rw [HV.out]; rfl, F.out.t⟩
    · go_upto_region 5 with (fail)
      have G1 := Fr.set3 (l1 := [(w.heap.size, .cells #[.int .i64 p.x, .int .i64 p.y, .int .i64 p.z] 27 (0, 0)), (w.heap.size + 1, .cells #[.int .i64 q.x, .int .i64 q.y, .int .i64 q.z] 27 (0, 0))]) (l2 := [(w.heap.size + 1 + 1 + 1, .cells #[.int .i64 s.x, .int .i64 s.y, .int .i64 s.z] 27 (0, 0))]) F.out (by intro q hq; simp only [List.cons_append, List.nil_append, List.mem_cons, List.not_mem_nil, or_false] at hq; rcases hq with rfl | rfl | rfl <;> simp <;> omega) (.int .i64 s.x) (.int .i64 s.y) (.int .i64 s.z)
      have G2 : Fr w _ [(w.heap.size, .cells #[.int .i64 p.x, .int .i64 p.y, .int .i64 p.z] 27 (0, 0)), (w.heap.size + 1, .cells #[.int .i64 q.x, .int .i64 q.y, .int .i64 q.z] 27 (0, 0)), (w.heap.size + 1 + 1, .cells #[.int .i64 s.x, .int .i64 s.y, .int .i64 s.z] 27 (0, 0)), (w.heap.size + 1 + 1 + 1, .cells #[.int .i64 r.x, .int .i64 r.y, .int .i64 r.z] 27 (0, 0))] := Fr.set3 (l1 := [(w.heap.size, .cells #[.int .i64 p.x, .int .i64 p.y, .int .i64 p.z] 27 (0, 0)), (w.heap.size + 1, .cells #[.int .i64 q.x, .int .i64 q.y, .int .i64 q.z] 27 (0, 0)), (w.heap.size + 1 + 1, .cells #[.int .i64 s.x, .int .i64 s.y, .int .i64 s.z] 27 (0, 0))]) (l2 := []) G1 (by intro q hq; simp only [List.cons_append, List.nil_append, List.mem_cons, List.not_mem_nil, or_false] at hq; rcases hq with rfl | rfl | rfl <;> simp <;> omega) (.int .i64 r.x) (.int .i64 r.y) (.int .i64 r.z)
      obtain ⟨V, hV⟩ : ∃ V, V = ((((((w2.setCell ⟨w.heap.size + 1 + 1, 0, none⟩ (.int .i64 s.x)).setCell ⟨w.heap.size + 1 + 1, 1, none⟩ (.int .i64 s.y)).setCell ⟨w.heap.size + 1 + 1, 2, none⟩ (.int .i64 s.z)).setCell ⟨w.heap.size + 1 + 1 + 1, 0, none⟩ (.int .i64 r.x)).setCell ⟨w.heap.size + 1 + 1 + 1, 1, none⟩ (.int .i64 r.y)).setCell ⟨w.heap.size + 1 + 1 + 1, 2, none⟩ (.int .i64 r.z)) := ⟨_, rfl⟩
      rw [← hV] at G2
      have F := Lib.hid G2
      rw [← hV]
      clear G1 G2 hV p0 p1 p2 q0 q1 q2 r0 r1 r2 s0 s1 s2 f0 f1 f2 g0 g1 g2
      have SF := Lib.hid (fun (w4 : World) (h : Fr w w4 [(w.heap.size, .cells #[.int .i64 p.x, .int .i64 p.y, .int .i64 p.z] 27 (0, 0)), (w.heap.size + 1, .cells #[.int .i64 q.x, .int .i64 q.y, .int .i64 q.z] 27 (0, 0)), (w.heap.size + 1 + 1, .cells #[.int .i64 s.x, .int .i64 s.y, .int .i64 s.z] 27 (0, 0)), (w.heap.size + 1 + 1 + 1, .cells #[.int .i64 r.x, .int .i64 r.y, .int .i64 r.z] 27 (0, 0))]) => And.intro (h.three 0 rfl) (And.intro (h.three 1 rfl) (And.intro (h.three 2 rfl) (h.three 3 rfl))))
      have c3 := fun w1 => Less q s w1
      have c4 := fun w1 => Less r p w1
      have hv := HV.out
      simp only [if_true, Bool.false_eq_true, if_false] at hv
      obtain ⟨l3, h3⟩ : ∃ l, l = lessI q s := ⟨_, rfl⟩
      obtain ⟨l4, h4⟩ : ∃ l, l = lessI r p := ⟨_, rfl⟩
      rw [← h3] at c3 hv
      rw [← h4] at c4 hv
      have C3 := Lib.hid c3
      have C4 := Lib.hid c4
      clear HV c3 c4 h3 h4
      have HV := Lib.hid hv
      clear hv
      obtain ⟨p0, p1, p2⟩ := F.out.three 0 rfl; obtain ⟨q0, q1, q2⟩ := F.out.three 1 rfl; obtain ⟨r0, r1, r2⟩ := F.out.three 2 rfl; obtain ⟨s0, s1, s2⟩ := F.out.three 3 rfl
      cases l3
      all_goals
        go_wp2_with (go_at_call 32; (first | (with_reducible refine (C3.out _).mono ?_) | (with_reducible refine (C4.out _).mono ?_)); rintro e w6 ⟨rfl, hT⟩; have F := Lib.hid (F.out.keep hT); clear hT p0 p1 p2 q0 q1 q2 r0 r1 r2 s0 s1 s2; obtain ⟨p0, p1, p2⟩ := F.out.three 0 rfl; obtain ⟨q0, q1, q2⟩ := F.out.three 1 rfl; obtain ⟨r0, r1, r2⟩ := F.out.three 2 rfl; obtain ⟨s0, s1, s2⟩ := F.out.three 3 rfl)
        go_ret
        exact ⟨by rw [HV.out]; rfl, F.out.t⟩
  · obtain ⟨p0, p1, p2⟩ := F.out.three 0 rfl; obtain ⟨q0, q1, q2⟩ := F.out.three 1 rfl; obtain ⟨r0, r1, r2⟩ := F.out.three 2 rfl; obtain ⟨s0, s1, s2⟩ := F.out.three 3 rfl; obtain ⟨f0, f1, f2⟩ := F.out.fro3 0 rfl; obtain ⟨g0, g1, g2⟩ := F.out.fro3 1 rfl
    go_upto_region 3 with (fail)
    have G1 := Fr.set3 (l1 := []) (l2 := [(w.heap.size + 1, .cells #[.int .i64 q.x, .int .i64 q.y, .int .i64 q.z] 27 (0, 0)), (w.heap.size + 1 + 1, .cells #[.int .i64 r.x, .int .i64 r.y, .int .i64 r.z] 27 (0, 0)), (w.heap.size + 1 + 1 + 1, .cells #[.int .i64 s.x, .int .i64 s.y, .int .i64 s.z] 27 (0, 0))]) F.out (by intro q hq; simp only [List.cons_append, List.nil_append, List.mem_cons, List.not_mem_nil, or_false] at hq; rcases hq with rfl | rfl | rfl <;> simp <;> omega) (.int .i64 q.x) (.int .i64 q.y) (.int .i64 q.z)
    have G2 : Fr w _ [(w.heap.size, .cells #[.int .i64 q.x, .int .i64 q.y, .int .i64 q.z] 27 (0, 0)), (w.heap.size + 1, .cells #[.int .i64 p.x, .int .i64 p.y, .int .i64 p.z] 27 (0, 0)), (w.heap.size + 1 + 1, .cells #[.int .i64 r.x, .int .i64 r.y, .int .i64 r.z] 27 (0, 0)), (w.heap.size + 1 + 1 + 1, .cells #[.int .i64 s.x, .int .i64 s.y, .int .i64 s.z] 27 (0, 0))] := Fr.set3 (l1 := [(w.heap.size, .cells #[.int .i64 q.x, .int .i64 q.y, .int .i64 q.z] 27 (0, 0))]) (l2 := [(w.heap.size + 1 + 1, .cells #[.int .i64 r.x, .int .i64 r.y, .int .i64 r.z] 27 (0, 0)), (w.heap.size + 1 + 1 + 1, .cells #[.int .i64 s.x, .int .i64 s.y, .int .i64 s.z] 27 (0, 0))]) G1 (by intro q hq; simp only [List.cons_append, List.nil_append, List.mem_cons, List.not_mem_nil, or_false] at hq; rcases hq with rfl | rfl | rfl <;> simp <;> omega) (.int .i64 p.x) (.int .i64 p.y) (.int .i64 p.z)
    obtain ⟨W, hW⟩ : ∃ W, W = ((((((w1.setCell ⟨w.heap.size, 0, none⟩ (.int .i64 q.x)).setCell ⟨w.heap.size, 1, none⟩ (.int .i64 q.y)).setCell ⟨w.heap.size, 2, none⟩ (.int .i64 q.z)).setCell ⟨w.heap.size + 1, 0, none⟩ (.int .i64 p.x)).setCell ⟨w.heap.size + 1, 1, none⟩ (.int .i64 p.y)).setCell ⟨w.heap.size + 1, 2, none⟩ (.int .i64 p.z)) := ⟨_, rfl⟩
    rw [← hW] at G2
    have F := Lib.hid G2
    rw [← hW]
    clear G1 G2 hW p0 p1 p2 q0 q1 q2 r0 r1 r2 s0 s1 s2 f0 f1 f2 g0 g1 g2
    obtain ⟨r0, r1, r2⟩ := F.out.three 2 rfl; obtain ⟨s0, s1, s2⟩ := F.out.three 3 rfl
    go_wp2_with fail
    refine (C2.out _).mono ?_
    rintro e w2 ⟨rfl, hT⟩
    have F := Lib.hid (F.out.keep hT)
    clear hT C2 r0 r1 r2 s0 s1 s2
    obtain ⟨r0, r1, r2⟩ := F.out.three 2 rfl; obtain ⟨s0, s1, s2⟩ := F.out.three 3 rfl; obtain ⟨f0, f1, f2⟩ := F.out.fro3 2 rfl; obtain ⟨g0, g1, g2⟩ := F.out.fro3 3 rfl
    obtain ⟨p0, p1, p2⟩ := F.out.three 0 rfl; obtain ⟨q0, q1, q2⟩ := F.out.three 1 rfl
    cases l2
    · go_upto_region 5 with (fail)
      obtain ⟨V, rfl⟩ : ∃ V, V = w2 := ⟨_, rfl⟩
      clear p0 p1 p2 q0 q1 q2 r0 r1 r2 s0 s1 s2 f0 f1 f2 g0 g1 g2
      have SF := Lib.hid (fun (w4 : World) (h : Fr w w4 [(w.heap.size, .cells #[.int .i64 q.x, .int .i64 q.y, .int .i64 q.z] 27 (0, 0)), (w.heap.size + 1, .cells #[.int .i64 p.x, .int .i64 p.y, .int .i64 p.z] 27 (0, 0)), (w.heap.size + 1 + 1, .cells #[.int .i64 r.x, .int .i64 r.y, .int .i64 r.z] 27 (0, 0)), (w.heap.size + 1 + 1 + 1, .cells #[.int .i64 s.x, .int .i64 s.y, .int .i64 s.z] 27 (0, 0))]) => And.intro (h.three 0 rfl) (And.intro (h.three 1 rfl) (And.intro (h.three 2 rfl) (h.three 3 rfl))))
      have c3 := fun w1 => Less p r w1
      have c4 := fun w1 => Less s q w1
      have hv := HV.out
      simp only [if_true, Bool.false_eq_true, if_false] at hv
      obtain ⟨l3, h3⟩ : ∃ l, l = lessI p r := ⟨_, rfl⟩
      obtain ⟨l4, h4⟩ : ∃ l, l = lessI s q := ⟨_, rfl⟩
      rw [← h3] at c3 hv
      rw [← h4] at c4 hv
      have C3 := Lib.hid c3
      have C4 := Lib.hid c4
      clear HV c3 c4 h3 h4
      have HV := Lib.hid hv
      clear hv
      obtain ⟨p0, p1, p2⟩ := F.out.three 0 rfl; obtain ⟨q0, q1, q2⟩ := F.out.three 1 rfl; obtain ⟨r0, r1, r2⟩ := F.out.three 2 rfl; obtain ⟨s0, s1, s2⟩ := F.out.three 3 rfl
      cases l3
      all_goals
        go_wp2_with (go_at_call 32; (first | (with_reducible refine (C3.out _).mono ?_) | (with_reducible refine (C4.out _).mono ?_)); rintro e w6 ⟨rfl, hT⟩; have F := Lib.hid (F.out.keep hT); clear hT p0 p1 p2 q0 q1 q2 r0 r1 r2 s0 s1 s2; obtain ⟨p0, p1, p2⟩ := F.out.three 0 rfl; obtain ⟨q0, q1, q2⟩ := F.out.three 1 rfl; obtain ⟨r0, r1, r2⟩ := F.out.three 2 rfl; obtain ⟨s0, s1, s2⟩ := F.out.three 3 rfl)
        go_ret
        exact ⟨by rw [HV.out]; rfl, F.out.t⟩
    · go_upto_region 5 with (fail)
      have G1 := Fr.set3 (l1 := [(w.heap.size, .cells #[.int .i64 q.x, .int .i64 q.y, .int .i64 q.z] 27 (0, 0)), (w.heap.size + 1, .cells #[.int .i64 p.x, .int .i64 p.y, .int .i64 p.z] 27 (0, 0))]) (l2 := [(w.heap.size + 1 + 1 + 1, .cells #[.int .i64 s.x, .int .i64 s.y, .int .i64 s.z] 27 (0, 0))]) F.out (by intro q hq; simp only [List.cons_append, List.nil_append, List.mem_cons, List.not_mem_nil, or_false] at hq; rcases hq with rfl | rfl | rfl <;> simp <;> omega) (.int .i64 s.x) (.int .i64 s.y) (.int .i64 s.z)
      have G2 : Fr w _ [(w.heap.size, .cells #[.int .i64 q.x, .int .i64 q.y, .int .i64 q.z] 27 (0, 0)), (w.heap.size + 1, .cells #[.int .i64 p.x, .int .i64 p.y, .int .i64 p.z] 27 (0, 0)), (w.heap.size + 1 + 1, .cells #[.int .i64 s.x, .int .i64 s.y, .int .i64 s.z] 27 (0, 0)), (w.heap.size + 1 + 1 + 1, .cells #[.int .i64 r.x, .int .i64 r.y, .int .i64 r.z] 27 (0, 0))] := Fr.set3 (l1 := [(w.heap.size, .cells #[.int .i64 q.x, .int .i64 q.y, .int .i64 q.z] 27 (0, 0)), (w.heap.size + 1, .cells #[.int .i64 p.x, .int .i64 p.y, .int .i64 p.z] 27 (0, 0)), (w.heap.size + 1 + 1, .cells #[.int .i64 s.x, .int .i64 s.y, .int .i64 s.z] 27 (0, 0))]) (l2 := []) G1 (by intro q hq; simp only [List.cons_append, List.nil_append, List.mem_cons, List.not_mem_nil, or_false] at hq; rcases hq with rfl | rfl | rfl <;> simp <;> omega) (.int .i64 r.x) (.int .i64 r.y) (.int .i64 r.z)
      obtain ⟨V, hV⟩ : ∃ V, V = ((((((w2.setCell ⟨w.heap.size + 1 + 1, 0, none⟩ (.int .i64 s.x)).setCell ⟨w.heap.size + 1 + 1, 1, none⟩ (.int .i64 s.y)).setCell ⟨w.heap.size + 1 + 1, 2, none⟩ (.int .i64 s.z)).setCell ⟨w.heap.size + 1 + 1 + 1, 0, none⟩ (.int .i64 r.x)).setCell ⟨w.heap.size + 1 + 1 + 1, 1, none⟩ (.int .i64 r.y)).setCell ⟨w.heap.size + 1 + 1 + 1, 2, none⟩ (.int .i64 r.z)) := ⟨_, rfl⟩
      rw [← hV] at G2
      have F := Lib.hid G2
      rw [← hV]
      clear G1 G2 hV p0 p1 p2 q0 q1 q2 r0 r1 r2 s0 s1 s2 f0 f1 f2 g0 g1 g2
      have SF := Lib.hid (fun (w4 : World) (h : Fr w w4 [(w.heap.size, .cells #[.int .i64 q.x, .int .i64 q.y, .int .i64 q.z] 27 (0, 0)), (w.heap.size + 1, .cells #[.int .i64 p.x, .int .i64 p.y, .int .i64 p.z] 27 (0, 0)), (w.heap.size + 1 + 1, .cells #[.int .i64 s.x, .int .i64 s.y, .int .i64 s.z] 27 (0, 0)), (w.heap.size + 1 + 1 + 1, .cells #[.int .i64 r.x, .int .i64 r.y, .int .i64 r.z] 27 (0, 0))]) => And.intro (h.three 0 rfl) (And.intro (h.three 1 rfl) (And.intro (h.three 2 rfl) (h.three 3 rfl))))
      have c3 := fun w1 => Less p s w1
      have c4 := fun w1 => Less r q w1
      have hv := HV.out
      simp only [if_true, Bool.false_eq_true, if_false] at hv
      obtain ⟨l3, h3⟩ : ∃ l, l = lessI p s := ⟨_, rfl⟩
      obtain ⟨l4, h4⟩ : ∃ l, l = lessI r q := ⟨_, rfl⟩
      rw [← h3] at c3 hv
      rw [← h4] at c4 hv
      have C3 := Lib.hid c3
      have C4 := Lib.hid c4
      clear HV c3 c4 h3 h4
      have HV := Lib.hid hv
      clear hv
      obtain ⟨p0, p1, p2⟩ := F.out.three 0 rfl; obtain ⟨q0, q1, q2⟩ := F.out.three 1 rfl; obtain ⟨r0, r1, r2⟩ := F.out.three 2 rfl; obtain ⟨s0, s1, s2⟩ := F.out.three 3 rfl
      cases l3
      all_goals
        go_wp2_with (go_at_call 32; (first | (with_reducible refine (C3.out _).mono ?_) | (with_reducible refine (C4.out _).mono ?_)); rintro e w6 ⟨rfl, hT⟩; have F := Lib.hid (F.out.keep hT); clear hT p0 p1 p2 q0 q1 q2 r0 r1 r2 s0 s1 s2; obtain ⟨p0, p1, p2⟩ := F.out.three 0 rfl; obtain ⟨q0, q1, q2⟩ := F.out.three 1 rfl; obtain ⟨r0, r1, r2⟩ := F.out.three 2 rfl; obtain ⟨s0, s1, s2⟩ := F.out.three 3 rfl)
        go_ret
        exact ⟨by rw [HV.out]; rfl, F.out.t⟩
end

section
open Go Go.RowKit Go.Shelf Dg

/-- Segments have a common point. -/
def segI (p q r s : P3) : Bool := if (detI p q r s).sign = 0 then (if flatI p q r && flatI p q s && flatI r s p && flatI r s q then ovlI p q r s else (!sameI p q r s && !sameI r s p q)) else false

set_option maxHeartbeats 8000000 in
set_option maxRecDepth 100000 in
theorem segmentsMeet (p q r s : P3) (hp : p.Ok) (hq : q.Ok) (hr : r.Ok) (hs : s.Ok) (w : World) :
    Calls Tryz.prog 71 #[(.agg #[.int .i64 p.x, .int .i64 p.y, .int .i64 p.z]), (.agg #[.int .i64 q.x, .int .i64 q.y, .int .i64 q.z]), (.agg #[.int .i64 r.x, .int .i64 r.y, .int .i64 r.z]), (.agg #[.int .i64 s.x, .int .i64 s.y, .int .i64 s.z])] w fun e w' => e = .returned (.bool (segI p q r s)) ∧ Tch [] w w' := by
  have c0 := fun w1 => Orient p q r s hp hq hr hs w1
  have c1 := fun w1 => Flat p q r hp hq hr w1
  have c2 := fun w1 => Flat p q s hp hq hs w1
  have c3 := fun w1 => Flat r s p hr hs hp w1
  have c4 := fun w1 => Flat r s q hr hs hq w1
  have c5 := fun w1 => segmentsOverlap p q r s w1
  have c6 := fun w1 => sameSide p q r s hp hq hr hs w1
  have c7 := fun w1 => sameSide r s p q hr hs hp hq w1
  have hv : segI p q r s = (if (detI p q r s).sign = 0 then (if flatI p q r && flatI p q s && flatI r s p && flatI r s q then ovlI p q r s else (!sameI p q r s && !sameI r s p q)) else false) := rfl
  obtain ⟨o, ho⟩ : ∃ o, o = segI p q r s := ⟨_, rfl⟩
  rw [← ho] at hv ⊢
  obtain ⟨x, g0⟩ : ∃ u, u = (detI p q r s).sign := ⟨_, rfl⟩
  rw [← g0] at c0 hv
  have C0 := Lib.hid c0
  clear c0 g0
  obtain ⟨f1, g1⟩ : ∃ u, u = flatI p q r := ⟨_, rfl⟩
  rw [← g1] at c1 hv
  have C1 := Lib.hid c1
  clear c1 g1
  obtain ⟨f2, g2⟩ : ∃ u, u = flatI p q s := ⟨_, rfl⟩
  rw [← g2] at c2 hv
  have C2 := Lib.hid c2
  clear c2 g2
  obtain ⟨f3, g3⟩ : ∃ u, u = flatI r s p := ⟨_, rfl⟩
  rw [← g3] at c3 hv
  have C3 := Lib.hid c3
  clear c3 g3
  obtain ⟨f4, g4⟩ : ∃ u, u = flatI r s q := ⟨_, rfl⟩
  rw [← g4] at c4 hv
  have C4 := Lib.hid c4
  clear c4 g4
  obtain ⟨v, g5⟩ : ∃ u, u = ovlI p q r s := ⟨_, rfl⟩
  rw [← g5] at c5 hv
  have C5 := Lib.hid c5
  clear c5 g5
  obtain ⟨s1, g6⟩ : ∃ u, u = sameI p q r s := ⟨_, rfl⟩
  rw [← g6] at c6 hv
  have C6 := Lib.hid c6
  clear c6 g6
  obtain ⟨s2, g7⟩ : ∃ u, u = sameI r s p q := ⟨_, rfl⟩
  rw [← g7] at c7 hv
  have C7 := Lib.hid c7
  clear c7 g7
  have HV := Lib.hid hv
  clear hv ho hp hq hr hs
  have F : Hid (Fr w ((((w.alloc (.cells #[.int .i64 p.x, .int .i64 p.y, .int .i64 p.z] 27)).alloc (.cells #[.int .i64 q.x, .int .i64 q.y, .int .i64 q.z] 27)).alloc (.cells #[.int .i64 r.x, .int .i64 r.y, .int .i64 r.z] 27)).alloc (.cells #[.int .i64 s.x, .int .i64 s.y, .int .i64 s.z] 27)) [(w.heap.size, .cells #[.int .i64 p.x, .int .i64 p.y, .int .i64 p.z] 27 (0, 0)), (w.heap.size + 1, .cells #[.int .i64 q.x, .int .i64 q.y, .int .i64 q.z] 27 (0, 0)), (w.heap.size + 1 + 1, .cells #[.int .i64 r.x, .int .i64 r.y, .int .i64 r.z] 27 (0, 0)), (w.heap.size + 1 + 1 + 1, .cells #[.int .i64 s.x, .int .i64 s.y, .int .i64 s.z] 27 (0, 0))]) := Lib.hid (((((Fr.nil w).add (.cells #[.int .i64 p.x, .int .i64 p.y, .int .i64 p.z] 27) (w.heap.size) rfl).add (.cells #[.int .i64 q.x, .int .i64 q.y, .int .i64 q.z] 27) (w.heap.size + 1) (by simp)).add (.cells #[.int .i64 r.x, .int .i64 r.y, .int .i64 r.z] 27) (w.heap.size + 1 + 1) (by simp)).add (.cells #[.int .i64 s.x, .int .i64 s.y, .int .i64 s.z] 27) (w.heap.size + 1 + 1 + 1) (by simp))
  have SF := Lib.hid (fun (w4 : World) (h : Fr w w4 [(w.heap.size, .cells #[.int .i64 p.x, .int .i64 p.y, .int .i64 p.z] 27 (0, 0)), (w.heap.size + 1, .cells #[.int .i64 q.x, .int .i64 q.y, .int .i64 q.z] 27 (0, 0)), (w.heap.size + 1 + 1, .cells #[.int .i64 r.x, .int .i64 r.y, .int .i64 r.z] 27 (0, 0)), (w.heap.size + 1 + 1 + 1, .cells #[.int .i64 s.x, .int .i64 s.y, .int .i64 s.z] 27 (0, 0))]) => And.intro (h.three 0 rfl) (And.intro (h.three 1 rfl) (And.intro (h.three 2 rfl) (h.three 3 rfl))))
  go_enter Tryz.func71, Tryz.ntmps71
  go_wp2_with fail
  refine (C0.out _).mono ?_
  rintro e w1 ⟨rfl, hT⟩
  have F := Lib.hid (F.out.keep hT)
  clear hT C0
  obtain ⟨⟨p0, p1, p2⟩, ⟨q0, q1, q2⟩, ⟨r0, r1, r2⟩, s0, s1', s2'⟩ := SF.out _ F.out
  by_cases hx : x = 0
  · subst hx
    have HV2 : Hid (o = if f1 && f2 && f3 && f4 then v else (!s1 && !s2)) := Lib.hid (by rw [HV.out, if_pos rfl])
    clear HV
    go_upto_region 3 with (fail)
    clear p0 p1 p2 q0 q1 q2 r0 r1 r2 s0 s1' s2'
    go_cut [16] (fun s16 wx => s16 = .bool (f1 && f2 && f3 && f4) ∧ Hid (Fr w wx [(w.heap.size, .cells #[.int .i64 p.x, .int .i64 p.y, .int .i64 p.z] 27 (0, 0)), (w.heap.size + 1, .cells #[.int .i64 q.x, .int .i64 q.y, .int .i64 q.z] 27 (0, 0)), (w.heap.size + 1 + 1, .cells #[.int .i64 r.x, .int .i64 r.y, .int .i64 r.z] 27 (0, 0)), (w.heap.size + 1 + 1 + 1, .cells #[.int .i64 s.x, .int .i64 s.y, .int .i64 s.z] 27 (0, 0))]))
    case first =>
      clear HV2 C5 C6 C7
      have F := F
      obtain ⟨p0, p1, p2⟩ := F.out.three 0 rfl; obtain ⟨q0, q1, q2⟩ := F.out.three 1 rfl; obtain ⟨r0, r1, r2⟩ := F.out.three 2 rfl; obtain ⟨s0, s1', s2'⟩ := F.out.three 3 rfl
      cases f1
      · -- the next ones are not asked
        go_wp2_with (go_at_call 25; (first | (with_reducible refine (C1.out _).mono ?_) | (with_reducible refine (C2.out _).mono ?_) | (with_reducible refine (C3.out _).mono ?_) | (with_reducible refine (C4.out _).mono ?_)); rintro e w6 ⟨rfl, hT⟩; have F := Lib.hid (F.out.keep hT); clear hT p0 p1 p2 q0 q1 q2 r0 r1 r2 s0 s1' s2'; obtain ⟨p0, p1, p2⟩ := F.out.three 0 rfl; obtain ⟨q0, q1, q2⟩ := F.out.three 1 rfl; obtain ⟨r0, r1, r2⟩ := F.out.three 2 rfl; obtain ⟨s0, s1', s2'⟩ := F.out.three 3 rfl)
        go_meet
        exact ⟨rfl, F⟩
      ·
        cases f2
        · -- the next ones are not asked
          go_wp2_with (go_at_call 25; (first | (with_reducible refine (C1.out _).mono ?_) | (with_reducible refine (C2.out _).mono ?_) | (with_reducible refine (C3.out _).mono ?_) | (with_reducible refine (C4.out _).mono ?_)); rintro e w6 ⟨rfl, hT⟩; have F := Lib.hid (F.out.keep hT); clear hT p0 p1 p2 q0 q1 q2 r0 r1 r2 s0 s1' s2'; obtain ⟨p0, p1, p2⟩ := F.out.three 0 rfl; obtain ⟨q0, q1, q2⟩ := F.out.three 1 rfl; obtain ⟨r0, r1, r2⟩ := F.out.three 2 rfl; obtain ⟨s0, s1', s2'⟩ := F.out.three 3 rfl)
          go_meet
          exact ⟨rfl, F⟩
        ·
          cases f3
          · -- the next ones are not asked
            go_wp2_with (go_at_call 25; (first | (with_reducible refine (C1.out _).mono ?_) | (with_reducible refine (C2.out _).mono ?_) | (with_reducible refine (C3.out _).mono ?_) | (with_reducible refine (C4.out _).mono ?_)); rintro e w6 ⟨rfl, hT⟩; have F := Lib.hid (F.out.keep hT); clear hT p0 p1 p2 q0 q1 q2 r0 r1 r2 s0 s1' s2'; obtain ⟨p0, p1, p2⟩ := F.out.three 0 rfl; obtain ⟨q0, q1, q2⟩ := F.out.three 1 rfl; obtain ⟨r0, r1, r2⟩ := F.out.three 2 rfl; obtain ⟨s0, s1', s2'⟩ := F.out.three 3 rfl)
            go_meet
            exact ⟨rfl, F⟩
          ·
            cases f4
            · -- the next ones are not asked
              go_wp2_with (go_at_call 25; (first | (with_reducible refine (C1.out _).mono ?_) | (with_reducible refine (C2.out _).mono ?_) | (with_reducible refine (C3.out _).mono ?_) | (with_reducible refine (C4.out _).mono ?_)); rintro e w6 ⟨rfl, hT⟩; have F := Lib.hid (F.out.keep hT); clear hT p0 p1 p2 q0 q1 q2 r0 r1 r2 s0 s1' s2'; obtain ⟨p0, p1, p2⟩ := F.out.three 0 rfl; obtain ⟨q0, q1, q2⟩ := F.out.three 1 rfl; obtain ⟨r0, r1, r2⟩ := F.out.three 2 rfl; obtain ⟨s0, s1', s2'⟩ := F.out.three 3 rfl)
              go_meet
              exact ⟨rfl, F⟩
            ·
              go_wp2_with (go_at_call 25; (first | (with_reducible refine (C1.out _).mono ?_) | (with_reducible refine (C2.out _).mono ?_) | (with_reducible refine (C3.out _).mono ?_) | (with_reducible refine (C4.out _).mono ?_)); rintro e w6 ⟨rfl, hT⟩; have F := Lib.hid (F.out.keep hT); clear hT p0 p1 p2 q0 q1 q2 r0 r1 r2 s0 s1' s2'; obtain ⟨p0, p1, p2⟩ := F.out.three 0 rfl; obtain ⟨q0, q1, q2⟩ := F.out.three 1 rfl; obtain ⟨r0, r1, r2⟩ := F.out.three 2 rfl; obtain ⟨s0, s1', s2'⟩ := F.out.three 3 rfl)
              go_meet
              exact ⟨rfl, F⟩
    case rest =>
      obtain ⟨rfl, F'⟩ := hcut
      have F := F'
      clear F' C1 C2 C3 C4
      obtain ⟨f, hf⟩ : ∃ f, f = (f1 && f2 && f3 && f4) := ⟨_, rfl⟩
      rw [← hf] at HV2 ⊢
      clear hf
      obtain ⟨⟨p0, p1, p2⟩, ⟨q0, q1, q2⟩, ⟨r0, r1, r2⟩, s0, s1', s2'⟩ := SF.out _ F.out
      cases f
      · cases s1
        all_goals
          go_wp2_with (go_at_call 47; (first | (with_reducible refine (C6.out _).mono ?_) | (with_reducible refine (C7.out _).mono ?_)); rintro e w6 ⟨rfl, hT⟩; have F := Lib.hid (F.out.keep hT); clear hT p0 p1 p2 q0 q1 q2 r0 r1 r2 s0 s1' s2'; obtain ⟨p0, p1, p2⟩ := F.out.three 0 rfl; obtain ⟨q0, q1, q2⟩ := F.out.three 1 rfl; obtain ⟨r0, r1, r2⟩ := F.out.three 2 rfl; obtain ⟨s0, s1', s2'⟩ := F.out.three 3 rfl)
          go_ret
          exact ⟨by rw [HV2.out]; rfl, F.out.t⟩
      · go_wp2_with fail
        refine (C5.out _).mono ?_
        rintro e w5 ⟨rfl, hT⟩
        have F := Lib.hid (F.out.keep hT)
        clear hT p0 p1 p2 q0 q1 q2 r0 r1 r2 s0 s1' s2'
        go_wp2
        go_ret
        exact ⟨by rw [HV2.out]; rfl, F.out.t⟩
  · have HV2 : Hid (o = false) := Lib.hid (by rw [HV.out, if_neg hx])
    have hx2 : (x == 0) = false := beq_eq_false_iff_ne.2 hx
    clear HV
    go_wp2
    go_ret
    exact ⟨by rw [HV2.out]; rfl, F.out.t⟩
end

section
open Go Go.RowKit Go.Shelf Dg

attribute [local go_sem] Oper.semAt_some

/-- A point lies on the outer side of an edge. -/
def covB (a b c p : P3) (x : T3) : Bool := decide ((dotI (nrmI a b c) (nrmI x.a x.b p)).sign < 0)
/-- A triangle that is not flat contains a point of its plane. -/
def covI (a b c p : P3) : Bool := !(turns a b c).any (covB a b c p)

/-- A box of one cell among others is written. -/
theorem Fr.set1 {w0 w : World} {l1 l2 : List (Nat × Obj)} {b : Nat} {T : TypeId} {x : Value} (h : Fr w0 w (l1 ++ (b, .cells #[x] T (0, 0)) :: l2)) (hd : ∀ q ∈ l1 ++ l2, q.1 ≠ b) (x' : Value) :
    Fr w0 (w.setCell ⟨b, 0, none⟩ x') (l1 ++ (b, .cells #[x'] T (0, 0)) :: l2) := by
  have hn : w0.heap.size ≤ b := h.new (b, .cells #[x] T (0, 0)) (by simp)
  refine ⟨fun q hq => ?_, fun q hq => ?_, h.t.setCell (.inr hn) x'⟩
  · by_cases e : q = (b, .cells #[x'] T (0, 0))
    · rw [e]; exact heap_setCell_same w b 0 _ T x' (h.row (b, .cells #[x] T (0, 0)) (by simp))
    · have hq' : q ∈ l1 ++ l2 := by
        simp only [List.mem_append, List.mem_cons] at hq ⊢
        rcases hq with h | h | h
        · exact .inl h
        · exact absurd h e
        · exact .inr h
      have hm : q ∈ l1 ++ (b, .cells #[x] T (0, 0)) :: l2 := by
        simp only [List.mem_append, List.mem_cons] at hq' ⊢
        rcases hq' with h | h
        · exact .inl h
        · exact .inr (.inr h)
      exact (heap_setCell_other w ⟨b, 0, none⟩ q.1 x' (hd q hq')).trans (h.row q hm)
  · simp only [List.mem_append, List.mem_cons] at hq
    rcases hq with g | g | g
    · exact h.new q (by simp [g])
    · rw [g]; exact hn
    · exact h.new q (by simp [g])

set_option maxHeartbeats 4000000 in
set_option maxRecDepth 100000 in
theorem covers (a b c p : P3) (ha : a.Ok) (hb : b.Ok) (hc : c.Ok) (hp : p.Ok) (w : World) :
    Calls Tryz.prog 72 #[.agg #[.int .i64 a.x, .int .i64 a.y, .int .i64 a.z, .int .i64 b.x, .int .i64 b.y, .int .i64 b.z, .int .i64 c.x, .int .i64 c.y, .int .i64 c.z], .agg #[.int .i64 p.x, .int .i64 p.y, .int .i64 p.z]] w fun e w' => e = .returned (.bool (covI a b c p)) ∧ Tch [] w w' := by
  have F0 : Hid (Fr w (((w.alloc (.cells #[.int .i64 a.x, .int .i64 a.y, .int .i64 a.z, .int .i64 b.x, .int .i64 b.y, .int .i64 b.z, .int .i64 c.x, .int .i64 c.y, .int .i64 c.z] 33)).alloc (.cells #[.int .i64 p.x, .int .i64 p.y, .int .i64 p.z] 27)).alloc (.cells #[.bool false] 4)) [(w.heap.size, .cells #[.int .i64 a.x, .int .i64 a.y, .int .i64 a.z, .int .i64 b.x, .int .i64 b.y, .int .i64 b.z, .int .i64 c.x, .int .i64 c.y, .int .i64 c.z] 33 (0, 0)), (w.heap.size + 1, .cells #[.int .i64 p.x, .int .i64 p.y, .int .i64 p.z] 27 (0, 0)), (w.heap.size + 1 + 1, .cells #[.bool false] 4 (0, 0))]) := Lib.hid ((((Fr.nil w).add (.cells #[.int .i64 a.x, .int .i64 a.y, .int .i64 a.z, .int .i64 b.x, .int .i64 b.y, .int .i64 b.z, .int .i64 c.x, .int .i64 c.y, .int .i64 c.z] 33) (w.heap.size) rfl).add (.cells #[.int .i64 p.x, .int .i64 p.y, .int .i64 p.z] 27) (w.heap.size + 1) (by simp)).add (.cells #[.bool false] 4) (w.heap.size + 1 + 1) (by simp))
  refine callsIn_wide (n := 9).1 ?_
  refine callsIn_of_wp_marks Tryz.func72 rfl trivial ?_ rfl
  simp only [Tryz.ntmps72, List.size_toArray, List.length_cons, List.length_nil, Nat.reduceAdd, Nat.reduceSub, Array.replicate_succ, Array.replicate_zero, List.push_toArray, List.append_toArray, List.nil_append, List.cons_append]
  obtain ⟨⟨t0, t1, t2⟩, ⟨t3, t4, t5⟩, t6, t7, t8⟩ := F0.out.nine 0 rfl
  gi_wp2_with (refine ⟨trivial, ?_⟩; gi_at_call 70; refine (callsIn_wide.2 (rotations a b c _)).mono ?_; rintro e w1 ⟨rfl, rfl⟩)
  obtain ⟨Z, hZ⟩ : ∃ Z, Z = (((w.alloc (.cells #[.int .i64 a.x, .int .i64 a.y, .int .i64 a.z, .int .i64 b.x, .int .i64 b.y, .int .i64 b.z, .int .i64 c.x, .int .i64 c.y, .int .i64 c.z] 33)).alloc (.cells #[.int .i64 p.x, .int .i64 p.y, .int .i64 p.z] 27)).alloc (.cells #[.bool false] 4)).alloc (.cells #[.int .i64 a.x, .int .i64 a.y, .int .i64 a.z, .int .i64 b.x, .int .i64 b.y, .int .i64 b.z, .int .i64 c.x, .int .i64 c.y, .int .i64 c.z] 33) := ⟨_, rfl⟩
  have hsz : Z.heap.size = w.heap.size + 4 := by rw [hZ]; simp
  have G0 : Fr w Z [(w.heap.size, .cells #[.int .i64 a.x, .int .i64 a.y, .int .i64 a.z, .int .i64 b.x, .int .i64 b.y, .int .i64 b.z, .int .i64 c.x, .int .i64 c.y, .int .i64 c.z] 33 (0, 0)), (w.heap.size + 1, .cells #[.int .i64 p.x, .int .i64 p.y, .int .i64 p.z] 27 (0, 0)), (w.heap.size + 1 + 1, .cells #[.bool false] 4 (0, 0)), (w.heap.size + 1 + 1 + 1, .cells #[.int .i64 a.x, .int .i64 a.y, .int .i64 a.z, .int .i64 b.x, .int .i64 b.y, .int .i64 b.z, .int .i64 c.x, .int .i64 c.y, .int .i64 c.z] 33 (0, 0))] := by
    have h := F0.out.add (.cells #[.int .i64 a.x, .int .i64 a.y, .int .i64 a.z, .int .i64 b.x, .int .i64 b.y, .int .i64 b.z, .int .i64 c.x, .int .i64 c.y, .int .i64 c.z] 33) (w.heap.size + 1 + 1 + 1) (by simp)
    rw [← hZ] at h
    exact h
  rw [← hZ]
  clear hZ F0 t0 t1 t2 t3 t4 t5 t6 t7 t8
  refine wpIn_rangeFunc_ownH rfl (by omega) (gf := 94) (lb := #[.pointer (some ⟨w.heap.size + 1 + 1 + 1, 0, none⟩)]) rfl trivial (enters_of Tryz.func94 (by kernel_rfl) rfl)
    (rot_stops 8 (by omega) (w.heap.size + 1 + 1 + 1) a b c ha hb hc Z (by omega) (G0.at 3 rfl)) (fun h1 h2 => h2.trans h1) (fun W l o o' hl h _ _ => World.putObj_heap_other (by omega)) (Below.refl _ _) (fun _ => rfl)
    (fun pre W => (∀ y ∈ pre, covB a b c p y.1 = false) ∧ Fr w W [(w.heap.size, .cells #[.int .i64 a.x, .int .i64 a.y, .int .i64 a.z, .int .i64 b.x, .int .i64 b.y, .int .i64 b.z, .int .i64 c.x, .int .i64 c.y, .int .i64 c.z] 33 (0, 0)), (w.heap.size + 1, .cells #[.int .i64 p.x, .int .i64 p.y, .int .i64 p.z] 27 (0, 0)), (w.heap.size + 1 + 1, .cells #[.bool false] 4 (0, 0)), (w.heap.size + 1 + 1 + 1, .cells #[.int .i64 a.x, .int .i64 a.y, .int .i64 a.z, .int .i64 b.x, .int .i64 b.y, .int .i64 b.z, .int .i64 c.x, .int .i64 c.y, .int .i64 c.z] 33 (0, 0))])
    (fun cd pre W => ∃ pre0 x, (cd = .ret ∧ pre = pre0 ++ [x] ∧ covB a b c p x.1 = true) ∧ Fr w W [(w.heap.size, .cells #[.int .i64 a.x, .int .i64 a.y, .int .i64 a.z, .int .i64 b.x, .int .i64 b.y, .int .i64 b.z, .int .i64 c.x, .int .i64 c.y, .int .i64 c.z] 33 (0, 0)), (w.heap.size + 1, .cells #[.int .i64 p.x, .int .i64 p.y, .int .i64 p.z] 27 (0, 0)), (w.heap.size + 1 + 1, .cells #[.bool false] 4 (0, 0)), (w.heap.size + 1 + 1 + 1, .cells #[.int .i64 a.x, .int .i64 a.y, .int .i64 a.z, .int .i64 b.x, .int .i64 b.y, .int .i64 b.z, .int .i64 c.x, .int .i64 c.y, .int .i64 c.z] 33 (0, 0))])
    (OwnFrom.and (ownFrom_pure _ _) (fr_own (fun _ => [(w.heap.size, .cells #[.int .i64 a.x, .int .i64 a.y, .int .i64 a.z, .int .i64 b.x, .int .i64 b.y, .int .i64 b.z, .int .i64 c.x, .int .i64 c.y, .int .i64 c.z] 33 (0, 0)), (w.heap.size + 1, .cells #[.int .i64 p.x, .int .i64 p.y, .int .i64 p.z] 27 (0, 0)), (w.heap.size + 1 + 1, .cells #[.bool false] 4 (0, 0)), (w.heap.size + 1 + 1 + 1, .cells #[.int .i64 a.x, .int .i64 a.y, .int .i64 a.z, .int .i64 b.x, .int .i64 b.y, .int .i64 b.z, .int .i64 c.x, .int .i64 c.y, .int .i64 c.z] 33 (0, 0))]) (fun s q hq => by simp only [List.mem_cons, List.not_mem_nil, or_false] at hq; rcases hq with rfl | rfl | rfl | rfl <;> rfl) (by omega)))
    (fun cd s A B row hs hg hr => by
      obtain ⟨pre0, x, h1, h2⟩ := hs
      exact ⟨pre0, x, h1, fr_own (fun (x : TO) => [(w.heap.size, .cells #[.int .i64 a.x, .int .i64 a.y, .int .i64 a.z, .int .i64 b.x, .int .i64 b.y, .int .i64 b.z, .int .i64 c.x, .int .i64 c.y, .int .i64 c.z] 33 (0, 0)), (w.heap.size + 1, .cells #[.int .i64 p.x, .int .i64 p.y, .int .i64 p.z] 27 (0, 0)), (w.heap.size + 1 + 1, .cells #[.bool false] 4 (0, 0)), (w.heap.size + 1 + 1 + 1, .cells #[.int .i64 a.x, .int .i64 a.y, .int .i64 a.z, .int .i64 b.x, .int .i64 b.y, .int .i64 b.z, .int .i64 c.x, .int .i64 c.y, .int .i64 c.z] 33 (0, 0))]) (fun s q hq => by simp only [List.mem_cons, List.not_mem_nil, or_false] at hq; rcases hq with rfl | rfl | rfl | rfl <;> rfl) (B := Z.heap.size) (by omega) x A B row h2 hg hr⟩)
    ⟨by simp, G0⟩
    (fun x a' W => ∃ Bx, w.heap.size + 3 < Bx ∧ W.heap[Bx]? = some (.cells #[.int .i64 x.1.a.x, .int .i64 x.1.a.y, .int .i64 x.1.a.z, .int .i64 x.1.b.x, .int .i64 x.1.b.y, .int .i64 x.1.b.z, .int .i64 x.1.c.x, .int .i64 x.1.c.y, .int .i64 x.1.c.z] 33 (0, 0)) ∧ a' = { tmps := #[.agg #[.int .i64 a.x, .int .i64 a.y, .int .i64 a.z, .int .i64 b.x, .int .i64 b.y, .int .i64 b.z, .int .i64 c.x, .int .i64 c.y, .int .i64 c.z], .agg #[.int .i64 p.x, .int .i64 p.y, .int .i64 p.z], .pointer (some ⟨w.heap.size, 0, none⟩), .pointer (some ⟨w.heap.size + 1, 0, none⟩), .pointer (some ⟨w.heap.size + 1 + 1, 0, none⟩), .pointer (some ⟨Bx, 0, none⟩), .agg #[.int .i64 a.x, .int .i64 a.y, .int .i64 a.z, .int .i64 b.x, .int .i64 b.y, .int .i64 b.z, .int .i64 c.x, .int .i64 c.y, .int .i64 c.z], .func (.func 94) #[] #[.pointer (some ⟨w.heap.size + 1 + 1 + 1, 0, none⟩)], .agg #[.int .i64 x.1.a.x, .int .i64 x.1.a.y, .int .i64 x.1.a.z, .int .i64 x.1.b.x, .int .i64 x.1.b.y, .int .i64 x.1.b.z, .int .i64 x.1.c.x, .int .i64 x.1.c.y, .int .i64 x.1.c.z], undef, undef, undef, undef, undef, undef, undef, undef, undef], defers := [] })
    (fun x a' _ X Y row hs hg hr => by
      obtain ⟨Bx, e1, e2, e3⟩ := hs
      exact ⟨Bx, e1, (hg.block Bx (Array.getElem?_eq_some_iff.1 e2).1 (fun e => by obtain ⟨_, o, ho, hc⟩ := hr Bx e.symm; rw [e2] at ho; cases ho; cases hc)).trans e2, e3⟩)
    ?assign ?body ?done ?stop
  case assign =>
    rintro l pre ⟨⟨u, v, z⟩, hu, hv, hz⟩ W K ⟨hp', hi⟩ hK
    have HI := Lib.hid hi
    have HP := Lib.hid hp'
    clear hi hp'
    dsimp only [encT]
    gi_wp2
    refine hK _ _ ((KeepsOthers.alloc _ _).from _) ?_ ⟨HP.out, HI.out.beside _⟩ ⟨W.heap.size, ?_, Below.heap_alloc_new' _ _, rfl⟩
    · exact Below.heap_alloc _ _ _ (HI.out.lt 3 rfl)
    · have := HI.out.lt 3 rfl; omega
  case body =>
    rintro l pre ⟨⟨u, v, z⟩, hu, hv, hz⟩ a' W hl - ⟨hp', hi⟩ ⟨Bx, hBx, bX, rfl⟩ -
    have HI := Lib.hid hi
    have HX := Lib.hid bX
    have HP := Lib.hid hp'
    clear hi hp'
    have C1 := Lib.hid (fun w1 => Facing a b c u v p ha hb hc hu hv hp w1)
    have HB : Hid (covB a b c p ⟨u, v, z⟩ = decide ((dotI (nrmI a b c) (nrmI u v p)).sign < 0)) := Lib.hid rfl
    obtain ⟨o, ho⟩ : ∃ o, o = (dotI (nrmI a b c) (nrmI u v p)).sign := ⟨_, rfl⟩
    rw [← ho] at C1 HB
    clear ho
    obtain ⟨⟨a0, a1, a2⟩, ⟨a3, a4, a5⟩, a6, a7, a8⟩ := HI.out.nine 0 rfl
    obtain ⟨p0, p1, p2⟩ := HI.out.three 1 rfl
    obtain ⟨x0, x1, x2, x3, x4, x5, x6, x7, x8⟩ := cells9 bX
    clear bX
    by_cases h : o < 0
    · gi_wp2_with (refine ⟨trivial, ?_⟩; gi_at_call 28; refine (CallsIn.inRound l (callsIn_wide.2 (C1.out _))).mono ?_; rintro e w4 ⟨rfl, hT⟩; have F4 := Lib.hid (HI.out.keep hT); have HT := Lib.hid hT; clear hT a0 a1 a2 a3 a4 a5 a6 a7 a8 p0 p1 p2 x0 x1 x2 x3 x4 x5 x6 x7 x8; have l0 := F4.out.cell 2 0 rfl rfl; have l1 := F4.out.frozen 2 0 rfl)
      exact ⟨(KeepsFrom.of_tch _ HT.out).trans ((KeepsOthers.setCell _ _ _).from _), pre, ⟨⟨u, v, z⟩, hu, hv, hz⟩, ⟨rfl, rfl, by rw [HB.out]; exact decide_eq_true h⟩, Fr.set1 (l1 := [(w.heap.size, .cells #[.int .i64 a.x, .int .i64 a.y, .int .i64 a.z, .int .i64 b.x, .int .i64 b.y, .int .i64 b.z, .int .i64 c.x, .int .i64 c.y, .int .i64 c.z] 33 (0, 0)), (w.heap.size + 1, .cells #[.int .i64 p.x, .int .i64 p.y, .int .i64 p.z] 27 (0, 0))]) (l2 := [(w.heap.size + 1 + 1 + 1, .cells #[.int .i64 a.x, .int .i64 a.y, .int .i64 a.z, .int .i64 b.x, .int .i64 b.y, .int .i64 b.z, .int .i64 c.x, .int .i64 c.y, .int .i64 c.z] 33 (0, 0))]) F4.out (by intro q hq; simp only [List.cons_append, List.nil_append, List.mem_cons, List.not_mem_nil, or_false] at hq; rcases hq with rfl | rfl | rfl <;> simp <;> omega) (.bool false)⟩
    · gi_wp2_with (refine ⟨trivial, ?_⟩; gi_at_call 28; refine (CallsIn.inRound l (callsIn_wide.2 (C1.out _))).mono ?_; rintro e w4 ⟨rfl, hT⟩; have F4 := Lib.hid (HI.out.keep hT); have HT := Lib.hid hT; clear hT a0 a1 a2 a3 a4 a5 a6 a7 a8 p0 p1 p2 x0 x1 x2 x3 x4 x5 x6 x7 x8)
      refine ⟨KeepsFrom.of_tch _ HT.out, (F4.out.at 3 rfl).trans (HI.out.at 3 rfl).symm, fun y hy => ?_, F4.out⟩
      rcases List.mem_append.1 hy with h' | h'
      · exact HP.out y h'
      · rw [List.mem_singleton] at h'; subst h'; exact (by rw [HB.out]; exact decide_eq_false (by omega))
  case done =>
    rintro D ys W hD hys ⟨hp', hi⟩ hK
    have HI := Lib.hid hi
    have HN : Hid ((turns a b c).any (covB a b c p) = false) := Lib.hid (by
      rw [List.any_eq_false]
      intro y hy
      rw [← hys] at hy
      obtain ⟨y', hy', rfl⟩ := List.mem_map.1 hy
      rw [hp' y' hy']; simp)
    have HK := Lib.hid hK
    have HD := Lib.hid hD
    clear hi hK hD hys hp'
    have r0 := HI.out.cell 2 0 rfl rfl
    have f0 := HI.out.frozen 2 0 rfl
    gi_wp2
    have F5 : Fr w _ [(w.heap.size, .cells #[.int .i64 a.x, .int .i64 a.y, .int .i64 a.z, .int .i64 b.x, .int .i64 b.y, .int .i64 b.z, .int .i64 c.x, .int .i64 c.y, .int .i64 c.z] 33 (0, 0)), (w.heap.size + 1, .cells #[.int .i64 p.x, .int .i64 p.y, .int .i64 p.z] 27 (0, 0)), (w.heap.size + 1 + 1, .cells #[.bool true] 4 (0, 0)), (w.heap.size + 1 + 1 + 1, .cells #[.int .i64 a.x, .int .i64 a.y, .int .i64 a.z, .int .i64 b.x, .int .i64 b.y, .int .i64 b.z, .int .i64 c.x, .int .i64 c.y, .int .i64 c.z] 33 (0, 0))] := Fr.set1 (l1 := [(w.heap.size, .cells #[.int .i64 a.x, .int .i64 a.y, .int .i64 a.z, .int .i64 b.x, .int .i64 b.y, .int .i64 b.z, .int .i64 c.x, .int .i64 c.y, .int .i64 c.z] 33 (0, 0)), (w.heap.size + 1, .cells #[.int .i64 p.x, .int .i64 p.y, .int .i64 p.z] 27 (0, 0))]) (l2 := [(w.heap.size + 1 + 1 + 1, .cells #[.int .i64 a.x, .int .i64 a.y, .int .i64 a.z, .int .i64 b.x, .int .i64 b.y, .int .i64 b.z, .int .i64 c.x, .int .i64 c.y, .int .i64 c.z] 33 (0, 0))]) HI.out (by intro q hq; simp only [List.cons_append, List.nil_append, List.mem_cons, List.not_mem_nil, or_false] at hq; rcases hq with rfl | rfl | rfl <;> simp <;> omega) (.bool true)
    have hK5 := (KeepsOthers.setCell W ⟨w.heap.size + 1 + 1, 0, none⟩ (.bool true)).same D _ HK.out rfl
    have F6 := F5.putObj (fun q hq => by simp only [List.mem_cons, List.not_mem_nil, or_false] at hq; rcases hq with rfl | rfl | rfl | rfl <;> rfl) (Nat.le_trans (by omega) HD.out) hK5 (.deferred none)
    have r0 := F6.cell 2 0 rfl rfl
    refine ⟨by simp, .inl ⟨_, _, rfl, run_takeDeferred hK5, ?_⟩⟩
    refine ⟨.bool true, ?_, by rw [show covI a b c p = true from by unfold covI; rw [HN.out]; rfl], F6.t⟩
    clear F5 F6 hK5
    simp [results, Tryz.results72, go_sem, r0]
  case stop =>
    rintro D cd pre W hD hpre ⟨pre0, x, ⟨rfl, rfl, hx⟩, hi⟩ hK
    have HI := Lib.hid hi
    have HN : Hid ((turns a b c).any (covB a b c p) = true) := Lib.hid (by
      rw [List.any_eq_true]
      obtain ⟨t, ht⟩ := hpre
      exact ⟨x.1, by rw [← ht]; simp, hx⟩)
    have HK := Lib.hid hK
    have HD := Lib.hid hD
    clear hi hK hD hx hpre
    gi_wp2
    have F6 := HI.out.putObj (fun q hq => by simp only [List.mem_cons, List.not_mem_nil, or_false] at hq; rcases hq with rfl | rfl | rfl | rfl <;> rfl) (Nat.le_trans (by omega) HD.out) HK.out (.deferred none)
    have r0 := F6.cell 2 0 rfl rfl
    refine ⟨by simp, .inl ⟨_, _, rfl, run_takeDeferred HK.out, ?_⟩⟩
    refine ⟨.bool false, ?_, by rw [show covI a b c p = false from by unfold covI; rw [HN.out]; rfl], F6.t⟩
    clear F6
    simp [results, Tryz.results72, go_sem, r0]
end

section
open Go Go.RowKit Go.Shelf Dg

attribute [local go_sem] Oper.semAt_some

/-- A segment meets an edge. -/
def tipB (p q : P3) (x : T3) : Bool := segI p q x.a x.b
/-- A segment in the plane of a triangle touches it. -/
def tipI (p q a b c : P3) : Bool := (turns a b c).any (tipB p q) || (!flatI a b c && covI a b c p)

set_option maxHeartbeats 4000000 in
set_option maxRecDepth 100000 in
theorem touchInPlane (p q a b c : P3) (hp : p.Ok) (hq : q.Ok) (ha : a.Ok) (hb : b.Ok) (hc : c.Ok) (w : World) :
    Calls Tryz.prog 39 #[.agg #[.int .i64 p.x, .int .i64 p.y, .int .i64 p.z], .agg #[.int .i64 q.x, .int .i64 q.y, .int .i64 q.z], .agg #[.int .i64 a.x, .int .i64 a.y, .int .i64 a.z, .int .i64 b.x, .int .i64 b.y, .int .i64 b.z, .int .i64 c.x, .int .i64 c.y, .int .i64 c.z]] w fun e w' => e = .returned (.bool (tipI p q a b c)) ∧ Tch [] w w' := by
  have F0 : Hid (Fr w ((((w.alloc (.cells #[.int .i64 p.x, .int .i64 p.y, .int .i64 p.z] 27)).alloc (.cells #[.int .i64 q.x, .int .i64 q.y, .int .i64 q.z] 27)).alloc (.cells #[.int .i64 a.x, .int .i64 a.y, .int .i64 a.z, .int .i64 b.x, .int .i64 b.y, .int .i64 b.z, .int .i64 c.x, .int .i64 c.y, .int .i64 c.z] 33)).alloc (.cells #[.bool false] 4)) [(w.heap.size, .cells #[.int .i64 p.x, .int .i64 p.y, .int .i64 p.z] 27 (0, 0)), (w.heap.size + 1, .cells #[.int .i64 q.x, .int .i64 q.y, .int .i64 q.z] 27 (0, 0)), (w.heap.size + 1 + 1, .cells #[.int .i64 a.x, .int .i64 a.y, .int .i64 a.z, .int .i64 b.x, .int .i64 b.y, .int .i64 b.z, .int .i64 c.x, .int .i64 c.y, .int .i64 c.z] 33 (0, 0)), (w.heap.size + 1 + 1 + 1, .cells #[.bool false] 4 (0, 0))]) := Lib.hid (((((Fr.nil w).add (.cells #[.int .i64 p.x, .int .i64 p.y, .int .i64 p.z] 27) (w.heap.size) rfl).add (.cells #[.int .i64 q.x, .int .i64 q.y, .int .i64 q.z] 27) (w.heap.size + 1) (by simp)).add (.cells #[.int .i64 a.x, .int .i64 a.y, .int .i64 a.z, .int .i64 b.x, .int .i64 b.y, .int .i64 b.z, .int .i64 c.x, .int .i64 c.y, .int .i64 c.z] 33) (w.heap.size + 1 + 1) (by simp)).add (.cells #[.bool false] 4) (w.heap.size + 1 + 1 + 1) (by simp))
  refine callsIn_wide (n := 9).1 ?_
  refine callsIn_of_wp_marks Tryz.func39 rfl trivial ?_ rfl
  simp only [Tryz.ntmps39, List.size_toArray, List.length_cons, List.length_nil, Nat.reduceAdd, Nat.reduceSub, Array.replicate_succ, Array.replicate_zero, List.push_toArray, List.append_toArray, List.nil_append, List.cons_append]
  obtain ⟨⟨t0, t1, t2⟩, ⟨t3, t4, t5⟩, t6, t7, t8⟩ := F0.out.nine 2 rfl
  gi_wp2_with (refine ⟨trivial, ?_⟩; gi_at_call 70; refine (callsIn_wide.2 (rotations a b c _)).mono ?_; rintro e w1 ⟨rfl, rfl⟩)
  obtain ⟨Z, hZ⟩ : ∃ Z, Z = ((((w.alloc (.cells #[.int .i64 p.x, .int .i64 p.y, .int .i64 p.z] 27)).alloc (.cells #[.int .i64 q.x, .int .i64 q.y, .int .i64 q.z] 27)).alloc (.cells #[.int .i64 a.x, .int .i64 a.y, .int .i64 a.z, .int .i64 b.x, .int .i64 b.y, .int .i64 b.z, .int .i64 c.x, .int .i64 c.y, .int .i64 c.z] 33)).alloc (.cells #[.bool false] 4)).alloc (.cells #[.int .i64 a.x, .int .i64 a.y, .int .i64 a.z, .int .i64 b.x, .int .i64 b.y, .int .i64 b.z, .int .i64 c.x, .int .i64 c.y, .int .i64 c.z] 33) := ⟨_, rfl⟩
  have hsz : Z.heap.size = w.heap.size + 5 := by rw [hZ]; simp
  have G0 : Fr w Z [(w.heap.size, .cells #[.int .i64 p.x, .int .i64 p.y, .int .i64 p.z] 27 (0, 0)), (w.heap.size + 1, .cells #[.int .i64 q.x, .int .i64 q.y, .int .i64 q.z] 27 (0, 0)), (w.heap.size + 1 + 1, .cells #[.int .i64 a.x, .int .i64 a.y, .int .i64 a.z, .int .i64 b.x, .int .i64 b.y, .int .i64 b.z, .int .i64 c.x, .int .i64 c.y, .int .i64 c.z] 33 (0, 0)), (w.heap.size + 1 + 1 + 1, .cells #[.bool false] 4 (0, 0)), (w.heap.size + 1 + 1 + 1 + 1, .cells #[.int .i64 a.x, .int .i64 a.y, .int .i64 a.z, .int .i64 b.x, .int .i64 b.y, .int .i64 b.z, .int .i64 c.x, .int .i64 c.y, .int .i64 c.z] 33 (0, 0))] := by
    have h := F0.out.add (.cells #[.int .i64 a.x, .int .i64 a.y, .int .i64 a.z, .int .i64 b.x, .int .i64 b.y, .int .i64 b.z, .int .i64 c.x, .int .i64 c.y, .int .i64 c.z] 33) (w.heap.size + 1 + 1 + 1 + 1) (by simp)
    rw [← hZ] at h
    exact h
  rw [← hZ]
  clear hZ F0 t0 t1 t2 t3 t4 t5 t6 t7 t8
  refine wpIn_rangeFunc_ownH rfl (by omega) (gf := 94) (lb := #[.pointer (some ⟨w.heap.size + 1 + 1 + 1 + 1, 0, none⟩)]) rfl trivial (enters_of Tryz.func94 (by kernel_rfl) rfl)
    (rot_stops 8 (by omega) (w.heap.size + 1 + 1 + 1 + 1) a b c ha hb hc Z (by omega) (G0.at 4 rfl)) (fun h1 h2 => h2.trans h1) (fun W l o o' hl h _ _ => World.putObj_heap_other (by omega)) (Below.refl _ _) (fun _ => rfl)
    (fun pre W => (∀ y ∈ pre, tipB p q y.1 = false) ∧ Fr w W [(w.heap.size, .cells #[.int .i64 p.x, .int .i64 p.y, .int .i64 p.z] 27 (0, 0)), (w.heap.size + 1, .cells #[.int .i64 q.x, .int .i64 q.y, .int .i64 q.z] 27 (0, 0)), (w.heap.size + 1 + 1, .cells #[.int .i64 a.x, .int .i64 a.y, .int .i64 a.z, .int .i64 b.x, .int .i64 b.y, .int .i64 b.z, .int .i64 c.x, .int .i64 c.y, .int .i64 c.z] 33 (0, 0)), (w.heap.size + 1 + 1 + 1, .cells #[.bool false] 4 (0, 0)), (w.heap.size + 1 + 1 + 1 + 1, .cells #[.int .i64 a.x, .int .i64 a.y, .int .i64 a.z, .int .i64 b.x, .int .i64 b.y, .int .i64 b.z, .int .i64 c.x, .int .i64 c.y, .int .i64 c.z] 33 (0, 0))])
    (fun cd pre W => ∃ pre0 x, (cd = .ret ∧ pre = pre0 ++ [x] ∧ tipB p q x.1 = true) ∧ Fr w W [(w.heap.size, .cells #[.int .i64 p.x, .int .i64 p.y, .int .i64 p.z] 27 (0, 0)), (w.heap.size + 1, .cells #[.int .i64 q.x, .int .i64 q.y, .int .i64 q.z] 27 (0, 0)), (w.heap.size + 1 + 1, .cells #[.int .i64 a.x, .int .i64 a.y, .int .i64 a.z, .int .i64 b.x, .int .i64 b.y, .int .i64 b.z, .int .i64 c.x, .int .i64 c.y, .int .i64 c.z] 33 (0, 0)), (w.heap.size + 1 + 1 + 1, .cells #[.bool true] 4 (0, 0)), (w.heap.size + 1 + 1 + 1 + 1, .cells #[.int .i64 a.x, .int .i64 a.y, .int .i64 a.z, .int .i64 b.x, .int .i64 b.y, .int .i64 b.z, .int .i64 c.x, .int .i64 c.y, .int .i64 c.z] 33 (0, 0))])
    (OwnFrom.and (ownFrom_pure _ _) (fr_own (fun _ => [(w.heap.size, .cells #[.int .i64 p.x, .int .i64 p.y, .int .i64 p.z] 27 (0, 0)), (w.heap.size + 1, .cells #[.int .i64 q.x, .int .i64 q.y, .int .i64 q.z] 27 (0, 0)), (w.heap.size + 1 + 1, .cells #[.int .i64 a.x, .int .i64 a.y, .int .i64 a.z, .int .i64 b.x, .int .i64 b.y, .int .i64 b.z, .int .i64 c.x, .int .i64 c.y, .int .i64 c.z] 33 (0, 0)), (w.heap.size + 1 + 1 + 1, .cells #[.bool false] 4 (0, 0)), (w.heap.size + 1 + 1 + 1 + 1, .cells #[.int .i64 a.x, .int .i64 a.y, .int .i64 a.z, .int .i64 b.x, .int .i64 b.y, .int .i64 b.z, .int .i64 c.x, .int .i64 c.y, .int .i64 c.z] 33 (0, 0))]) (fun s q hq => by simp only [List.mem_cons, List.not_mem_nil, or_false] at hq; rcases hq with rfl | rfl | rfl | rfl | rfl <;> rfl) (by omega)))
    (fun cd s A B row hs hg hr => by
      obtain ⟨pre0, x, h1, h2⟩ := hs
      exact ⟨pre0, x, h1, fr_own (fun (x : TO) => [(w.heap.size, .cells #[.int .i64 p.x, .int .i64 p.y, .int .i64 p.z] 27 (0, 0)), (w.heap.size + 1, .cells #[.int .i64 q.x, .int .i64 q.y, .int .i64 q.z] 27 (0, 0)), (w.heap.size + 1 + 1, .cells #[.int .i64 a.x, .int .i64 a.y, .int .i64 a.z, .int .i64 b.x, .int .i64 b.y, .int .i64 b.z, .int .i64 c.x, .int .i64 c.y, .int .i64 c.z] 33 (0, 0)), (w.heap.size + 1 + 1 + 1, .cells #[.bool true] 4 (0, 0)), (w.heap.size + 1 + 1 + 1 + 1, .cells #[.int .i64 a.x, .int .i64 a.y, .int .i64 a.z, .int .i64 b.x, .int .i64 b.y, .int .i64 b.z, .int .i64 c.x, .int .i64 c.y, .int .i64 c.z] 33 (0, 0))]) (fun s q hq => by simp only [List.mem_cons, List.not_mem_nil, or_false] at hq; rcases hq with rfl | rfl | rfl | rfl | rfl <;> rfl) (B := Z.heap.size) (by omega) x A B row h2 hg hr⟩)
    ⟨by simp, G0⟩
    (fun x a' W => ∃ Bx, w.heap.size + 4 < Bx ∧ W.heap[Bx]? = some (.cells #[.int .i64 x.1.a.x, .int .i64 x.1.a.y, .int .i64 x.1.a.z, .int .i64 x.1.b.x, .int .i64 x.1.b.y, .int .i64 x.1.b.z, .int .i64 x.1.c.x, .int .i64 x.1.c.y, .int .i64 x.1.c.z] 33 (0, 0)) ∧ a' = { tmps := #[.agg #[.int .i64 p.x, .int .i64 p.y, .int .i64 p.z], .agg #[.int .i64 q.x, .int .i64 q.y, .int .i64 q.z], .agg #[.int .i64 a.x, .int .i64 a.y, .int .i64 a.z, .int .i64 b.x, .int .i64 b.y, .int .i64 b.z, .int .i64 c.x, .int .i64 c.y, .int .i64 c.z], .pointer (some ⟨w.heap.size, 0, none⟩), .pointer (some ⟨w.heap.size + 1, 0, none⟩), .pointer (some ⟨w.heap.size + 1 + 1, 0, none⟩), .pointer (some ⟨w.heap.size + 1 + 1 + 1, 0, none⟩), .pointer (some ⟨Bx, 0, none⟩), .agg #[.int .i64 a.x, .int .i64 a.y, .int .i64 a.z, .int .i64 b.x, .int .i64 b.y, .int .i64 b.z, .int .i64 c.x, .int .i64 c.y, .int .i64 c.z], .func (.func 94) #[] #[.pointer (some ⟨w.heap.size + 1 + 1 + 1 + 1, 0, none⟩)], .agg #[.int .i64 x.1.a.x, .int .i64 x.1.a.y, .int .i64 x.1.a.z, .int .i64 x.1.b.x, .int .i64 x.1.b.y, .int .i64 x.1.b.z, .int .i64 x.1.c.x, .int .i64 x.1.c.y, .int .i64 x.1.c.z], undef, undef, undef, undef, undef, undef, undef, undef, undef, undef, undef, undef, undef, undef, undef], defers := [] })
    (fun x a' _ X Y row hs hg hr => by
      obtain ⟨Bx, e1, e2, e3⟩ := hs
      exact ⟨Bx, e1, (hg.block Bx (Array.getElem?_eq_some_iff.1 e2).1 (fun e => by obtain ⟨_, o, ho, hc⟩ := hr Bx e.symm; rw [e2] at ho; cases ho; cases hc)).trans e2, e3⟩)
    ?assign ?body ?done ?stop
  case assign =>
    rintro l pre ⟨⟨u, v, z⟩, hu, hv, hz⟩ W K ⟨hp', hi⟩ hK
    have HI := Lib.hid hi
    have HP := Lib.hid hp'
    clear hi hp'
    dsimp only [encT]
    gi_wp2
    refine hK _ _ ((KeepsOthers.alloc _ _).from _) ?_ ⟨HP.out, HI.out.beside _⟩ ⟨W.heap.size, ?_, Below.heap_alloc_new' _ _, rfl⟩
    · exact Below.heap_alloc _ _ _ (HI.out.lt 4 rfl)
    · have := HI.out.lt 4 rfl; omega
  case body =>
    rintro l pre ⟨⟨u, v, z⟩, hu, hv, hz⟩ a' W hl - ⟨hp', hi⟩ ⟨Bx, hBx, bX, rfl⟩ -
    have HI := Lib.hid hi
    have HX := Lib.hid bX
    have HP := Lib.hid hp'
    clear hi hp'
    have C1 := Lib.hid (fun w1 => segmentsMeet p q u v hp hq hu hv w1)
    have HB : Hid (tipB p q ⟨u, v, z⟩ = segI p q u v) := Lib.hid rfl
    obtain ⟨o, ho⟩ : ∃ o, o = segI p q u v := ⟨_, rfl⟩
    rw [← ho] at C1 HB
    clear ho
    obtain ⟨p0, p1, p2⟩ := HI.out.three 0 rfl
    obtain ⟨q0, q1, q2⟩ := HI.out.three 1 rfl
    obtain ⟨x0, x1, x2, x3, x4, x5, x6, x7, x8⟩ := cells9 bX
    clear bX
    rcases (show o = true ∨ o = false by cases o <;> simp) with rfl | rfl
    · gi_wp2_with (refine ⟨trivial, ?_⟩; gi_at_call 71; refine (CallsIn.inRound l (callsIn_wide.2 (C1.out _))).mono ?_; rintro e w4 ⟨rfl, hT⟩; have F4 := Lib.hid (HI.out.keep hT); have HT := Lib.hid hT; clear hT p0 p1 p2 q0 q1 q2 x0 x1 x2 x3 x4 x5 x6 x7 x8; have l0 := F4.out.cell 3 0 rfl rfl; have l1 := F4.out.frozen 3 0 rfl)
      exact ⟨(KeepsFrom.of_tch _ HT.out).trans ((KeepsOthers.setCell _ _ _).from _), pre, ⟨⟨u, v, z⟩, hu, hv, hz⟩, ⟨rfl, rfl, HB.out⟩, Fr.set1 (l1 := [(w.heap.size, .cells #[.int .i64 p.x, .int .i64 p.y, .int .i64 p.z] 27 (0, 0)), (w.heap.size + 1, .cells #[.int .i64 q.x, .int .i64 q.y, .int .i64 q.z] 27 (0, 0)), (w.heap.size + 1 + 1, .cells #[.int .i64 a.x, .int .i64 a.y, .int .i64 a.z, .int .i64 b.x, .int .i64 b.y, .int .i64 b.z, .int .i64 c.x, .int .i64 c.y, .int .i64 c.z] 33 (0, 0))]) (l2 := [(w.heap.size + 1 + 1 + 1 + 1, .cells #[.int .i64 a.x, .int .i64 a.y, .int .i64 a.z, .int .i64 b.x, .int .i64 b.y, .int .i64 b.z, .int .i64 c.x, .int .i64 c.y, .int .i64 c.z] 33 (0, 0))]) F4.out (by intro q hq; simp only [List.cons_append, List.nil_append, List.mem_cons, List.not_mem_nil, or_false] at hq; rcases hq with rfl | rfl | rfl | rfl <;> simp <;> omega) (.bool true)⟩
    · gi_wp2_with (refine ⟨trivial, ?_⟩; gi_at_call 71; refine (CallsIn.inRound l (callsIn_wide.2 (C1.out _))).mono ?_; rintro e w4 ⟨rfl, hT⟩; have F4 := Lib.hid (HI.out.keep hT); have HT := Lib.hid hT; clear hT p0 p1 p2 q0 q1 q2 x0 x1 x2 x3 x4 x5 x6 x7 x8)
      refine ⟨KeepsFrom.of_tch _ HT.out, (F4.out.at 4 rfl).trans (HI.out.at 4 rfl).symm, fun y hy => ?_, F4.out⟩
      rcases List.mem_append.1 hy with h' | h'
      · exact HP.out y h'
      · rw [List.mem_singleton] at h'; subst h'; exact HB.out
  case done =>
    rintro D ys W hD hys ⟨hp', hi⟩ hK
    have HI := Lib.hid hi
    have HN : Hid ((turns a b c).any (tipB p q) = false) := Lib.hid (by
      rw [List.any_eq_false]
      intro y hy
      rw [← hys] at hy
      obtain ⟨y', hy', rfl⟩ := List.mem_map.1 hy
      rw [hp' y' hy']; simp)
    have HK := Lib.hid hK
    have HD := Lib.hid hD
    clear hi hK hD hys hp'
    have C2 := Lib.hid (fun w1 => Flat a b c ha hb hc w1)
    have C3 := Lib.hid (fun w1 => covers a b c p ha hb hc hp w1)
    have HV : Hid (tipI p q a b c = (!flatI a b c && covI a b c p)) := Lib.hid (by unfold tipI; rw [HN.out]; rfl)
    obtain ⟨fl, hfl⟩ : ∃ f, f = flatI a b c := ⟨_, rfl⟩
    rw [← hfl] at HV C2
    obtain ⟨cv, hcv⟩ : ∃ f, f = covI a b c p := ⟨_, rfl⟩
    rw [← hcv] at HV C3
    clear hfl hcv
    obtain ⟨⟨t0, t1, t2⟩, ⟨t3, t4, t5⟩, t6, t7, t8⟩ := HI.out.nine 2 rfl
    cases fl
    · gi_wp2_with (refine ⟨trivial, ?_⟩; (first | gi_at_call 25 | gi_at_call 72); (first | (with_reducible refine (callsIn_wide.2 (C2.out _)).mono ?_; clear C2; rintro e w4 ⟨rfl, hT⟩; have HK := Lib.hid ((hT.block D (Array.getElem?_eq_some_iff.1 HK.out).1 (by simp)).trans HK.out); have HI := Lib.hid (HI.out.keep hT); clear hT t0 t1 t2 t3 t4 t5 t6 t7 t8; obtain ⟨⟨t0, t1, t2⟩, ⟨t3, t4, t5⟩, t6, t7, t8⟩ := HI.out.nine 2 rfl; obtain ⟨p0, p1, p2⟩ := HI.out.three 0 rfl) | (with_reducible refine (callsIn_wide.2 (C3.out _)).mono ?_; clear C3; rintro e w5 ⟨rfl, hT⟩; have HK := Lib.hid ((hT.block D (Array.getElem?_eq_some_iff.1 HK.out).1 (by simp)).trans HK.out); have HI := Lib.hid (HI.out.keep hT); clear hT t0 t1 t2 t3 t4 t5 t6 t7 t8 p0 p1 p2; have r0 := HI.out.cell 3 0 rfl rfl; have f0 := HI.out.frozen 3 0 rfl)))
      have F5 : Fr w _ [(w.heap.size, .cells #[.int .i64 p.x, .int .i64 p.y, .int .i64 p.z] 27 (0, 0)), (w.heap.size + 1, .cells #[.int .i64 q.x, .int .i64 q.y, .int .i64 q.z] 27 (0, 0)), (w.heap.size + 1 + 1, .cells #[.int .i64 a.x, .int .i64 a.y, .int .i64 a.z, .int .i64 b.x, .int .i64 b.y, .int .i64 b.z, .int .i64 c.x, .int .i64 c.y, .int .i64 c.z] 33 (0, 0)), (w.heap.size + 1 + 1 + 1, .cells #[.bool cv] 4 (0, 0)), (w.heap.size + 1 + 1 + 1 + 1, .cells #[.int .i64 a.x, .int .i64 a.y, .int .i64 a.z, .int .i64 b.x, .int .i64 b.y, .int .i64 b.z, .int .i64 c.x, .int .i64 c.y, .int .i64 c.z] 33 (0, 0))] := Fr.set1 (l1 := [(w.heap.size, .cells #[.int .i64 p.x, .int .i64 p.y, .int .i64 p.z] 27 (0, 0)), (w.heap.size + 1, .cells #[.int .i64 q.x, .int .i64 q.y, .int .i64 q.z] 27 (0, 0)), (w.heap.size + 1 + 1, .cells #[.int .i64 a.x, .int .i64 a.y, .int .i64 a.z, .int .i64 b.x, .int .i64 b.y, .int .i64 b.z, .int .i64 c.x, .int .i64 c.y, .int .i64 c.z] 33 (0, 0))]) (l2 := [(w.heap.size + 1 + 1 + 1 + 1, .cells #[.int .i64 a.x, .int .i64 a.y, .int .i64 a.z, .int .i64 b.x, .int .i64 b.y, .int .i64 b.z, .int .i64 c.x, .int .i64 c.y, .int .i64 c.z] 33 (0, 0))]) HI.out (by intro q hq; simp only [List.cons_append, List.nil_append, List.mem_cons, List.not_mem_nil, or_false] at hq; rcases hq with rfl | rfl | rfl | rfl <;> simp <;> omega) (.bool cv)
      have hK5 := (KeepsOthers.setCell w5 ⟨w.heap.size + 1 + 1 + 1, 0, none⟩ (.bool cv)).same D _ HK.out rfl
      have F6 := F5.putObj (fun q hq => by simp only [List.mem_cons, List.not_mem_nil, or_false] at hq; rcases hq with rfl | rfl | rfl | rfl | rfl <;> rfl) (Nat.le_trans (by omega) HD.out) hK5 (.deferred none)
      have r0 := F6.cell 3 0 rfl rfl
      refine ⟨by simp, .inl ⟨_, _, rfl, run_takeDeferred hK5, ?_⟩⟩
      refine ⟨.bool cv, ?_, by rw [show tipI p q a b c = cv from HV.out], F6.t⟩
      clear F5 F6 hK5
      simp [results, Tryz.results39, go_sem, r0]
    · gi_wp2_with (refine ⟨trivial, ?_⟩; gi_at_call 25; refine (callsIn_wide.2 (C2.out _)).mono ?_; clear C2; rintro e w4 ⟨rfl, hT⟩; have HK := Lib.hid ((hT.block D (Array.getElem?_eq_some_iff.1 HK.out).1 (by simp)).trans HK.out); have HI := Lib.hid (HI.out.keep hT); clear hT t0 t1 t2 t3 t4 t5 t6 t7 t8; have r0 := HI.out.cell 3 0 rfl rfl; have f0 := HI.out.frozen 3 0 rfl)
      refine ⟨trivial, ?_⟩
      gi_wp2
      have F5 : Fr w _ [(w.heap.size, .cells #[.int .i64 p.x, .int .i64 p.y, .int .i64 p.z] 27 (0, 0)), (w.heap.size + 1, .cells #[.int .i64 q.x, .int .i64 q.y, .int .i64 q.z] 27 (0, 0)), (w.heap.size + 1 + 1, .cells #[.int .i64 a.x, .int .i64 a.y, .int .i64 a.z, .int .i64 b.x, .int .i64 b.y, .int .i64 b.z, .int .i64 c.x, .int .i64 c.y, .int .i64 c.z] 33 (0, 0)), (w.heap.size + 1 + 1 + 1, .cells #[.bool false] 4 (0, 0)), (w.heap.size + 1 + 1 + 1 + 1, .cells #[.int .i64 a.x, .int .i64 a.y, .int .i64 a.z, .int .i64 b.x, .int .i64 b.y, .int .i64 b.z, .int .i64 c.x, .int .i64 c.y, .int .i64 c.z] 33 (0, 0))] := Fr.set1 (l1 := [(w.heap.size, .cells #[.int .i64 p.x, .int .i64 p.y, .int .i64 p.z] 27 (0, 0)), (w.heap.size + 1, .cells #[.int .i64 q.x, .int .i64 q.y, .int .i64 q.z] 27 (0, 0)), (w.heap.size + 1 + 1, .cells #[.int .i64 a.x, .int .i64 a.y, .int .i64 a.z, .int .i64 b.x, .int .i64 b.y, .int .i64 b.z, .int .i64 c.x, .int .i64 c.y, .int .i64 c.z] 33 (0, 0))]) (l2 := [(w.heap.size + 1 + 1 + 1 + 1, .cells #[.int .i64 a.x, .int .i64 a.y, .int .i64 a.z, .int .i64 b.x, .int .i64 b.y, .int .i64 b.z, .int .i64 c.x, .int .i64 c.y, .int .i64 c.z] 33 (0, 0))]) HI.out (by intro q hq; simp only [List.cons_append, List.nil_append, List.mem_cons, List.not_mem_nil, or_false] at hq; rcases hq with rfl | rfl | rfl | rfl <;> simp <;> omega) (.bool false)
      have hK5 := (KeepsOthers.setCell w4 ⟨w.heap.size + 1 + 1 + 1, 0, none⟩ (.bool false)).same D _ HK.out rfl
      have F6 := F5.putObj (fun q hq => by simp only [List.mem_cons, List.not_mem_nil, or_false] at hq; rcases hq with rfl | rfl | rfl | rfl | rfl <;> rfl) (Nat.le_trans (by omega) HD.out) hK5 (.deferred none)
      have r0 := F6.cell 3 0 rfl rfl
      refine ⟨by simp, .inl ⟨_, _, rfl, run_takeDeferred hK5, ?_⟩⟩
      refine ⟨.bool false, ?_, by rw [show tipI p q a b c = false from HV.out], F6.t⟩
      clear F5 F6 hK5
      simp [results, Tryz.results39, go_sem, r0]
  case stop =>
    rintro D cd pre W hD hpre ⟨pre0, x, ⟨rfl, rfl, hx⟩, hi⟩ hK
    have HI := Lib.hid hi
    have HN : Hid ((turns a b c).any (tipB p q) = true) := Lib.hid (by
      rw [List.any_eq_true]
      obtain ⟨t, ht⟩ := hpre
      exact ⟨x.1, by rw [← ht]; simp, hx⟩)
    have HK := Lib.hid hK
    have HD := Lib.hid hD
    clear hi hK hD hx hpre
    gi_wp2
    have F6 := HI.out.putObj (fun q hq => by simp only [List.mem_cons, List.not_mem_nil, or_false] at hq; rcases hq with rfl | rfl | rfl | rfl | rfl <;> rfl) (Nat.le_trans (by omega) HD.out) HK.out (.deferred none)
    have r0 := F6.cell 3 0 rfl rfl
    refine ⟨by simp, .inl ⟨_, _, rfl, run_takeDeferred HK.out, ?_⟩⟩
    refine ⟨.bool true, ?_, by rw [show tipI p q a b c = true from by unfold tipI; rw [HN.out]; rfl], F6.t⟩
    clear F6
    simp [results, Tryz.results39, go_sem, r0]
end

section
open Go Go.RowKit Dg

/-- A segment touches a triangle. -/
def touchI (p q a b c : P3) : Bool := if (detI a b c p).sign = 0 ∧ (detI a b c q).sign = 0 then tipI p q a b c else touchN p q a b c

set_option maxHeartbeats 2000000 in
set_option maxRecDepth 100000 in
theorem Touch (p q a b c : P3) (hp : p.Ok) (hq : q.Ok) (ha : a.Ok) (hb : b.Ok) (hc : c.Ok) (w : World) :
    Calls Tryz.prog 14 #[.agg #[.int .i64 p.x, .int .i64 p.y, .int .i64 p.z], .agg #[.int .i64 q.x, .int .i64 q.y, .int .i64 q.z], .agg #[.int .i64 a.x, .int .i64 a.y, .int .i64 a.z, .int .i64 b.x, .int .i64 b.y, .int .i64 b.z, .int .i64 c.x, .int .i64 c.y, .int .i64 c.z]] w fun e w' => e = .returned (.bool (touchI p q a b c)) ∧ Tch [] w w' := by
  unfold touchI
  by_cases hz : (detI a b c p).sign = 0 ∧ (detI a b c q).sign = 0
  case neg => rw [if_neg hz]; exact TouchN p q a b c hp hq ha hb hc hz w
  rw [if_pos hz]
  have c1 := fun w1 => Orient a b c p ha hb hc hp w1
  have c2 := fun w1 => Orient a b c q ha hb hc hq w1
  have c3 := fun w1 => touchInPlane p q a b c hp hq ha hb hc w1
  rw [hz.1] at c1
  rw [hz.2] at c2
  obtain ⟨t, ht⟩ : ∃ t, t = tipI p q a b c := ⟨_, rfl⟩
  rw [← ht] at c3 ⊢
  have C1 := Lib.hid c1
  have C2 := Lib.hid c2
  have C3 := Lib.hid c3
  clear c1 c2 c3 hz ht hp hq ha hb hc
  have F : Hid (Fr w (((w.alloc (.cells #[.int .i64 p.x, .int .i64 p.y, .int .i64 p.z] 27)).alloc (.cells #[.int .i64 q.x, .int .i64 q.y, .int .i64 q.z] 27)).alloc (.cells #[.int .i64 a.x, .int .i64 a.y, .int .i64 a.z, .int .i64 b.x, .int .i64 b.y, .int .i64 b.z, .int .i64 c.x, .int .i64 c.y, .int .i64 c.z] 33)) [(w.heap.size, .cells #[.int .i64 p.x, .int .i64 p.y, .int .i64 p.z] 27 (0, 0)), (w.heap.size + 1, .cells #[.int .i64 q.x, .int .i64 q.y, .int .i64 q.z] 27 (0, 0)), (w.heap.size + 1 + 1, .cells #[.int .i64 a.x, .int .i64 a.y, .int .i64 a.z, .int .i64 b.x, .int .i64 b.y, .int .i64 b.z, .int .i64 c.x, .int .i64 c.y, .int .i64 c.z] 33 (0, 0))]) := Lib.hid ((((Fr.nil w).add (.cells #[.int .i64 p.x, .int .i64 p.y, .int .i64 p.z] 27) (w.heap.size) rfl).add (.cells #[.int .i64 q.x, .int .i64 q.y, .int .i64 q.z] 27) (w.heap.size + 1) (by simp)).add (.cells #[.int .i64 a.x, .int .i64 a.y, .int .i64 a.z, .int .i64 b.x, .int .i64 b.y, .int .i64 b.z, .int .i64 c.x, .int .i64 c.y, .int .i64 c.z] 33) (w.heap.size + 1 + 1) (by simp))
  have SF := Lib.hid (fun (w4 : World) (h : Fr w w4 [(w.heap.size, .cells #[.int .i64 p.x, .int .i64 p.y, .int .i64 p.z] 27 (0, 0)), (w.heap.size + 1, .cells #[.int .i64 q.x, .int .i64 q.y, .int .i64 q.z] 27 (0, 0)), (w.heap.size + 1 + 1, .cells #[.int .i64 a.x, .int .i64 a.y, .int .i64 a.z, .int .i64 b.x, .int .i64 b.y, .int .i64 b.z, .int .i64 c.x, .int .i64 c.y, .int .i64 c.z] 33 (0, 0))]) => And.intro (h.three 0 rfl) (And.intro (h.three 1 rfl) (h.nine 2 rfl)))
  go_enter Tryz.func14, Tryz.ntmps14
  go_wp2_with fail
  go_region_held3 (fun w4 => (w4.cell? ⟨w.heap.size, 0, none⟩ = some (.int .i64 p.x) ∧ w4.cell? ⟨w.heap.size, 1, none⟩ = some (.int .i64 p.y) ∧ w4.cell? ⟨w.heap.size, 2, none⟩ = some (.int .i64 p.z)) ∧ (w4.cell? ⟨w.heap.size + 1, 0, none⟩ = some (.int .i64 q.x) ∧ w4.cell? ⟨w.heap.size + 1, 1, none⟩ = some (.int .i64 q.y) ∧ w4.cell? ⟨w.heap.size + 1, 2, none⟩ = some (.int .i64 q.z)) ∧ ((w4.cell? ⟨w.heap.size + 1 + 1, 0, none⟩ = some (.int .i64 a.x) ∧ w4.cell? ⟨w.heap.size + 1 + 1, 1, none⟩ = some (.int .i64 a.y) ∧ w4.cell? ⟨w.heap.size + 1 + 1, 2, none⟩ = some (.int .i64 a.z)) ∧ (w4.cell? ⟨w.heap.size + 1 + 1, 3, none⟩ = some (.int .i64 b.x) ∧ w4.cell? ⟨w.heap.size + 1 + 1, 4, none⟩ = some (.int .i64 b.y) ∧ w4.cell? ⟨w.heap.size + 1 + 1, 5, none⟩ = some (.int .i64 b.z)) ∧ w4.cell? ⟨w.heap.size + 1 + 1, 6, none⟩ = some (.int .i64 c.x) ∧ w4.cell? ⟨w.heap.size + 1 + 1, 7, none⟩ = some (.int .i64 c.y) ∧ w4.cell? ⟨w.heap.size + 1 + 1, 8, none⟩ = some (.int .i64 c.z))) (first | with_reducible exact SF.out _ F.out | with_reducible exact SF.out _ F.out.drew) (first
    | (go_at_call 20; (first | (with_reducible refine (C1.out _).mono ?_) | (with_reducible refine (C2.out _).mono ?_)); rintro e w6 ⟨rfl, hT⟩; (first | (with_reducible have F := Lib.hid (F.out.keep hT)) | (have F := Lib.hid (F.out.drew.keep hT))); clear hT)
    | fail)
  all_goals
    obtain ⟨p0, p1, p2⟩ := F.out.three 0 rfl
    obtain ⟨q0, q1, q2⟩ := F.out.three 1 rfl
    obtain ⟨⟨a0, a1, a2⟩, ⟨a3, a4, a5⟩, a6, a7, a8⟩ := F.out.nine 2 rfl
    go_wp2_with (go_at_call 39; refine (C3.out _).mono ?_; rintro e w5 ⟨rfl, hT⟩; have F5 := Lib.hid (F.out.keep hT); clear hT p0 p1 p2 q0 q1 q2 a0 a1 a2 a3 a4 a5 a6 a7 a8)
    go_ret
    exact ⟨rfl, F5.out.t⟩
end

end Go.Proofs.YtandlbacjfdkpaaGreatDoor
