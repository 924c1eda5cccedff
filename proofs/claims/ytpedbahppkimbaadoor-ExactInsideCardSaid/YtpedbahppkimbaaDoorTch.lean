/- exact.Touch, where one of the ends is not in the plane. -/
import Derived.Test.YtpedbahppkimbaaDoorLin
namespace Go.Proofs.YtpedbahppkimbaaDoor
open Go Go.RowKit Dg

/-- A segment of which one end at least is not in the plane of a triangle touches it. -/
def touchN (p q a b c : P3) : Bool := if (detI a b c p).sign = (detI a b c q).sign then false else pierceI p q a b c

set_option maxHeartbeats 2000000 in
set_option maxRecDepth 100000 in
theorem TouchN (p q a b c : P3) (hp : p.Ok) (hq : q.Ok) (ha : a.Ok) (hb : b.Ok) (hc : c.Ok) (hz : ¬ ((detI a b c p).sign = 0 ∧ (detI a b c q).sign = 0)) (w : World) :
    Calls Tryd.prog 9 #[.agg #[.int .i64 p.x, .int .i64 p.y, .int .i64 p.z], .agg #[.int .i64 q.x, .int .i64 q.y, .int .i64 q.z], .agg #[.int .i64 a.x, .int .i64 a.y, .int .i64 a.z, .int .i64 b.x, .int .i64 b.y, .int .i64 b.z, .int .i64 c.x, .int .i64 c.y, .int .i64 c.z]] w fun e w' => e = .returned (.bool (touchN p q a b c)) ∧ Tch [] w w' := by
  have c1 := fun w1 => Orient a b c p ha hb hc hp w1
  have c2 := fun w1 => Orient a b c q ha hb hc hq w1
  have c3 := fun w1 => linePierces p q a b c hp hq ha hb hc w1
  have hv : touchN p q a b c = if (detI a b c p).sign = (detI a b c q).sign then false else pierceI p q a b c := rfl
  obtain ⟨o, ho⟩ : ∃ o, o = touchN p q a b c := ⟨_, rfl⟩
  rw [← ho] at hv ⊢
  obtain ⟨x, hx⟩ : ∃ x, x = (detI a b c p).sign := ⟨_, rfl⟩
  obtain ⟨y, hy⟩ : ∃ y, y = (detI a b c q).sign := ⟨_, rfl⟩
  obtain ⟨t, ht⟩ : ∃ t, t = pierceI p q a b c := ⟨_, rfl⟩
  rw [← hx] at c1 hz hv
  rw [← hy] at c2 hz hv
  rw [← ht] at c3 hv
  have C1 := Lib.hid c1
  have C2 := Lib.hid c2
  have C3 := Lib.hid c3
  have HV := Lib.hid hv
  have HZ := Lib.hid hz
  clear c1 c2 c3 hv hz ho hx hy ht hp hq ha hb hc
  have F : Hid (Fr w (((w.alloc (.cells #[.int .i64 p.x, .int .i64 p.y, .int .i64 p.z] 26)).alloc (.cells #[.int .i64 q.x, .int .i64 q.y, .int .i64 q.z] 26)).alloc (.cells #[.int .i64 a.x, .int .i64 a.y, .int .i64 a.z, .int .i64 b.x, .int .i64 b.y, .int .i64 b.z, .int .i64 c.x, .int .i64 c.y, .int .i64 c.z] 28)) [(w.heap.size, .cells #[.int .i64 p.x, .int .i64 p.y, .int .i64 p.z] 26 (0, 0)), (w.heap.size + 1, .cells #[.int .i64 q.x, .int .i64 q.y, .int .i64 q.z] 26 (0, 0)), (w.heap.size + 1 + 1, .cells #[.int .i64 a.x, .int .i64 a.y, .int .i64 a.z, .int .i64 b.x, .int .i64 b.y, .int .i64 b.z, .int .i64 c.x, .int .i64 c.y, .int .i64 c.z] 28 (0, 0))]) := Lib.hid ((((Fr.nil w).add (.cells #[.int .i64 p.x, .int .i64 p.y, .int .i64 p.z] 26) w.heap.size rfl).add (.cells #[.int .i64 q.x, .int .i64 q.y, .int .i64 q.z] 26) (w.heap.size + 1) (by simp)).add (.cells #[.int .i64 a.x, .int .i64 a.y, .int .i64 a.z, .int .i64 b.x, .int .i64 b.y, .int .i64 b.z, .int .i64 c.x, .int .i64 c.y, .int .i64 c.z] 28) (w.heap.size + 1 + 1) (by simp))
  have SF := Lib.hid (fun (w4 : World) (h : Fr w w4 [(w.heap.size, .cells #[.int .i64 p.x, .int .i64 p.y, .int .i64 p.z] 26 (0, 0)), (w.heap.size + 1, .cells #[.int .i64 q.x, .int .i64 q.y, .int .i64 q.z] 26 (0, 0)), (w.heap.size + 1 + 1, .cells #[.int .i64 a.x, .int .i64 a.y, .int .i64 a.z, .int .i64 b.x, .int .i64 b.y, .int .i64 b.z, .int .i64 c.x, .int .i64 c.y, .int .i64 c.z] 28 (0, 0))]) => And.intro (h.three 0 rfl) (And.intro (h.three 1 rfl) (h.nine 2 rfl)))
  go_enter Tryd.func9, Tryd.ntmps9
  go_wp2_with fail
  go_region_held3 (fun w4 => (w4.cell? ⟨w.heap.size, 0, none⟩ = some (.int .i64 p.x) ∧ w4.cell? ⟨w.heap.size, 1, none⟩ = some (.int .i64 p.y) ∧ w4.cell? ⟨w.heap.size, 2, none⟩ = some (.int .i64 p.z)) ∧ (w4.cell? ⟨w.heap.size + 1, 0, none⟩ = some (.int .i64 q.x) ∧ w4.cell? ⟨w.heap.size + 1, 1, none⟩ = some (.int .i64 q.y) ∧ w4.cell? ⟨w.heap.size + 1, 2, none⟩ = some (.int .i64 q.z)) ∧ ((w4.cell? ⟨w.heap.size + 1 + 1, 0, none⟩ = some (.int .i64 a.x) ∧ w4.cell? ⟨w.heap.size + 1 + 1, 1, none⟩ = some (.int .i64 a.y) ∧ w4.cell? ⟨w.heap.size + 1 + 1, 2, none⟩ = some (.int .i64 a.z)) ∧ (w4.cell? ⟨w.heap.size + 1 + 1, 3, none⟩ = some (.int .i64 b.x) ∧ w4.cell? ⟨w.heap.size + 1 + 1, 4, none⟩ = some (.int .i64 b.y) ∧ w4.cell? ⟨w.heap.size + 1 + 1, 5, none⟩ = some (.int .i64 b.z)) ∧ w4.cell? ⟨w.heap.size + 1 + 1, 6, none⟩ = some (.int .i64 c.x) ∧ w4.cell? ⟨w.heap.size + 1 + 1, 7, none⟩ = some (.int .i64 c.y) ∧ w4.cell? ⟨w.heap.size + 1 + 1, 8, none⟩ = some (.int .i64 c.z))) (first | with_reducible exact SF.out _ F.out | with_reducible exact SF.out _ F.out.drew) (first
    | (go_at_call 8; (first | (with_reducible refine (C1.out _).mono ?_) | (with_reducible refine (C2.out _).mono ?_)); rintro e w4 ⟨rfl, hT⟩; (first | (with_reducible have F := Lib.hid (F.out.keep hT)) | (have F := Lib.hid (F.out.drew.keep hT))); clear hT))
  all_goals
    obtain ⟨p0, p1, p2⟩ := F.out.three 0 rfl
    obtain ⟨q0, q1, q2⟩ := F.out.three 1 rfl
    obtain ⟨⟨a0, a1, a2⟩, ⟨a3, a4, a5⟩, a6, a7, a8⟩ := F.out.nine 2 rfl
    by_cases h : x = y
    · have HV2 : Hid (o = false) := Lib.hid (by rw [HV.out, if_pos h])
      subst h
      have h0 : (x == 0) = false := beq_eq_false_iff_ne.2 (fun e => HZ.out ⟨e, e⟩)
      clear HV HZ
      go_wp2
      go_ret
      exact ⟨by rw [HV2.out]; rfl, F.out.t⟩
    · have HV2 : Hid (o = t) := Lib.hid (by rw [HV.out, if_neg h])
      have h1 : (x == y) = false := beq_eq_false_iff_ne.2 h
      have h0 : (x == 0 && y == 0) = false := by
        by_cases e : x = 0
        · by_cases e2 : y = 0
          · exact absurd ⟨e, e2⟩ HZ.out
          · rw [beq_eq_false_iff_ne.2 e2, Bool.and_false]
        · rw [beq_eq_false_iff_ne.2 e, Bool.false_and]
      by_cases hx0 : x = 0
      · have hy0 : (y == 0) = false := beq_eq_false_iff_ne.2 (fun e => HZ.out ⟨hx0, e⟩)
        subst hx0
        clear h h0 HZ HV
        go_wp2_with (go_at_call 24; refine (C3.out _).mono ?_; rintro e w5 ⟨rfl, hT⟩; have F5 := Lib.hid (F.out.keep hT); clear hT p0 p1 p2 q0 q1 q2 a0 a1 a2 a3 a4 a5 a6 a7 a8)
        go_ret
        exact ⟨by rw [HV2.out]; rfl, F5.out.t⟩
      · have hx1 : (x == 0) = false := beq_eq_false_iff_ne.2 hx0
        clear h h0 HZ HV hx0
        go_wp2_with (go_at_call 24; refine (C3.out _).mono ?_; rintro e w5 ⟨rfl, hT⟩; have F5 := Lib.hid (F.out.keep hT); clear hT p0 p1 p2 q0 q1 q2 a0 a1 a2 a3 a4 a5 a6 a7 a8)
        go_ret
        exact ⟨by rw [HV2.out]; rfl, F5.out.t⟩

end Go.Proofs.YtpedbahppkimbaaDoor
