/- exact.Meet of triangles with one or two common corners that come first in both. -/
import Derived.Test.YtandlbacjfdkpaaGreatDoorLin
import Derived.Test.YtandlbacjfdkpaaGreatDoorCf
import Derived.Test.YtandlbacjfdkpaaGreatDoorNrm
import Derived.Test.YtandlbacjfdkpaaGreatDoorSide
import Derived.Test.YtandlbacjfdkpaaGreatDoorRFrom
import Derived.Deep.RegionHeld3
namespace Go.Proofs.YtandlbacjfdkpaaGreatDoor
open Go Go.RowKit Dg

theorem Fr.self {w0 w : World} {l : List (Nat × Obj)} (h : Fr w0 w l) (i j : Nat) {b : Nat} {vs : Array Value} {T : TypeId} {v : Value} (hi : l[i]? = some (b, .cells vs T (0, 0))) (hv : vs.setIfInBounds j v = vs) : Fr w0 (w.setCell ⟨b, j, none⟩ v) l := by
  have hb := h.at i hi
  refine ⟨fun q hq => ?_, h.new, h.t.setCell (.inr (h.new _ (List.mem_of_getElem? hi))) v⟩
  by_cases e : q.1 = b
  · have h2 := heap_setCell_same w b j _ T v hb
    rw [hv] at h2
    have h3 := h.row q hq
    rw [e] at h3 ⊢
    rw [h2, ← hb, h3]
  · exact (heap_setCell_other w ⟨b, j, none⟩ q.1 v e).trans (h.row q hq)
theorem Fr.self9 {w0 w : World} {l : List (Nat × Obj)} (h : Fr w0 w l) (i : Nat) {b : Nat} {T : TypeId} {q0 q1 q2 q3 q4 q5 q6 q7 q8 : Value} (hi : l[i]? = some (b, .cells #[q0, q1, q2, q3, q4, q5, q6, q7, q8] T (0, 0))) :
    Fr w0 (((((((((w.setCell ⟨b, 0, none⟩ q0).setCell ⟨b, 1, none⟩ q1).setCell ⟨b, 2, none⟩ q2).setCell ⟨b, 3, none⟩ q3).setCell ⟨b, 4, none⟩ q4).setCell ⟨b, 5, none⟩ q5).setCell ⟨b, 6, none⟩ q6).setCell ⟨b, 7, none⟩ q7).setCell ⟨b, 8, none⟩ q8) l :=
  ((((((((h.self i 0 hi rfl).self i 1 hi rfl).self i 2 hi rfl).self i 3 hi rfl).self i 4 hi rfl).self i 5 hi rfl).self i 6 hi rfl).self i 7 hi rfl).self i 8 hi rfl

/-- What is asked of two triangles here. -/
structure Met (a b c p q r : P3) : Prop where
  oa : a.Ok
  ob : b.Ok
  oc : c.Ok
  op : p.Ok
  oq : q.Ok
  or : r.Ok
  fs : flatI a b c = false
  ft : flatI p q r = false
  cs : cfI a b c p q r = ⟨a, b, c⟩
  ct : cfI p q r a b c = ⟨p, q, r⟩

set_option maxHeartbeats 4000000 in
set_option maxRecDepth 100000 in
theorem MeetOne (a b c p q r : P3) (H : Met a b c p q r) (hk : comI a b c p q r = 1) (hz1 : ¬ ((detI p q r b).sign = 0 ∧ (detI p q r c).sign = 0)) (hz2 : ¬ ((detI a b c q).sign = 0 ∧ (detI a b c r).sign = 0)) (w : World) :
    Calls Tryz.prog 16 #[.agg #[.int .i64 a.x, .int .i64 a.y, .int .i64 a.z, .int .i64 b.x, .int .i64 b.y, .int .i64 b.z, .int .i64 c.x, .int .i64 c.y, .int .i64 c.z], .agg #[.int .i64 p.x, .int .i64 p.y, .int .i64 p.z, .int .i64 q.x, .int .i64 q.y, .int .i64 q.z, .int .i64 r.x, .int .i64 r.y, .int .i64 r.z]] w fun e w' => e = .returned (.bool (touchN b c p q r || touchN q r a b c)) ∧ Tch [] w w' := by
  have c1 := fun w1 => commonCorners a b c p q r w1
  have c2 := fun w1 => Flat a b c H.oa H.ob H.oc w1
  have c3 := fun w1 => Flat p q r H.op H.oq H.or w1
  have c4 := fun w1 => commonFirst a b c p q r H.oa H.ob H.oc w1
  have c5 := fun w1 => commonFirst p q r a b c H.op H.oq H.or w1
  have c6 := fun w1 => TouchN b c p q r H.ob H.oc H.op H.oq H.or hz1 w1
  have c7 := fun w1 => TouchN q r a b c H.oq H.or H.oa H.ob H.oc hz2 w1
  rw [hk] at c1
  rw [H.fs] at c2
  rw [H.ft] at c3
  rw [H.cs] at c4
  rw [H.ct] at c5
  obtain ⟨x, hx⟩ : ∃ x, x = touchN b c p q r := ⟨_, rfl⟩
  obtain ⟨y, hy⟩ : ∃ y, y = touchN q r a b c := ⟨_, rfl⟩
  rw [← hx] at c6 ⊢
  rw [← hy] at c7 ⊢
  dsimp only at c4 c5
  have C1 := Lib.hid c1
  have C2 := Lib.hid c2
  have C3 := Lib.hid c3
  have C4 := Lib.hid c4
  have C5 := Lib.hid c5
  have C6 := Lib.hid c6
  have C7 := Lib.hid c7
  clear c1 c2 c3 c4 c5 c6 c7 H hk hz1 hz2 hx hy
  have F : Hid (Fr w ((w.alloc (.cells #[.int .i64 a.x, .int .i64 a.y, .int .i64 a.z, .int .i64 b.x, .int .i64 b.y, .int .i64 b.z, .int .i64 c.x, .int .i64 c.y, .int .i64 c.z] 33)).alloc (.cells #[.int .i64 p.x, .int .i64 p.y, .int .i64 p.z, .int .i64 q.x, .int .i64 q.y, .int .i64 q.z, .int .i64 r.x, .int .i64 r.y, .int .i64 r.z] 33)) [(w.heap.size, .cells #[.int .i64 a.x, .int .i64 a.y, .int .i64 a.z, .int .i64 b.x, .int .i64 b.y, .int .i64 b.z, .int .i64 c.x, .int .i64 c.y, .int .i64 c.z] 33 (0, 0)), (w.heap.size + 1, .cells #[.int .i64 p.x, .int .i64 p.y, .int .i64 p.z, .int .i64 q.x, .int .i64 q.y, .int .i64 q.z, .int .i64 r.x, .int .i64 r.y, .int .i64 r.z] 33 (0, 0))]) := Lib.hid (((Fr.nil w).add (.cells #[.int .i64 a.x, .int .i64 a.y, .int .i64 a.z, .int .i64 b.x, .int .i64 b.y, .int .i64 b.z, .int .i64 c.x, .int .i64 c.y, .int .i64 c.z] 33) w.heap.size rfl).add (.cells #[.int .i64 p.x, .int .i64 p.y, .int .i64 p.z, .int .i64 q.x, .int .i64 q.y, .int .i64 q.z, .int .i64 r.x, .int .i64 r.y, .int .i64 r.z] 33) (w.heap.size + 1) (by simp))
  have SF := Lib.hid (fun (w4 : World) (h : Fr w w4 [(w.heap.size, .cells #[.int .i64 a.x, .int .i64 a.y, .int .i64 a.z, .int .i64 b.x, .int .i64 b.y, .int .i64 b.z, .int .i64 c.x, .int .i64 c.y, .int .i64 c.z] 33 (0, 0)), (w.heap.size + 1, .cells #[.int .i64 p.x, .int .i64 p.y, .int .i64 p.z, .int .i64 q.x, .int .i64 q.y, .int .i64 q.z, .int .i64 r.x, .int .i64 r.y, .int .i64 r.z] 33 (0, 0))]) => And.intro (h.nine 0 rfl) (h.nine 1 rfl))
  have S0 := Lib.hid (fun (w4 : World) (h : Fr w w4 [(w.heap.size, .cells #[.int .i64 a.x, .int .i64 a.y, .int .i64 a.z, .int .i64 b.x, .int .i64 b.y, .int .i64 b.z, .int .i64 c.x, .int .i64 c.y, .int .i64 c.z] 33 (0, 0)), (w.heap.size + 1, .cells #[.int .i64 p.x, .int .i64 p.y, .int .i64 p.z, .int .i64 q.x, .int .i64 q.y, .int .i64 q.z, .int .i64 r.x, .int .i64 r.y, .int .i64 r.z] 33 (0, 0))]) => And.intro ((h.self9 0 rfl).nine 0 rfl) ((h.self9 0 rfl).nine 1 rfl))
  have S1 := Lib.hid (fun (w4 : World) (h : Fr w w4 [(w.heap.size, .cells #[.int .i64 a.x, .int .i64 a.y, .int .i64 a.z, .int .i64 b.x, .int .i64 b.y, .int .i64 b.z, .int .i64 c.x, .int .i64 c.y, .int .i64 c.z] 33 (0, 0)), (w.heap.size + 1, .cells #[.int .i64 p.x, .int .i64 p.y, .int .i64 p.z, .int .i64 q.x, .int .i64 q.y, .int .i64 q.z, .int .i64 r.x, .int .i64 r.y, .int .i64 r.z] 33 (0, 0))]) => And.intro (((h.self9 0 rfl).self9 1 rfl).nine 0 rfl) (((h.self9 0 rfl).self9 1 rfl).nine 1 rfl))
  have SZ := Lib.hid (fun (w4 : World) (h : Fr w w4 [(w.heap.size, .cells #[.int .i64 a.x, .int .i64 a.y, .int .i64 a.z, .int .i64 b.x, .int .i64 b.y, .int .i64 b.z, .int .i64 c.x, .int .i64 c.y, .int .i64 c.z] 33 (0, 0)), (w.heap.size + 1, .cells #[.int .i64 p.x, .int .i64 p.y, .int .i64 p.z, .int .i64 q.x, .int .i64 q.y, .int .i64 q.z, .int .i64 r.x, .int .i64 r.y, .int .i64 r.z] 33 (0, 0))]) => And.intro (h.fro9 0 rfl) (h.fro9 1 rfl))
  go_enter Tryz.func16, Tryz.ntmps16
  obtain ⟨⟨a0, a1, a2⟩, ⟨a3, a4, a5⟩, a6, a7, a8⟩ := F.out.nine 0 rfl
  obtain ⟨⟨b0, b1, b2⟩, ⟨b3, b4, b5⟩, b6, b7, b8⟩ := F.out.nine 1 rfl
  go_wp2_with fail
  refine (C1.out _).mono ?_
  rintro e w1 ⟨rfl, hT⟩
  have F1 := Lib.hid (F.out.keep hT)
  clear hT F a0 a1 a2 a3 a4 a5 a6 a7 a8 b0 b1 b2 b3 b4 b5 b6 b7 b8
  obtain ⟨⟨a0, a1, a2⟩, ⟨a3, a4, a5⟩, a6, a7, a8⟩ := F1.out.nine 0 rfl
  obtain ⟨⟨b0, b1, b2⟩, ⟨b3, b4, b5⟩, b6, b7, b8⟩ := F1.out.nine 1 rfl
  go_wp2_with fail
  refine (C2.out _).mono ?_
  rintro e w2 ⟨rfl, hT⟩
  have F2 := Lib.hid (F1.out.keep hT)
  clear hT F1 a0 a1 a2 a3 a4 a5 a6 a7 a8 b0 b1 b2 b3 b4 b5 b6 b7 b8
  obtain ⟨⟨b0, b1, b2⟩, ⟨b3, b4, b5⟩, b6, b7, b8⟩ := F2.out.nine 1 rfl
  go_wp2_with fail
  refine (C3.out _).mono ?_
  rintro e w3 ⟨rfl, hT⟩
  have F := Lib.hid (F2.out.keep hT)
  clear hT F2 b0 b1 b2 b3 b4 b5 b6 b7 b8
  go_wp2_with fail
  go_region_held3 (fun w4 => ((w4.cell? ⟨w.heap.size, 0, none⟩ = some (.int .i64 a.x) ∧ w4.cell? ⟨w.heap.size, 1, none⟩ = some (.int .i64 a.y) ∧ w4.cell? ⟨w.heap.size, 2, none⟩ = some (.int .i64 a.z)) ∧ (w4.cell? ⟨w.heap.size, 3, none⟩ = some (.int .i64 b.x) ∧ w4.cell? ⟨w.heap.size, 4, none⟩ = some (.int .i64 b.y) ∧ w4.cell? ⟨w.heap.size, 5, none⟩ = some (.int .i64 b.z)) ∧ w4.cell? ⟨w.heap.size, 6, none⟩ = some (.int .i64 c.x) ∧ w4.cell? ⟨w.heap.size, 7, none⟩ = some (.int .i64 c.y) ∧ w4.cell? ⟨w.heap.size, 8, none⟩ = some (.int .i64 c.z)) ∧ ((w4.cell? ⟨w.heap.size + 1, 0, none⟩ = some (.int .i64 p.x) ∧ w4.cell? ⟨w.heap.size + 1, 1, none⟩ = some (.int .i64 p.y) ∧ w4.cell? ⟨w.heap.size + 1, 2, none⟩ = some (.int .i64 p.z)) ∧ (w4.cell? ⟨w.heap.size + 1, 3, none⟩ = some (.int .i64 q.x) ∧ w4.cell? ⟨w.heap.size + 1, 4, none⟩ = some (.int .i64 q.y) ∧ w4.cell? ⟨w.heap.size + 1, 5, none⟩ = some (.int .i64 q.z)) ∧ w4.cell? ⟨w.heap.size + 1, 6, none⟩ = some (.int .i64 r.x) ∧ w4.cell? ⟨w.heap.size + 1, 7, none⟩ = some (.int .i64 r.y) ∧ w4.cell? ⟨w.heap.size + 1, 8, none⟩ = some (.int .i64 r.z))) (first | with_reducible exact SF.out _ F.out | with_reducible exact SF.out _ F.out.drew | with_reducible exact S0.out _ F.out | with_reducible exact S1.out _ F.out) (first
    | (go_at_call 46; (first | (with_reducible refine (C4.out _).mono ?_) | (with_reducible refine (C5.out _).mono ?_)); rintro e w4 ⟨rfl, hT⟩; (first | (with_reducible have F := Lib.hid (F.out.keep hT)) | (have F := Lib.hid (F.out.drew.keep hT))); clear hT; obtain ⟨⟨g0, g1, g2, g3, g4, g5, g6, g7, g8⟩, k0, k1, k2, k3, k4, k5, k6, k7, k8⟩ := SZ.out _ F.out))
  all_goals
    obtain ⟨w5, hw5, F5'⟩ : ∃ w5, w5 = _ ∧ Fr w w5 [(w.heap.size, .cells #[.int .i64 a.x, .int .i64 a.y, .int .i64 a.z, .int .i64 b.x, .int .i64 b.y, .int .i64 b.z, .int .i64 c.x, .int .i64 c.y, .int .i64 c.z] 33 (0, 0)), (w.heap.size + 1, .cells #[.int .i64 p.x, .int .i64 p.y, .int .i64 p.z, .int .i64 q.x, .int .i64 q.y, .int .i64 q.z, .int .i64 r.x, .int .i64 r.y, .int .i64 r.z] 33 (0, 0))] := ⟨_, rfl, (F.out.self9 0 rfl).self9 1 rfl⟩
    rw [← hw5]
    have F5 := Lib.hid F5'
    clear hw5 F5' F g0 g1 g2 g3 g4 g5 g6 g7 g8 k0 k1 k2 k3 k4 k5 k6 k7 k8 C1 C2 C3 C4 C5 SF S0 S1 SZ
    obtain ⟨⟨a0, a1, a2⟩, ⟨a3, a4, a5⟩, a6, a7, a8⟩ := F5.out.nine 0 rfl
    obtain ⟨⟨b0, b1, b2⟩, ⟨b3, b4, b5⟩, b6, b7, b8⟩ := F5.out.nine 1 rfl
    cases x
    · go_wp2_with (go_at_call 14; (first | (with_reducible refine (C6.out _).mono ?_; clear C6; rintro e w6 ⟨rfl, hT⟩; have F6 := Lib.hid (F5.out.keep hT); clear hT a0 a1 a2 a3 a4 a5 a6 a7 a8 b0 b1 b2 b3 b4 b5 b6 b7 b8; obtain ⟨⟨a0, a1, a2⟩, ⟨a3, a4, a5⟩, a6, a7, a8⟩ := F6.out.nine 0 rfl; obtain ⟨⟨b0, b1, b2⟩, ⟨b3, b4, b5⟩, b6, b7, b8⟩ := F6.out.nine 1 rfl) | (with_reducible refine (C7.out _).mono ?_; clear C7; rintro e w7 ⟨rfl, hT⟩; have F7 := Lib.hid (F6.out.keep hT); clear hT a0 a1 a2 a3 a4 a5 a6 a7 a8 b0 b1 b2 b3 b4 b5 b6 b7 b8)))
      go_ret
      exact ⟨rfl, F7.out.t⟩
    · go_wp2_with (go_at_call 14; (with_reducible refine (C6.out _).mono ?_; clear C6; rintro e w6 ⟨rfl, hT⟩; have F6 := Lib.hid (F5.out.keep hT); clear hT a0 a1 a2 a3 a4 a5 a6 a7 a8 b0 b1 b2 b3 b4 b5 b6 b7 b8))
      go_ret
      exact ⟨rfl, F6.out.t⟩

set_option maxHeartbeats 4000000 in
set_option maxRecDepth 100000 in
theorem MeetTwo (a b c p q r : P3) (H : Met a b c p q r) (hk : comI a b c p q r = 2) (w : World) :
    Calls Tryz.prog 16 #[.agg #[.int .i64 a.x, .int .i64 a.y, .int .i64 a.z, .int .i64 b.x, .int .i64 b.y, .int .i64 b.z, .int .i64 c.x, .int .i64 c.y, .int .i64 c.z], .agg #[.int .i64 p.x, .int .i64 p.y, .int .i64 p.z, .int .i64 q.x, .int .i64 q.y, .int .i64 q.z, .int .i64 r.x, .int .i64 r.y, .int .i64 r.z]] w fun e w' => e = .returned (.bool ((detI a b c r).sign == 0 && sameI a b c r)) ∧ Tch [] w w' := by
  have c1 := fun w1 => commonCorners a b c p q r w1
  have c2 := fun w1 => Flat a b c H.oa H.ob H.oc w1
  have c3 := fun w1 => Flat p q r H.op H.oq H.or w1
  have c4 := fun w1 => commonFirst a b c p q r H.oa H.ob H.oc w1
  have c5 := fun w1 => commonFirst p q r a b c H.op H.oq H.or w1
  have c6 := fun w1 => Orient a b c r H.oa H.ob H.oc H.or w1
  have c7 := fun w1 => sameSide a b c r H.oa H.ob H.oc H.or w1
  rw [hk] at c1
  rw [H.fs] at c2
  rw [H.ft] at c3
  rw [H.cs] at c4
  rw [H.ct] at c5
  obtain ⟨x, hx⟩ : ∃ x, x = (detI a b c r).sign := ⟨_, rfl⟩
  obtain ⟨y, hy⟩ : ∃ y, y = sameI a b c r := ⟨_, rfl⟩
  rw [← hx] at c6 ⊢
  rw [← hy] at c7 ⊢
  dsimp only at c4 c5
  have C1 := Lib.hid c1
  have C2 := Lib.hid c2
  have C3 := Lib.hid c3
  have C4 := Lib.hid c4
  have C5 := Lib.hid c5
  have C6 := Lib.hid c6
  have C7 := Lib.hid c7
  clear c1 c2 c3 c4 c5 c6 c7 H hk hx hy
  have F : Hid (Fr w ((w.alloc (.cells #[.int .i64 a.x, .int .i64 a.y, .int .i64 a.z, .int .i64 b.x, .int .i64 b.y, .int .i64 b.z, .int .i64 c.x, .int .i64 c.y, .int .i64 c.z] 33)).alloc (.cells #[.int .i64 p.x, .int .i64 p.y, .int .i64 p.z, .int .i64 q.x, .int .i64 q.y, .int .i64 q.z, .int .i64 r.x, .int .i64 r.y, .int .i64 r.z] 33)) [(w.heap.size, .cells #[.int .i64 a.x, .int .i64 a.y, .int .i64 a.z, .int .i64 b.x, .int .i64 b.y, .int .i64 b.z, .int .i64 c.x, .int .i64 c.y, .int .i64 c.z] 33 (0, 0)), (w.heap.size + 1, .cells #[.int .i64 p.x, .int .i64 p.y, .int .i64 p.z, .int .i64 q.x, .int .i64 q.y, .int .i64 q.z, .int .i64 r.x, .int .i64 r.y, .int .i64 r.z] 33 (0, 0))]) := Lib.hid (((Fr.nil w).add (.cells #[.int .i64 a.x, .int .i64 a.y, .int .i64 a.z, .int .i64 b.x, .int .i64 b.y, .int .i64 b.z, .int .i64 c.x, .int .i64 c.y, .int .i64 c.z] 33) w.heap.size rfl).add (.cells #[.int .i64 p.x, .int .i64 p.y, .int .i64 p.z, .int .i64 q.x, .int .i64 q.y, .int .i64 q.z, .int .i64 r.x, .int .i64 r.y, .int .i64 r.z] 33) (w.heap.size + 1) (by simp))
  have SF := Lib.hid (fun (w4 : World) (h : Fr w w4 [(w.heap.size, .cells #[.int .i64 a.x, .int .i64 a.y, .int .i64 a.z, .int .i64 b.x, .int .i64 b.y, .int .i64 b.z, .int .i64 c.x, .int .i64 c.y, .int .i64 c.z] 33 (0, 0)), (w.heap.size + 1, .cells #[.int .i64 p.x, .int .i64 p.y, .int .i64 p.z, .int .i64 q.x, .int .i64 q.y, .int .i64 q.z, .int .i64 r.x, .int .i64 r.y, .int .i64 r.z] 33 (0, 0))]) => And.intro (h.nine 0 rfl) (h.nine 1 rfl))
  have S0 := Lib.hid (fun (w4 : World) (h : Fr w w4 [(w.heap.size, .cells #[.int .i64 a.x, .int .i64 a.y, .int .i64 a.z, .int .i64 b.x, .int .i64 b.y, .int .i64 b.z, .int .i64 c.x, .int .i64 c.y, .int .i64 c.z] 33 (0, 0)), (w.heap.size + 1, .cells #[.int .i64 p.x, .int .i64 p.y, .int .i64 p.z, .int .i64 q.x, .int .i64 q.y, .int .i64 q.z, .int .i64 r.x, .int .i64 r.y, .int .i64 r.z] 33 (0, 0))]) => And.intro ((h.self9 0 rfl).nine 0 rfl) ((h.self9 0 rfl).nine 1 rfl))
  have S1 := Lib.hid (fun (w4 : World) (h : Fr w w4 [(w.heap.size, .cells #[.int .i64 a.x, .int .i64 a.y, .int .i64 a.z, .int .i64 b.x, .int .i64 b.y, .int .i64 b.z, .int .i64 c.x, .int .i64 c.y, .int .i64 c.z] 33 (0, 0)), (w.heap.size + 1, .cells #[.int .i64 p.x, .int .i64 p.y, .int .i64 p.z, .int .i64 q.x, .int .i64 q.y, .int .i64 q.z, .int .i64 r.x, .int .i64 r.y, .int .i64 r.z] 33 (0, 0))]) => And.intro (((h.self9 0 rfl).self9 1 rfl).nine 0 rfl) (((h.self9 0 rfl).self9 1 rfl).nine 1 rfl))
  have SZ := Lib.hid (fun (w4 : World) (h : Fr w w4 [(w.heap.size, .cells #[.int .i64 a.x, .int .i64 a.y, .int .i64 a.z, .int .i64 b.x, .int .i64 b.y, .int .i64 b.z, .int .i64 c.x, .int .i64 c.y, .int .i64 c.z] 33 (0, 0)), (w.heap.size + 1, .cells #[.int .i64 p.x, .int .i64 p.y, .int .i64 p.z, .int .i64 q.x, .int .i64 q.y, .int .i64 q.z, .int .i64 r.x, .int .i64 r.y, .int .i64 r.z] 33 (0, 0))]) => And.intro (h.fro9 0 rfl) (h.fro9 1 rfl))
  go_enter Tryz.func16, Tryz.ntmps16
  obtain ⟨⟨a0, a1, a2⟩, ⟨a3, a4, a5⟩, a6, a7, a8⟩ := F.out.nine 0 rfl
  obtain ⟨⟨b0, b1, b2⟩, ⟨b3, b4, b5⟩, b6, b7, b8⟩ := F.out.nine 1 rfl
  go_wp2_with fail
  refine (C1.out _).mono ?_
  rintro e w1 ⟨rfl, hT⟩
  have F1 := Lib.hid (F.out.keep hT)
  clear hT F a0 a1 a2 a3 a4 a5 a6 a7 a8 b0 b1 b2 b3 b4 b5 b6 b7 b8
  obtain ⟨⟨a0, a1, a2⟩, ⟨a3, a4, a5⟩, a6, a7, a8⟩ := F1.out.nine 0 rfl
  obtain ⟨⟨b0, b1, b2⟩, ⟨b3, b4, b5⟩, b6, b7, b8⟩ := F1.out.nine 1 rfl
  go_wp2_with fail
  refine (C2.out _).mono ?_
  rintro e w2 ⟨rfl, hT⟩
  have F2 := Lib.hid (F1.out.keep hT)
  clear hT F1 a0 a1 a2 a3 a4 a5 a6 a7 a8 b0 b1 b2 b3 b4 b5 b6 b7 b8
  obtain ⟨⟨b0, b1, b2⟩, ⟨b3, b4, b5⟩, b6, b7, b8⟩ := F2.out.nine 1 rfl
  go_wp2_with fail
  refine (C3.out _).mono ?_
  rintro e w3 ⟨rfl, hT⟩
  have F := Lib.hid (F2.out.keep hT)
  clear hT F2 b0 b1 b2 b3 b4 b5 b6 b7 b8
  go_wp2_with fail
  go_region_held3 (fun w4 => ((w4.cell? ⟨w.heap.size, 0, none⟩ = some (.int .i64 a.x) ∧ w4.cell? ⟨w.heap.size, 1, none⟩ = some (.int .i64 a.y) ∧ w4.cell? ⟨w.heap.size, 2, none⟩ = some (.int .i64 a.z)) ∧ (w4.cell? ⟨w.heap.size, 3, none⟩ = some (.int .i64 b.x) ∧ w4.cell? ⟨w.heap.size, 4, none⟩ = some (.int .i64 b.y) ∧ w4.cell? ⟨w.heap.size, 5, none⟩ = some (.int .i64 b.z)) ∧ w4.cell? ⟨w.heap.size, 6, none⟩ = some (.int .i64 c.x) ∧ w4.cell? ⟨w.heap.size, 7, none⟩ = some (.int .i64 c.y) ∧ w4.cell? ⟨w.heap.size, 8, none⟩ = some (.int .i64 c.z)) ∧ ((w4.cell? ⟨w.heap.size + 1, 0, none⟩ = some (.int .i64 p.x) ∧ w4.cell? ⟨w.heap.size + 1, 1, none⟩ = some (.int .i64 p.y) ∧ w4.cell? ⟨w.heap.size + 1, 2, none⟩ = some (.int .i64 p.z)) ∧ (w4.cell? ⟨w.heap.size + 1, 3, none⟩ = some (.int .i64 q.x) ∧ w4.cell? ⟨w.heap.size + 1, 4, none⟩ = some (.int .i64 q.y) ∧ w4.cell? ⟨w.heap.size + 1, 5, none⟩ = some (.int .i64 q.z)) ∧ w4.cell? ⟨w.heap.size + 1, 6, none⟩ = some (.int .i64 r.x) ∧ w4.cell? ⟨w.heap.size + 1, 7, none⟩ = some (.int .i64 r.y) ∧ w4.cell? ⟨w.heap.size + 1, 8, none⟩ = some (.int .i64 r.z))) (first | with_reducible exact SF.out _ F.out | with_reducible exact SF.out _ F.out.drew | with_reducible exact S0.out _ F.out | with_reducible exact S1.out _ F.out) (first
    | (go_at_call 46; (first | (with_reducible refine (C4.out _).mono ?_) | (with_reducible refine (C5.out _).mono ?_)); rintro e w4 ⟨rfl, hT⟩; (first | (with_reducible have F := Lib.hid (F.out.keep hT)) | (have F := Lib.hid (F.out.drew.keep hT))); clear hT; obtain ⟨⟨g0, g1, g2, g3, g4, g5, g6, g7, g8⟩, k0, k1, k2, k3, k4, k5, k6, k7, k8⟩ := SZ.out _ F.out))
  all_goals
    obtain ⟨w5, hw5, F5'⟩ : ∃ w5, w5 = _ ∧ Fr w w5 [(w.heap.size, .cells #[.int .i64 a.x, .int .i64 a.y, .int .i64 a.z, .int .i64 b.x, .int .i64 b.y, .int .i64 b.z, .int .i64 c.x, .int .i64 c.y, .int .i64 c.z] 33 (0, 0)), (w.heap.size + 1, .cells #[.int .i64 p.x, .int .i64 p.y, .int .i64 p.z, .int .i64 q.x, .int .i64 q.y, .int .i64 q.z, .int .i64 r.x, .int .i64 r.y, .int .i64 r.z] 33 (0, 0))] := ⟨_, rfl, (F.out.self9 0 rfl).self9 1 rfl⟩
    rw [← hw5]
    have F5 := Lib.hid F5'
    clear hw5 F5' F g0 g1 g2 g3 g4 g5 g6 g7 g8 k0 k1 k2 k3 k4 k5 k6 k7 k8 C1 C2 C3 C4 C5 SF S0 S1 SZ
    obtain ⟨⟨a0, a1, a2⟩, ⟨a3, a4, a5⟩, a6, a7, a8⟩ := F5.out.nine 0 rfl
    obtain ⟨⟨b0, b1, b2⟩, ⟨b3, b4, b5⟩, b6, b7, b8⟩ := F5.out.nine 1 rfl
    by_cases hx : x = 0
    · subst hx
      go_wp2_with (first | (go_at_call 20; (with_reducible refine (C6.out _).mono ?_; clear C6; rintro e w6 ⟨rfl, hT⟩; have F6 := Lib.hid (F5.out.keep hT); clear hT a0 a1 a2 a3 a4 a5 a6 a7 a8 b0 b1 b2 b3 b4 b5 b6 b7 b8; obtain ⟨⟨a0, a1, a2⟩, ⟨a3, a4, a5⟩, a6, a7, a8⟩ := F6.out.nine 0 rfl; obtain ⟨⟨b0, b1, b2⟩, ⟨b3, b4, b5⟩, b6, b7, b8⟩ := F6.out.nine 1 rfl)) | (go_at_call 47; (with_reducible refine (C7.out _).mono ?_; clear C7; rintro e w7 ⟨rfl, hT⟩; have F7 := Lib.hid (F6.out.keep hT); clear hT a0 a1 a2 a3 a4 a5 a6 a7 a8 b0 b1 b2 b3 b4 b5 b6 b7 b8)))
      go_ret
      exact ⟨by rw [show ((0 : Int) == 0) = true from rfl, Bool.true_and]; rfl, F7.out.t⟩
    · have hx1 : (x == 0) = false := beq_eq_false_iff_ne.2 hx
      clear hx
      go_wp2_with (go_at_call 20; (with_reducible refine (C6.out _).mono ?_; clear C6; rintro e w6 ⟨rfl, hT⟩; have F6 := Lib.hid (F5.out.keep hT); clear hT a0 a1 a2 a3 a4 a5 a6 a7 a8 b0 b1 b2 b3 b4 b5 b6 b7 b8))
      go_ret
      exact ⟨by rw [hx1, Bool.false_and]; rfl, F6.out.t⟩

end Go.Proofs.YtandlbacjfdkpaaGreatDoor

/- lithophanelaw02.sanity. -/
namespace Go.Proofs.YtandlbacjfdkpaaGreatDoor
open Go Go.RowKit Dg

theorem i64l {x : Int} (h : (decide (-9223372036854775808 ≤ x) && decide (x ≤ 9223372036854775807)) = true) : I64 x := by
  rw [Bool.and_eq_true] at h; exact ⟨of_decide_eq_true h.1, of_decide_eq_true h.2⟩
theorem okp (x y z : Int) (hx : (decide (-9223372036854775808 ≤ x) && decide (x ≤ 9223372036854775807)) = true) (hy : (decide (-9223372036854775808 ≤ y) && decide (y ≤ 9223372036854775807)) = true) (hz : (decide (-9223372036854775808 ≤ z) && decide (z ≤ 9223372036854775807)) = true) : P3.Ok ⟨x, y, z⟩ := ⟨i64l hx, i64l hy, i64l hz⟩

theorem sn_or (w : World) : Calls Tryz.prog 20 #[.agg #[.int .i64 0, .int .i64 0, .int .i64 0], .agg #[.int .i64 1, .int .i64 0, .int .i64 0], .agg #[.int .i64 0, .int .i64 1, .int .i64 0], .agg #[.int .i64 0, .int .i64 0, .int .i64 1]] w fun e w' => e = .returned (.int .i64 1) ∧ Tch [] w w' := by
  have h := Orient ⟨0, 0, 0⟩ ⟨1, 0, 0⟩ ⟨0, 1, 0⟩ ⟨0, 0, 1⟩ (okp 0 0 0 rfl rfl rfl) (okp 1 0 0 rfl rfl rfl) (okp 0 1 0 rfl rfl rfl) (okp 0 0 1 rfl rfl rfl) w
  rw [show (detI ⟨0, 0, 0⟩ ⟨1, 0, 0⟩ ⟨0, 1, 0⟩ ⟨0, 0, 1⟩).sign = 1 by decide] at h
  exact h

theorem sn_nm (w : World) : Calls Tryz.prog 19 #[.agg #[.int .i64 0, .int .i64 0, .int .i64 0, .int .i64 2, .int .i64 0, .int .i64 0, .int .i64 0, .int .i64 3, .int .i64 0]] w fun e w' => e = .returned (.agg #[.bool false, .string ⟨#[]⟩, .bool false, .string ⟨#[]⟩, .bool (sgz 6), .string (moz 6)]) ∧ Tch [] w w' := by
  have h := Normal ⟨0, 0, 0⟩ ⟨2, 0, 0⟩ ⟨0, 3, 0⟩ (okp 0 0 0 rfl rfl rfl) (okp 2 0 0 rfl rfl rfl) (okp 0 3 0 rfl rfl rfl) w
  rw [show nrmI ⟨0, 0, 0⟩ ⟨2, 0, 0⟩ ⟨0, 3, 0⟩ = ⟨0, 0, 6⟩ from rfl] at h
  dsimp only at h
  rw [sgz_zero, moz_zero] at h
  exact h
theorem sn_rf (w : World) : Calls Tryz.prog 21 #[.int .i64 6] w fun e w' => e = .returned (.agg #[.bool (sgz 6), .string (moz 6)]) ∧ Tch [] w w' := by
  have h := rFrom 6 (by decide) (by decide) w
  rw [wz_sm] at h
  exact h

theorem sn_s1 (w : World) : Calls Tryz.prog 22 #[.agg #[.int .i64 0, .int .i64 0, .int .i64 0, .int .i64 2, .int .i64 0, .int .i64 0, .int .i64 0, .int .i64 3, .int .i64 0], .agg #[.int .i64 1, .int .i64 1, .int .i64 0]] w fun e w' => e = .returned (.int .i64 1) ∧ Tch [] w w' := by
  have h := Side ⟨0, 0, 0⟩ ⟨2, 0, 0⟩ ⟨0, 3, 0⟩ ⟨1, 1, 0⟩ (okp 0 0 0 rfl rfl rfl) (okp 2 0 0 rfl rfl rfl) (okp 0 3 0 rfl rfl rfl) (okp 1 1 0 rfl rfl rfl) w
  rw [show sideI ⟨0, 0, 0⟩ ⟨2, 0, 0⟩ ⟨0, 3, 0⟩ ⟨1, 1, 0⟩ = 1 by decide] at h
  exact h

theorem sn_s2 (w : World) : Calls Tryz.prog 22 #[.agg #[.int .i64 0, .int .i64 0, .int .i64 0, .int .i64 0, .int .i64 3, .int .i64 0, .int .i64 2, .int .i64 0, .int .i64 0], .agg #[.int .i64 1, .int .i64 1, .int .i64 0]] w fun e w' => e = .returned (.int .i64 (-1)) ∧ Tch [] w w' := by
  have h := Side ⟨0, 0, 0⟩ ⟨0, 3, 0⟩ ⟨2, 0, 0⟩ ⟨1, 1, 0⟩ (okp 0 0 0 rfl rfl rfl) (okp 0 3 0 rfl rfl rfl) (okp 2 0 0 rfl rfl rfl) (okp 1 1 0 rfl rfl rfl) w
  rw [show sideI ⟨0, 0, 0⟩ ⟨0, 3, 0⟩ ⟨2, 0, 0⟩ ⟨1, 1, 0⟩ = -1 by decide] at h
  exact h

theorem sn_t1 (w : World) : Calls Tryz.prog 14 #[.agg #[.int .i64 0, .int .i64 0, .int .i64 1], .agg #[.int .i64 0, .int .i64 0, .int .i64 (-1)], .agg #[.int .i64 0, .int .i64 0, .int .i64 0, .int .i64 2, .int .i64 0, .int .i64 0, .int .i64 0, .int .i64 3, .int .i64 0]] w fun e w' => e = .returned (.bool true) ∧ Tch [] w w' := by
  have h := TouchN ⟨0, 0, 1⟩ ⟨0, 0, -1⟩ ⟨0, 0, 0⟩ ⟨2, 0, 0⟩ ⟨0, 3, 0⟩ (okp 0 0 1 rfl rfl rfl) (okp 0 0 (-1) rfl rfl rfl) (okp 0 0 0 rfl rfl rfl) (okp 2 0 0 rfl rfl rfl) (okp 0 3 0 rfl rfl rfl) (by decide) w
  rw [show touchN ⟨0, 0, 1⟩ ⟨0, 0, -1⟩ ⟨0, 0, 0⟩ ⟨2, 0, 0⟩ ⟨0, 3, 0⟩ = true by decide] at h
  exact h

theorem sn_t2 (w : World) : Calls Tryz.prog 14 #[.agg #[.int .i64 5, .int .i64 5, .int .i64 1], .agg #[.int .i64 5, .int .i64 5, .int .i64 (-1)], .agg #[.int .i64 0, .int .i64 0, .int .i64 0, .int .i64 2, .int .i64 0, .int .i64 0, .int .i64 0, .int .i64 3, .int .i64 0]] w fun e w' => e = .returned (.bool false) ∧ Tch [] w w' := by
  have h := TouchN ⟨5, 5, 1⟩ ⟨5, 5, -1⟩ ⟨0, 0, 0⟩ ⟨2, 0, 0⟩ ⟨0, 3, 0⟩ (okp 5 5 1 rfl rfl rfl) (okp 5 5 (-1) rfl rfl rfl) (okp 0 0 0 rfl rfl rfl) (okp 2 0 0 rfl rfl rfl) (okp 0 3 0 rfl rfl rfl) (by decide) w
  rw [show touchN ⟨5, 5, 1⟩ ⟨5, 5, -1⟩ ⟨0, 0, 0⟩ ⟨2, 0, 0⟩ ⟨0, 3, 0⟩ = false by decide] at h
  exact h

theorem sn_m1 (w : World) : Calls Tryz.prog 16 #[.agg #[.int .i64 0, .int .i64 0, .int .i64 0, .int .i64 2, .int .i64 0, .int .i64 0, .int .i64 0, .int .i64 3, .int .i64 0], .agg #[.int .i64 0, .int .i64 0, .int .i64 0, .int .i64 1, .int .i64 1, .int .i64 5, .int .i64 (-1), .int .i64 2, .int .i64 5]] w fun e w' => e = .returned (.bool false) ∧ Tch [] w w' := by
  have h := MeetOne ⟨0, 0, 0⟩ ⟨2, 0, 0⟩ ⟨0, 3, 0⟩ ⟨0, 0, 0⟩ ⟨1, 1, 5⟩ ⟨-1, 2, 5⟩ ⟨okp 0 0 0 rfl rfl rfl, okp 2 0 0 rfl rfl rfl, okp 0 3 0 rfl rfl rfl, okp 0 0 0 rfl rfl rfl, okp 1 1 5 rfl rfl rfl, okp (-1) 2 5 rfl rfl rfl, by decide, by decide, rfl, rfl⟩ (by decide) (by decide) (by decide) w
  rw [show (touchN ⟨2, 0, 0⟩ ⟨0, 3, 0⟩ ⟨0, 0, 0⟩ ⟨1, 1, 5⟩ ⟨-1, 2, 5⟩ || touchN ⟨1, 1, 5⟩ ⟨-1, 2, 5⟩ ⟨0, 0, 0⟩ ⟨2, 0, 0⟩ ⟨0, 3, 0⟩) = false by decide] at h
  exact h

theorem sn_m2 (w : World) : Calls Tryz.prog 16 #[.agg #[.int .i64 0, .int .i64 0, .int .i64 0, .int .i64 2, .int .i64 0, .int .i64 0, .int .i64 0, .int .i64 3, .int .i64 0], .agg #[.int .i64 0, .int .i64 0, .int .i64 0, .int .i64 1, .int .i64 1, .int .i64 0, .int .i64 (-1), .int .i64 2, .int .i64 5]] w fun e w' => e = .returned (.bool true) ∧ Tch [] w w' := by
  have h := MeetOne ⟨0, 0, 0⟩ ⟨2, 0, 0⟩ ⟨0, 3, 0⟩ ⟨0, 0, 0⟩ ⟨1, 1, 0⟩ ⟨-1, 2, 5⟩ ⟨okp 0 0 0 rfl rfl rfl, okp 2 0 0 rfl rfl rfl, okp 0 3 0 rfl rfl rfl, okp 0 0 0 rfl rfl rfl, okp 1 1 0 rfl rfl rfl, okp (-1) 2 5 rfl rfl rfl, by decide, by decide, rfl, rfl⟩ (by decide) (by decide) (by decide) w
  rw [show (touchN ⟨2, 0, 0⟩ ⟨0, 3, 0⟩ ⟨0, 0, 0⟩ ⟨1, 1, 0⟩ ⟨-1, 2, 5⟩ || touchN ⟨1, 1, 0⟩ ⟨-1, 2, 5⟩ ⟨0, 0, 0⟩ ⟨2, 0, 0⟩ ⟨0, 3, 0⟩) = true by decide] at h
  exact h

theorem sn_m3 (w : World) : Calls Tryz.prog 16 #[.agg #[.int .i64 0, .int .i64 0, .int .i64 0, .int .i64 2, .int .i64 0, .int .i64 0, .int .i64 0, .int .i64 3, .int .i64 0], .agg #[.int .i64 2, .int .i64 0, .int .i64 0, .int .i64 0, .int .i64 0, .int .i64 0, .int .i64 1, .int .i64 (-4), .int .i64 0]] w fun e w' => e = .returned (.bool false) ∧ Tch [] w w' := by
  have h := MeetTwo ⟨0, 0, 0⟩ ⟨2, 0, 0⟩ ⟨0, 3, 0⟩ ⟨2, 0, 0⟩ ⟨0, 0, 0⟩ ⟨1, -4, 0⟩ ⟨okp 0 0 0 rfl rfl rfl, okp 2 0 0 rfl rfl rfl, okp 0 3 0 rfl rfl rfl, okp 2 0 0 rfl rfl rfl, okp 0 0 0 rfl rfl rfl, okp 1 (-4) 0 rfl rfl rfl, by decide, by decide, rfl, rfl⟩ (by decide) w
  rw [show ((detI ⟨0, 0, 0⟩ ⟨2, 0, 0⟩ ⟨0, 3, 0⟩ ⟨1, -4, 0⟩).sign == 0 && sameI ⟨0, 0, 0⟩ ⟨2, 0, 0⟩ ⟨0, 3, 0⟩ ⟨1, -4, 0⟩) = false by decide] at h
  exact h

theorem sn_m4 (w : World) : Calls Tryz.prog 16 #[.agg #[.int .i64 0, .int .i64 0, .int .i64 0, .int .i64 2, .int .i64 0, .int .i64 0, .int .i64 0, .int .i64 3, .int .i64 0], .agg #[.int .i64 2, .int .i64 0, .int .i64 0, .int .i64 0, .int .i64 0, .int .i64 0, .int .i64 1, .int .i64 4, .int .i64 0]] w fun e w' => e = .returned (.bool true) ∧ Tch [] w w' := by
  have h := MeetTwo ⟨0, 0, 0⟩ ⟨2, 0, 0⟩ ⟨0, 3, 0⟩ ⟨2, 0, 0⟩ ⟨0, 0, 0⟩ ⟨1, 4, 0⟩ ⟨okp 0 0 0 rfl rfl rfl, okp 2 0 0 rfl rfl rfl, okp 0 3 0 rfl rfl rfl, okp 2 0 0 rfl rfl rfl, okp 0 0 0 rfl rfl rfl, okp 1 4 0 rfl rfl rfl, by decide, by decide, rfl, rfl⟩ (by decide) w
  rw [show ((detI ⟨0, 0, 0⟩ ⟨2, 0, 0⟩ ⟨0, 3, 0⟩ ⟨1, 4, 0⟩).sign == 0 && sameI ⟨0, 0, 0⟩ ⟨2, 0, 0⟩ ⟨0, 3, 0⟩ ⟨1, 4, 0⟩) = true by decide] at h
  exact h

set_option maxHeartbeats 8000000 in
set_option maxRecDepth 100000 in
/-- The examples of the chapter hold. -/
theorem sanity (w : World) :
    Calls Tryz.prog 8 #[] w fun e w' => e = .returned (.bool true) ∧ Tch [] w w' := by
  have h1 := sn_or
  have h2 := sn_nm
  have h3 := sn_rf
  obtain ⟨b6, hb6⟩ : ∃ b6, b6 = sgz 6 := ⟨_, rfl⟩
  obtain ⟨s6, hs6⟩ : ∃ s6, s6 = moz 6 := ⟨_, rfl⟩
  rw [← hb6, ← hs6] at h2 h3
  have H1 := Lib.hid h1
  have H2 := Lib.hid h2
  have H3 := Lib.hid h3
  have H4 := Lib.hid sn_s1
  have H5 := Lib.hid sn_s2
  have H6 := Lib.hid sn_t1
  have H7 := Lib.hid sn_t2
  have H8 := Lib.hid sn_m1
  have H9 := Lib.hid sn_m2
  have H10 := Lib.hid sn_m3
  have H11 := Lib.hid sn_m4
  clear h1 h2 h3 hb6 hs6
  have F0 : Hid (Fr w ((w.alloc (.cells #[.int .i64 0, .int .i64 0, .int .i64 0] 27)).alloc (.cells #[.int .i64 0, .int .i64 0, .int .i64 0, .int .i64 2, .int .i64 0, .int .i64 0, .int .i64 0, .int .i64 3, .int .i64 0] 33)) [(w.heap.size, .cells #[.int .i64 0, .int .i64 0, .int .i64 0] 27 (0, 0)), (w.heap.size + 1, .cells #[.int .i64 0, .int .i64 0, .int .i64 0, .int .i64 2, .int .i64 0, .int .i64 0, .int .i64 0, .int .i64 3, .int .i64 0] 33 (0, 0))]) := Lib.hid (((Fr.nil w).add (.cells #[.int .i64 0, .int .i64 0, .int .i64 0] 27) w.heap.size rfl).add (.cells #[.int .i64 0, .int .i64 0, .int .i64 0, .int .i64 2, .int .i64 0, .int .i64 0, .int .i64 0, .int .i64 3, .int .i64 0] 33) (w.heap.size + 1) (by simp))
  obtain ⟨⟨t0, t1, t2⟩, ⟨t3, t4, t5⟩, t6, t7, t8⟩ := F0.out.nine 1 rfl
  go_enter Tryz.func8, Tryz.ntmps8
  go_wp2_with fail
  refine (H2.out _).mono ?_
  rintro e w1 ⟨rfl, hT⟩
  have F1 : Hid (Fr w (w1.alloc (.cells #[.bool false, .string ⟨#[]⟩, .bool false, .string ⟨#[]⟩, .bool b6, .string s6] 47)) [(w.heap.size, .cells #[.int .i64 0, .int .i64 0, .int .i64 0] 27 (0, 0)), (w.heap.size + 1, .cells #[.int .i64 0, .int .i64 0, .int .i64 0, .int .i64 2, .int .i64 0, .int .i64 0, .int .i64 0, .int .i64 3, .int .i64 0] 33 (0, 0)), (w1.heap.size, .cells #[.bool false, .string ⟨#[]⟩, .bool false, .string ⟨#[]⟩, .bool b6, .string s6] 47 (0, 0))]) := Lib.hid ((F0.out.keep hT).add (.cells #[.bool false, .string ⟨#[]⟩, .bool false, .string ⟨#[]⟩, .bool b6, .string s6] 47) w1.heap.size rfl)
  have SF := Lib.hid (fun (w4 : World) (h : Fr w w4 [(w.heap.size, .cells #[.int .i64 0, .int .i64 0, .int .i64 0] 27 (0, 0)), (w.heap.size + 1, .cells #[.int .i64 0, .int .i64 0, .int .i64 0, .int .i64 2, .int .i64 0, .int .i64 0, .int .i64 0, .int .i64 3, .int .i64 0] 33 (0, 0)), (w1.heap.size, .cells #[.bool false, .string ⟨#[]⟩, .bool false, .string ⟨#[]⟩, .bool b6, .string s6] 47 (0, 0))]) => And.intro (h.three 0 rfl) (h.six 2 rfl))
  clear hT F0 t0 t1 t2 t3 t4 t5 t6 t7 t8
  have F := F1
  go_wp2_with fail
  go_region_held3 (fun w4 => (w4.cell? ⟨w.heap.size, 0, none⟩ = some (.int .i64 0) ∧ w4.cell? ⟨w.heap.size, 1, none⟩ = some (.int .i64 0) ∧ w4.cell? ⟨w.heap.size, 2, none⟩ = some (.int .i64 0)) ∧ w4.cell? ⟨w1.heap.size, 0, none⟩ = some (.bool false) ∧ w4.cell? ⟨w1.heap.size, 1, none⟩ = some (.string ⟨#[]⟩) ∧ w4.cell? ⟨w1.heap.size, 2, none⟩ = some (.bool false) ∧ w4.cell? ⟨w1.heap.size, 3, none⟩ = some (.string ⟨#[]⟩) ∧ w4.cell? ⟨w1.heap.size, 4, none⟩ = some (.bool b6) ∧ w4.cell? ⟨w1.heap.size, 5, none⟩ = some (.string s6)) (first | with_reducible exact SF.out _ F.out | with_reducible exact SF.out _ F.out.drew) (first
    | (go_at_call 20; (with_reducible refine (H1.out _).mono ?_); rintro e w4 ⟨rfl, hT⟩; (first | (with_reducible have F := Lib.hid (F.out.keep hT)) | (have F := Lib.hid (F.out.drew.keep hT))); clear hT)
    | (go_at_call 21; (with_reducible refine (H3.out _).mono ?_); rintro e w4 ⟨rfl, hT⟩; have F := Lib.hid (F.out.keep hT); clear hT))
  all_goals
    clear SF H1 H2 H3
    obtain ⟨o0, o1, o2⟩ := F.out.three 0 rfl; obtain ⟨⟨t0, t1, t2⟩, ⟨t3, t4, t5⟩, t6, t7, t8⟩ := F.out.nine 1 rfl
    go_wp2_with (first
      | (go_at_call 22; (first | (with_reducible refine (H4.out _).mono ?_) | (with_reducible refine (H5.out _).mono ?_)); rintro e w4 ⟨rfl, hT⟩; have F := Lib.hid (F.out.keep hT); clear hT o0 o1 o2 t0 t1 t2 t3 t4 t5 t6 t7 t8; obtain ⟨o0, o1, o2⟩ := F.out.three 0 rfl; obtain ⟨⟨t0, t1, t2⟩, ⟨t3, t4, t5⟩, t6, t7, t8⟩ := F.out.nine 1 rfl)
      | (go_at_call 14; (first | (with_reducible refine (H6.out _).mono ?_) | (with_reducible refine (H7.out _).mono ?_)); rintro e w4 ⟨rfl, hT⟩; have F := Lib.hid (F.out.keep hT); clear hT o0 o1 o2 t0 t1 t2 t3 t4 t5 t6 t7 t8; obtain ⟨o0, o1, o2⟩ := F.out.three 0 rfl; obtain ⟨⟨t0, t1, t2⟩, ⟨t3, t4, t5⟩, t6, t7, t8⟩ := F.out.nine 1 rfl)
      | (go_at_call 16; (first | (with_reducible refine (H8.out _).mono ?_) | (with_reducible refine (H9.out _).mono ?_) | (with_reducible refine (H10.out _).mono ?_) | (with_reducible refine (H11.out _).mono ?_)); rintro e w4 ⟨rfl, hT⟩; have F := Lib.hid (F.out.keep hT); clear hT o0 o1 o2 t0 t1 t2 t3 t4 t5 t6 t7 t8; obtain ⟨o0, o1, o2⟩ := F.out.three 0 rfl; obtain ⟨⟨t0, t1, t2⟩, ⟨t3, t4, t5⟩, t6, t7, t8⟩ := F.out.nine 1 rfl))
    go_ret
    exact ⟨rfl, F.out.t⟩

end Go.Proofs.YtandlbacjfdkpaaGreatDoor
