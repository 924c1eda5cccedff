/- The reference's is, common. -/
import Derived.Test.YtandlbacjfdkpaaGreatDoorRt
namespace Go.Proofs.YtandlbacjfdkpaaGreatDoor
open Go Go.RowKit Dg

attribute [local go_sem ↓] eqlPt
set_option maxHeartbeats 2000000 in
set_option maxRecDepth 100000 in
theorem rIs (p a b c : P3) (w : World) :
    Calls Tryz.prog 73 #[.agg #[.int .i64 p.x, .int .i64 p.y, .int .i64 p.z], .agg #[.int .i64 a.x, .int .i64 a.y, .int .i64 a.z, .int .i64 b.x, .int .i64 b.y, .int .i64 b.z, .int .i64 c.x, .int .i64 c.y, .int .i64 c.z]] w fun e w' => e = .returned (.bool (isC a b c p)) ∧ Tch [] w w' := by
  have HV0 : isC a b c p = (ptE p a || ptE p b || ptE p c) := rfl
  obtain ⟨o, ho⟩ : ∃ o, o = isC a b c p := ⟨_, rfl⟩
  rw [← ho] at HV0 ⊢
  have HV := Lib.hid HV0
  clear HV0 ho
  have F : Hid (Fr w ((w.alloc (.cells #[.int .i64 p.x, .int .i64 p.y, .int .i64 p.z] 27)).alloc (.cells #[.int .i64 a.x, .int .i64 a.y, .int .i64 a.z, .int .i64 b.x, .int .i64 b.y, .int .i64 b.z, .int .i64 c.x, .int .i64 c.y, .int .i64 c.z] 33)) [(w.heap.size, .cells #[.int .i64 p.x, .int .i64 p.y, .int .i64 p.z] 27 (0, 0)), (w.heap.size + 1, .cells #[.int .i64 a.x, .int .i64 a.y, .int .i64 a.z, .int .i64 b.x, .int .i64 b.y, .int .i64 b.z, .int .i64 c.x, .int .i64 c.y, .int .i64 c.z] 33 (0, 0))]) := Lib.hid (((Fr.nil w).add (.cells #[.int .i64 p.x, .int .i64 p.y, .int .i64 p.z] 27) (w.heap.size) rfl).add (.cells #[.int .i64 a.x, .int .i64 a.y, .int .i64 a.z, .int .i64 b.x, .int .i64 b.y, .int .i64 b.z, .int .i64 c.x, .int .i64 c.y, .int .i64 c.z] 33) (w.heap.size + 1) (by simp))
  obtain ⟨p0, p1, p2⟩ := F.out.three 0 rfl
  obtain ⟨⟨x0, x1, x2⟩, ⟨x3, x4, x5⟩, x6, x7, x8⟩ := F.out.nine 1 rfl
  cases h1 : ptE p a <;> cases h2 : ptE p b <;> cases h3 : ptE p c
  all_goals
    have HW := Lib.hid (HV.out.trans (by rw [h1, h2, h3]))
    go_enter Tryz.func73, Tryz.ntmps73
    go_wp2
    go_ret
    exact ⟨by rw [HW.out]; rfl, F.out.t⟩

theorem rTouchT (x y a b c : P3) (hx : x.Ok) (hy : y.Ok) (ha : a.Ok) (hb : b.Ok) (hc : c.Ok) (w : World) :
    Calls Tryz.prog 13 #[(.agg #[.int .i64 x.x, .int .i64 x.y, .int .i64 x.z]), (.agg #[.int .i64 y.x, .int .i64 y.y, .int .i64 y.z]), (.agg #[.int .i64 a.x, .int .i64 a.y, .int .i64 a.z, .int .i64 b.x, .int .i64 b.y, .int .i64 b.z, .int .i64 c.x, .int .i64 c.y, .int .i64 c.z])] w fun e w' => e = .returned (.bool (touchI x y a b c)) ∧ Tch [] w w' := by
  rw [← rTouch_eq]; exact rTouch x y a b c hx hy ha hb hc w

set_option maxHeartbeats 16000000 in
set_option maxRecDepth 100000 in
theorem rCommon (a b c p q r : P3) (ha : a.Ok) (hb : b.Ok) (hc : c.Ok) (hp : p.Ok) (hq : q.Ok) (hr : r.Ok) (w : World) :
    Calls Tryz.prog 42 #[(.agg #[.int .i64 a.x, .int .i64 a.y, .int .i64 a.z, .int .i64 b.x, .int .i64 b.y, .int .i64 b.z, .int .i64 c.x, .int .i64 c.y, .int .i64 c.z]), (.agg #[.int .i64 p.x, .int .i64 p.y, .int .i64 p.z, .int .i64 q.x, .int .i64 q.y, .int .i64 q.z, .int .i64 r.x, .int .i64 r.y, .int .i64 r.z])] w fun e w' => e = .returned (.bool (cmnI a b c p q r)) ∧ Tch [] w w' := by
  obtain ⟨o, ho⟩ : ∃ v', v' = cmnI a b c p q r := ⟨_, rfl⟩
  rw [← ho]
  obtain ⟨x0, gx0⟩ : ∃ v', v' = touchI a b p q r := ⟨_, rfl⟩
  obtain ⟨y0, gy0⟩ : ∃ v', v' = touchI p q a b c := ⟨_, rfl⟩
  have S0 : Hid (∀ w1, Calls Tryz.prog 13 #[(.agg #[.int .i64 a.x, .int .i64 a.y, .int .i64 a.z]), (.agg #[.int .i64 b.x, .int .i64 b.y, .int .i64 b.z]), (.agg #[.int .i64 p.x, .int .i64 p.y, .int .i64 p.z, .int .i64 q.x, .int .i64 q.y, .int .i64 q.z, .int .i64 r.x, .int .i64 r.y, .int .i64 r.z])] w1 fun e w' => e = .returned (.bool x0) ∧ Tch [] w1 w') := Lib.hid (fun w1 => by rw [gx0]; exact rTouchT a b p q r ha hb hp hq hr w1)
  have T0 : Hid (∀ w1, Calls Tryz.prog 13 #[(.agg #[.int .i64 p.x, .int .i64 p.y, .int .i64 p.z]), (.agg #[.int .i64 q.x, .int .i64 q.y, .int .i64 q.z]), (.agg #[.int .i64 a.x, .int .i64 a.y, .int .i64 a.z, .int .i64 b.x, .int .i64 b.y, .int .i64 b.z, .int .i64 c.x, .int .i64 c.y, .int .i64 c.z])] w1 fun e w' => e = .returned (.bool y0) ∧ Tch [] w1 w') := Lib.hid (fun w1 => by rw [gy0]; exact rTouchT p q a b c hp hq ha hb hc w1)
  obtain ⟨x1, gx1⟩ : ∃ v', v' = touchI b c p q r := ⟨_, rfl⟩
  obtain ⟨y1, gy1⟩ : ∃ v', v' = touchI q r a b c := ⟨_, rfl⟩
  have S1 : Hid (∀ w1, Calls Tryz.prog 13 #[(.agg #[.int .i64 b.x, .int .i64 b.y, .int .i64 b.z]), (.agg #[.int .i64 c.x, .int .i64 c.y, .int .i64 c.z]), (.agg #[.int .i64 p.x, .int .i64 p.y, .int .i64 p.z, .int .i64 q.x, .int .i64 q.y, .int .i64 q.z, .int .i64 r.x, .int .i64 r.y, .int .i64 r.z])] w1 fun e w' => e = .returned (.bool x1) ∧ Tch [] w1 w') := Lib.hid (fun w1 => by rw [gx1]; exact rTouchT b c p q r hb hc hp hq hr w1)
  have T1 : Hid (∀ w1, Calls Tryz.prog 13 #[(.agg #[.int .i64 q.x, .int .i64 q.y, .int .i64 q.z]), (.agg #[.int .i64 r.x, .int .i64 r.y, .int .i64 r.z]), (.agg #[.int .i64 a.x, .int .i64 a.y, .int .i64 a.z, .int .i64 b.x, .int .i64 b.y, .int .i64 b.z, .int .i64 c.x, .int .i64 c.y, .int .i64 c.z])] w1 fun e w' => e = .returned (.bool y1) ∧ Tch [] w1 w') := Lib.hid (fun w1 => by rw [gy1]; exact rTouchT q r a b c hq hr ha hb hc w1)
  obtain ⟨x2, gx2⟩ : ∃ v', v' = touchI c a p q r := ⟨_, rfl⟩
  obtain ⟨y2, gy2⟩ : ∃ v', v' = touchI r p a b c := ⟨_, rfl⟩
  have S2 : Hid (∀ w1, Calls Tryz.prog 13 #[(.agg #[.int .i64 c.x, .int .i64 c.y, .int .i64 c.z]), (.agg #[.int .i64 a.x, .int .i64 a.y, .int .i64 a.z]), (.agg #[.int .i64 p.x, .int .i64 p.y, .int .i64 p.z, .int .i64 q.x, .int .i64 q.y, .int .i64 q.z, .int .i64 r.x, .int .i64 r.y, .int .i64 r.z])] w1 fun e w' => e = .returned (.bool x2) ∧ Tch [] w1 w') := Lib.hid (fun w1 => by rw [gx2]; exact rTouchT c a p q r hc ha hp hq hr w1)
  have T2 : Hid (∀ w1, Calls Tryz.prog 13 #[(.agg #[.int .i64 r.x, .int .i64 r.y, .int .i64 r.z]), (.agg #[.int .i64 p.x, .int .i64 p.y, .int .i64 p.z]), (.agg #[.int .i64 a.x, .int .i64 a.y, .int .i64 a.z, .int .i64 b.x, .int .i64 b.y, .int .i64 b.z, .int .i64 c.x, .int .i64 c.y, .int .i64 c.z])] w1 fun e w' => e = .returned (.bool y2) ∧ Tch [] w1 w') := Lib.hid (fun w1 => by rw [gy2]; exact rTouchT r p a b c hr hp ha hb hc w1)
  have HV : Hid (o = ((x0 || y0) || (x1 || y1) || (x2 || y2))) := Lib.hid (by rw [ho]; unfold cmnI; rw [← gx0, ← gy0, ← gx1, ← gy1, ← gx2, ← gy2])
  clear ho gx0 gy0 gx1 gy1 gx2 gy2 ha hb hc hp hq hr
  have F : Hid (Fr w ((w.alloc (.cells #[.int .i64 a.x, .int .i64 a.y, .int .i64 a.z, .int .i64 b.x, .int .i64 b.y, .int .i64 b.z, .int .i64 c.x, .int .i64 c.y, .int .i64 c.z] 33)).alloc (.cells #[.int .i64 p.x, .int .i64 p.y, .int .i64 p.z, .int .i64 q.x, .int .i64 q.y, .int .i64 q.z, .int .i64 r.x, .int .i64 r.y, .int .i64 r.z] 33)) [(w.heap.size, .cells #[.int .i64 a.x, .int .i64 a.y, .int .i64 a.z, .int .i64 b.x, .int .i64 b.y, .int .i64 b.z, .int .i64 c.x, .int .i64 c.y, .int .i64 c.z] 33 (0, 0)), (w.heap.size + 1, .cells #[.int .i64 p.x, .int .i64 p.y, .int .i64 p.z, .int .i64 q.x, .int .i64 q.y, .int .i64 q.z, .int .i64 r.x, .int .i64 r.y, .int .i64 r.z] 33 (0, 0))]) := Lib.hid (((Fr.nil w).add (.cells #[.int .i64 a.x, .int .i64 a.y, .int .i64 a.z, .int .i64 b.x, .int .i64 b.y, .int .i64 b.z, .int .i64 c.x, .int .i64 c.y, .int .i64 c.z] 33) (w.heap.size) rfl).add (.cells #[.int .i64 p.x, .int .i64 p.y, .int .i64 p.z, .int .i64 q.x, .int .i64 q.y, .int .i64 q.z, .int .i64 r.x, .int .i64 r.y, .int .i64 r.z] 33) (w.heap.size + 1) (by simp))
  have SF := Lib.hid (fun (w4 : World) (h : Fr w w4 [(w.heap.size, .cells #[.int .i64 a.x, .int .i64 a.y, .int .i64 a.z, .int .i64 b.x, .int .i64 b.y, .int .i64 b.z, .int .i64 c.x, .int .i64 c.y, .int .i64 c.z] 33 (0, 0)), (w.heap.size + 1, .cells #[.int .i64 p.x, .int .i64 p.y, .int .i64 p.z, .int .i64 q.x, .int .i64 q.y, .int .i64 q.z, .int .i64 r.x, .int .i64 r.y, .int .i64 r.z] 33 (0, 0))]) => And.intro (h.nine 0 rfl) (h.nine 1 rfl))
  go_enter Tryz.func42, Tryz.ntmps42
  go_wp2
  go_loopw [5, 6, 7] (fun i g1 g2 wr => ∃ (k : Nat) (v1 v2 : Value), k ≤ 3 ∧ i = .int .i64 (k : Int) ∧ g1 = v1 ∧ g2 = v2 ∧ Hid ((0 < k → x0 = false ∧ y0 = false) ∧ (1 < k → x1 = false ∧ y1 = false) ∧ (2 < k → x2 = false ∧ y2 = false)) ∧ Hid (Fr w wr [(w.heap.size, .cells #[.int .i64 a.x, .int .i64 a.y, .int .i64 a.z, .int .i64 b.x, .int .i64 b.y, .int .i64 b.z, .int .i64 c.x, .int .i64 c.y, .int .i64 c.z] 33 (0, 0)), (w.heap.size + 1, .cells #[.int .i64 p.x, .int .i64 p.y, .int .i64 p.z, .int .i64 q.x, .int .i64 q.y, .int .i64 q.z, .int .i64 r.x, .int .i64 r.y, .int .i64 r.z] 33 (0, 0))])) (fun i _ _ _ => 3 - (intOf i).toNat)
  case atStart => exact ⟨0, _, _, by omega, rfl, rfl, rfl, Lib.hid ⟨fun h => absurd h (by omega), fun h => absurd h (by omega), fun h => absurd h (by omega)⟩, F⟩
  case round =>
    clear F
    obtain ⟨k, v1, v2, hk, rfl, rfl, rfl, hS, F⟩ := hrel
    rcases (show k = 0 ∨ k = 1 ∨ k = 2 ∨ k = 3 by omega) with rfl | rfl | rfl | rfl
    · have A1 : IntKind.i64.wrap 1 = 1 := by decide
      have A2 : Int.tmod 1 3 = 1 := by decide
      go_upto_region 4 with (fail)
      go_region_held3 (fun w' => ((w'.cell? ⟨w.heap.size, 0, none⟩ = some (.int .i64 a.x) ∧ w'.cell? ⟨w.heap.size, 1, none⟩ = some (.int .i64 a.y) ∧ w'.cell? ⟨w.heap.size, 2, none⟩ = some (.int .i64 a.z)) ∧ (w'.cell? ⟨w.heap.size, 3, none⟩ = some (.int .i64 b.x) ∧ w'.cell? ⟨w.heap.size, 4, none⟩ = some (.int .i64 b.y) ∧ w'.cell? ⟨w.heap.size, 5, none⟩ = some (.int .i64 b.z)) ∧ w'.cell? ⟨w.heap.size, 6, none⟩ = some (.int .i64 c.x) ∧ w'.cell? ⟨w.heap.size, 7, none⟩ = some (.int .i64 c.y) ∧ w'.cell? ⟨w.heap.size, 8, none⟩ = some (.int .i64 c.z)) ∧ ((w'.cell? ⟨w.heap.size + 1, 0, none⟩ = some (.int .i64 p.x) ∧ w'.cell? ⟨w.heap.size + 1, 1, none⟩ = some (.int .i64 p.y) ∧ w'.cell? ⟨w.heap.size + 1, 2, none⟩ = some (.int .i64 p.z)) ∧ (w'.cell? ⟨w.heap.size + 1, 3, none⟩ = some (.int .i64 q.x) ∧ w'.cell? ⟨w.heap.size + 1, 4, none⟩ = some (.int .i64 q.y) ∧ w'.cell? ⟨w.heap.size + 1, 5, none⟩ = some (.int .i64 q.z)) ∧ w'.cell? ⟨w.heap.size + 1, 6, none⟩ = some (.int .i64 r.x) ∧ w'.cell? ⟨w.heap.size + 1, 7, none⟩ = some (.int .i64 r.y) ∧ w'.cell? ⟨w.heap.size + 1, 8, none⟩ = some (.int .i64 r.z))) (first | with_reducible exact SF.out _ F.out | with_reducible exact SF.out _ F.out.drew) (first
        | (go_at_call 13; (with_reducible refine (S0.out _).mono ?_); rintro e w5 ⟨rfl, hT⟩; (first | (with_reducible have F := Lib.hid (F.out.keep hT)) | (have F := Lib.hid (F.out.drew.keep hT))); clear hT)
        | fail)
      all_goals
      go_upto_region 5 with (fail)
      go_region_held3 (fun w' => ((w'.cell? ⟨w.heap.size, 0, none⟩ = some (.int .i64 a.x) ∧ w'.cell? ⟨w.heap.size, 1, none⟩ = some (.int .i64 a.y) ∧ w'.cell? ⟨w.heap.size, 2, none⟩ = some (.int .i64 a.z)) ∧ (w'.cell? ⟨w.heap.size, 3, none⟩ = some (.int .i64 b.x) ∧ w'.cell? ⟨w.heap.size, 4, none⟩ = some (.int .i64 b.y) ∧ w'.cell? ⟨w.heap.size, 5, none⟩ = some (.int .i64 b.z)) ∧ w'.cell? ⟨w.heap.size, 6, none⟩ = some (.int .i64 c.x) ∧ w'.cell? ⟨w.heap.size, 7, none⟩ = some (.int .i64 c.y) ∧ w'.cell? ⟨w.heap.size, 8, none⟩ = some (.int .i64 c.z)) ∧ ((w'.cell? ⟨w.heap.size + 1, 0, none⟩ = some (.int .i64 p.x) ∧ w'.cell? ⟨w.heap.size + 1, 1, none⟩ = some (.int .i64 p.y) ∧ w'.cell? ⟨w.heap.size + 1, 2, none⟩ = some (.int .i64 p.z)) ∧ (w'.cell? ⟨w.heap.size + 1, 3, none⟩ = some (.int .i64 q.x) ∧ w'.cell? ⟨w.heap.size + 1, 4, none⟩ = some (.int .i64 q.y) ∧ w'.cell? ⟨w.heap.size + 1, 5, none⟩ = some (.int .i64 q.z)) ∧ w'.cell? ⟨w.heap.size + 1, 6, none⟩ = some (.int .i64 r.x) ∧ w'.cell? ⟨w.heap.size + 1, 7, none⟩ = some (.int .i64 r.y) ∧ w'.cell? ⟨w.heap.size + 1, 8, none⟩ = some (.int .i64 r.z))) (first | with_reducible exact SF.out _ F.out | with_reducible exact SF.out _ F.out.drew) (first
        | (go_at_call 13; (with_reducible refine (T0.out _).mono ?_); rintro e w5 ⟨rfl, hT⟩; (first | (with_reducible have F := Lib.hid (F.out.keep hT)) | (have F := Lib.hid (F.out.drew.keep hT))); clear hT)
        | fail)
      all_goals
      clear A1 A2
      cases x0
      · cases y0
        · go_wp2
          go_roundw
          case rel => exact ⟨1, _, _, by omega, by go_num, rfl, rfl, Lib.hid ⟨fun _ => by simp, fun h => absurd h (by omega), fun h => absurd h (by omega)⟩, F⟩
          case measure => simp [intOf]
        · have HW : Hid (o = true) := Lib.hid (by rw [HV.out]; simp)
          go_wp2
          go_ret
          exact ⟨by rw [HW.out]; rfl, F.out.t⟩
      · have HW : Hid (o = true) := Lib.hid (by rw [HV.out]; simp)
        go_wp2
        go_ret
        exact ⟨by rw [HW.out]; rfl, F.out.t⟩
    · have A1 : IntKind.i64.wrap 2 = 2 := by decide
      have A2 : Int.tmod 2 3 = 2 := by decide
      go_upto_region 4 with (fail)
      go_region_held3 (fun w' => ((w'.cell? ⟨w.heap.size, 0, none⟩ = some (.int .i64 a.x) ∧ w'.cell? ⟨w.heap.size, 1, none⟩ = some (.int .i64 a.y) ∧ w'.cell? ⟨w.heap.size, 2, none⟩ = some (.int .i64 a.z)) ∧ (w'.cell? ⟨w.heap.size, 3, none⟩ = some (.int .i64 b.x) ∧ w'.cell? ⟨w.heap.size, 4, none⟩ = some (.int .i64 b.y) ∧ w'.cell? ⟨w.heap.size, 5, none⟩ = some (.int .i64 b.z)) ∧ w'.cell? ⟨w.heap.size, 6, none⟩ = some (.int .i64 c.x) ∧ w'.cell? ⟨w.heap.size, 7, none⟩ = some (.int .i64 c.y) ∧ w'.cell? ⟨w.heap.size, 8, none⟩ = some (.int .i64 c.z)) ∧ ((w'.cell? ⟨w.heap.size + 1, 0, none⟩ = some (.int .i64 p.x) ∧ w'.cell? ⟨w.heap.size + 1, 1, none⟩ = some (.int .i64 p.y) ∧ w'.cell? ⟨w.heap.size + 1, 2, none⟩ = some (.int .i64 p.z)) ∧ (w'.cell? ⟨w.heap.size + 1, 3, none⟩ = some (.int .i64 q.x) ∧ w'.cell? ⟨w.heap.size + 1, 4, none⟩ = some (.int .i64 q.y) ∧ w'.cell? ⟨w.heap.size + 1, 5, none⟩ = some (.int .i64 q.z)) ∧ w'.cell? ⟨w.heap.size + 1, 6, none⟩ = some (.int .i64 r.x) ∧ w'.cell? ⟨w.heap.size + 1, 7, none⟩ = some (.int .i64 r.y) ∧ w'.cell? ⟨w.heap.size + 1, 8, none⟩ = some (.int .i64 r.z))) (first | with_reducible exact SF.out _ F.out | with_reducible exact SF.out _ F.out.drew) (first
        | (go_at_call 13; (with_reducible refine (S1.out _).mono ?_); rintro e w5 ⟨rfl, hT⟩; (first | (with_reducible have F := Lib.hid (F.out.keep hT)) | (have F := Lib.hid (F.out.drew.keep hT))); clear hT)
        | fail)
      all_goals
      go_upto_region 5 with (fail)
      go_region_held3 (fun w' => ((w'.cell? ⟨w.heap.size, 0, none⟩ = some (.int .i64 a.x) ∧ w'.cell? ⟨w.heap.size, 1, none⟩ = some (.int .i64 a.y) ∧ w'.cell? ⟨w.heap.size, 2, none⟩ = some (.int .i64 a.z)) ∧ (w'.cell? ⟨w.heap.size, 3, none⟩ = some (.int .i64 b.x) ∧ w'.cell? ⟨w.heap.size, 4, none⟩ = some (.int .i64 b.y) ∧ w'.cell? ⟨w.heap.size, 5, none⟩ = some (.int .i64 b.z)) ∧ w'.cell? ⟨w.heap.size, 6, none⟩ = some (.int .i64 c.x) ∧ w'.cell? ⟨w.heap.size, 7, none⟩ = some (.int .i64 c.y) ∧ w'.cell? ⟨w.heap.size, 8, none⟩ = some (.int .i64 c.z)) ∧ ((w'.cell? ⟨w.heap.size + 1, 0, none⟩ = some (.int .i64 p.x) ∧ w'.cell? ⟨w.heap.size + 1, 1, none⟩ = some (.int .i64 p.y) ∧ w'.cell? ⟨w.heap.size + 1, 2, none⟩ = some (.int .i64 p.z)) ∧ (w'.cell? ⟨w.heap.size + 1, 3, none⟩ = some (.int .i64 q.x) ∧ w'.cell? ⟨w.heap.size + 1, 4, none⟩ = some (.int .i64 q.y) ∧ w'.cell? ⟨w.heap.size + 1, 5, none⟩ = some (.int .i64 q.z)) ∧ w'.cell? ⟨w.heap.size + 1, 6, none⟩ = some (.int .i64 r.x) ∧ w'.cell? ⟨w.heap.size + 1, 7, none⟩ = some (.int .i64 r.y) ∧ w'.cell? ⟨w.heap.size + 1, 8, none⟩ = some (.int .i64 r.z))) (first | with_reducible exact SF.out _ F.out | with_reducible exact SF.out _ F.out.drew) (first
        | (go_at_call 13; (with_reducible refine (T1.out _).mono ?_); rintro e w5 ⟨rfl, hT⟩; (first | (with_reducible have F := Lib.hid (F.out.keep hT)) | (have F := Lib.hid (F.out.drew.keep hT))); clear hT)
        | fail)
      all_goals
      clear A1 A2
      cases x1
      · cases y1
        · go_wp2
          go_roundw
          case rel => exact ⟨2, _, _, by omega, by go_num, rfl, rfl, Lib.hid ⟨fun _ => hS.out.1 (by omega), fun _ => by simp, fun h => absurd h (by omega)⟩, F⟩
          case measure => simp [intOf]
        · have HW : Hid (o = true) := Lib.hid (by rw [HV.out]; simp)
          go_wp2
          go_ret
          exact ⟨by rw [HW.out]; rfl, F.out.t⟩
      · have HW : Hid (o = true) := Lib.hid (by rw [HV.out]; simp)
        go_wp2
        go_ret
        exact ⟨by rw [HW.out]; rfl, F.out.t⟩
    · have A1 : IntKind.i64.wrap 3 = 3 := by decide
      have A2 : Int.tmod 3 3 = 0 := by decide
      go_upto_region 4 with (fail)
      go_region_held3 (fun w' => ((w'.cell? ⟨w.heap.size, 0, none⟩ = some (.int .i64 a.x) ∧ w'.cell? ⟨w.heap.size, 1, none⟩ = some (.int .i64 a.y) ∧ w'.cell? ⟨w.heap.size, 2, none⟩ = some (.int .i64 a.z)) ∧ (w'.cell? ⟨w.heap.size, 3, none⟩ = some (.int .i64 b.x) ∧ w'.cell? ⟨w.heap.size, 4, none⟩ = some (.int .i64 b.y) ∧ w'.cell? ⟨w.heap.size, 5, none⟩ = some (.int .i64 b.z)) ∧ w'.cell? ⟨w.heap.size, 6, none⟩ = some (.int .i64 c.x) ∧ w'.cell? ⟨w.heap.size, 7, none⟩ = some (.int .i64 c.y) ∧ w'.cell? ⟨w.heap.size, 8, none⟩ = some (.int .i64 c.z)) ∧ ((w'.cell? ⟨w.heap.size + 1, 0, none⟩ = some (.int .i64 p.x) ∧ w'.cell? ⟨w.heap.size + 1, 1, none⟩ = some (.int .i64 p.y) ∧ w'.cell? ⟨w.heap.size + 1, 2, none⟩ = some (.int .i64 p.z)) ∧ (w'.cell? ⟨w.heap.size + 1, 3, none⟩ = some (.int .i64 q.x) ∧ w'.cell? ⟨w.heap.size + 1, 4, none⟩ = some (.int .i64 q.y) ∧ w'.cell? ⟨w.heap.size + 1, 5, none⟩ = some (.int .i64 q.z)) ∧ w'.cell? ⟨w.heap.size + 1, 6, none⟩ = some (.int .i64 r.x) ∧ w'.cell? ⟨w.heap.size + 1, 7, none⟩ = some (.int .i64 r.y) ∧ w'.cell? ⟨w.heap.size + 1, 8, none⟩ = some (.int .i64 r.z))) (first | with_reducible exact SF.out _ F.out | with_reducible exact SF.out _ F.out.drew) (first
        | (go_at_call 13; (with_reducible refine (S2.out _).mono ?_); rintro e w5 ⟨rfl, hT⟩; (first | (with_reducible have F := Lib.hid (F.out.keep hT)) | (have F := Lib.hid (F.out.drew.keep hT))); clear hT)
        | fail)
      all_goals
      go_upto_region 5 with (fail)
      go_region_held3 (fun w' => ((w'.cell? ⟨w.heap.size, 0, none⟩ = some (.int .i64 a.x) ∧ w'.cell? ⟨w.heap.size, 1, none⟩ = some (.int .i64 a.y) ∧ w'.cell? ⟨w.heap.size, 2, none⟩ = some (.int .i64 a.z)) ∧ (w'.cell? ⟨w.heap.size, 3, none⟩ = some (.int .i64 b.x) ∧ w'.cell? ⟨w.heap.size, 4, none⟩ = some (.int .i64 b.y) ∧ w'.cell? ⟨w.heap.size, 5, none⟩ = some (.int .i64 b.z)) ∧ w'.cell? ⟨w.heap.size, 6, none⟩ = some (.int .i64 c.x) ∧ w'.cell? ⟨w.heap.size, 7, none⟩ = some (.int .i64 c.y) ∧ w'.cell? ⟨w.heap.size, 8, none⟩ = some (.int .i64 c.z)) ∧ ((w'.cell? ⟨w.heap.size + 1, 0, none⟩ = some (.int .i64 p.x) ∧ w'.cell? ⟨w.heap.size + 1, 1, none⟩ = some (.int .i64 p.y) ∧ w'.cell? ⟨w.heap.size + 1, 2, none⟩ = some (.int .i64 p.z)) ∧ (w'.cell? ⟨w.heap.size + 1, 3, none⟩ = some (.int .i64 q.x) ∧ w'.cell? ⟨w.heap.size + 1, 4, none⟩ = some (.int .i64 q.y) ∧ w'.cell? ⟨w.heap.size + 1, 5, none⟩ = some (.int .i64 q.z)) ∧ w'.cell? ⟨w.heap.size + 1, 6, none⟩ = some (.int .i64 r.x) ∧ w'.cell? ⟨w.heap.size + 1, 7, none⟩ = some (.int .i64 r.y) ∧ w'.cell? ⟨w.heap.size + 1, 8, none⟩ = some (.int .i64 r.z))) (first | with_reducible exact SF.out _ F.out | with_reducible exact SF.out _ F.out.drew) (first
        | (go_at_call 13; (with_reducible refine (T2.out _).mono ?_); rintro e w5 ⟨rfl, hT⟩; (first | (with_reducible have F := Lib.hid (F.out.keep hT)) | (have F := Lib.hid (F.out.drew.keep hT))); clear hT)
        | fail)
      all_goals
      clear A1 A2
      cases x2
      · cases y2
        · go_wp2
          go_roundw
          case rel => exact ⟨3, _, _, by omega, by go_num, rfl, rfl, Lib.hid ⟨fun _ => hS.out.1 (by omega), fun _ => hS.out.2.1 (by omega), fun _ => by simp⟩, F⟩
          case measure => simp [intOf]
        · have HW : Hid (o = true) := Lib.hid (by rw [HV.out]; simp)
          go_wp2
          go_ret
          exact ⟨by rw [HW.out]; rfl, F.out.t⟩
      · have HW : Hid (o = true) := Lib.hid (by rw [HV.out]; simp)
        go_wp2
        go_ret
        exact ⟨by rw [HW.out]; rfl, F.out.t⟩
    · have HW : Hid (o = false) := Lib.hid (by
        obtain ⟨e0, e1⟩ := hS.out.1 (by omega)
        obtain ⟨e2, e3⟩ := hS.out.2.1 (by omega)
        obtain ⟨e4, e5⟩ := hS.out.2.2 (by omega)
        rw [HV.out, e0, e1, e2, e3, e4, e5]; rfl)
      go_wp2
      go_ret
      exact ⟨by rw [HW.out]; rfl, F.out.t⟩

end Go.Proofs.YtandlbacjfdkpaaGreatDoor
