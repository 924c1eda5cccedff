/- wide.compareWords. -/
import Derived.Test.YtpedbahppkimbaaDoorUse
import Derived.Test.YtpedbahppkimbaaDoorAdd
namespace Go.Proofs.YtpedbahppkimbaaDoor
open Go.RowKit Dg

/-- The order of two values whose digits have no zeros at the end. -/
theorem cmpI_len {b : Nat} (hb : 2 ≤ b) {xs ys : List Nat} (hx : Ok b xs) (hy : Ok b ys) (htx : Trim xs) (hty : Trim ys) (h : xs.length ≠ ys.length) : cmpI (xs.length : Int) (ys.length : Int) = cmpI (dg b xs : Int) (dg b ys : Int) := by
  have key : ∀ {us vs : List Nat}, Ok b us → Trim vs → us.length < vs.length → dg b us < dg b vs := by
    intro us vs hu hv hl
    refine Nat.lt_of_lt_of_le (dg_lt hu) (Nat.le_trans ?_ (pow_le_of_trim hv (by intro h; rw [h] at hl; simp at hl)))
    exact Nat.pow_le_pow_right (by omega) (by omega)
  rcases Nat.lt_or_ge xs.length ys.length with h1 | h1
  · have := key hx hty h1
    unfold cmpI; rw [if_pos (by omega), if_pos (by omega)]
  · have := key hy htx (by omega)
    unfold cmpI; rw [if_neg (by omega), if_pos (by omega), if_neg (by omega), if_pos (by omega)]

theorem cmpI_drop {b : Nat} {xs ys : List Nat} {m : Nat} (hx : Ok b xs) (hy : Ok b ys) (hl : xs.length = ys.length) (hm : m < xs.length) (he : xs.drop (m + 1) = ys.drop (m + 1)) (hne : xs.getD m 0 ≠ ys.getD m 0) :
    cmpI (xs.getD m 0 : Int) (ys.getD m 0 : Int) = cmpI (dg b xs : Int) (dg b ys : Int) := by
  have key : ∀ {us vs : List Nat}, Ok b us → us.length = vs.length → m < us.length → us.drop (m + 1) = vs.drop (m + 1) → us.getD m 0 < vs.getD m 0 → dg b us < dg b vs := by
    intro us vs hu hl hm he hlt
    have e1 := dg_split b us (m + 1) (by omega)
    have e2 := dg_split b vs (m + 1) (by omega)
    rw [dg_take_succ b us m (by omega)] at e1
    rw [dg_take_succ b vs m (by omega), ← he] at e2
    have h1 := dg_lt (hu.take m)
    rw [List.length_take, Nat.min_eq_left (by omega)] at h1
    have h2 := Nat.mul_le_mul_left (b ^ m) (show us.getD m 0 + 1 ≤ vs.getD m 0 from hlt)
    rw [Nat.mul_add, Nat.mul_one] at h2
    omega
  rcases Nat.lt_or_ge (xs.getD m 0) (ys.getD m 0) with h1 | h1
  · have := key hx hl hm he h1
    unfold cmpI; rw [if_pos (by omega), if_pos (by omega)]
  · have := key hy hl.symm (by omega) he.symm (by omega)
    unfold cmpI; rw [if_neg (by omega), if_pos (by omega), if_neg (by omega), if_pos (by omega)]

set_option maxHeartbeats 1000000 in
set_option maxRecDepth 100000 in
theorem compareWords (gx ox capx gy oy capy : Nat) (pre post pre' post' : List Value) (xs ys : List Nat) (w : World) (hx : Ok BB xs) (hy : Ok BB ys) (htx : Trim xs) (hty : Trim ys) (hbx : xs.length ≤ 1000000000)
    (hX : Win w 56 .u64 gx ox pre xs post) (hY : Win w 56 .u64 gy oy pre' ys post') :
    Calls Tryd.prog 70 #[.slice (some ⟨gx, ox, none⟩) xs.length capx, .slice (some ⟨gy, oy, none⟩) ys.length capy] w fun e w' => e = .returned (.int .i64 (cmpI (dg BB xs : Int) (dg BB ys : Int))) ∧ ∃ n, w.drewN n = w' := by
  have C1 := Lib.hid (fun w1 => compareInt (xs.length : Int) (ys.length : Int) w1)
  go_enter Tryd.func70, Tryd.ntmps70
  go_wp2_with fail
  refine (C1.out _).mono ?_
  rintro e w1 ⟨rfl, rfl⟩
  by_cases hl : xs.length = ys.length
  · have e0 : cmpI (xs.length : Int) (ys.length : Int) = 0 := by rw [hl]; unfold cmpI; simp
    rw [e0]
    have HL := Lib.hid hl
    have hl1 : ys.length ≤ xs.length := by omega
    clear e0 hl
    go_wp2
    go_loopw [5, 6] (fun a i wr => ∃ (m : Nat) (E : Int), a = .int .i64 E ∧ i = .int .i64 ((m : Int) - 1) ∧ m ≤ xs.length ∧ Hid ((E = 0 ∧ xs.drop m = ys.drop m) ∨ (E ≠ 0 ∧ E = cmpI (dg BB xs : Int) (dg BB ys : Int))) ∧ ∃ n, w.drewN n = wr)
      (fun _ i _ => (intOf i + 1).toNat)
    case atStart => exact ⟨xs.length, 0, rfl, rfl, Nat.le_refl _, Lib.hid (.inl ⟨rfl, by rw [List.drop_length, HL.out, List.drop_length]⟩), 0, rfl⟩
    case round =>
      obtain ⟨m, E, rfl, hi, hm, hS, n, rfl⟩ := hrel
      rcases hS.out with ⟨rfl, hd⟩ | ⟨hE0, hE⟩
      · obtain _ | m := m
        · obtain rfl : _ = Value.int .i64 (-1) := hi
          have he : Hid ((0 : Int) = cmpI (dg BB xs : Int) (dg BB ys : Int)) := Lib.hid (by rw [List.drop_zero, List.drop_zero] at hd; rw [hd]; unfold cmpI; simp)
          clear hd
          go_wp2
          go_ret
          exact ⟨by rw [← he.out]; rfl, n, rfl⟩
        · have hi' : _ = Value.int .i64 (m : Int) := hi.trans (by congr 1; omega)
          clear hi
          subst hi'
          have hmx : m < xs.length := by omega
          have hmy : m < ys.length := by rw [← HL.out]; exact hmx
          obtain ⟨x, ex, cx⟩ := hX.read hmx
          obtain ⟨y, ey, cy⟩ := hY.read hmy
          have HD := Lib.hid hd
          obtain ⟨F, hF⟩ : ∃ F, Hid (F = cmpI (x : Int) (y : Int)) := ⟨_, Lib.hid rfl⟩
          have C2 : ∀ w1, Calls Tryd.prog 81 #[.int .u64 x, .int .u64 y] w1 fun e w' => e = .returned (.int .i64 F) ∧ ∃ k, w' = w1.drewN k :=
            fun w1 => (compare64 (x : Int) (y : Int) w1).mono fun e w' ⟨he, hw⟩ => ⟨by rw [he, hF.out], 0, hw.symm⟩
          have HC2 := Lib.hid C2
          have hS2 : Hid ((F = 0 ∧ xs.drop m = ys.drop m) ∨ (F ≠ 0 ∧ F = cmpI (dg BB xs : Int) (dg BB ys : Int))) := by
            refine Lib.hid ?_
            by_cases hxy : x = y
            · refine .inl ⟨by rw [hF.out, hxy]; unfold cmpI; simp, ?_⟩
              rw [drop_eq_getD_cons xs m hmx, drop_eq_getD_cons ys m hmy, HD.out, ex.out, ey.out, hxy]
            · have h := cmpI_drop hx hy HL.out hmx HD.out (by rw [ex.out, ey.out]; exact hxy)
              rw [ex.out, ey.out, ← hF.out] at h
              refine .inr ⟨?_, h⟩
              rw [hF.out]; unfold cmpI
              split
              · omega
              · split <;> omega
          clear hd C2 hX hY
          go_wp2_with fail
          go_quiet ((go_at_call 81; exact quiet_add (HC2.out _)))
          go_wp2
          go_roundw
          case rel => exact ⟨m, F, rfl, by first | rfl | go_num, by omega, hS2, _, rfl⟩
          case measure => first | (simp [intOf]; done) | (simp [intOf]; omega)
      · have hE1 : (E == 0) = false := by simpa using hE0
        have HE := Lib.hid hE
        subst hi
        clear hE hE0 hX hY
        obtain _ | m := m
        · have e1 : (((0 : Nat) : Int) - 1) = -1 := by omega
          rw [e1]
          go_wp2
          go_ret
          exact ⟨by rw [← HE.out]; rfl, n, rfl⟩
        · have e1 : (((m + 1 : Nat) : Int) - 1) = (m : Int) := by omega
          rw [e1]
          go_wp2
          go_ret
          exact ⟨by rw [← HE.out]; rfl, n, rfl⟩
  · obtain ⟨E, hE⟩ : ∃ E : Int, Hid (E = cmpI (dg BB xs : Int) (dg BB ys : Int)) := ⟨_, Lib.hid rfl⟩
    have e0 : cmpI (xs.length : Int) (ys.length : Int) = E := by rw [hE.out]; exact cmpI_len (by decide) hx hy htx hty hl
    have hE1 : (E == 0) = false := by
      rw [← e0]; unfold cmpI
      split
      · rfl
      · split
        · rfl
        · omega
    rw [e0]
    clear e0 hX hY
    rcases Nat.eq_zero_or_pos xs.length with hz | hz
    · have hz1 : ((xs.length : Int) - 1) = -1 := by omega
      go_wp2
      refine wp_loop_rounds 1 ?_
      rw [rounds_succ]
      go_wp2
      go_ret
      exact ⟨by rw [← hE.out]; rfl, 0, rfl⟩
    · have hz1 : 0 ≤ ((xs.length : Int) - 1) := by omega
      go_wp2
      refine wp_loop_rounds 1 ?_
      rw [rounds_succ]
      go_wp2
      go_ret
      exact ⟨by rw [← hE.out]; rfl, 0, rfl⟩

end Go.Proofs.YtpedbahppkimbaaDoor
