/- wide.divideByWord, wide.gcdOfWords, wide.compareWords. -/
import Derived.Test.YtmiibcdcnoefgaaGreatDoorWindow
import Derived.Test.YtmiibcdcnoefgaaGreatDoorAdd
namespace Go.Proofs.YtmiibcdcnoefgaaGreatDoor
open Go.RowKit Dg

def BwPost (w : World) (g o cap : Nat) (pre : List Value) (xs : List Nat) (d : Nat) (post : List Value) (e : Ending) (w' : World) : Prop :=
  ∃ (r : Nat) (zs : List Nat), e = .returned (.tuple #[.slice (some ⟨g, o, none⟩) (cut zs).length cap, .int .u64 (r : Int)]) ∧ DnOut BB xs d r zs ∧ Win w' 56 .u64 g o pre zs post ∧ Tch [g] w w'

set_option maxHeartbeats 1000000 in
set_option maxRecDepth 100000 in
theorem divideByWord (gx ox capx : Nat) (pre post : List Value) (xs : List Nat) (d : Nat) (h0 : 0 < d) (hd : d < BB) (w : World) (hx : Ok BB xs) (hb : xs.length ≤ 1000000000) (hc : xs.length ≤ capx)
    (hX : Win w 56 .u64 gx ox pre xs post) :
    Calls Tryz.prog 44 #[.slice (some ⟨gx, ox, none⟩) xs.length capx, .int .u64 d] w (BwPost w gx ox capx pre xs d post) := by
  go_enter Tryz.func44, Tryz.ntmps44
  go_wp2
  go_loopw [6, 7] (fun c' i wr => ∃ (m r : Nat) (ws : List Nat), m ≤ xs.length ∧ i = .int .i64 ((m : Int) - 1) ∧ c' = .int .u64 (r : Int) ∧ DnInv BB xs d m r ws ∧ Win wr 56 .u64 gx ox pre (xs.take m ++ ws) post ∧ Tch [gx] w wr)
    (fun _ i _ => (intOf i + 1).toNat)
  case atStart => exact ⟨xs.length, 0, [], Nat.le_refl _, rfl, rfl, DnInv.zero _ h0, by simpa using hX, Tch.refl _ _⟩
  case round =>
    obtain ⟨m, r, ws, hm, hi, rfl, hI, hW, hT⟩ := hrel
    obtain _ | m := m
    · obtain rfl : _ = Value.int .i64 (-1) := hi
      have hO := hI.out
      have HO := Lib.hid hO
      have hl := hO.len
      have HW : Win wr 56 .u64 gx ox pre ws post := by simpa using hW
      have cT := trim gx ox capx pre post ws wr (by omega) (by omega) HW
      rw [hl] at cT
      have CT := Lib.hid cT
      clear hl cT hO
      go_wp2_with fail
      refine CT.out.mono ?_
      rintro e w1 ⟨rfl, rfl⟩
      go_wp2
      go_ret2
      exact ⟨r, ws, rfl, HO.out, HW, hT⟩
    · have hi' : _ = Value.int .i64 (m : Int) := hi.trans (by congr 1; omega)
      clear hi
      subst hi'
      have hlt : m < xs.length := by omega
      obtain ⟨x, ex, cx⟩ := hW.readDn hlt
      have fx := hW.frozen (ox + m)
      have hxb : x < BB := ex.out ▸ hx.getD (by decide) m
      have hrb := Lib.hid hI.rb
      have HD := Lib.hid (fun w1 => div64 r x d hxb hrb.out hd w1)
      clear hX
      go_wp2_with fail
      refine (HD.out _).mono ?_
      rintro e w1 ⟨s, t, nq, ⟨hs, ht⟩, hsb, htb, rfl, rfl⟩
      have hst : d * s + t = BB * r + xs.getD m 0 := by rw [hs, ht, Nat.div_add_mod, ex.out, Nat.mul_comm]
      have HS := Lib.hid (hI.step (s := s) (t := t) hst hsb (by rw [ht]; exact Nat.mod_lt _ h0))
      have HW := Lib.hid (((hW.drewN nq).stepDn hlt s))
      have HT := Lib.hid (((hT.drewN nq)).setCell (p := ⟨gx, ox + m, none⟩) (by simp) (.int .u64 (s : Int)))
      clear hst hs ht hsb htb hxb HD hW hT hI
      go_wp2
      go_roundw
      case rel => exact ⟨m, t, s :: ws, by omega, by first | rfl | go_num, rfl, HS.out, HW.out, HT.out⟩
      case measure => first | (simp [intOf]; done) | (simp [intOf]; omega)

set_option maxHeartbeats 1000000 in
set_option maxRecDepth 100000 in
theorem gcdOfWords (x y : Nat) (w : World) :
    Calls Tryz.prog 45 #[.int .u64 x, .int .u64 y] w fun e w' => e = .returned (.int .u64 (Nat.gcd x y : Int)) ∧ ∃ n, w.drewN n = w' := by
  go_enter Tryz.func45, Tryz.ntmps45
  go_wp2
  go_loopw [0, 1] (fun a b wr => ∃ u v : Nat, a = .int .u64 (u : Int) ∧ b = .int .u64 (v : Int) ∧ Hid (Nat.gcd u v = Nat.gcd x y) ∧ ∃ n, w.drewN n = wr) (fun _ b _ => (intOf b).toNat)
  case atStart => exact ⟨x, y, rfl, rfl, Lib.hid rfl, 0, rfl⟩
  case round =>
    obtain ⟨u, v, rfl, rfl, hG, n, rfl⟩ := hrel
    by_cases hv : v = 0
    · subst hv
      have HG : Hid (u = Nat.gcd x y) := Lib.hid (by have := hG.out; rw [Nat.gcd_zero_right] at this; exact this)
      go_wp2
      go_ret
      exact ⟨by rw [← HG.out]; rfl, n, rfl⟩
    · have hv1 : ((v : Int) != 0) = true := by simpa using hv
      have hv2 : (0 : Int) < (v : Int) := by omega
      have hv3 : ((v : Int) == 0) = false := by simpa using hv
      have hlt := Lib.hid (Nat.mod_lt u (show 0 < v by omega))
      have HG : Hid (Nat.gcd v (u % v) = Nat.gcd x y) := Lib.hid (by rw [← hG.out, Nat.gcd_comm u v, Nat.gcd_rec v u]; exact Nat.gcd_comm _ _)
      go_wp2
      go_quiet (fail)
      go_wp2
      go_roundw
      case rel => exact ⟨v, u % v, rfl, by first | rfl | simp, HG, drewN_ex _ _ _⟩
      case measure => simp [intOf]; have := hlt.out; omega

/-- The order of two values whose digits have no zeros at the end. -/
theorem cmpI_len {b : Nat} (hb : 2 ≤ b) {xs ys : List Nat} (hx : Ok b xs) (hy : Ok b ys) (htx : Trim xs) (hty : Trim ys) (h : xs.length ≠ ys.length) : cmpI (xs.length : Int) (ys.length : Int) = cmpI (dg b xs : Int) (dg b ys : Int) := by
  have key : ∀ {us vs : List Nat}, Ok b us → Trim vs → us.length < vs.length → dg b us < dg b vs := by
    intro us vs hu hv hl
    refine Nat.lt_of_lt_of_le (dg_lt hu) (Nat.le_trans ?_ (pow_le_of_trim hv (by intro h; rw [h] at hl; simp at hl)))
    exact Nat.pow_le_pow_right (by omega) (by omega)
  rcases Nat.lt_or_ge xs.length ys.length with h1 | h1
  · have := key hx hty h1
    unfold cmpI; rw [if_pos (by omega), if_pos (by omega)]
  · have := key hy htx (by omega)
    unfold cmpI; rw [if_neg (by omega), if_pos (by omega), if_neg (by omega), if_pos (by omega)]

theorem cmpI_drop {b : Nat} {xs ys : List Nat} {m : Nat} (hx : Ok b xs) (hy : Ok b ys) (hl : xs.length = ys.length) (hm : m < xs.length) (he : xs.drop (m + 1) = ys.drop (m + 1)) (hne : xs.getD m 0 ≠ ys.getD m 0) :
    cmpI (xs.getD m 0 : Int) (ys.getD m 0 : Int) = cmpI (dg b xs : Int) (dg b ys : Int) := by
  have key : ∀ {us vs : List Nat}, Ok b us → us.length = vs.length → m < us.length → us.drop (m + 1) = vs.drop (m + 1) → us.getD m 0 < vs.getD m 0 → dg b us < dg b vs := by
    intro us vs hu hl hm he hlt
    have e1 := dg_split b us (m + 1) (by omega)
    have e2 := dg_split b vs (m + 1) (by omega)
    rw [dg_take_succ b us m (by omega)] at e1
    rw [dg_take_succ b vs m (by omega), ← he] at e2
    have h1 := dg_lt (hu.take m)
    rw [List.length_take, Nat.min_eq_left (by omega)] at h1
    have h2 := Nat.mul_le_mul_left (b ^ m) (show us.getD m 0 + 1 ≤ vs.getD m 0 from hlt)
    rw [Nat.mul_add, Nat.mul_one] at h2
    omega
  rcases Nat.lt_or_ge (xs.getD m 0) (ys.getD m 0) with h1 | h1
  · have := key hx hl hm he h1
    unfold cmpI; rw [if_pos (by omega), if_pos (by omega)]
  · have := key hy hl.symm (by omega) he.symm (by omega)
    unfold cmpI; rw [if_neg (by omega), if_pos (by omega), if_neg (by omega), if_pos (by omega)]

set_option maxHeartbeats 1000000 in
set_option maxRecDepth 100000 in
theorem compareWords (gx ox capx gy oy capy : Nat) (pre post pre' post' : List Value) (xs ys : List Nat) (w : World) (hx : Ok BB xs) (hy : Ok BB ys) (htx : Trim xs) (hty : Trim ys) (hbx : xs.length ≤ 1000000000)
    (hX : Win w 56 .u64 gx ox pre xs post) (hY : Win w 56 .u64 gy oy pre' ys post') :
    Calls Tryz.prog 73 #[.slice (some ⟨gx, ox, none⟩) xs.length capx, .slice (some ⟨gy, oy, none⟩) ys.length capy] w fun e w' => e = .returned (.int .i64 (cmpI (dg BB xs : Int) (dg BB ys : Int))) ∧ ∃ n, w.drewN n = w' := by
  have C1 := Lib.hid (fun w1 => compareInt (xs.length : Int) (ys.length : Int) w1)
  go_enter Tryz.func73, Tryz.ntmps73
  go_wp2_with fail
  refine (C1.out _).mono ?_
  rintro e w1 ⟨rfl, rfl⟩
  by_cases hl : xs.length = ys.length
  · have e0 : cmpI (xs.length : Int) (ys.length : Int) = 0 := by rw [hl]; unfold cmpI; simp
    rw [e0]
    have HL := Lib.hid hl
    have hl1 : ys.length ≤ xs.length := by omega
    clear e0 hl
    go_wp2
    go_loopw [5, 6] (fun a i wr => ∃ (m : Nat) (E : Int), a = .int .i64 E ∧ i = .int .i64 ((m : Int) - 1) ∧ m ≤ xs.length ∧ Hid ((E = 0 ∧ xs.drop m = ys.drop m) ∨ (E ≠ 0 ∧ E = cmpI (dg BB xs : Int) (dg BB ys : Int))) ∧ ∃ n, w.drewN n = wr)
      (fun _ i _ => (intOf i + 1).toNat)
    case atStart => exact ⟨xs.length, 0, rfl, rfl, Nat.le_refl _, Lib.hid (.inl ⟨rfl, by rw [List.drop_length, HL.out, List.drop_length]⟩), 0, rfl⟩
    case round =>
      obtain ⟨m, E, rfl, hi, hm, hS, n, rfl⟩ := hrel
      rcases hS.out with ⟨rfl, hd⟩ | ⟨hE0, hE⟩
      · obtain _ | m := m
        · obtain rfl : _ = Value.int .i64 (-1) := hi
          have he : Hid ((0 : Int) = cmpI (dg BB xs : Int) (dg BB ys : Int)) := Lib.hid (by rw [List.drop_zero, List.drop_zero] at hd; rw [hd]; unfold cmpI; simp)
          clear hd
          go_wp2
          go_ret
          exact ⟨by rw [← he.out]; rfl, n, rfl⟩
        · have hi' : _ = Value.int .i64 (m : Int) := hi.trans (by congr 1; omega)
          clear hi
          subst hi'
          have hmx : m < xs.length := by omega
          have hmy : m < ys.length := by rw [← HL.out]; exact hmx
          obtain ⟨x, ex, cx⟩ := hX.read hmx
          obtain ⟨y, ey, cy⟩ := hY.read hmy
          have HD := Lib.hid hd
          obtain ⟨F, hF⟩ : ∃ F, Hid (F = cmpI (x : Int) (y : Int)) := ⟨_, Lib.hid rfl⟩
          have C2 : ∀ w1, Calls Tryz.prog 89 #[.int .u64 x, .int .u64 y] w1 fun e w' => e = .returned (.int .i64 F) ∧ ∃ k, w' = w1.drewN k :=
            fun w1 => (compare64 (x : Int) (y : Int) w1).mono fun e w' ⟨he, hw⟩ => ⟨by rw [he, hF.out], 0, hw.symm⟩
          have HC2 := Lib.hid C2
          have hS2 : Hid ((F = 0 ∧ xs.drop m = ys.drop m) ∨ (F ≠ 0 ∧ F = cmpI (dg BB xs : Int) (dg BB ys : Int))) := by
            refine Lib.hid ?_
            by_cases hxy : x = y
            · refine .inl ⟨by rw [hF.out, hxy]; unfold cmpI; simp, ?_⟩
              rw [drop_eq_getD_cons xs m hmx, drop_eq_getD_cons ys m hmy, HD.out, ex.out, ey.out, hxy]
            · have h := cmpI_drop hx hy HL.out hmx HD.out (by rw [ex.out, ey.out]; exact hxy)
              rw [ex.out, ey.out, ← hF.out] at h
              refine .inr ⟨?_, h⟩
              rw [hF.out]; unfold cmpI
              split
              · omega
              · split <;> omega
          clear hd C2 hX hY
          go_wp2_with fail
          go_quiet ((go_at_call 89; exact quiet_add (HC2.out _)))
          go_wp2
          go_roundw
          case rel => exact ⟨m, F, rfl, by first | rfl | go_num, by omega, hS2, _, rfl⟩
          case measure => first | (simp [intOf]; done) | (simp [intOf]; omega)
      · have hE1 : (E == 0) = false := by simpa using hE0
        have HE := Lib.hid hE
        subst hi
        clear hE hE0 hX hY
        obtain _ | m := m
        · have e1 : (((0 : Nat) : Int) - 1) = -1 := by omega
          rw [e1]
          go_wp2
          go_ret
          exact ⟨by rw [← HE.out]; rfl, n, rfl⟩
        · have e1 : (((m + 1 : Nat) : Int) - 1) = (m : Int) := by omega
          rw [e1]
          go_wp2
          go_ret
          exact ⟨by rw [← HE.out]; rfl, n, rfl⟩
  · obtain ⟨E, hE⟩ : ∃ E : Int, Hid (E = cmpI (dg BB xs : Int) (dg BB ys : Int)) := ⟨_, Lib.hid rfl⟩
    have e0 : cmpI (xs.length : Int) (ys.length : Int) = E := by rw [hE.out]; exact cmpI_len (by decide) hx hy htx hty hl
    have hE1 : (E == 0) = false := by
      rw [← e0]; unfold cmpI
      split
      · rfl
      · split
        · rfl
        · omega
    rw [e0]
    clear e0 hX hY
    rcases Nat.eq_zero_or_pos xs.length with hz | hz
    · have hz1 : ((xs.length : Int) - 1) = -1 := by omega
      go_wp2
      refine wp_loop_rounds 1 ?_
      rw [rounds_succ]
      go_wp2
      go_ret
      exact ⟨by rw [← hE.out]; rfl, 0, rfl⟩
    · have hz1 : 0 ≤ ((xs.length : Int) - 1) := by omega
      go_wp2
      refine wp_loop_rounds 1 ?_
      rw [rounds_succ]
      go_wp2
      go_ret
      exact ⟨by rw [← hE.out]; rfl, 0, rfl⟩

end Go.Proofs.YtmiibcdcnoefgaaGreatDoor
