/- math/bits.Div64: the walk. -/
import Derived.Test.YtmiibcdcnoefgaaGreatDoorDiv
import Derived.Deep.DeepCutAuto
import Derived.Deep.CutBlock
namespace Go.Proofs.YtmiibcdcnoefgaaGreatDoor
open Go.RowKit Dg

/-- The products and sums of one step of an estimate, in the walk's own spelling. -/
theorem est_rules {U u Y1 Y0 q r : Nat} (h : Est U u Y1 Y0 q r) (h0 : Y0 < 4294967296) : ∃ B : Nat, q * Y0 = B ∧ IntKind.u64.wrap ((q : Int) * (Y0 : Int)) = (B : Int) := by
  have hb : q * Y0 ≤ 4294967297 * 4294967295 := Nat.mul_le_mul h.qb (by omega)
  exact ⟨_, rfl, by rw [← Int.natCast_mul]; exact wrapN _ (by omega)⟩

/-- The first estimate, in the walk's own spelling. -/
theorem first_rules {U Y1 : Nat} (hU : U < BB) : ∃ q P r : Nat, U / Y1 = q ∧ U % Y1 = r ∧ IntKind.u64.wrap ((U : Int) / (Y1 : Int)) = (q : Int) ∧ IntKind.u64.wrap ((q : Int) * (Y1 : Int)) = (P : Int) ∧ IntKind.u64.wrap ((U : Int) - (P : Int)) = (r : Int) := by
  have hd := Nat.div_add_mod U Y1
  have hle : U / Y1 * Y1 ≤ U := Nat.div_mul_le_self _ _
  refine ⟨U / Y1, U / Y1 * Y1, U % Y1, rfl, rfl, wrap_div U Y1 hU, ?_, ?_⟩
  · rw [← Int.natCast_mul]; exact wrapN _ (Nat.lt_of_le_of_lt hle hU)
  · rw [Nat.mul_comm] at hd
    have : (U : Int) - ((U / Y1 * Y1 : Nat) : Int) = ((U % Y1 : Nat) : Int) := by omega
    rw [this]; exact wrapN _ (Nat.lt_of_le_of_lt (Nat.mod_le _ _) hU)

/-- The rest behind a digit, in the walk's own spelling. -/
theorem rest_rule {U u Y : Nat} (hY : Y < BB) (h0 : 0 < Y) : IntKind.u64.wrap (IntKind.u64.wrap (IntKind.u64.wrap ((U : Int) * 4294967296) + (u : Int)) - IntKind.u64.wrap (((U * 4294967296 + u) / Y : Nat) * (Y : Int))) = (((U * 4294967296 + u) % Y : Nat) : Int) := by
  have hd := Nat.div_add_mod (U * 4294967296 + u) Y
  have hm := Nat.mod_lt (U * 4294967296 + u) h0
  generalize hN : U * 4294967296 + u = N at *
  have e1 : (((N / Y : Nat) : Int)) * (Y : Int) = ((N / Y * Y : Nat) : Int) := by simp
  rw [e1]
  rw [Nat.mul_comm] at hd
  generalize N / Y * Y = P at *
  generalize N % Y = R at *
  simp only [IntKind.wrap_u64]
  rw [BB_eq] at hY
  omega

theorem quot_lt {hi lo y : Nat} (hlo : lo < BB) (hy : hi < y) : (hi * BB + lo) / y < BB := by
  rw [Nat.div_lt_iff_lt_mul (by omega)]
  have := Nat.mul_le_mul_right BB (show hi + 1 ≤ y from hy)
  rw [Nat.add_mul] at this
  rw [Nat.mul_comm BB y]
  omega

theorem sum_rule {a b c : Nat} (h : a * 4294967296 + b = c) (hc : c < BB) : IntKind.u64.wrap (IntKind.u64.wrap ((a : Int) * 4294967296) + (b : Int)) = (c : Int) := by
  simp only [IntKind.wrap_u64]
  rw [BB_eq] at hc
  omega

set_option maxHeartbeats 2000000 in
set_option maxRecDepth 100000 in
theorem div64_pos (hi lo y : Nat) (h0 : 0 < hi) (hlo : lo < BB) (hy : hi < y) (hyb : y < BB) (w : World) :
    Calls Tryz.prog 76 #[.int .u64 hi, .int .u64 lo, .int .u64 y] w (DivPost hi lo y w) := by
  obtain ⟨s, hs, es, hY, hYt⟩ := norm_shift y (by omega) hyb
  obtain ⟨Y, Y1, Y0, U, L, u1, u0, D⟩ := div_in hi lo y s hlo hy hs hY hYt
  have h1 : ((y : Int) == 0) = false := by simp; omega
  have h2 : (hi : Int) < (y : Int) := by omega
  have h3 : ((hi : Int) == 0) = false := by simp; omega
  have hL := Tryz.bits_LeadingZeros64 (y : Int) w (by omega) (by rw [BB_eq] at hyb; omega)
  have rY := D.rY; have rY1 := D.rY1; have rY0 := D.rY0; have rU := D.rU; have rL := D.rL; have rL1 := D.rL1; have rL0 := D.rL0
  have bY1 : (2147483648 : Int) ≤ (Y1 : Int) := by have := D.Y1lo; omega
  have hY1 : ((Y1 : Int) == 0) = false := by simp; omega
  have bY0 := D.Y0hi; have bY1' := D.Y1hi; have bu1 := D.u1hi; have bu0 := D.u0hi
  have E0 := est_start D.Y1lo D.Y1hi D.Y0hi D.u1hi (by rw [D.yY]; exact D.Ulo)
  have es' := Lib.hid es
  obtain ⟨q, P, r, eq0, er0, rq, rP, rr⟩ := first_rules (Y1 := Y1) (Nat.lt_trans D.Ulo D.Yhi)
  rw [eq0, er0] at E0
  obtain ⟨Q1, eQ1⟩ : ∃ Q1, (U * 4294967296 + u1) / (Y1 * 4294967296 + Y0) = Q1 := ⟨_, rfl⟩
  have HQ1 := Lib.hid eQ1
  clear hY hYt es eq0 er0 eQ1
  go_enter Tryz.func76, Tryz.ntmps76
  go_wp2_with fail
  refine hL.mono ?_
  rintro e w' ⟨rfl, hw⟩
  subst hw
  rw [Int.toNat_natCast, es'.out]
  clear hL
  go_upto_block 0 with (fail)
  go_cut [15] (fun a wx => a = .int .u64 (Q1 : Int) ∧ wx = w')
  case first =>
    go_wp2
    go_loop [15, 16] (fun a b => ∃ (m t : Nat) (M T : Int), a = .int .u64 M ∧ b = .int .u64 T ∧ Hid (M = (m : Int)) ∧ Hid (T = (t : Int)) ∧ Est U u1 Y1 Y0 m t) (fun a _ => (intOf a).toNat)
    case atStart => exact ⟨q, r, _, _, rfl, rfl, Lib.hid rfl, Lib.hid rfl, E0⟩
    case round =>
      clear rq rP rr E0 rY rY1 rY0 rU rL rL1 rL0 h1 h2 h3
      obtain ⟨m, t, M, T, rfl, rfl, hM, hT, E⟩ := hrel
      obtain ⟨B0, eB, rB0⟩ := est_rules E bY0
      obtain ⟨B, hB⟩ : ∃ B : Int, Hid (B = (B0 : Int)) := ⟨_, Lib.hid rfl⟩
      have rB : IntKind.u64.wrap (M * (Y0 : Int)) = B := by rw [hM.out, hB.out]; exact rB0
      have br : T < 4294967296 := by have := E.rb; rw [hT.out]; omega
      have br0 : 0 ≤ T := by rw [hT.out]; omega
      have bm0 : 0 ≤ M := by rw [hM.out]; omega
      have rT : IntKind.u64.wrap (4294967296 * T + (u1 : Int)) = 4294967296 * T + (u1 : Int) := by rw [hT.out, IntKind.wrap_u64]; have := E.rb; omega
      clear rB0
      by_cases c : 4294967296 ≤ m ∨ 4294967296 * t + u1 < B0
      · obtain ⟨p, ep⟩ := est_pos E (by rw [eB]; exact c)
        obtain ⟨g1, g2⟩ := est_go (rh := t) D.Y1lo bY0 bu1 (by rw [D.yY]; exact D.Ulo) (ep ▸ E) (by rw [← ep, eB]; exact c)
        obtain ⟨V, hV⟩ : ∃ V : Int, Hid (V = (p : Int)) := ⟨_, Lib.hid rfl⟩
        have rp : M - 1 = V := by rw [hM.out, hV.out]; omega
        have rp' : IntKind.u64.wrap V = V := by rw [hV.out]; exact wrapN _ (by have := E.qb; omega)
        obtain ⟨t', et'⟩ : ∃ t', t + Y1 = t' := ⟨_, rfl⟩
        obtain ⟨S, hS⟩ : ∃ S : Int, Hid (S = (t' : Int)) := ⟨_, Lib.hid rfl⟩
        have rs : T + (Y1 : Int) = S := by rw [hT.out, hS.out]; omega
        have rs' : IntKind.u64.wrap S = S := by rw [hS.out]; exact wrapN _ (by have := E.rb; omega)
        have hpq : V.toNat < M.toNat := by rw [hV.out, hM.out]; omega
        have HB := Lib.hid (fun h : 4294967296 ≤ t' => (est_brk D.Y1lo bY0 (ep ▸ E) g1 g2 (by rw [et']; exact h)).trans HQ1.out)
        have HN := Lib.hid (fun h : t' < 4294967296 => et' ▸ est_next (ep ▸ E) g1 g2 (by rw [et']; exact h))
        have HPQ := Lib.hid hpq
        have c1 : (M < 4294967296 ∧ 4294967296 * T + (u1 : Int) < B) ∨ 4294967296 ≤ M := by
          rw [hM.out, hT.out, hB.out]; omega
        clear g1 g2 ep et' eB D c hpq E
        by_cases hb : 4294967296 ≤ t'
        · have hpQ := Lib.hid (HB.out hb)
          have hb2 : (4294967296 : Int) ≤ S := by rw [hS.out]; omega
          rcases c1 with ⟨c1, c2⟩ | c1
          · clear hb bY0 bY1' bu1 bu0
            go_wp2
            go_meet
            exact ⟨by rw [hV.out, hpQ.out], rfl⟩
          · clear hb bY0 bY1' bu1 bu0
            go_wp2
            go_meet
            exact ⟨by rw [hV.out, hpQ.out], rfl⟩
        · have hE := Lib.hid (HN.out (by omega))
          have hb2 : S < 4294967296 := by rw [hS.out]; omega
          rcases c1 with ⟨c1, c2⟩ | c1
          · clear hb bY0 bY1' bu1 bu0
            go_wp2
            go_round
            case rel => exact ⟨p, t', _, _, rfl, rfl, hV, hS, hE.out⟩
            case measure => simp only [intOf]; exact HPQ.out
          · clear hb bY0 bY1' bu1 bu0
            go_wp2
            go_round
            case rel => exact ⟨p, t', _, _, rfl, rfl, hV, hS, hE.out⟩
            case measure => simp only [intOf]; exact HPQ.out
      · have hqQ := Lib.hid ((est_end D.Y1lo E (by rw [eB]; omega)).trans HQ1.out)
        have c1 : M < 4294967296 := by rw [hM.out]; omega
        have c2 : B ≤ 4294967296 * T + (u1 : Int) := by rw [hT.out, hB.out]; omega
        clear c eB D E bY0 bY1' bu1 bu0
        go_wp2
        go_meet
        exact ⟨by rw [hM.out, hqQ.out], rfl⟩
  case rest =>
    obtain ⟨rfl, rfl⟩ := hcut
    have hY0 : 0 < Y := by rw [← D.yY]; have := D.Y1lo; omega
    obtain ⟨R, eR⟩ : ∃ R, (U * 4294967296 + u1) % Y = R := ⟨_, rfl⟩
    have eQY : (U * 4294967296 + u1) / Y = Q1 := by rw [← D.yY]; exact HQ1.out
    have rR := rest_rule (U := U) (u := u1) D.Yhi hY0
    rw [eR, eQY] at rR
    have hRY : R < Y := by rw [← eR]; exact Nat.mod_lt _ hY0
    obtain ⟨q2, P2, r2, eq2, er2, rq2, rP2, rr2⟩ := first_rules (U := R) (Y1 := Y1) (Nat.lt_trans hRY D.Yhi)
    have E2 := est_start (U := R) (u := u0) D.Y1lo D.Y1hi D.Y0hi D.u0hi (by rw [D.yY]; exact hRY)
    rw [eq2, er2] at E2
    obtain ⟨Q0, eQ0⟩ : ∃ Q0, (R * 4294967296 + u0) / (Y1 * 4294967296 + Y0) = Q0 := ⟨_, rfl⟩
    have HQ0 := Lib.hid eQ0
    obtain ⟨F, eF⟩ : ∃ F, (R * 4294967296 + u0) % Y = F := ⟨_, rfl⟩
    have rF := rest_rule (U := R) (u := u0) D.Yhi hY0
    rw [eF, ← D.yY, eQ0, D.yY] at rF
    have hO := div_out D (by omega)
    rw [eR, eQY, eF, ← D.yY, eQ0] at hO
    have HO := Lib.hid hO
    have HRY := Lib.hid hRY
    have HD := Lib.hid D
    clear rq rP rr E0 rY rY1 rY0 rU rL rL1 rL0 h1 h2 h3 eR eQY eq2 er2 eQ0 eF hO hRY hY0 HQ1
    go_upto_block 2 with (fail)
    go_cut [18] (fun a wx => a = .int .u64 (Q0 : Int) ∧ wx = wc)
    case first =>
      go_wp2
      go_loop [18, 16] (fun a b => ∃ (m t : Nat) (M T : Int), a = .int .u64 M ∧ b = .int .u64 T ∧ Hid (M = (m : Int)) ∧ Hid (T = (t : Int)) ∧ Est R u0 Y1 Y0 m t) (fun a _ => (intOf a).toNat)
      case atStart => exact ⟨q2, r2, _, _, rfl, rfl, Lib.hid rfl, Lib.hid rfl, E2⟩
      case round =>
        clear rR rF rq2 rP2 rr2 E2 HO HD
        obtain ⟨m, t, M, T, rfl, rfl, hM, hT, E⟩ := hrel
        obtain ⟨B0, eB, rB0⟩ := est_rules E bY0
        obtain ⟨B, hB⟩ : ∃ B : Int, Hid (B = (B0 : Int)) := ⟨_, Lib.hid rfl⟩
        have rB : IntKind.u64.wrap (M * (Y0 : Int)) = B := by rw [hM.out, hB.out]; exact rB0
        have br : T < 4294967296 := by have := E.rb; rw [hT.out]; omega
        have br0 : 0 ≤ T := by rw [hT.out]; omega
        have bm0 : 0 ≤ M := by rw [hM.out]; omega
        have rT : IntKind.u64.wrap (4294967296 * T + (u0 : Int)) = 4294967296 * T + (u0 : Int) := by rw [hT.out, IntKind.wrap_u64]; have := E.rb; omega
        clear rB0
        by_cases c : 4294967296 ≤ m ∨ 4294967296 * t + u0 < B0
        · obtain ⟨p, ep⟩ := est_pos E (by rw [eB]; exact c)
          obtain ⟨g1, g2⟩ := est_go (rh := t) D.Y1lo bY0 bu0 (by rw [D.yY]; exact HRY.out) (ep ▸ E) (by rw [← ep, eB]; exact c)
          obtain ⟨V, hV⟩ : ∃ V : Int, Hid (V = (p : Int)) := ⟨_, Lib.hid rfl⟩
          have rp : M - 1 = V := by rw [hM.out, hV.out]; omega
          have rp' : IntKind.u64.wrap V = V := by rw [hV.out]; exact wrapN _ (by have := E.qb; omega)
          obtain ⟨t', et'⟩ : ∃ t', t + Y1 = t' := ⟨_, rfl⟩
          obtain ⟨S, hS⟩ : ∃ S : Int, Hid (S = (t' : Int)) := ⟨_, Lib.hid rfl⟩
          have rs : T + (Y1 : Int) = S := by rw [hT.out, hS.out]; omega
          have rs' : IntKind.u64.wrap S = S := by rw [hS.out]; exact wrapN _ (by have := E.rb; omega)
          have hpq : V.toNat < M.toNat := by rw [hV.out, hM.out]; omega
          have HB := Lib.hid (fun h : 4294967296 ≤ t' => (est_brk D.Y1lo bY0 (ep ▸ E) g1 g2 (by rw [et']; exact h)).trans HQ0.out)
          have HN := Lib.hid (fun h : t' < 4294967296 => et' ▸ est_next (ep ▸ E) g1 g2 (by rw [et']; exact h))
          have HPQ := Lib.hid hpq
          have c1 : (M < 4294967296 ∧ 4294967296 * T + (u0 : Int) < B) ∨ 4294967296 ≤ M := by
            rw [hM.out, hT.out, hB.out]; omega
          clear g1 g2 ep et' eB D c hpq E
          by_cases hb : 4294967296 ≤ t'
          · have hpQ := Lib.hid (HB.out hb)
            have hb2 : (4294967296 : Int) ≤ S := by rw [hS.out]; omega
            rcases c1 with ⟨c1, c2⟩ | c1
            · clear hb bY0 bY1' bu1 bu0
              go_wp2
              go_meet
              exact ⟨by rw [hV.out, hpQ.out], rfl⟩
            · clear hb bY0 bY1' bu1 bu0
              go_wp2
              go_meet
              exact ⟨by rw [hV.out, hpQ.out], rfl⟩
          · have hE := Lib.hid (HN.out (by omega))
            have hb2 : S < 4294967296 := by rw [hS.out]; omega
            rcases c1 with ⟨c1, c2⟩ | c1
            · clear hb bY0 bY1' bu1 bu0
              go_wp2
              go_round
              case rel => exact ⟨p, t', _, _, rfl, rfl, hV, hS, hE.out⟩
              case measure => simp only [intOf]; exact HPQ.out
            · clear hb bY0 bY1' bu1 bu0
              go_wp2
              go_round
              case rel => exact ⟨p, t', _, _, rfl, rfl, hV, hS, hE.out⟩
              case measure => simp only [intOf]; exact HPQ.out
        · have hqQ := Lib.hid ((est_end D.Y1lo E (by rw [eB]; omega)).trans HQ0.out)
          have c1 : M < 4294967296 := by rw [hM.out]; omega
          have c2 : B ≤ 4294967296 * T + (u0 : Int) := by rw [hT.out, hB.out]; omega
          clear c eB D E bY0 bY1' bu1 bu0
          go_wp2
          go_meet
          exact ⟨by rw [hM.out, hqQ.out], rfl⟩
    case rest =>
      obtain ⟨rfl, rfl⟩ := hcut
      obtain ⟨g1, g2⟩ := HO.out
      obtain ⟨A, eA⟩ : ∃ A, (hi * BB + lo) / y = A := ⟨_, rfl⟩
      obtain ⟨C, eC⟩ : ∃ C, (hi * BB + lo) % y = C := ⟨_, rfl⟩
      have hA : A < BB := by rw [← eA]; exact quot_lt hlo hy
      have hC : C < BB := by rw [← eC]; exact Nat.lt_trans (Nat.mod_lt _ (by omega)) hyb
      rw [eA] at g1
      rw [eC] at g2
      have rA : IntKind.u64.wrap (IntKind.u64.wrap ((Q1 : Int) * 4294967296) + (Q0 : Int)) = (A : Int) := sum_rule g1 hA
      have rC : (F : Int) / 2 ^ s = (C : Int) := by rw [cast_div, g2, Nat.mul_div_cancel _ (Nat.two_pow_pos s)]
      have HA := Lib.hid eA
      have HC := Lib.hid eC
      have HA' := Lib.hid hA
      have HC' := Lib.hid hC
      clear g1 g2 eA eC hA hC rR rq2 rP2 rr2 E2 HO HD HRY D bY0 bY1' bu1 bu0 hyb hlo hy
      go_wp2
      go_ret2
      exact ⟨A, C, 0, ⟨HA.out.symm, HC.out.symm⟩, HA'.out, HC'.out, rfl, rfl⟩

/-- math/bits.Div64, where it does not panic. -/
theorem div64 (hi lo y : Nat) (hlo : lo < BB) (hy : hi < y) (hyb : y < BB) (w : World) :
    Calls Tryz.prog 76 #[.int .u64 hi, .int .u64 lo, .int .u64 y] w (DivPost hi lo y w) := by
  by_cases h : hi = 0
  · subst h
    have h := div64_zero lo y hlo (by omega) w
    unfold DivPost
    rw [Nat.zero_mul, Nat.zero_add]
    exact h
  · exact div64_pos hi lo y (by omega) hlo hy hyb w

end Go.Proofs.YtmiibcdcnoefgaaGreatDoor
