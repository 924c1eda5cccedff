/- wide.divideWindow. -/
import Derived.Test.YtmiibcdcnoefgaaGreatDoorDivWalk
import Derived.Test.YtmiibcdcnoefgaaGreatDoorAdd
namespace Go.Proofs.YtmiibcdcnoefgaaGreatDoor
open Go.RowKit Dg

theorem quiet_add {P : Program} {f : FuncId} {args : Array Value} {w : World} {a n : Nat} {v : Value}
    (h : Calls P f args (w.drewN (a + n)) fun e w' => e = .returned v ∧ ∃ m, w' = (w.drewN (a + n)).drewN m) :
    Calls P f args (w.drewN (a + n)) fun e w'' => e = .returned v ∧ ∃ m, w'' = w.drewN (a + m) :=
  h.mono fun _ _ ⟨he, m, hm⟩ => ⟨he, n + m, by rw [hm, World.drewN_drewN, Nat.add_assoc]⟩

theorem drewN_ex (w : World) (a b : Nat) : ∃ m, w.drewN m = (w.drewN a).drewN b := ⟨a + b, (World.drewN_drewN w a b).symm⟩

/-- Div64 by the values that it returns. -/
theorem div64_val (hi lo y A C : Nat) (hlo : lo < BB) (hy : hi < y) (hyb : y < BB) (hA : (hi * BB + lo) / y = A) (hC : (hi * BB + lo) % y = C) (w : World) :
    Calls Tryz.prog 76 #[.int .u64 hi, .int .u64 lo, .int .u64 y] w fun e w' => e = .returned (.tuple #[.int .u64 (A : Int), .int .u64 (C : Int)]) ∧ ∃ m, w' = w.drewN m :=
  (div64 hi lo y hlo hy hyb w).mono fun e w' ⟨a, b, n, ⟨ha, hb⟩, _, _, he, hw⟩ => ⟨by rw [he, ha, hb, hA, hC], n, hw.symm⟩

/-- The estimate of one word of a quotient is being put right: Z the window's value, Y the divisor's, P the first power that the window can't hold. -/
structure WinInv (Z Y P g d r : Nat) : Prop where
  sum : r + g * Y = Z + P * d
  d1 : d ≤ 1
  rP : r < P
  ge : Z / Y ≤ g

theorem WinInv.pos {Z Y P g r : Nat} (h : WinInv Z Y P g 1 r) (hY : 0 < Y) : Z / Y < g := by
  rw [Nat.div_lt_iff_lt_mul hY]
  have := h.sum
  have := h.rP
  omega

theorem WinInv.step {Z Y P g r r' c : Nat} (h : WinInv Z Y P (g + 1) 1 r) (hY : 0 < Y) (hs : r' + P * c = r + Y) (hr : r' < P) (hc : c ≤ 1) : WinInv Z Y P g (1 - c) r' := by
  have hg := h.pos hY
  refine ⟨?_, by omega, hr, by omega⟩
  have h1 := h.sum
  rw [Nat.add_mul] at h1
  have h2 : c = 0 ∨ c = 1 := by omega
  rcases h2 with rfl | rfl
  · simp only [Nat.mul_zero, Nat.sub_zero, Nat.mul_one] at *
    omega
  · simp only [Nat.mul_one, Nat.sub_self, Nat.mul_zero] at *
    omega

theorem WinInv.out {Z Y P g r : Nat} (h : WinInv Z Y P g 0 r) (hY : 0 < Y) : g = Z / Y ∧ r = Z % Y := by
  have h1 := h.sum
  have h2 := h.ge
  rw [Nat.mul_zero, Nat.add_zero] at h1
  have h3 : g ≤ Z / Y := (Nat.le_div_iff_mul_le hY).2 (by omega)
  have h4 : g = Z / Y := by omega
  have h5 := Nat.div_add_mod Z Y
  rw [Nat.mul_comm, ← h4] at h5
  exact ⟨h4, by omega⟩

/-- The window while its estimate is being put right. -/
structure RsInv (b : Nat) (zs ys : List Nat) (G d : Nat) (rs : List Nat) : Prop where
  len : rs.length = zs.length
  ok : Ok b rs
  inv : WinInv (dg b zs) (dg b ys) (b ^ zs.length) G d (dg b rs)

theorem RsInv.first {b : Nat} {zs ys : List Nat} {G d : Nat} {rs : List Nat} (h : SmOut b zs ys G d rs) (hG : dg b zs / dg b ys ≤ G) : RsInv b zs ys G d rs :=
  ⟨h.len, h.ok, ⟨h.val, h.d1, by have := dg_lt h.ok; rwa [h.len] at this, hG⟩⟩

theorem RsInv.step {b : Nat} {zs ys : List Nat} {G c : Nat} {rs qs : List Nat} (h : RsInv b zs ys (G + 1) 1 rs) (hY : 0 < dg b ys) (ha : AddOut b rs ys c qs) : RsInv b zs ys G (1 - c) qs :=
  ⟨ha.len.trans h.len, ha.ok, h.inv.step hY (by rw [← h.len]; exact ha.val) (by have := dg_lt ha.ok; rwa [ha.len, h.len] at this) ha.c1⟩

theorem RsInv.pos {b : Nat} {zs ys : List Nat} {G : Nat} {rs : List Nat} (h : RsInv b zs ys G 1 rs) (hY : 0 < dg b ys) : ∃ g, G = g + 1 := by
  have := Nat.lt_of_le_of_lt (Nat.zero_le _) (h.inv.pos hY)
  exact ⟨G - 1, by omega⟩

/-- What divideWindow leaves: the word of the quotient, and the rest in the window. -/
structure WinOut (b : Nat) (zs ys : List Nat) (q : Nat) (rs : List Nat) : Prop where
  len : rs.length = zs.length
  ok : Ok b rs
  quo : q = dg b zs / dg b ys
  rem : dg b rs = dg b zs % dg b ys

/-- The estimate out of the highest words is not too small. -/
theorem guess_ge {b n u2 u1 v g : Nat} {zs ys : List Nat} (hz : Ok b zs) (hlz : zs.length = n + 2) (hly : ys.length = n + 1) (h2 : zs.getD (n + 1) 0 = u2) (h1 : zs.getD n 0 = u1) (hv : ys.getD n 0 = v) (hv0 : 0 < v)
    (hlt : dg b zs < dg b ys * b) (hg : g = b - 1 ∨ g = (u2 * b + u1) / v) : dg b zs / dg b ys ≤ g := by
  have hY : 0 < dg b ys := by
    rcases Nat.eq_zero_or_pos (dg b ys) with h | h
    · rw [h] at hlt; omega
    · exact h
  have ey := dg_take_succ b ys n (by omega)
  rw [List.take_of_length_le (by omega), hv] at ey
  have ez := dg_take_succ b zs (n + 1) (by omega)
  rw [List.take_of_length_le (by omega), dg_take_succ b zs n (by omega), h1, h2] at ez
  have hzt := dg_lt (hz.take n)
  rw [List.length_take, Nat.min_eq_left (by omega)] at hzt
  have hp : b ^ (n + 1) = b ^ n * b := Nat.pow_succ ..
  rw [hp] at ez
  refine knuth_ge (p := b ^ n) (b := b) (w := dg b zs) (y := dg b ys) (top := u2 * b + u1) (v := v) ?_ ?_ (Nat.div_mul_le_self _ _) ?_ hv0 hg
  · rw [ez, Nat.add_mul, Nat.one_mul, Nat.add_mul, Nat.mul_comm u1, Nat.mul_comm u2 b, Nat.mul_assoc b u2, Nat.mul_comm u2, ← Nat.mul_assoc b, Nat.mul_comm b (b ^ n)]
    omega
  · rw [ey, Nat.mul_comm v]; omega
  · rw [Nat.div_lt_iff_lt_mul hY, Nat.mul_comm]; exact hlt

def WinPost (w : World) (g o : Nat) (pre : List Value) (zs ys : List Nat) (post : List Value) (e : Ending) (w' : World) : Prop :=
  ∃ (q : Nat) (rs : List Nat), e = .returned (.int .u64 (q : Int)) ∧ q < BB ∧ WinOut BB zs ys q rs ∧ Win w' 56 .u64 g o pre rs post ∧ Tch [g] w w'

set_option maxHeartbeats 2000000 in
set_option maxRecDepth 100000 in
theorem divideWindow (gw ow capw gy oy capy n : Nat) (pre post pre' post' : List Value) (zs ys : List Nat) (w : World) (hgg : gw ≠ gy) (hz : Ok BB zs) (hy : Ok BB ys) (hlz : zs.length = n + 2) (hly : ys.length = n + 1) (hb : n ≤ 100000000)
    (hv : ys.getD n 0 ≠ 0) (hlt : dg BB zs < dg BB ys * BB)
    (hW : Win w 56 .u64 gw ow pre zs post) (hY : Win w 56 .u64 gy oy pre' ys post') :
    Calls Tryz.prog 68 #[.slice (some ⟨gw, ow, none⟩) (n + 2 : Nat) capw, .slice (some ⟨gy, oy, none⟩) (n + 1 : Nat) capy] w (WinPost w gw ow pre zs ys post) := by
  obtain ⟨u2, e2, c2⟩ := hW.read (j := n + 1) (by omega)
  obtain ⟨u1, e1, c1⟩ := hW.read (j := n) (by omega)
  obtain ⟨v, ev, cv⟩ := hY.read (j := n) (by omega)
  have hv0 : 0 < v := by rw [← ev.out]; omega
  have bu2 : u2 < BB := e2.out ▸ hz.getD (by decide) _
  have bu1 : u1 < BB := e1.out ▸ hz.getD (by decide) _
  have bv : v < BB := ev.out ▸ hy.getD (by decide) _
  have hYp : 0 < dg BB ys := by
    rcases Nat.eq_zero_or_pos (dg BB ys) with h | h
    · rw [h] at hlt; omega
    · exact h
  have HG := fun g hg => guess_ge (g := g) hz hlz hly e2.out e1.out ev.out hv0 hlt hg
  have HL := Lib.hid (And.intro hlz hly)
  have HP := Lib.hid hYp
  clear hlt hYp hlz hly hv
  go_enter Tryz.func68, Tryz.ntmps68
  go_upto_region 3 with fail
  go_quiet (fail)
  go_upto_if 20 with (fail)
  go_cut [6] (fun g wx => ∃ G : Nat, g = .int .u64 (G : Int) ∧ G < BB ∧ dg BB zs / dg BB ys ≤ G ∧ ∃ m, w.drewN m = wx)
  case first =>
    by_cases hc : u2 < v
    · obtain ⟨A, eA⟩ : ∃ A, (u2 * BB + u1) / v = A := ⟨_, rfl⟩
      obtain ⟨C, eC⟩ : ∃ C, (u2 * BB + u1) % v = C := ⟨_, rfl⟩
      have hA := Lib.hid (HG A (.inr eA.symm))
      have hAb : A < BB := by rw [← eA]; exact quot_lt bu1 hc
      have hAB := Lib.hid hAb
      have cD := fun w1 => div64_val u2 u1 v A C bu1 hc bv eA eC w1
      have CD := Lib.hid cD
      have hc' : (u2 : Int) < (v : Int) := by omega
      clear HG eA eC hAb cD hW hY hz hy bu2 bu1 bv hv0 hc
      go_wp2_with fail
      go_quiet ((go_at_call 76; exact quiet_add (CD.out _)))
      go_wp2
      go_meet
      exact ⟨A, rfl, hAB.out, hA.out, drewN_ex _ _ _⟩
    · have hA := Lib.hid (HG (BB - 1) (.inl rfl))
      have hc' : (v : Int) ≤ (u2 : Int) := by omega
      clear HG hW hY hz hy bu2 bu1 bv hv0 hc
      go_wp2
      go_meet
      exact ⟨BB - 1, rfl, by decide, hA.out, _, rfl⟩
  case rest =>
    obtain ⟨G, rfl, hGb, hG, m, rfl⟩ := hcut
    clear HG c2 c1 cv e2 e1 ev
    have cS := fun w1 h1 h2 => subtractProduct gw ow capw gy oy capy pre post pre' post' zs ys G w1 hgg hz hy hGb (by rw [HL.out.1, HL.out.2]) (by rw [HL.out.1]; omega) h1 h2
    rw [HL.out.1, HL.out.2] at cS
    have CS := Lib.hid cS
    clear cS
    go_wp2_with fail
    refine (CS.out _ (by exact hW) (by exact hY)).mono ?_
    rintro e w1 ⟨d, rs, rfl, hS, hW1, hT1⟩
    have hI := RsInv.first hS hG
    clear hS hG CS
    have HT : Hid (Tch [gw] w w1) := Lib.hid ((Tch.drewN (Tch.refl [gw] w) m).trans hT1 (by simp))
    clear hT1
    go_wp2
    go_loopw [6, 7] (fun g d wr => ∃ (G dN : Nat) (qs : List Nat), g = .int .u64 (G : Int) ∧ d = .int .u64 (dN : Int) ∧ G < BB ∧ RsInv BB zs ys G dN qs ∧ Win wr 56 .u64 gw ow pre qs post ∧ Tch [gw] w wr)
      (fun g _ _ => (intOf g).toNat)
    case atStart => exact ⟨G, d, rs, rfl, rfl, hGb, hI, hW1, HT.out⟩
    case round =>
      clear hI hW1 HT hGb
      obtain ⟨G, dN, qs, rfl, rfl, hGb, hI, hWr, hT⟩ := hrel
      by_cases hd : dN = 0
      · subst hd
        have HO := Lib.hid (hI.inv.out HP.out)
        go_wp2
        go_ret
        exact ⟨G, qs, rfl, hGb, ⟨hI.len, hI.ok, HO.out.1, HO.out.2⟩, hWr, hT⟩
      · obtain rfl : dN = 1 := by have := hI.inv.d1; omega
        obtain ⟨G', hG'⟩ := hI.pos HP.out
        have HGE := Lib.hid hG'
        subst hG'
        have hd1 : (((1 : Nat) : Int) != 0) = true := by decide
        have hYr := hY.kept hT (by simp; omega)
        have cA := fun w1 h1 h2 => addInPlace gw ow capw gy oy capy pre post pre' post' qs ys w1 hgg hI.ok hy (by rw [hI.len, HL.out.1, HL.out.2]; omega) (by rw [hI.len, HL.out.1]; omega) h1 h2
        rw [hI.len, HL.out.1, HL.out.2] at cA
        have CA := Lib.hid cA
        clear cA
        obtain ⟨GG, hGG⟩ : ∃ GG : Int, Hid (GG = ((G' + 1 : Nat) : Int)) := ⟨_, Lib.hid rfl⟩
        rw [show ((G' + 1 : Nat) : Int) = GG from hGG.out.symm]
        go_wp2_with fail
        refine (CA.out _ (by exact hWr) (by exact hYr)).mono ?_
        rintro e w2 ⟨c, rs2, rfl, hA, hW2, hT2⟩
        have hI2 := Lib.hid (hI.step HP.out hA)
        have HT2 := Lib.hid (hT.trans hT2 (by simp))
        obtain ⟨d2, hd2⟩ : ∃ d2, Hid (d2 = 1 - c) := ⟨_, Lib.hid rfl⟩
        have r1 : IntKind.u64.wrap (1 - (c : Int)) = (d2 : Int) := by
          have := hA.c1
          rw [hd2.out, show (1 - (c : Int)) = ((1 - c : Nat) : Int) from by omega]; exact wrapN _ (by omega)
        have r2 : IntKind.u64.wrap (GG - 1) = (G' : Int) := by rw [hGG.out, show (((G' + 1 : Nat) : Int) - 1) = (G' : Int) from by omega]; exact wrapN _ (by rw [BB_eq] at hGb; omega)
        have HGb := Lib.hid hGb
        have HM : Hid (G' < GG.toNat) := Lib.hid (by rw [hGG.out]; omega)
        clear hA hT2 hI hT CA hYr hWr hGb
        go_wp2
        go_roundw
        case rel => exact ⟨G', d2, rs2, rfl, rfl, by have := HGb.out; omega, by rw [hd2.out]; exact hI2.out, hW2, HT2.out⟩
        case measure => simp only [intOf]; exact HM.out

end Go.Proofs.YtmiibcdcnoefgaaGreatDoor
