/- lithophaneref01.plus. -/
import Derived.Test.YtmiibcdcnoefgaaDoorRef
namespace Go.Proofs.YtmiibcdcnoefgaaDoor
open Go.RowKit Dg

/-- After i digits of the sum. -/
structure PlInv (xs ys : List Nat) (i c : Nat) (ws : List Nat) : Prop where
  len : ws.length = i
  ok : Ok 65536 ws
  c1 : c ≤ 1
  val : dg 65536 ws + 65536 ^ i * c = dg 65536 (xs.take i) + dg 65536 (ys.take i)

theorem PlInv.step {xs ys ws : List Nat} {i c D : Nat} (h : PlInv xs ys i c ws) (hx : Ok 65536 xs) (hy : Ok 65536 ys) (hD : D = c + xs.getD i 0 + ys.getD i 0) : PlInv xs ys (i + 1) (D / 65536) (ws ++ [D % 65536]) := by
  have h1 : xs.getD i 0 < 65536 := hx.getD (by decide) i
  have h2 : ys.getD i 0 < 65536 := hy.getD (by decide) i
  have h3 := h.c1
  refine ⟨by simp [h.len], h.ok.snoc (by omega), by omega, ?_⟩
  rw [dg_snoc, h.len, take_getD_succ, take_getD_succ]
  have hv := h.val
  have e : 65536 ^ (i + 1) * (D / 65536) = 65536 ^ i * (65536 * (D / 65536)) := by rw [Nat.pow_succ, Nat.mul_assoc]
  have e2 : 65536 ^ i * (D % 65536) + 65536 ^ i * (65536 * (D / 65536)) = 65536 ^ i * c + 65536 ^ i * xs.getD i 0 + 65536 ^ i * ys.getD i 0 := by
    rw [← Nat.mul_add, Nat.mod_add_div, hD, Nat.mul_add, Nat.mul_add]
  rw [e]
  omega

theorem PlInv.out {xs ys ws : List Nat} {i : Nat} (h : PlInv xs ys i 0 ws) (h1 : xs.length ≤ i) (h2 : ys.length ≤ i) : dg 65536 ws = dg 65536 xs + dg 65536 ys := by
  have hv := h.val
  rwa [Nat.mul_zero, Nat.add_zero, List.take_of_length_le h1, List.take_of_length_le h2] at hv

set_option maxHeartbeats 4000000 in
set_option maxRecDepth 100000 in
theorem rplus (A Bq : Option Addr) (ca cb : Nat) (xs ys : List Nat) (w : World) (hA : Rd w.heap.size w A xs) (hB : Rd w.heap.size w Bq ys) (hx : Ok 65536 xs) (hy : Ok 65536 ys) (hlx : xs.length ≤ 100000) (hly : ys.length ≤ 100000) :
    Calls Tryd.prog 52 #[.slice A xs.length ca, .slice Bq ys.length cb] w fun e w' => (∃ v, e = .returned v ∧ ∃ zs, Row w.heap.size w' 3 .i64 v zs ∧ Ok 65536 zs ∧ zs.length ≤ max xs.length ys.length + 1 ∧ dg 65536 zs = dg 65536 xs + dg 65536 ys) ∧ Tch [] w w' := by
  obtain ⟨i0, hi, hz0, hz1, hz2⟩ := info_parts info_int
  have HA := Lib.hid hA
  have HB := Lib.hid hB
  have HX := Lib.hid hx
  have HY := Lib.hid hy
  clear hA hB hx hy
  go_enter Tryd.func52, Tryd.ntmps52
  go_wp2
  go_loopw [5, 6, 7] (fun u uc ui wr => ∃ (i c : Nat) (ws : List Nat) (v : Value), v = u ∧ uc = .int .i64 (c : Int) ∧ ui = .int .i64 (i : Int) ∧ i ≤ 200001 ∧ (i ≤ xs.length ∨ i ≤ ys.length ∨ (i = max xs.length ys.length + 1 ∧ c = 0)) ∧ Hid (PlInv xs ys i c ws) ∧ Hid (Row w.heap.size wr 3 .i64 v ws) ∧ Hid (Tch [] w wr)) (fun _ uc ui _ => 2 * (max xs.length ys.length - (intOf ui).toNat) + (intOf uc).toNat)
  case atStart => exact ⟨0, 0, [], _, rfl, rfl, rfl, by omega, .inl (Nat.zero_le _), Lib.hid ⟨rfl, Ok.nil _, by omega, by simp [dg]⟩, Lib.hid Row.nil, Lib.hid (Tch.refl [] w)⟩
  case round =>
    obtain ⟨i, c, ws, v, rfl, rfl, rfl, hi2, hio, hI, hR, hT⟩ := hrel
    have hc1 : c ≤ 1 := hI.out.c1
    by_cases h1 : i < xs.length
    · by_cases h2 : i < ys.length
      · obtain ⟨gA, rfl, x, ex, cx⟩ := (HA.out.kept hT.out (by simp)).read h1
        have hxb : x < 65536 := by rw [← ex.out]; exact HX.out.getD (by decide) i
        obtain ⟨gB, rfl, y, ey, cy⟩ := (HB.out.kept hT.out (by simp)).read h2
        have hyb : y < 65536 := by rw [← ey.out]; exact HY.out.getD (by decide) i
        have hI2 := Lib.hid (hI.out.step (D := c + x + y) HX.out HY.out (by rw [show xs.getD i 0 = x from ex.out, show ys.getD i 0 = y from ey.out]))
        have hwl : Hid (ws.length = i) := Lib.hid hI.out.len
        clear hI
        go_wp2_with (at_builtin; refine wpList_app_row _ rfl _ _ 62 rfl 3 .i64 i0 Tryd.underlying62 hi hz0 hz1 (by omega) w v ws (hT.out.alloc _) (hR.out.kept ((Tch.refl [] wr).alloc _)) rfl ⟨wr.heap.size, 0, none⟩ 1 ((c + x + y) % 65536) rfl (by simp) (by rw [hwl.out]; omega) ?_)
        intro v' w3 hR2 hT2
        have HR2 := Lib.hid hR2
        have HT2 := Lib.hid hT2
        clear hR2 hT2
        go_wp2
        refine ⟨⟨i + 1, (c + x + y) / 65536, ws ++ [(c + x + y) % 65536], v', rfl, by simp, rfl, by omega, by omega, hI2, HR2, HT2⟩, by simp [intOf]; omega⟩
      · obtain ⟨gA, rfl, x, ex, cx⟩ := (HA.out.kept hT.out (by simp)).read h1
        have hxb : x < 65536 := by rw [← ex.out]; exact HX.out.getD (by decide) i
        have hI2 := Lib.hid (hI.out.step (D := c + x) HX.out HY.out (by rw [show xs.getD i 0 = x from ex.out, show ys.getD i 0 = 0 from getD_ge (by omega)]; omega))
        have hwl : Hid (ws.length = i) := Lib.hid hI.out.len
        clear hI
        go_wp2_with (at_builtin; refine wpList_app_row _ rfl _ _ 62 rfl 3 .i64 i0 Tryd.underlying62 hi hz0 hz1 (by omega) w v ws (hT.out.alloc _) (hR.out.kept ((Tch.refl [] wr).alloc _)) rfl ⟨wr.heap.size, 0, none⟩ 1 ((c + x) % 65536) rfl (by simp) (by rw [hwl.out]; omega) ?_)
        intro v' w3 hR2 hT2
        have HR2 := Lib.hid hR2
        have HT2 := Lib.hid hT2
        clear hR2 hT2
        go_wp2
        refine ⟨⟨i + 1, (c + x) / 65536, ws ++ [(c + x) % 65536], v', rfl, by simp, rfl, by omega, by omega, hI2, HR2, HT2⟩, by simp [intOf]; omega⟩
    · by_cases h2 : i < ys.length
      · obtain ⟨gB, rfl, y, ey, cy⟩ := (HB.out.kept hT.out (by simp)).read h2
        have hyb : y < 65536 := by rw [← ey.out]; exact HY.out.getD (by decide) i
        have hI2 := Lib.hid (hI.out.step (D := c + y) HX.out HY.out (by rw [show xs.getD i 0 = 0 from getD_ge (by omega), show ys.getD i 0 = y from ey.out]; omega))
        have hwl : Hid (ws.length = i) := Lib.hid hI.out.len
        clear hI
        go_wp2_with (at_builtin; refine wpList_app_row _ rfl _ _ 62 rfl 3 .i64 i0 Tryd.underlying62 hi hz0 hz1 (by omega) w v ws (hT.out.alloc _) (hR.out.kept ((Tch.refl [] wr).alloc _)) rfl ⟨wr.heap.size, 0, none⟩ 1 ((c + y) % 65536) rfl (by simp) (by rw [hwl.out]; omega) ?_)
        intro v' w3 hR2 hT2
        have HR2 := Lib.hid hR2
        have HT2 := Lib.hid hT2
        clear hR2 hT2
        go_wp2
        refine ⟨⟨i + 1, (c + y) / 65536, ws ++ [(c + y) % 65536], v', rfl, by simp, rfl, by omega, by omega, hI2, HR2, HT2⟩, by simp [intOf]; omega⟩
      · by_cases h3 : 0 < c
        · have h3' : (0 : Int) < (c : Int) := by omega
          have hI2 := Lib.hid (hI.out.step (D := c) HX.out HY.out (by rw [show xs.getD i 0 = 0 from getD_ge (by omega), show ys.getD i 0 = 0 from getD_ge (by omega)]; omega))
          have hwl : Hid (ws.length = i) := Lib.hid hI.out.len
          clear hI
          go_wp2_with (at_builtin; refine wpList_app_row _ rfl _ _ 62 rfl 3 .i64 i0 Tryd.underlying62 hi hz0 hz1 (by omega) w v ws (hT.out.alloc _) (hR.out.kept ((Tch.refl [] wr).alloc _)) rfl ⟨wr.heap.size, 0, none⟩ 1 ((c) % 65536) rfl (by simp) (by rw [hwl.out]; omega) ?_)
          intro v' w3 hR2 hT2
          have HR2 := Lib.hid hR2
          have HT2 := Lib.hid hT2
          clear hR2 hT2
          go_wp2
          refine ⟨⟨i + 1, (c) / 65536, ws ++ [(c) % 65536], v', rfl, by simp, rfl, by omega, by omega, hI2, HR2, HT2⟩, by simp [intOf]; omega⟩
        · obtain rfl : c = 0 := by omega
          have HZ := Lib.hid (hI.out.out (by omega) (by omega))
          have HOK := Lib.hid hI.out.ok
          have HL : Hid (ws.length ≤ max xs.length ys.length + 1) := Lib.hid (by rw [hI.out.len]; omega)
          clear hI
          go_wp2
          go_ret
          exact ⟨⟨v, rfl, ws, hR.out, HOK.out, HL.out, HZ.out⟩, hT.out⟩

end Go.Proofs.YtmiibcdcnoefgaaDoor

/- lithophaneref01.minus. -/
namespace Go.Proofs.YtmiibcdcnoefgaaDoor
open Go.RowKit Dg

set_option maxHeartbeats 4000000 in
set_option maxRecDepth 100000 in
theorem rminus (A Bq : Option Addr) (ca cb : Nat) (xs ys : List Nat) (w : World) (hA : Rd w.heap.size w A xs) (hB : Rd w.heap.size w Bq ys) (hx : Ok 65536 xs) (hy : Ok 65536 ys) (hlx : xs.length ≤ 100000) (hly : ys.length ≤ xs.length) (hle : dg 65536 ys ≤ dg 65536 xs) :
    Calls Tryd.prog 54 #[.slice A xs.length ca, .slice Bq ys.length cb] w fun e w' => (∃ v, e = .returned v ∧ Row w.heap.size w' 3 .i64 v (digs 65536 (dg 65536 xs - dg 65536 ys))) ∧ Tch [] w w' := by
  obtain ⟨i0, hi, hz0, hz1, hz2⟩ := info_parts info_int
  have HA := Lib.hid hA
  have HB := Lib.hid hB
  have HX := Lib.hid hx
  have HY := Lib.hid hy
  have HLE := Lib.hid hle
  clear hA hB hx hy hle
  go_enter Tryd.func54, Tryd.ntmps54
  go_wp2
  go_loopw [5, 6, 7] (fun u uc ui wr => ∃ (i c : Nat) (ws : List Nat) (v : Value), v = u ∧ uc = .int .i64 (c : Int) ∧ ui = .int .i64 (i : Int) ∧ i ≤ xs.length ∧ c ≤ 1 ∧ Hid (SubInv 65536 xs ys i c ws) ∧ Hid (Row w.heap.size wr 3 .i64 v ws) ∧ Hid (Tch [] w wr)) (fun _ _ ui _ => xs.length - (intOf ui).toNat)
  case atStart => exact ⟨0, 0, [], _, rfl, rfl, rfl, Nat.zero_le _, by decide, Lib.hid (SubInv.zero 65536 xs ys), Lib.hid Row.nil, Lib.hid (Tch.refl [] w)⟩
  case round =>
    obtain ⟨i, c, ws, v, rfl, rfl, rfl, hi1, hc, hI, hR, hT⟩ := hrel
    by_cases h1 : i < xs.length
    · obtain ⟨gA, rfl, x, ex, cx⟩ := (HA.out.kept hT.out (by simp)).read h1
      have hxb : x < 65536 := by rw [← ex.out]; exact HX.out.getD (by decide) i
      by_cases h2 : i < ys.length
      · obtain ⟨gB, rfl, y, ey, cy⟩ := (HB.out.kept hT.out (by simp)).read h2
        have hyb : y < 65536 := by rw [← ey.out]; exact HY.out.getD (by decide) i
        by_cases h3 : x < c + y
        · obtain ⟨S, hS⟩ : ∃ S : Nat, S + y + c = x + 65536 := ⟨x + 65536 - y - c, by omega⟩
          have hI2 := Lib.hid (hI.out.step (s := S) (t := 1) h1 (by rw [show ys.getD i 0 = y from ey.out, ex.out]; omega) (by omega) (by decide))
          have hwl : Hid (ws.length = i) := Lib.hid hI.out.len
          clear hI
          go_wp2_with (at_builtin; refine wpList_app_row _ rfl _ _ 62 rfl 3 .i64 i0 Tryd.underlying62 hi hz0 hz1 (by omega) w v ws (hT.out.alloc _) (hR.out.kept ((Tch.refl [] wr).alloc _)) rfl ⟨wr.heap.size, 0, none⟩ 1 S rfl (by simp; omega) (by rw [hwl.out]; omega) ?_)
          intro v' w3 hR2 hT2
          have HR2 := Lib.hid hR2
          have HT2 := Lib.hid hT2
          clear hR2 hT2
          go_wp2
          exact ⟨⟨i + 1, 1, ws ++ [S], v', rfl, rfl, rfl, by omega, by decide, hI2, HR2, HT2⟩, by simp [intOf]; omega⟩
        · obtain ⟨S, hS⟩ : ∃ S : Nat, S + y + c = x := ⟨x - y - c, by omega⟩
          have hI2 := Lib.hid (hI.out.step (s := S) (t := 0) h1 (by rw [show ys.getD i 0 = y from ey.out, ex.out]; omega) (by omega) (by decide))
          have hwl : Hid (ws.length = i) := Lib.hid hI.out.len
          clear hI
          go_wp2_with (at_builtin; refine wpList_app_row _ rfl _ _ 62 rfl 3 .i64 i0 Tryd.underlying62 hi hz0 hz1 (by omega) w v ws (hT.out.alloc _) (hR.out.kept ((Tch.refl [] wr).alloc _)) rfl ⟨wr.heap.size, 0, none⟩ 1 S rfl (by simp; omega) (by rw [hwl.out]; omega) ?_)
          intro v' w3 hR2 hT2
          have HR2 := Lib.hid hR2
          have HT2 := Lib.hid hT2
          clear hR2 hT2
          go_wp2
          exact ⟨⟨i + 1, 0, ws ++ [S], v', rfl, rfl, rfl, by omega, by decide, hI2, HR2, HT2⟩, by simp [intOf]; omega⟩
      · by_cases h3 : x < c
        · obtain ⟨S, hS⟩ : ∃ S : Nat, S + 0 + c = x + 65536 := ⟨x + 65536 - 0 - c, by omega⟩
          have hI2 := Lib.hid (hI.out.step (s := S) (t := 1) h1 (by rw [show ys.getD i 0 = 0 from getD_ge (by omega), ex.out]; omega) (by omega) (by decide))
          have hwl : Hid (ws.length = i) := Lib.hid hI.out.len
          clear hI
          go_wp2_with (at_builtin; refine wpList_app_row _ rfl _ _ 62 rfl 3 .i64 i0 Tryd.underlying62 hi hz0 hz1 (by omega) w v ws (hT.out.alloc _) (hR.out.kept ((Tch.refl [] wr).alloc _)) rfl ⟨wr.heap.size, 0, none⟩ 1 S rfl (by simp; omega) (by rw [hwl.out]; omega) ?_)
          intro v' w3 hR2 hT2
          have HR2 := Lib.hid hR2
          have HT2 := Lib.hid hT2
          clear hR2 hT2
          go_wp2
          exact ⟨⟨i + 1, 1, ws ++ [S], v', rfl, rfl, rfl, by omega, by decide, hI2, HR2, HT2⟩, by simp [intOf]; omega⟩
        · obtain ⟨S, hS⟩ : ∃ S : Nat, S + 0 + c = x := ⟨x - 0 - c, by omega⟩
          have hI2 := Lib.hid (hI.out.step (s := S) (t := 0) h1 (by rw [show ys.getD i 0 = 0 from getD_ge (by omega), ex.out]; omega) (by omega) (by decide))
          have hwl : Hid (ws.length = i) := Lib.hid hI.out.len
          clear hI
          go_wp2_with (at_builtin; refine wpList_app_row _ rfl _ _ 62 rfl 3 .i64 i0 Tryd.underlying62 hi hz0 hz1 (by omega) w v ws (hT.out.alloc _) (hR.out.kept ((Tch.refl [] wr).alloc _)) rfl ⟨wr.heap.size, 0, none⟩ 1 S rfl (by simp; omega) (by rw [hwl.out]; omega) ?_)
          intro v' w3 hR2 hT2
          have HR2 := Lib.hid hR2
          have HT2 := Lib.hid hT2
          clear hR2 hT2
          go_wp2
          exact ⟨⟨i + 1, 0, ws ++ [S], v', rfl, rfl, rfl, by omega, by decide, hI2, HR2, HT2⟩, by simp [intOf]; omega⟩
    · obtain rfl : i = xs.length := by omega
      have hO := hI.out.out HX.out (Nat.le_refl _) hly HLE.out (.inl rfl)
      rw [List.drop_length, List.append_nil] at hO
      obtain ⟨v', hV, hC⟩ := rtrim hR.out (by rw [hI.out.len]; omega)
      have hcut : cut ws = digs 65536 (dg 65536 xs - dg 65536 ys) := by
        rw [cut_eq (b := 65536) (by decide) hI.out.ok]
        have hv := hO.val
        congr 1
        omega
      rw [hcut] at hV
      have HV := Lib.hid hV
      have HC := Lib.hid hC
      clear hV hC hcut hO hI
      go_wp2_with fail
      refine (HC.out _ (Tch.refl [] wr)).mono ?_
      rintro e w4 ⟨rfl, rfl⟩
      go_wp2
      go_ret
      exact ⟨⟨v', rfl, HV.out⟩, hT.out⟩

end Go.Proofs.YtmiibcdcnoefgaaDoor
