/- lithophaneref01.plus. -/
import Derived.Deep.RegionHeld3
import Derived.Test.YtmpfgkpimjiecaaDoorRef
import Derived.Test.YtmpfgkpimjiecaaDoorZ
namespace Go.Proofs.YtmpfgkpimjiecaaDoor
open Go.RowKit Dg
/-- After i digits of the sum. -/
structure PlInv (xs ys : List Nat) (i c : Nat) (ws : List Nat) : Prop where
  len : ws.length = i
  ok : Ok 65536 ws
  c1 : c ≤ 1
  val : dg 65536 ws + 65536 ^ i * c = dg 65536 (xs.take i) + dg 65536 (ys.take i)

theorem PlInv.step {xs ys ws : List Nat} {i c D : Nat} (h : PlInv xs ys i c ws) (hx : Ok 65536 xs) (hy : Ok 65536 ys) (hD : D = c + xs.getD i 0 + ys.getD i 0) : PlInv xs ys (i + 1) (D / 65536) (ws ++ [D % 65536]) := by
  have h1 : xs.getD i 0 < 65536 := hx.getD (by decide) i
  have h2 : ys.getD i 0 < 65536 := hy.getD (by decide) i
  have h3 := h.c1
  refine ⟨by simp [h.len], h.ok.snoc (by omega), by omega, ?_⟩
  rw [dg_snoc, h.len, take_getD_succ, take_getD_succ]
  have hv := h.val
  have e : 65536 ^ (i + 1) * (D / 65536) = 65536 ^ i * (65536 * (D / 65536)) := by rw [Nat.pow_succ, Nat.mul_assoc]
  have e2 : 65536 ^ i * (D % 65536) + 65536 ^ i * (65536 * (D / 65536)) = 65536 ^ i * c + 65536 ^ i * xs.getD i 0 + 65536 ^ i * ys.getD i 0 := by
    rw [← Nat.mul_add, Nat.mod_add_div, hD, Nat.mul_add, Nat.mul_add]
  rw [e]
  omega

theorem PlInv.out {xs ys ws : List Nat} {i : Nat} (h : PlInv xs ys i 0 ws) (h1 : xs.length ≤ i) (h2 : ys.length ≤ i) : dg 65536 ws = dg 65536 xs + dg 65536 ys := by
  have hv := h.val
  rwa [Nat.mul_zero, Nat.add_zero, List.take_of_length_le h1, List.take_of_length_le h2] at hv

set_option maxHeartbeats 4000000 in
set_option maxRecDepth 100000 in
theorem rplus (A Bq : Option Addr) (ca cb : Nat) (xs ys : List Nat) (w : World) (hA : Rd w.heap.size w A xs) (hB : Rd w.heap.size w Bq ys) (hx : Ok 65536 xs) (hy : Ok 65536 ys) (hlx : xs.length ≤ 100000) (hly : ys.length ≤ 100000) :
    Calls Tryd.prog 42 #[.slice A xs.length ca, .slice Bq ys.length cb] w fun e w' => (∃ v, e = .returned v ∧ ∃ zs, Row w.heap.size w' 3 .i64 v zs ∧ Ok 65536 zs ∧ zs.length ≤ max xs.length ys.length + 1 ∧ dg 65536 zs = dg 65536 xs + dg 65536 ys) ∧ Tch [] w w' := by
  obtain ⟨i0, hi, hz0, hz1, hz2⟩ := info_parts info_int
  have HA := Lib.hid hA
  have HB := Lib.hid hB
  have HX := Lib.hid hx
  have HY := Lib.hid hy
  clear hA hB hx hy
  go_enter Tryd.func42, Tryd.ntmps42
  go_wp2
  go_loopw [5, 6, 7] (fun u uc ui wr => ∃ (i c : Nat) (ws : List Nat) (v : Value), v = u ∧ uc = .int .i64 (c : Int) ∧ ui = .int .i64 (i : Int) ∧ i ≤ 200001 ∧ (i ≤ xs.length ∨ i ≤ ys.length ∨ (i = max xs.length ys.length + 1 ∧ c = 0)) ∧ Hid (PlInv xs ys i c ws) ∧ Hid (Row w.heap.size wr 3 .i64 v ws) ∧ Hid (Tch [] w wr)) (fun _ uc ui _ => 2 * (max xs.length ys.length - (intOf ui).toNat) + (intOf uc).toNat)
  case atStart => exact ⟨0, 0, [], _, rfl, rfl, rfl, by omega, .inl (Nat.zero_le _), Lib.hid ⟨rfl, Ok.nil _, by omega, by simp [dg]⟩, Lib.hid Row.nil, Lib.hid (Tch.refl [] w)⟩
  case round =>
    obtain ⟨i, c, ws, v, rfl, rfl, rfl, hi2, hio, hI, hR, hT⟩ := hrel
    have hc1 : c ≤ 1 := hI.out.c1
    by_cases h1 : i < xs.length
    · by_cases h2 : i < ys.length
      · obtain ⟨gA, rfl, x, ex, cx⟩ := (HA.out.kept hT.out (by simp)).read h1
        have hxb : x < 65536 := by rw [← ex.out]; exact HX.out.getD (by decide) i
        obtain ⟨gB, rfl, y, ey, cy⟩ := (HB.out.kept hT.out (by simp)).read h2
        have hyb : y < 65536 := by rw [← ey.out]; exact HY.out.getD (by decide) i
        have hI2 := Lib.hid (hI.out.step (D := c + x + y) HX.out HY.out (by rw [show xs.getD i 0 = x from ex.out, show ys.getD i 0 = y from ey.out]))
        have hwl : Hid (ws.length = i) := Lib.hid hI.out.len
        clear hI
        go_wp2_with (at_builtin; refine wpList_app_row _ rfl _ _ 45 rfl 3 .i64 i0 Tryd.underlying45 hi hz0 hz1 (by omega) w v ws (hT.out.alloc _) (hR.out.kept ((Tch.refl [] wr).alloc _)) rfl ⟨wr.heap.size, 0, none⟩ 1 ((c + x + y) % 65536) rfl (by simp) (by rw [hwl.out]; omega) ?_)
        intro v' w3 hR2 hT2
        have HR2 := Lib.hid hR2
        have HT2 := Lib.hid hT2
        clear hR2 hT2
        go_wp2
        refine ⟨⟨i + 1, (c + x + y) / 65536, ws ++ [(c + x + y) % 65536], v', rfl, by simp, rfl, by omega, by omega, hI2, HR2, HT2⟩, by simp [intOf]; omega⟩
      · obtain ⟨gA, rfl, x, ex, cx⟩ := (HA.out.kept hT.out (by simp)).read h1
        have hxb : x < 65536 := by rw [← ex.out]; exact HX.out.getD (by decide) i
        have hI2 := Lib.hid (hI.out.step (D := c + x) HX.out HY.out (by rw [show xs.getD i 0 = x from ex.out, show ys.getD i 0 = 0 from getD_ge (by omega)]; omega))
        have hwl : Hid (ws.length = i) := Lib.hid hI.out.len
        clear hI
        go_wp2_with (at_builtin; refine wpList_app_row _ rfl _ _ 45 rfl 3 .i64 i0 Tryd.underlying45 hi hz0 hz1 (by omega) w v ws (hT.out.alloc _) (hR.out.kept ((Tch.refl [] wr).alloc _)) rfl ⟨wr.heap.size, 0, none⟩ 1 ((c + x) % 65536) rfl (by simp) (by rw [hwl.out]; omega) ?_)
        intro v' w3 hR2 hT2
        have HR2 := Lib.hid hR2
        have HT2 := Lib.hid hT2
        clear hR2 hT2
        go_wp2
        refine ⟨⟨i + 1, (c + x) / 65536, ws ++ [(c + x) % 65536], v', rfl, by simp, rfl, by omega, by omega, hI2, HR2, HT2⟩, by simp [intOf]; omega⟩
    · by_cases h2 : i < ys.length
      · obtain ⟨gB, rfl, y, ey, cy⟩ := (HB.out.kept hT.out (by simp)).read h2
        have hyb : y < 65536 := by rw [← ey.out]; exact HY.out.getD (by decide) i
        have hI2 := Lib.hid (hI.out.step (D := c + y) HX.out HY.out (by rw [show xs.getD i 0 = 0 from getD_ge (by omega), show ys.getD i 0 = y from ey.out]; omega))
        have hwl : Hid (ws.length = i) := Lib.hid hI.out.len
        clear hI
        go_wp2_with (at_builtin; refine wpList_app_row _ rfl _ _ 45 rfl 3 .i64 i0 Tryd.underlying45 hi hz0 hz1 (by omega) w v ws (hT.out.alloc _) (hR.out.kept ((Tch.refl [] wr).alloc _)) rfl ⟨wr.heap.size, 0, none⟩ 1 ((c + y) % 65536) rfl (by simp) (by rw [hwl.out]; omega) ?_)
        intro v' w3 hR2 hT2
        have HR2 := Lib.hid hR2
        have HT2 := Lib.hid hT2
        clear hR2 hT2
        go_wp2
        refine ⟨⟨i + 1, (c + y) / 65536, ws ++ [(c + y) % 65536], v', rfl, by simp, rfl, by omega, by omega, hI2, HR2, HT2⟩, by simp [intOf]; omega⟩
      · by_cases h3 : 0 < c
        · have h3' : (0 : Int) < (c : Int) := by omega
          have hI2 := Lib.hid (hI.out.step (D := c) HX.out HY.out (by rw [show xs.getD i 0 = 0 from getD_ge (by omega), show ys.getD i 0 = 0 from getD_ge (by omega)]; omega))
          have hwl : Hid (ws.length = i) := Lib.hid hI.out.len
          clear hI
          go_wp2_with (at_builtin; refine wpList_app_row _ rfl _ _ 45 rfl 3 .i64 i0 Tryd.underlying45 hi hz0 hz1 (by omega) w v ws (hT.out.alloc _) (hR.out.kept ((Tch.refl [] wr).alloc _)) rfl ⟨wr.heap.size, 0, none⟩ 1 ((c) % 65536) rfl (by simp) (by rw [hwl.out]; omega) ?_)
          intro v' w3 hR2 hT2
          have HR2 := Lib.hid hR2
          have HT2 := Lib.hid hT2
          clear hR2 hT2
          go_wp2
          refine ⟨⟨i + 1, (c) / 65536, ws ++ [(c) % 65536], v', rfl, by simp, rfl, by omega, by omega, hI2, HR2, HT2⟩, by simp [intOf]; omega⟩
        · obtain rfl : c = 0 := by omega
          have HZ := Lib.hid (hI.out.out (by omega) (by omega))
          have HOK := Lib.hid hI.out.ok
          have HL : Hid (ws.length ≤ max xs.length ys.length + 1) := Lib.hid (by rw [hI.out.len]; omega)
          clear hI
          go_wp2
          go_ret
          exact ⟨⟨v, rfl, ws, hR.out, HOK.out, HL.out, HZ.out⟩, hT.out⟩

end Go.Proofs.YtmpfgkpimjiecaaDoor
namespace Go.Proofs.YtmpfgkpimjiecaaDoor
open Go.RowKit Dg
set_option maxHeartbeats 4000000 in
set_option maxRecDepth 100000 in
theorem rminus (A Bq : Option Addr) (ca cb : Nat) (xs ys : List Nat) (w : World) (hA : Rd w.heap.size w A xs) (hB : Rd w.heap.size w Bq ys) (hx : Ok 65536 xs) (hy : Ok 65536 ys) (hlx : xs.length ≤ 100000) (hly : ys.length ≤ xs.length) (hle : dg 65536 ys ≤ dg 65536 xs) :
    Calls Tryd.prog 44 #[.slice A xs.length ca, .slice Bq ys.length cb] w fun e w' => (∃ v, e = .returned v ∧ Row w.heap.size w' 3 .i64 v (digs 65536 (dg 65536 xs - dg 65536 ys))) ∧ Tch [] w w' := by
  obtain ⟨i0, hi, hz0, hz1, hz2⟩ := info_parts info_int
  have HA := Lib.hid hA
  have HB := Lib.hid hB
  have HX := Lib.hid hx
  have HY := Lib.hid hy
  have HLE := Lib.hid hle
  clear hA hB hx hy hle
  go_enter Tryd.func44, Tryd.ntmps44
  go_wp2
  go_loopw [5, 6, 7] (fun u uc ui wr => ∃ (i c : Nat) (ws : List Nat) (v : Value), v = u ∧ uc = .int .i64 (c : Int) ∧ ui = .int .i64 (i : Int) ∧ i ≤ xs.length ∧ c ≤ 1 ∧ Hid (SubInv 65536 xs ys i c ws) ∧ Hid (Row w.heap.size wr 3 .i64 v ws) ∧ Hid (Tch [] w wr)) (fun _ _ ui _ => xs.length - (intOf ui).toNat)
  case atStart => exact ⟨0, 0, [], _, rfl, rfl, rfl, Nat.zero_le _, by decide, Lib.hid (SubInv.zero 65536 xs ys), Lib.hid Row.nil, Lib.hid (Tch.refl [] w)⟩
  case round =>
    obtain ⟨i, c, ws, v, rfl, rfl, rfl, hi1, hc, hI, hR, hT⟩ := hrel
    by_cases h1 : i < xs.length
    · obtain ⟨gA, rfl, x, ex, cx⟩ := (HA.out.kept hT.out (by simp)).read h1
      have hxb : x < 65536 := by rw [← ex.out]; exact HX.out.getD (by decide) i
      by_cases h2 : i < ys.length
      · obtain ⟨gB, rfl, y, ey, cy⟩ := (HB.out.kept hT.out (by simp)).read h2
        have hyb : y < 65536 := by rw [← ey.out]; exact HY.out.getD (by decide) i
        by_cases h3 : x < c + y
        · obtain ⟨S, hS⟩ : ∃ S : Nat, S + y + c = x + 65536 := ⟨x + 65536 - y - c, by omega⟩
          have hI2 := Lib.hid (hI.out.step (s := S) (t := 1) h1 (by rw [show ys.getD i 0 = y from ey.out, ex.out]; omega) (by omega) (by decide))
          have hwl : Hid (ws.length = i) := Lib.hid hI.out.len
          clear hI
          go_wp2_with (at_builtin; refine wpList_app_row _ rfl _ _ 45 rfl 3 .i64 i0 Tryd.underlying45 hi hz0 hz1 (by omega) w v ws (hT.out.alloc _) (hR.out.kept ((Tch.refl [] wr).alloc _)) rfl ⟨wr.heap.size, 0, none⟩ 1 S rfl (by simp; omega) (by rw [hwl.out]; omega) ?_)
          intro v' w3 hR2 hT2
          have HR2 := Lib.hid hR2
          have HT2 := Lib.hid hT2
          clear hR2 hT2
          go_wp2
          exact ⟨⟨i + 1, 1, ws ++ [S], v', rfl, rfl, rfl, by omega, by decide, hI2, HR2, HT2⟩, by simp [intOf]; omega⟩
        · obtain ⟨S, hS⟩ : ∃ S : Nat, S + y + c = x := ⟨x - y - c, by omega⟩
          have hI2 := Lib.hid (hI.out.step (s := S) (t := 0) h1 (by rw [show ys.getD i 0 = y from ey.out, ex.out]; omega) (by omega) (by decide))
          have hwl : Hid (ws.length = i) := Lib.hid hI.out.len
          clear hI
          go_wp2_with (at_builtin; refine wpList_app_row _ rfl _ _ 45 rfl 3 .i64 i0 Tryd.underlying45 hi hz0 hz1 (by omega) w v ws (hT.out.alloc _) (hR.out.kept ((Tch.refl [] wr).alloc _)) rfl ⟨wr.heap.size, 0, none⟩ 1 S rfl (by simp; omega) (by rw [hwl.out]; omega) ?_)
          intro v' w3 hR2 hT2
          have HR2 := Lib.hid hR2
          have HT2 := Lib.hid hT2
          clear hR2 hT2
          go_wp2
          exact ⟨⟨i + 1, 0, ws ++ [S], v', rfl, rfl, rfl, by omega, by decide, hI2, HR2, HT2⟩, by simp [intOf]; omega⟩
      · by_cases h3 : x < c
        · obtain ⟨S, hS⟩ : ∃ S : Nat, S + 0 + c = x + 65536 := ⟨x + 65536 - 0 - c, by omega⟩
          have hI2 := Lib.hid (hI.out.step (s := S) (t := 1) h1 (by rw [show ys.getD i 0 = 0 from getD_ge (by omega), ex.out]; omega) (by omega) (by decide))
          have hwl : Hid (ws.length = i) := Lib.hid hI.out.len
          clear hI
          go_wp2_with (at_builtin; refine wpList_app_row _ rfl _ _ 45 rfl 3 .i64 i0 Tryd.underlying45 hi hz0 hz1 (by omega) w v ws (hT.out.alloc _) (hR.out.kept ((Tch.refl [] wr).alloc _)) rfl ⟨wr.heap.size, 0, none⟩ 1 S rfl (by simp; omega) (by rw [hwl.out]; omega) ?_)
          intro v' w3 hR2 hT2
          have HR2 := Lib.hid hR2
          have HT2 := Lib.hid hT2
          clear hR2 hT2
          go_wp2
          exact ⟨⟨i + 1, 1, ws ++ [S], v', rfl, rfl, rfl, by omega, by decide, hI2, HR2, HT2⟩, by simp [intOf]; omega⟩
        · obtain ⟨S, hS⟩ : ∃ S : Nat, S + 0 + c = x := ⟨x - 0 - c, by omega⟩
          have hI2 := Lib.hid (hI.out.step (s := S) (t := 0) h1 (by rw [show ys.getD i 0 = 0 from getD_ge (by omega), ex.out]; omega) (by omega) (by decide))
          have hwl : Hid (ws.length = i) := Lib.hid hI.out.len
          clear hI
          go_wp2_with (at_builtin; refine wpList_app_row _ rfl _ _ 45 rfl 3 .i64 i0 Tryd.underlying45 hi hz0 hz1 (by omega) w v ws (hT.out.alloc _) (hR.out.kept ((Tch.refl [] wr).alloc _)) rfl ⟨wr.heap.size, 0, none⟩ 1 S rfl (by simp; omega) (by rw [hwl.out]; omega) ?_)
          intro v' w3 hR2 hT2
          have HR2 := Lib.hid hR2
          have HT2 := Lib.hid hT2
          clear hR2 hT2
          go_wp2
          exact ⟨⟨i + 1, 0, ws ++ [S], v', rfl, rfl, rfl, by omega, by decide, hI2, HR2, HT2⟩, by simp [intOf]; omega⟩
    · obtain rfl : i = xs.length := by omega
      have hO := hI.out.out HX.out (Nat.le_refl _) hly HLE.out (.inl rfl)
      rw [List.drop_length, List.append_nil] at hO
      obtain ⟨v', hV, hC⟩ := rtrim hR.out (by rw [hI.out.len]; omega)
      have hcut : cut ws = digs 65536 (dg 65536 xs - dg 65536 ys) := by
        rw [cut_eq (b := 65536) (by decide) hI.out.ok]
        have hv := hO.val
        congr 1
        omega
      rw [hcut] at hV
      have HV := Lib.hid hV
      have HC := Lib.hid hC
      clear hV hC hcut hO hI
      go_wp2_with fail
      refine (HC.out _ (Tch.refl [] wr)).mono ?_
      rintro e w4 ⟨rfl, rfl⟩
      go_wp2
      go_ret
      exact ⟨⟨v', rfl, HV.out⟩, hT.out⟩

end Go.Proofs.YtmpfgkpimjiecaaDoor
namespace Go.Proofs.YtmpfgkpimjiecaaDoor
open Go.RowKit Dg
set_option maxHeartbeats 4000000 in
set_option maxRecDepth 100000 in
theorem rcompare (A Bq : Option Addr) (ca cb : Nat) (xs ys : List Nat) (w : World) (hA : Rd w.heap.size w A xs) (hB : Rd w.heap.size w Bq ys) (hx : Ok 65536 xs) (hy : Ok 65536 ys) (htx : Trim xs) (hty : Trim ys) (hlx : xs.length ≤ 100000) :
    Calls Tryd.prog 43 #[.slice A xs.length ca, .slice Bq ys.length cb] w fun e w' => e = .returned (.int .i64 (cmpI (dg 65536 xs : Int) (dg 65536 ys : Int))) ∧ Tch [] w w' := by
  have HA := Lib.hid hA
  have HB := Lib.hid hB
  by_cases hl : xs.length = ys.length
  · have HL := Lib.hid hl
    have HX := Lib.hid hx
    have HY := Lib.hid hy
    have hb1 : ((xs.length : Int) == (ys.length : Int)) = true := by simp [hl]
    clear hA hB hx hy htx hty hl
    go_enter Tryd.func43, Tryd.ntmps43
    go_wp2
    go_loopw [5] (fun ui wr => ∃ (m : Nat) (I : Int), ui = .int .i64 I ∧ Hid (I = (m : Int) - 1) ∧ m ≤ xs.length ∧ Hid (xs.drop m = ys.drop m) ∧ Hid (Tch [] w wr)) (fun ui _ => (intOf ui + 1).toNat)
    case atStart => exact ⟨xs.length, _, rfl, Lib.hid rfl, Nat.le_refl _, Lib.hid (by rw [List.drop_length, HL.out, List.drop_length]), Lib.hid (Tch.refl [] w)⟩
    case round =>
      obtain ⟨m, I, rfl, hI, hm, hD, hT⟩ := hrel
      cases m with
      | zero =>
        obtain rfl : I = -1 := by have := hI.out; omega
        have he : Hid ((0 : Int) = cmpI (dg 65536 xs : Int) (dg 65536 ys : Int)) := Lib.hid (by have hd := hD.out; rw [List.drop_zero, List.drop_zero] at hd; rw [hd]; unfold cmpI; simp)
        go_wp2
        go_ret
        exact ⟨by rw [← he.out]; rfl, hT.out⟩
      | succ j =>
        obtain rfl : I = (j : Int) := by have := hI.out; omega
        have hjx : j < xs.length := by omega
        have hjy : j < ys.length := by rw [← HL.out]; exact hjx
        obtain ⟨gA, rfl, x, ex, cx⟩ := (HA.out.kept hT.out (by simp)).read hjx
        obtain ⟨gB, rfl, y, ey, cy⟩ := (HB.out.kept hT.out (by simp)).read hjy
        by_cases hxy : x = y
        · subst hxy
          have hd2 : Hid (xs.drop j = ys.drop j) := Lib.hid (by rw [drop_eq_getD_cons xs j hjx, drop_eq_getD_cons ys j hjy, hD.out, ex.out, ey.out])
          go_wp2
          go_region
          go_wp2
          exact ⟨⟨j, _, rfl, Lib.hid rfl, by omega, hd2, Lib.hid hT.out.drew⟩, by simp [intOf]⟩
        · have h := cmpI_drop HX.out HY.out HL.out hjx hD.out (by rw [ex.out, ey.out]; exact hxy)
          rw [ex.out, ey.out] at h
          have hb2 : ((x : Int) == (y : Int)) = false := by simp; omega
          by_cases hlt : x < y
          · have hlt' : (x : Int) < (y : Int) := by omega
            have he : Hid ((-1 : Int) = cmpI (dg 65536 xs : Int) (dg 65536 ys : Int)) := Lib.hid (by rw [← h]; exact cmpI_lt hlt')
            clear h hxy
            go_wp2
            go_region
            go_wp2
            go_region
            go_wp2
            go_ret
            exact ⟨by rw [← he.out]; rfl, hT.out.drew.drew⟩
          · have hlt' : ¬ (x : Int) < (y : Int) := by omega
            have he : Hid ((1 : Int) = cmpI (dg 65536 xs : Int) (dg 65536 ys : Int)) := Lib.hid (by rw [← h]; exact cmpI_gt (by omega) (by omega))
            clear h hxy
            go_wp2
            go_region
            go_wp2
            go_region
            go_wp2
            go_ret
            exact ⟨by rw [← he.out]; rfl, hT.out.drew.drew⟩
  · have h := cmpI_len (b := 65536) (by decide) hx hy htx hty hl
    have hb1 : ((xs.length : Int) == (ys.length : Int)) = false := by simp; omega
    by_cases hlt : xs.length < ys.length
    · have hlt' : (xs.length : Int) < (ys.length : Int) := by omega
      have he : Hid ((-1 : Int) = cmpI (dg 65536 xs : Int) (dg 65536 ys : Int)) := Lib.hid (by rw [← h]; exact cmpI_lt hlt')
      clear h hl hx hy htx hty hA hB
      go_enter Tryd.func43, Tryd.ntmps43
      go_wp2
      go_ret
      exact ⟨by rw [← he.out]; rfl, Tch.refl [] w⟩
    · have hlt' : ¬ (xs.length : Int) < (ys.length : Int) := by omega
      have he : Hid ((1 : Int) = cmpI (dg 65536 xs : Int) (dg 65536 ys : Int)) := Lib.hid (by rw [← h]; exact cmpI_gt (by omega) (by omega))
      clear h hl hx hy htx hty hA hB
      go_enter Tryd.func43, Tryd.ntmps43
      go_wp2
      go_ret
      exact ⟨by rw [← he.out]; rfl, Tch.refl [] w⟩

end Go.Proofs.YtmpfgkpimjiecaaDoor
namespace Go.Proofs.YtmpfgkpimjiecaaDoor
open Go.RowKit Dg
set_option maxHeartbeats 4000000 in
set_option maxRecDepth 100000 in
theorem rwideT (neg : Bool) (g cap : Nat) (zs xs : List Nat) (w : World) (hOz : Own w 3 .i64 g cap zs) (hxz : cut zs = xs) (hbz : zs.length ≤ 1000000) (hk : Ok 65536 xs) (h0 : xs ≠ []) :
    Calls Tryd.prog 37 #[.bool neg, .slice (some ⟨g, 0, none⟩) zs.length cap] w fun e w' => e = .returned (.agg #[.bool neg, .string (mo (dg 65536 xs))]) ∧ Tch [] w w' := by
  obtain ⟨i0, hi, hz0, hz1, hz2⟩ := info_parts info_u8'
  have ht : Trim xs := by rw [← hxz]; exact cut_trim zs
  have hlen : (cut zs).length ≤ zs.length := cut_length_le zs
  have hb : xs.length ≤ 1000000 := by rw [← hxz]; omega
  have hO : Own w 3 .i64 g cap xs := by have h1 := hOz.take (cut zs).length; rwa [← cut_take, hxz] at h1
  obtain ⟨rest, W⟩ := hOz.win
  have c1 := fun w1 (t : Tch [] w w1) => rtrimW g 0 cap [] rest zs w1 (by omega) hOz.le (W.kept t (by simp))
  rw [hxz] at c1
  have C1 := Lib.hid c1
  have hl0 : 0 < xs.length := List.length_pos_iff.2 h0
  have hne : ((xs.length : Int) == 0) = false := by simp; omega
  clear c1 hxz hlen hOz hbz
  go_enter Tryd.func37, Tryd.ntmps37
  go_wp2_with fail
  refine (C1.out _ ((Tch.refl [] w).alloc _)).mono ?_
  rintro e w1 ⟨rfl, rfl⟩
  obtain ⟨w0, hw0⟩ : ∃ w0, w0 = w.alloc (.cells #[.bool false, .string ⟨#[]⟩] 26) := ⟨_, rfl⟩
  have HW0 := Lib.hid hw0
  have hO0 : Own w0 3 .i64 g cap xs := by rw [hw0]; exact hO.kept ((Tch.refl [] w).alloc _) (by simp)
  have HO := Lib.hid hO0
  have HK := Lib.hid hk
  have HT := Lib.hid ht
  have HN := Lib.hid h0
  have hcl := hO.le
  clear hO hO0 hk ht h0 W hw0
  go_wp2
  rw [← HW0.out]
  go_loopw [5, 6] (fun u i wr => ∃ (m : Nat) (bs : List Nat) (I : Int) (v : Value), v = u ∧ Row w0.heap.size wr 5 .u8 v bs ∧ i = .int .i64 I ∧ Hid (I = (m : Int) - 1) ∧ m ≤ xs.length ∧ Hid (bs = (digs 256 (dg 65536 (xs.drop m))).reverse) ∧ Tch [] w0 wr) (fun _ i _ => (intOf i + 1).toNat)
  case atStart => exact ⟨xs.length, [], _, _, rfl, Row.nil, rfl, Lib.hid rfl, Nat.le_refl _, Lib.hid (by rw [List.drop_length, dg_nil, digs_zero]; rfl), Tch.refl [] w0⟩
  case round =>
    obtain ⟨m, bs, I, v, rfl, hR, rfl, hI, hm, hB, hTr⟩ := hrel
    have HR := Lib.hid hR
    have HTr := Lib.hid hTr
    clear hR hTr
    cases m with
    | zero =>
      obtain rfl : I = -1 := by have := hI.out; omega
      rw [List.drop_zero] at hB
      have hd0 : dg 65536 xs ≠ 0 := dg_ne_zero (by decide) HT.out HN.out
      rcases HR.out with ⟨_, hnil⟩ | ⟨g2, cap2, rfl, hg2, hO2⟩
      · rw [hB.out] at hnil
        have h7 : digs 256 (dg 65536 xs) = [] := by simpa using hnil
        exact absurd ((digs_eq_nil (b := 256) (by decide)).1 h7) hd0
      · obtain ⟨r2, W2⟩ := hO2.win
        have hcv := conv_pre W2 bs.length cap2 (Nat.le_refl _)
        have hmo : strOfNums ((bs.take bs.length).map fun x : Nat => (x : Int)) = mo (dg 65536 xs) := by
          rw [List.take_of_length_le (Nat.le_refl _), hB.out, ← sb_mo, str_sb]
        rw [hmo] at hcv
        obtain ⟨t, ht⟩ : ∃ t, mo (dg 65536 xs) = t := ⟨_, rfl⟩
        rw [ht] at hcv
        have HM := Lib.hid ht
        have hbx := (HTr.out.block w.heap.size (by rw [HW0.out]; simp) (by simp)).trans (show w0.heap[w.heap.size]? = some (.cells #[.bool false, .string ⟨#[]⟩] 26 (0, 0)) from by rw [HW0.out]; exact Below.heap_alloc_new' w _)
        have b0 : wr.cell? ⟨w.heap.size, 0, none⟩ = some (.bool false) := by rw [cell_of_row _ _ _ _ _ _ hbx]; rfl
        have b1 : wr.cell? ⟨w.heap.size, 1, none⟩ = some (.string ⟨#[]⟩) := by rw [cell_of_row _ _ _ _ _ _ hbx]; rfl
        have f0 := frozen_of_row wr w.heap.size 0 _ _ hbx
        have f1 := frozen_of_row wr w.heap.size 1 _ _ hbx
        have HTW : Hid (Tch [] w wr) := Lib.hid (((show Tch [] w w0 from by rw [HW0.out]; exact (Tch.refl [] w).alloc _)).trans HTr.out (by simp))
        clear hmo ht W2 hO2 hbx hd0 hB hI HR
        go_wp2
        refine bodyPost_ret (v := .agg #[.bool neg, .string t]) (by simp [results, Tryd.results37, go_sem, b0, b1]) rfl ⟨by rw [HM.out], ?_⟩
        exact (HTW.out.setCell (.inr (Nat.le_refl _)) _).setCell (.inr (Nat.le_refl _)) _
    | succ j =>
      obtain rfl : I = (j : Int) := by have := hI.out; omega
      have hj : j < xs.length := by omega
      obtain ⟨rest2, W2⟩ := HO.out.win
      obtain ⟨x, ex, cx⟩ := (W2.kept HTr.out (by simp)).read hj
      rw [Nat.zero_add] at cx
      have hstep := bytes_step hj HK.out HT.out
      rw [ex.out] at hstep
      have hx : x < 65536 := by rw [← ex.out]; exact HK.out.getD (by decide) j
      clear W2
      by_cases h2 : j + 1 < xs.length
      · rw [if_pos (.inl h2)] at hstep
        have hst := Lib.hid hstep
        have h3 : (j : Int) < (xs.length : Int) - 1 := by omega
        clear hstep
        have hbl : Hid (bs.length ≤ 3000000) := Lib.hid (by rw [hB.out, List.length_reverse]; exact bytes_len xs (j + 1) HK.out hb)
        have HB2 : Hid (bs ++ [x / 256, x % 256] = (digs 256 (dg 65536 (xs.drop j))).reverse) := Lib.hid (by rw [hst.out, hB.out]; simp)
        clear hst hB hI
        go_wp2_with (at_builtin; refine wpList_app_row _ rfl _ _ 85 rfl 5 .u8 i0 Tryd.underlying85 hi hz0 hz1 (by omega) w0 v bs (HTr.out.alloc _) (HR.out.kept ((Tch.refl [] wr).alloc _)) rfl ⟨wr.heap.size, 0, none⟩ 1 (x / 256) rfl (by simp) (by have := hbl.out; omega) ?_)
        intro v2 w3 hR2 hT2
        have HR2 := Lib.hid hR2
        have HT2 := Lib.hid hT2
        have cx3 : w3.cell? ⟨g, j, none⟩ = some (.int .i64 (x : Int)) := by
          obtain ⟨r3, W3⟩ := HO.out.win
          have h4 := (W3.kept hT2 (by simp)).cell hj
          rwa [Nat.zero_add, ex.out] at h4
        have hbl2 : Hid ((bs ++ [x / 256]).length ≤ 3000001) := Lib.hid (by rw [List.length_append]; have := hbl.out; simp; omega)
        clear hR2 hT2 cx
        go_wp2_with (at_builtin; refine wpList_app_row _ rfl _ _ 85 rfl 5 .u8 i0 Tryd.underlying85 hi hz0 hz1 (by omega) w0 v2 (bs ++ [x / 256]) (HT2.out.alloc _) (HR2.out.kept ((Tch.refl [] w3).alloc _)) rfl ⟨w3.heap.size, 0, none⟩ 1 (x % 256) rfl (by simp) (by have := hbl2.out; omega) ?_)
        intro v4 w4 hR4 hT4
        have HR4 := Lib.hid hR4
        have HT4 := Lib.hid hT4
        clear hR4 hT4 cx3
        go_wp2
        go_roundw
        case rel => exact ⟨j, bs ++ [x / 256, x % 256], (j : Int) - 1, v4, rfl, HR4.out, by first | rfl | go_num, Lib.hid rfl, by omega, HB2, HT4.out⟩
        case measure => simp [intOf]
      · by_cases h5 : 256 ≤ x
        · rw [if_pos (.inr h5)] at hstep
          have hst := Lib.hid hstep
          have h3 : ¬ (j : Int) < (xs.length : Int) - 1 := by omega
          have h6 : (256 : Int) ≤ (x : Int) := by omega
          clear hstep
          have hbl : Hid (bs.length ≤ 3000000) := Lib.hid (by rw [hB.out, List.length_reverse]; exact bytes_len xs (j + 1) HK.out hb)
          have HB2 : Hid (bs ++ [x / 256, x % 256] = (digs 256 (dg 65536 (xs.drop j))).reverse) := Lib.hid (by rw [hst.out, hB.out]; simp)
          clear hst hB hI
          go_wp2_with (at_builtin; refine wpList_app_row _ rfl _ _ 85 rfl 5 .u8 i0 Tryd.underlying85 hi hz0 hz1 (by omega) w0 v bs (HTr.out.alloc _) (HR.out.kept ((Tch.refl [] wr).alloc _)) rfl ⟨wr.heap.size, 0, none⟩ 1 (x / 256) rfl (by simp) (by have := hbl.out; omega) ?_)
          intro v2 w3 hR2 hT2
          have HR2 := Lib.hid hR2
          have HT2 := Lib.hid hT2
          have cx3 : w3.cell? ⟨g, j, none⟩ = some (.int .i64 (x : Int)) := by
            obtain ⟨r3, W3⟩ := HO.out.win
            have h4 := (W3.kept hT2 (by simp)).cell hj
            rwa [Nat.zero_add, ex.out] at h4
          have hbl2 : Hid ((bs ++ [x / 256]).length ≤ 3000001) := Lib.hid (by rw [List.length_append]; have := hbl.out; simp; omega)
          clear hR2 hT2 cx
          go_wp2_with (at_builtin; refine wpList_app_row _ rfl _ _ 85 rfl 5 .u8 i0 Tryd.underlying85 hi hz0 hz1 (by omega) w0 v2 (bs ++ [x / 256]) (HT2.out.alloc _) (HR2.out.kept ((Tch.refl [] w3).alloc _)) rfl ⟨w3.heap.size, 0, none⟩ 1 (x % 256) rfl (by simp) (by have := hbl2.out; omega) ?_)
          intro v4 w4 hR4 hT4
          have HR4 := Lib.hid hR4
          have HT4 := Lib.hid hT4
          clear hR4 hT4 cx3
          go_wp2
          go_roundw
          case rel => exact ⟨j, bs ++ [x / 256, x % 256], (j : Int) - 1, v4, rfl, HR4.out, by first | rfl | go_num, Lib.hid rfl, by omega, HB2, HT4.out⟩
          case measure => simp [intOf]
        · rw [if_neg (by omega)] at hstep
          have hst := Lib.hid hstep
          have h3 : ¬ (j : Int) < (xs.length : Int) - 1 := by omega
          have h6 : ¬ (256 : Int) ≤ (x : Int) := by omega
          clear hstep
          have hbl : Hid (bs.length ≤ 3000000) := Lib.hid (by rw [hB.out, List.length_reverse]; exact bytes_len xs (j + 1) HK.out hb)
          have hxm : x % 256 = x := by omega
          have HB2 : Hid (bs ++ [x % 256] = (digs 256 (dg 65536 (xs.drop j))).reverse) := Lib.hid (by rw [hst.out, hB.out, hxm]; simp)
          clear hst hB hI hxm
          go_wp2_with (at_builtin; refine wpList_app_row _ rfl _ _ 85 rfl 5 .u8 i0 Tryd.underlying85 hi hz0 hz1 (by omega) w0 v bs (HTr.out.alloc _) (HR.out.kept ((Tch.refl [] wr).alloc _)) rfl ⟨wr.heap.size, 0, none⟩ 1 (x % 256) rfl (by simp) (by have := hbl.out; omega) ?_)
          intro v4 w4 hR4 hT4
          have HR4 := Lib.hid hR4
          have HT4 := Lib.hid hT4
          clear hR4 hT4 cx
          go_wp2
          go_roundw
          case rel => exact ⟨j, bs ++ [x % 256], (j : Int) - 1, v4, rfl, HR4.out, by first | rfl | go_num, Lib.hid rfl, by omega, HB2, HT4.out⟩
          case measure => simp [intOf]

set_option maxHeartbeats 4000000 in
set_option maxRecDepth 100000 in
theorem rwideZe {B : Nat} (neg : Bool) (zs : List Nat) (v : Value) (w : World) (h : Row B w 3 .i64 v zs) (hn : zs.length ≤ 1000000) (hz : cut zs = []) :
    Calls Tryd.prog 37 #[.bool neg, v] w fun e w' => e = .returned (.agg #[.bool false, .string ⟨#[]⟩]) ∧ Tch [] w w' := by
  obtain ⟨v', hV, hC⟩ := rtrim h (by omega)
  rw [hz] at hV
  obtain ⟨A', c', rfl⟩ : ∃ A' c', v' = .slice A' 0 c' := by
    rcases hV with ⟨h1, _⟩ | ⟨g, cap, h1, _⟩
    · exact ⟨_, _, h1⟩
    · exact ⟨_, _, h1⟩
  have HC := Lib.hid hC
  clear hC hV h hn hz
  go_enter Tryd.func37, Tryd.ntmps37
  go_wp2_with fail
  refine (HC.out _ ((Tch.refl [] w).alloc _)).mono ?_
  rintro e w1 ⟨rfl, rfl⟩
  go_wp2
  refine bodyPost_ret (v := .agg #[.bool false, .string ⟨#[]⟩]) (by simp [results, Tryd.results37, go_sem]) rfl ⟨rfl, ?_⟩
  exact (Tch.refl [] w).alloc _

theorem rwideAny {B : Nat} (neg : Bool) (zs : List Nat) (v : Value) (w : World) (h : Row B w 3 .i64 v zs) (hk : Ok 65536 zs) (hn : zs.length ≤ 1000000) :
    Calls Tryd.prog 37 #[.bool neg, v] w fun e w' => e = .returned (wv neg (dg 65536 zs)) ∧ Tch [] w w' := by
  have hc : cut zs = digs 65536 (dg 65536 zs) := cut_eq (b := 65536) (by decide) hk
  by_cases h0 : dg 65536 zs = 0
  · rw [h0, show wv neg 0 = .agg #[.bool false, .string ⟨#[]⟩] from by simp [wv]]
    exact rwideZe neg zs v w h hn (by rw [hc, h0, digs_zero])
  · have hne : cut zs ≠ [] := fun h2 => h0 ((digs_eq_nil (b := 65536) (by decide)).1 (hc ▸ h2))
    rcases h with ⟨_, h1⟩ | ⟨g, cap, rfl, _, ho⟩
    · subst h1; exact absurd rfl h0
    · have h1 := rwideT neg g cap zs (cut zs) w ho rfl hn (cut_ok hk) hne
      rw [dg_cut] at h1
      unfold wv
      rwa [if_neg h0]

end Go.Proofs.YtmpfgkpimjiecaaDoor
namespace Go.Proofs.YtmpfgkpimjiecaaDoor
open Go.RowKit Dg
theorem digs_len_le {p q : Nat} (h : q ≤ p) : (digs 65536 q).length ≤ (digs 65536 p).length := by
  have h1 := dg_lt (b := 65536) (digs_ok (by decide) p)
  rw [dg_digs (by decide)] at h1
  exact digs_length_le (by decide) (by omega)

theorem zval_same (b : Bool) (p q : Nat) : zval b (p + q) = zval b p + zval b q := by
  unfold zval; cases b <;> simp <;> omega

theorem zval_less (b c : Bool) (p q : Nat) (hn : (b == c) = false) (h : q ≤ p) : zval b (p - q) = zval b p + zval c q := by
  unfold zval; cases b <;> cases c <;> simp at hn ⊢ <;> omega

theorem zval_more (b c : Bool) (p q : Nat) (hn : (b == c) = false) (h : p ≤ q) : zval c (q - p) = zval b p + zval c q := by
  unfold zval; cases b <;> cases c <;> simp at hn ⊢ <;> omega

set_option maxHeartbeats 4000000 in
set_option maxRecDepth 100000 in
theorem rAddEq {na nb : Bool} {sa sc : ByteArray} {x y : Int} (hx : Rep 1000 na sa x) (hy : Rep 1000 nb sc y) (hb : (na == nb) = true) (w : World) :
    Calls Tryd.prog 19 #[.agg #[.bool na, .string sa], .agg #[.bool nb, .string sc]] w fun e w' => e = .returned (wz (x + y)) ∧ Tch [] w w' := by
  have hV : wv na (bv (sb sa) + bv (sb sc)) = wz (x + y) := by
    have h1 : na = nb := by simpa using hb
    subst h1
    rw [wv_wz, zval_same, hx.val, hy.val]
  obtain ⟨X, hX⟩ : ∃ X, X = digs 65536 (bv (sb sa)) := ⟨_, rfl⟩
  obtain ⟨Y, hY⟩ : ∃ Y, Y = digs 65536 (bv (sb sc)) := ⟨_, rfl⟩
  have c1 := fun w1 => rdigits na sa w1 (by have := hx.size; omega)
  have c2 := fun w1 => rdigits nb sc w1 (by have := hy.size; omega)
  rw [← hX] at c1
  rw [← hY] at c2
  have C1 := Lib.hid c1
  have C2 := Lib.hid c2
  have HXo : Hid (Ok 65536 X) := Lib.hid (by rw [hX]; exact digs_ok (by decide) _)
  have HYo : Hid (Ok 65536 Y) := Lib.hid (by rw [hY]; exact digs_ok (by decide) _)
  have HXt : Hid (Trim X) := Lib.hid (by rw [hX]; exact digs_trim (by decide) _)
  have HYt : Hid (Trim Y) := Lib.hid (by rw [hY]; exact digs_trim (by decide) _)
  have HXl : Hid (X.length ≤ 1000) := Lib.hid (by rw [hX]; exact Nat.le_trans (digs_len_size sa) hx.size)
  have HYl : Hid (Y.length ≤ 1000) := Lib.hid (by rw [hY]; exact Nat.le_trans (digs_len_size sc) hy.size)
  have eX : dg 65536 X = bv (sb sa) := by rw [hX, dg_digs (by decide)]
  have eY : dg 65536 Y = bv (sb sc) := by rw [hY, dg_digs (by decide)]
  rw [← eX, ← eY] at hV
  obtain ⟨br, sr, er⟩ : ∃ b s, wz (x + y) = .agg #[.bool b, .string s] := ⟨_, _, wz_mo _⟩
  rw [er] at hV
  have HV := Lib.hid hV
  have ER := Lib.hid er
  have F0 := (((Fr.nil w).add (.cells #[.bool na, .string sa] 26) w.heap.size rfl).add (.cells #[.bool nb, .string sc] 26) (w.heap.size + 1) (by simp)).add (.cells #[.bool false, .string ⟨#[]⟩] 26) (w.heap.size + 1 + 1) (by simp)
  obtain ⟨w0, l, hw0, G0, SF0, ST0, RB0⟩ : ∃ w0 l, w0 = (((w.alloc (.cells #[.bool na, .string sa] 26)).alloc (.cells #[.bool nb, .string sc] 26)).alloc (.cells #[.bool false, .string ⟨#[]⟩] 26)) ∧ Fr w w0 l ∧
      (∀ w3, Fr w w3 l → w3.cell? ⟨w.heap.size, 0, none⟩ = some (.bool na) ∧ w3.cell? ⟨w.heap.size, 1, none⟩ = some (.string sa) ∧ w3.cell? ⟨w.heap.size + 1, 0, none⟩ = some (.bool nb) ∧ w3.cell? ⟨w.heap.size + 1, 1, none⟩ = some (.string sc)) ∧
      (∀ w3, Fr w w3 l → ∀ u v, ((w3.setCell ⟨w.heap.size + 1 + 1, 0, none⟩ u).setCell ⟨w.heap.size + 1 + 1, 1, none⟩ v).cell? ⟨w.heap.size, 0, none⟩ = some (.bool na) ∧ ((w3.setCell ⟨w.heap.size + 1 + 1, 0, none⟩ u).setCell ⟨w.heap.size + 1 + 1, 1, none⟩ v).cell? ⟨w.heap.size, 1, none⟩ = some (.string sa) ∧ ((w3.setCell ⟨w.heap.size + 1 + 1, 0, none⟩ u).setCell ⟨w.heap.size + 1 + 1, 1, none⟩ v).cell? ⟨w.heap.size + 1, 0, none⟩ = some (.bool nb) ∧ ((w3.setCell ⟨w.heap.size + 1 + 1, 0, none⟩ u).setCell ⟨w.heap.size + 1 + 1, 1, none⟩ v).cell? ⟨w.heap.size + 1, 1, none⟩ = some (.string sc)) ∧
      (∀ w3, Fr w w3 l → Fr w w3 [(w.heap.size + 1 + 1, .cells #[.bool false, .string ⟨#[]⟩] 26 (0, 0))]) :=
    ⟨_, _, rfl, F0, fun w3 F => ⟨F.cell 0 0 rfl rfl, F.cell 0 1 rfl rfl, F.cell 1 0 rfl rfl, F.cell 1 1 rfl rfl⟩,
      fun w3 F u v => ⟨by rw [World.cell?_setCell_other _ _ _ _ (by simp), World.cell?_setCell_other _ _ _ _ (by simp)]; exact F.cell 0 0 rfl rfl, by rw [World.cell?_setCell_other _ _ _ _ (by simp), World.cell?_setCell_other _ _ _ _ (by simp)]; exact F.cell 0 1 rfl rfl, by rw [World.cell?_setCell_other _ _ _ _ (by simp), World.cell?_setCell_other _ _ _ _ (by simp)]; exact F.cell 1 0 rfl rfl, by rw [World.cell?_setCell_other _ _ _ _ (by simp), World.cell?_setCell_other _ _ _ _ (by simp)]; exact F.cell 1 1 rfl rfl⟩,
      fun w3 F => ⟨fun p hp => F.row p (by rw [List.mem_singleton] at hp; subst hp; simp), fun p hp => F.new p (by rw [List.mem_singleton] at hp; subst hp; simp), F.t⟩⟩
  have F1 := Lib.hid G0
  have SF := Lib.hid SF0
  have RB := Lib.hid RB0
  have ST := Lib.hid ST0
  have HW := Lib.hid hw0
  clear F0 G0 SF0 ST0 RB0 hw0 hX hY c1 c2 hV er eX eY hx hy
  go_enter Tryd.func19, Tryd.ntmps19
  go_wp2_with fail
  refine (C1.out _).mono ?_
  rintro e w3 ⟨⟨v1, rfl, hR1⟩, hT⟩
  rw [← HW.out] at hT hR1
  have F3 := Lib.hid (F1.out.keep hT)
  obtain ⟨A1, k1, rfl, hD1⟩ := Rd.of_row hR1 (Nat.le_refl _)
  have HD1 := Lib.hid hD1
  clear hT hR1 hD1
  obtain ⟨a0, a1, b0, b1⟩ := SF.out _ F3.out
  go_wp2_with fail
  refine (C2.out _).mono ?_
  rintro e w4 ⟨⟨v2, rfl, hR2⟩, hT⟩
  have F4 := Lib.hid (F3.out.keep hT)
  obtain ⟨A2, k2, rfl, hD2⟩ := Rd.of_row hR2 (Nat.le_refl _)
  have HD2 := Lib.hid hD2
  have HD3 := Lib.hid (HD1.out.up (HD1.out.kept hT (by simp)) hT.size)
  clear hT hR2 hD2 a0 a1 b0 b1 F3 HD1
  obtain ⟨a0, a1, b0, b1⟩ := SF.out _ F4.out
  have HD2d : Hid (Rd w4.drew.heap.size w4.drew A2 Y) := Lib.hid (HD2.out.up (HD2.out.kept (Tch.refl [] w4).drew (by simp)) (Nat.le_refl _))
  have HD3d : Hid (Rd w4.drew.heap.size w4.drew A1 X) := Lib.hid (HD3.out.up (HD3.out.kept (Tch.refl [] w4).drew (by simp)) (Nat.le_refl _))
  go_wp2
  go_region_held3 (fun w3 => w3.cell? ⟨w.heap.size, 0, none⟩ = some (.bool na) ∧ w3.cell? ⟨w.heap.size, 1, none⟩ = some (.string sa) ∧ w3.cell? ⟨w.heap.size + 1, 0, none⟩ = some (.bool nb) ∧ w3.cell? ⟨w.heap.size + 1, 1, none⟩ = some (.string sc)) (first | with_reducible exact SF.out _ F5.out | exact SF.out _ F4.out | exact SF.out _ F4.out.drew | exact ST.out _ F5.out _ _) (first
    | (go_at_call 42; refine (rplus A1 A2 k1 k2 X Y _ HD3d.out HD2d.out HXo.out HYo.out (by have := HXl.out; omega) (by have := HYl.out; omega)).mono ?_; rintro e w5 ⟨⟨v3, rfl, zs, hR3, hO3, hl3, hd3⟩, hT⟩; have F5 := Lib.hid (F4.out.drew.keep hT); have HR3 := Lib.hid hR3; have HO3 := Lib.hid hO3; have HL3 : Hid (zs.length ≤ 200001) := Lib.hid (by have := HXl.out; have := HYl.out; omega); have HD5 := Lib.hid hd3; clear hT hR3 hO3 hl3 hd3)
    | (go_at_call 37; refine (rwideAny na zs v3 _ HR3.out HO3.out (by have := HL3.out; omega)).mono ?_; rw [HD5.out]; rw [HV.out]; rintro e w6 ⟨rfl, hT⟩; have F5 := Lib.hid (F5.out.keep hT); obtain ⟨r0, r1⟩ := (RB.out _ F5.out).two 0 rfl; obtain ⟨t0, t1⟩ := (RB.out _ F5.out).fro2 0 rfl; clear hT))
  go_wp2
  refine bodyPost_ret (v := .agg #[.bool br, .string sr]) (by simp [results, Tryd.results19, go_sem, r0, r1]) rfl ⟨by rw [ER.out], ?_⟩
  exact (RB.out _ F5.out).fin2 0 rfl _ _

set_option maxHeartbeats 4000000 in
set_option maxRecDepth 100000 in
theorem rAddGe {na nb : Bool} {sa sc : ByteArray} {x y : Int} (hx : Rep 1000 na sa x) (hy : Rep 1000 nb sc y) (hb : (na == nb) = false) (hle : bv (sb sc) ≤ bv (sb sa)) (w : World) :
    Calls Tryd.prog 19 #[.agg #[.bool na, .string sa], .agg #[.bool nb, .string sc]] w fun e w' => e = .returned (wz (x + y)) ∧ Tch [] w w' := by
  have hV : wv na (bv (sb sa) - bv (sb sc)) = wz (x + y) := by rw [wv_wz, zval_less na nb _ _ hb hle, hx.val, hy.val]
  obtain ⟨X, hX⟩ : ∃ X, X = digs 65536 (bv (sb sa)) := ⟨_, rfl⟩
  obtain ⟨Y, hY⟩ : ∃ Y, Y = digs 65536 (bv (sb sc)) := ⟨_, rfl⟩
  have c1 := fun w1 => rdigits na sa w1 (by have := hx.size; omega)
  have c2 := fun w1 => rdigits nb sc w1 (by have := hy.size; omega)
  rw [← hX] at c1
  rw [← hY] at c2
  have C1 := Lib.hid c1
  have C2 := Lib.hid c2
  have HXo : Hid (Ok 65536 X) := Lib.hid (by rw [hX]; exact digs_ok (by decide) _)
  have HYo : Hid (Ok 65536 Y) := Lib.hid (by rw [hY]; exact digs_ok (by decide) _)
  have HXt : Hid (Trim X) := Lib.hid (by rw [hX]; exact digs_trim (by decide) _)
  have HYt : Hid (Trim Y) := Lib.hid (by rw [hY]; exact digs_trim (by decide) _)
  have HXl : Hid (X.length ≤ 1000) := Lib.hid (by rw [hX]; exact Nat.le_trans (digs_len_size sa) hx.size)
  have HYl : Hid (Y.length ≤ 1000) := Lib.hid (by rw [hY]; exact Nat.le_trans (digs_len_size sc) hy.size)
  have eX : dg 65536 X = bv (sb sa) := by rw [hX, dg_digs (by decide)]
  have eY : dg 65536 Y = bv (sb sc) := by rw [hY, dg_digs (by decide)]
  rw [← eX, ← eY] at hV
  obtain ⟨br, sr, er⟩ : ∃ b s, wz (x + y) = .agg #[.bool b, .string s] := ⟨_, _, wz_mo _⟩
  rw [er] at hV
  have HV := Lib.hid hV
  have ER := Lib.hid er
  have F0 := (((Fr.nil w).add (.cells #[.bool na, .string sa] 26) w.heap.size rfl).add (.cells #[.bool nb, .string sc] 26) (w.heap.size + 1) (by simp)).add (.cells #[.bool false, .string ⟨#[]⟩] 26) (w.heap.size + 1 + 1) (by simp)
  obtain ⟨w0, l, hw0, G0, SF0, ST0, RB0⟩ : ∃ w0 l, w0 = (((w.alloc (.cells #[.bool na, .string sa] 26)).alloc (.cells #[.bool nb, .string sc] 26)).alloc (.cells #[.bool false, .string ⟨#[]⟩] 26)) ∧ Fr w w0 l ∧
      (∀ w3, Fr w w3 l → w3.cell? ⟨w.heap.size, 0, none⟩ = some (.bool na) ∧ w3.cell? ⟨w.heap.size, 1, none⟩ = some (.string sa) ∧ w3.cell? ⟨w.heap.size + 1, 0, none⟩ = some (.bool nb) ∧ w3.cell? ⟨w.heap.size + 1, 1, none⟩ = some (.string sc)) ∧
      (∀ w3, Fr w w3 l → ∀ u v, ((w3.setCell ⟨w.heap.size + 1 + 1, 0, none⟩ u).setCell ⟨w.heap.size + 1 + 1, 1, none⟩ v).cell? ⟨w.heap.size, 0, none⟩ = some (.bool na) ∧ ((w3.setCell ⟨w.heap.size + 1 + 1, 0, none⟩ u).setCell ⟨w.heap.size + 1 + 1, 1, none⟩ v).cell? ⟨w.heap.size, 1, none⟩ = some (.string sa) ∧ ((w3.setCell ⟨w.heap.size + 1 + 1, 0, none⟩ u).setCell ⟨w.heap.size + 1 + 1, 1, none⟩ v).cell? ⟨w.heap.size + 1, 0, none⟩ = some (.bool nb) ∧ ((w3.setCell ⟨w.heap.size + 1 + 1, 0, none⟩ u).setCell ⟨w.heap.size + 1 + 1, 1, none⟩ v).cell? ⟨w.heap.size + 1, 1, none⟩ = some (.string sc)) ∧
      (∀ w3, Fr w w3 l → Fr w w3 [(w.heap.size + 1 + 1, .cells #[.bool false, .string ⟨#[]⟩] 26 (0, 0))]) :=
    ⟨_, _, rfl, F0, fun w3 F => ⟨F.cell 0 0 rfl rfl, F.cell 0 1 rfl rfl, F.cell 1 0 rfl rfl, F.cell 1 1 rfl rfl⟩,
      fun w3 F u v => ⟨by rw [World.cell?_setCell_other _ _ _ _ (by simp), World.cell?_setCell_other _ _ _ _ (by simp)]; exact F.cell 0 0 rfl rfl, by rw [World.cell?_setCell_other _ _ _ _ (by simp), World.cell?_setCell_other _ _ _ _ (by simp)]; exact F.cell 0 1 rfl rfl, by rw [World.cell?_setCell_other _ _ _ _ (by simp), World.cell?_setCell_other _ _ _ _ (by simp)]; exact F.cell 1 0 rfl rfl, by rw [World.cell?_setCell_other _ _ _ _ (by simp), World.cell?_setCell_other _ _ _ _ (by simp)]; exact F.cell 1 1 rfl rfl⟩,
      fun w3 F => ⟨fun p hp => F.row p (by rw [List.mem_singleton] at hp; subst hp; simp), fun p hp => F.new p (by rw [List.mem_singleton] at hp; subst hp; simp), F.t⟩⟩
  have F1 := Lib.hid G0
  have SF := Lib.hid SF0
  have RB := Lib.hid RB0
  have ST := Lib.hid ST0
  have HW := Lib.hid hw0
  have HLe : Hid (dg 65536 Y ≤ dg 65536 X) := Lib.hid (by rw [eX, eY]; exact hle)
  have HLen : Hid (Y.length ≤ X.length) := Lib.hid (by rw [hX, hY]; exact digs_len_le hle)
  have HPl : Hid ((digs 65536 (dg 65536 X - dg 65536 Y)).length ≤ 1000000) := Lib.hid (by
    have h1 := digs_len_le (show dg 65536 X - dg 65536 Y ≤ bv (sb sa) by rw [eX]; omega)
    rw [← hX] at h1
    have := HXl.out; omega)
  clear hle
  clear F0 G0 SF0 ST0 RB0 hw0 hX hY c1 c2 hV er eX eY hx hy
  go_enter Tryd.func19, Tryd.ntmps19
  go_wp2_with fail
  refine (C1.out _).mono ?_
  rintro e w3 ⟨⟨v1, rfl, hR1⟩, hT⟩
  rw [← HW.out] at hT hR1
  have F3 := Lib.hid (F1.out.keep hT)
  obtain ⟨A1, k1, rfl, hD1⟩ := Rd.of_row hR1 (Nat.le_refl _)
  have HD1 := Lib.hid hD1
  clear hT hR1 hD1
  obtain ⟨a0, a1, b0, b1⟩ := SF.out _ F3.out
  go_wp2_with fail
  refine (C2.out _).mono ?_
  rintro e w4 ⟨⟨v2, rfl, hR2⟩, hT⟩
  have F4 := Lib.hid (F3.out.keep hT)
  obtain ⟨A2, k2, rfl, hD2⟩ := Rd.of_row hR2 (Nat.le_refl _)
  have HD2 := Lib.hid hD2
  have HD3 := Lib.hid (HD1.out.up (HD1.out.kept hT (by simp)) hT.size)
  clear hT hR2 hD2 a0 a1 b0 b1 F3 HD1
  obtain ⟨a0, a1, b0, b1⟩ := SF.out _ F4.out
  obtain ⟨z, hz⟩ : ∃ z, z = cmpI (dg 65536 X : Int) (dg 65536 Y : Int) := ⟨_, rfl⟩
  have c3 := fun w1 (p : Rd w1.heap.size w1 A1 X) (q : Rd w1.heap.size w1 A2 Y) => rcompare A1 A2 k1 k2 X Y w1 p q HXo.out HYo.out HXt.out HYt.out (by have := HXl.out; omega)
  rw [← hz] at c3
  have C3 := Lib.hid c3
  have hz0 := show ¬ z < 0 by rw [hz]; have := HLe.out; unfold cmpI; split <;> first | omega | (split <;> omega)
  clear c3 hz
  go_wp2_with fail
  refine (C3.out _ HD3.out HD2.out).mono ?_
  rintro e w8 ⟨rfl, hT⟩
  have HD2 := Lib.hid (HD2.out.up (HD2.out.kept hT (by simp)) hT.size)
  have HD3 := Lib.hid (HD3.out.up (HD3.out.kept hT (by simp)) hT.size)
  have F4 := Lib.hid (F4.out.keep hT)
  clear hT a0 a1 b0 b1
  obtain ⟨a0, a1, b0, b1⟩ := SF.out _ F4.out
  go_wp2
  have HD2d : Hid (Rd w8.drew.heap.size w8.drew A2 Y) := Lib.hid (HD2.out.up (HD2.out.kept (Tch.refl [] w8).drew (by simp)) (Nat.le_refl _))
  have HD3d : Hid (Rd w8.drew.heap.size w8.drew A1 X) := Lib.hid (HD3.out.up (HD3.out.kept (Tch.refl [] w8).drew (by simp)) (Nat.le_refl _))
  go_region_held3 (fun w3 => w3.cell? ⟨w.heap.size, 0, none⟩ = some (.bool na) ∧ w3.cell? ⟨w.heap.size, 1, none⟩ = some (.string sa) ∧ w3.cell? ⟨w.heap.size + 1, 0, none⟩ = some (.bool nb) ∧ w3.cell? ⟨w.heap.size + 1, 1, none⟩ = some (.string sc)) (first | with_reducible exact SF.out _ F5.out | exact SF.out _ F4.out | exact SF.out _ F4.out.drew | exact ST.out _ F5.out _ _) (first
    | (go_at_call 44; refine (rminus A1 A2 k1 k2 X Y _ HD3d.out HD2d.out HXo.out HYo.out (by have := HXl.out; have := HYl.out; omega) HLen.out HLe.out).mono ?_; rintro e w5 ⟨⟨v3, rfl, hR3⟩, hT⟩; have F5 := Lib.hid (F4.out.drew.keep hT); have HR3 := Lib.hid hR3; clear hT hR3)
    | (go_at_call 37; refine (rwide na (dg 65536 X - dg 65536 Y) v3 _ HR3.out HPl.out).mono ?_; rw [HV.out]; rintro e w6 ⟨rfl, hT⟩; have F5 := Lib.hid (F5.out.keep hT); obtain ⟨r0, r1⟩ := (RB.out _ F5.out).two 0 rfl; obtain ⟨t0, t1⟩ := (RB.out _ F5.out).fro2 0 rfl; clear hT))
  go_wp2
  refine bodyPost_ret (v := .agg #[.bool br, .string sr]) (by simp [results, Tryd.results19, go_sem, r0, r1]) rfl ⟨by rw [ER.out], ?_⟩
  exact (RB.out _ F5.out).fin2 0 rfl _ _

set_option maxHeartbeats 4000000 in
set_option maxRecDepth 100000 in
theorem rAddLt {na nb : Bool} {sa sc : ByteArray} {x y : Int} (hx : Rep 1000 na sa x) (hy : Rep 1000 nb sc y) (hb : (na == nb) = false) (hle : bv (sb sa) < bv (sb sc)) (w : World) :
    Calls Tryd.prog 19 #[.agg #[.bool na, .string sa], .agg #[.bool nb, .string sc]] w fun e w' => e = .returned (wz (x + y)) ∧ Tch [] w w' := by
  have hV : wv nb (bv (sb sc) - bv (sb sa)) = wz (x + y) := by rw [wv_wz, zval_more na nb _ _ hb (Nat.le_of_lt hle), hx.val, hy.val]
  obtain ⟨X, hX⟩ : ∃ X, X = digs 65536 (bv (sb sa)) := ⟨_, rfl⟩
  obtain ⟨Y, hY⟩ : ∃ Y, Y = digs 65536 (bv (sb sc)) := ⟨_, rfl⟩
  have c1 := fun w1 => rdigits na sa w1 (by have := hx.size; omega)
  have c2 := fun w1 => rdigits nb sc w1 (by have := hy.size; omega)
  rw [← hX] at c1
  rw [← hY] at c2
  have C1 := Lib.hid c1
  have C2 := Lib.hid c2
  have HXo : Hid (Ok 65536 X) := Lib.hid (by rw [hX]; exact digs_ok (by decide) _)
  have HYo : Hid (Ok 65536 Y) := Lib.hid (by rw [hY]; exact digs_ok (by decide) _)
  have HXt : Hid (Trim X) := Lib.hid (by rw [hX]; exact digs_trim (by decide) _)
  have HYt : Hid (Trim Y) := Lib.hid (by rw [hY]; exact digs_trim (by decide) _)
  have HXl : Hid (X.length ≤ 1000) := Lib.hid (by rw [hX]; exact Nat.le_trans (digs_len_size sa) hx.size)
  have HYl : Hid (Y.length ≤ 1000) := Lib.hid (by rw [hY]; exact Nat.le_trans (digs_len_size sc) hy.size)
  have eX : dg 65536 X = bv (sb sa) := by rw [hX, dg_digs (by decide)]
  have eY : dg 65536 Y = bv (sb sc) := by rw [hY, dg_digs (by decide)]
  rw [← eX, ← eY] at hV
  obtain ⟨br, sr, er⟩ : ∃ b s, wz (x + y) = .agg #[.bool b, .string s] := ⟨_, _, wz_mo _⟩
  rw [er] at hV
  have HV := Lib.hid hV
  have ER := Lib.hid er
  have F0 := (((Fr.nil w).add (.cells #[.bool na, .string sa] 26) w.heap.size rfl).add (.cells #[.bool nb, .string sc] 26) (w.heap.size + 1) (by simp)).add (.cells #[.bool false, .string ⟨#[]⟩] 26) (w.heap.size + 1 + 1) (by simp)
  obtain ⟨w0, l, hw0, G0, SF0, ST0, RB0⟩ : ∃ w0 l, w0 = (((w.alloc (.cells #[.bool na, .string sa] 26)).alloc (.cells #[.bool nb, .string sc] 26)).alloc (.cells #[.bool false, .string ⟨#[]⟩] 26)) ∧ Fr w w0 l ∧
      (∀ w3, Fr w w3 l → w3.cell? ⟨w.heap.size, 0, none⟩ = some (.bool na) ∧ w3.cell? ⟨w.heap.size, 1, none⟩ = some (.string sa) ∧ w3.cell? ⟨w.heap.size + 1, 0, none⟩ = some (.bool nb) ∧ w3.cell? ⟨w.heap.size + 1, 1, none⟩ = some (.string sc)) ∧
      (∀ w3, Fr w w3 l → ∀ u v, ((w3.setCell ⟨w.heap.size + 1 + 1, 0, none⟩ u).setCell ⟨w.heap.size + 1 + 1, 1, none⟩ v).cell? ⟨w.heap.size, 0, none⟩ = some (.bool na) ∧ ((w3.setCell ⟨w.heap.size + 1 + 1, 0, none⟩ u).setCell ⟨w.heap.size + 1 + 1, 1, none⟩ v).cell? ⟨w.heap.size, 1, none⟩ = some (.string sa) ∧ ((w3.setCell ⟨w.heap.size + 1 + 1, 0, none⟩ u).setCell ⟨w.heap.size + 1 + 1, 1, none⟩ v).cell? ⟨w.heap.size + 1, 0, none⟩ = some (.bool nb) ∧ ((w3.setCell ⟨w.heap.size + 1 + 1, 0, none⟩ u).setCell ⟨w.heap.size + 1 + 1, 1, none⟩ v).cell? ⟨w.heap.size + 1, 1, none⟩ = some (.string sc)) ∧
      (∀ w3, Fr w w3 l → Fr w w3 [(w.heap.size + 1 + 1, .cells #[.bool false, .string ⟨#[]⟩] 26 (0, 0))]) :=
    ⟨_, _, rfl, F0, fun w3 F => ⟨F.cell 0 0 rfl rfl, F.cell 0 1 rfl rfl, F.cell 1 0 rfl rfl, F.cell 1 1 rfl rfl⟩,
      fun w3 F u v => ⟨by rw [World.cell?_setCell_other _ _ _ _ (by simp), World.cell?_setCell_other _ _ _ _ (by simp)]; exact F.cell 0 0 rfl rfl, by rw [World.cell?_setCell_other _ _ _ _ (by simp), World.cell?_setCell_other _ _ _ _ (by simp)]; exact F.cell 0 1 rfl rfl, by rw [World.cell?_setCell_other _ _ _ _ (by simp), World.cell?_setCell_other _ _ _ _ (by simp)]; exact F.cell 1 0 rfl rfl, by rw [World.cell?_setCell_other _ _ _ _ (by simp), World.cell?_setCell_other _ _ _ _ (by simp)]; exact F.cell 1 1 rfl rfl⟩,
      fun w3 F => ⟨fun p hp => F.row p (by rw [List.mem_singleton] at hp; subst hp; simp), fun p hp => F.new p (by rw [List.mem_singleton] at hp; subst hp; simp), F.t⟩⟩
  have F1 := Lib.hid G0
  have SF := Lib.hid SF0
  have RB := Lib.hid RB0
  have ST := Lib.hid ST0
  have HW := Lib.hid hw0
  have HLt : Hid (dg 65536 X < dg 65536 Y) := Lib.hid (by rw [eX, eY]; exact hle)
  have HLe : Hid (dg 65536 X ≤ dg 65536 Y) := Lib.hid (Nat.le_of_lt HLt.out)
  have HLen : Hid (X.length ≤ Y.length) := Lib.hid (by rw [hX, hY]; exact digs_len_le (Nat.le_of_lt hle))
  have HPl : Hid ((digs 65536 (dg 65536 Y - dg 65536 X)).length ≤ 1000000) := Lib.hid (by
    have h1 := digs_len_le (show dg 65536 Y - dg 65536 X ≤ bv (sb sc) by rw [eY]; omega)
    rw [← hY] at h1
    have := HYl.out; omega)
  clear hle
  clear F0 G0 SF0 ST0 RB0 hw0 hX hY c1 c2 hV er eX eY hx hy
  go_enter Tryd.func19, Tryd.ntmps19
  go_wp2_with fail
  refine (C1.out _).mono ?_
  rintro e w3 ⟨⟨v1, rfl, hR1⟩, hT⟩
  rw [← HW.out] at hT hR1
  have F3 := Lib.hid (F1.out.keep hT)
  obtain ⟨A1, k1, rfl, hD1⟩ := Rd.of_row hR1 (Nat.le_refl _)
  have HD1 := Lib.hid hD1
  clear hT hR1 hD1
  obtain ⟨a0, a1, b0, b1⟩ := SF.out _ F3.out
  go_wp2_with fail
  refine (C2.out _).mono ?_
  rintro e w4 ⟨⟨v2, rfl, hR2⟩, hT⟩
  have F4 := Lib.hid (F3.out.keep hT)
  obtain ⟨A2, k2, rfl, hD2⟩ := Rd.of_row hR2 (Nat.le_refl _)
  have HD2 := Lib.hid hD2
  have HD3 := Lib.hid (HD1.out.up (HD1.out.kept hT (by simp)) hT.size)
  clear hT hR2 hD2 a0 a1 b0 b1 F3 HD1
  obtain ⟨a0, a1, b0, b1⟩ := SF.out _ F4.out
  obtain ⟨z, hz⟩ : ∃ z, z = cmpI (dg 65536 X : Int) (dg 65536 Y : Int) := ⟨_, rfl⟩
  have c3 := fun w1 (p : Rd w1.heap.size w1 A1 X) (q : Rd w1.heap.size w1 A2 Y) => rcompare A1 A2 k1 k2 X Y w1 p q HXo.out HYo.out HXt.out HYt.out (by have := HXl.out; omega)
  rw [← hz] at c3
  have C3 := Lib.hid c3
  have hz0 := show z < 0 by rw [hz]; have := HLt.out; unfold cmpI; split <;> first | omega | (split <;> omega)
  clear c3 hz
  go_wp2_with fail
  refine (C3.out _ HD3.out HD2.out).mono ?_
  rintro e w8 ⟨rfl, hT⟩
  have HD2 := Lib.hid (HD2.out.up (HD2.out.kept hT (by simp)) hT.size)
  have HD3 := Lib.hid (HD3.out.up (HD3.out.kept hT (by simp)) hT.size)
  have F4 := Lib.hid (F4.out.keep hT)
  clear hT a0 a1 b0 b1
  obtain ⟨a0, a1, b0, b1⟩ := SF.out _ F4.out
  go_wp2
  have HD2d : Hid (Rd w8.drew.heap.size w8.drew A2 Y) := Lib.hid (HD2.out.up (HD2.out.kept (Tch.refl [] w8).drew (by simp)) (Nat.le_refl _))
  have HD3d : Hid (Rd w8.drew.heap.size w8.drew A1 X) := Lib.hid (HD3.out.up (HD3.out.kept (Tch.refl [] w8).drew (by simp)) (Nat.le_refl _))
  go_region_held3 (fun w3 => w3.cell? ⟨w.heap.size, 0, none⟩ = some (.bool na) ∧ w3.cell? ⟨w.heap.size, 1, none⟩ = some (.string sa) ∧ w3.cell? ⟨w.heap.size + 1, 0, none⟩ = some (.bool nb) ∧ w3.cell? ⟨w.heap.size + 1, 1, none⟩ = some (.string sc)) (first | with_reducible exact SF.out _ F5.out | exact SF.out _ F4.out | exact SF.out _ F4.out.drew | exact ST.out _ F5.out _ _) (first
    | (go_at_call 44; refine (rminus A2 A1 k2 k1 Y X _ HD2d.out HD3d.out HYo.out HXo.out (by have := HXl.out; have := HYl.out; omega) HLen.out HLe.out).mono ?_; rintro e w5 ⟨⟨v3, rfl, hR3⟩, hT⟩; have F5 := Lib.hid (F4.out.drew.keep hT); have HR3 := Lib.hid hR3; clear hT hR3)
    | (go_at_call 37; refine (rwide nb (dg 65536 Y - dg 65536 X) v3 _ HR3.out HPl.out).mono ?_; rw [HV.out]; rintro e w6 ⟨rfl, hT⟩; have F5 := Lib.hid (F5.out.keep hT); obtain ⟨r0, r1⟩ := (RB.out _ F5.out).two 0 rfl; obtain ⟨t0, t1⟩ := (RB.out _ F5.out).fro2 0 rfl; clear hT))
  go_wp2
  refine bodyPost_ret (v := .agg #[.bool br, .string sr]) (by simp [results, Tryd.results19, go_sem, r0, r1]) rfl ⟨by rw [ER.out], ?_⟩
  exact (RB.out _ F5.out).fin2 0 rfl _ _

theorem rAdd {na nb : Bool} {sa sc : ByteArray} {x y : Int} (hx : Rep 1000 na sa x) (hy : Rep 1000 nb sc y) (w : World) :
    Calls Tryd.prog 19 #[.agg #[.bool na, .string sa], .agg #[.bool nb, .string sc]] w fun e w' => e = .returned (wz (x + y)) ∧ Tch [] w w' := by
  cases hb : (na == nb) with
  | true => exact rAddEq hx hy hb w
  | false =>
    by_cases hle : bv (sb sc) ≤ bv (sb sa)
    · exact rAddGe hx hy hb hle w
    · exact rAddLt hx hy hb (by omega) w

end Go.Proofs.YtmpfgkpimjiecaaDoor
namespace Go.Proofs.YtmpfgkpimjiecaaDoor
open Go.RowKit Dg
set_option maxHeartbeats 4000000 in
set_option maxRecDepth 100000 in
theorem rNeg {na : Bool} {sa : ByteArray} {x : Int} (hx : Rep 1000 na sa x) (w : World) :
    Calls Tryd.prog 80 #[.agg #[.bool na, .string sa]] w fun e w' => e = .returned (wz (-x)) ∧ Tch [] w w' := by
  have hV : wv (!na) (bv (sb sa)) = wz (-x) := by rw [wv_wz, zval_not, hx.val]
  have C1 := Lib.hid (fun w1 => rdigits na sa w1 (by have := hx.size; omega))
  have HPl : Hid ((digs 65536 (bv (sb sa))).length ≤ 1000000) := Lib.hid (by have h1 := digs_len_size sa; have := hx.size; omega)
  obtain ⟨br, sr, er⟩ : ∃ b s, wz (-x) = .agg #[.bool b, .string s] := ⟨_, _, wz_mo _⟩
  rw [er] at hV
  have HV := Lib.hid hV
  have ER := Lib.hid er
  have F0 := ((Fr.nil w).add (.cells #[.bool na, .string sa] 26) w.heap.size rfl).add (.cells #[.bool false, .string ⟨#[]⟩] 26) (w.heap.size + 1) (by simp)
  obtain ⟨w0, l, hw0, G0, SF0, ST0, RB0⟩ : ∃ w0 l, w0 = ((w.alloc (.cells #[.bool na, .string sa] 26)).alloc (.cells #[.bool false, .string ⟨#[]⟩] 26)) ∧ Fr w w0 l ∧
      (∀ w3, Fr w w3 l → w3.cell? ⟨w.heap.size, 0, none⟩ = some (.bool na) ∧ w3.cell? ⟨w.heap.size, 1, none⟩ = some (.string sa)) ∧
      (∀ w3, Fr w w3 l → ∀ u v, ((w3.setCell ⟨w.heap.size + 1, 0, none⟩ u).setCell ⟨w.heap.size + 1, 1, none⟩ v).cell? ⟨w.heap.size, 0, none⟩ = some (.bool na) ∧ ((w3.setCell ⟨w.heap.size + 1, 0, none⟩ u).setCell ⟨w.heap.size + 1, 1, none⟩ v).cell? ⟨w.heap.size, 1, none⟩ = some (.string sa)) ∧
      (∀ w3, Fr w w3 l → Fr w w3 [(w.heap.size + 1, .cells #[.bool false, .string ⟨#[]⟩] 26 (0, 0))]) :=
    ⟨_, _, rfl, F0, fun w3 F => ⟨F.cell 0 0 rfl rfl, F.cell 0 1 rfl rfl⟩,
      fun w3 F u v => ⟨by rw [World.cell?_setCell_other _ _ _ _ (by simp), World.cell?_setCell_other _ _ _ _ (by simp)]; exact F.cell 0 0 rfl rfl, by rw [World.cell?_setCell_other _ _ _ _ (by simp), World.cell?_setCell_other _ _ _ _ (by simp)]; exact F.cell 0 1 rfl rfl⟩,
      fun w3 F => ⟨fun p hp => F.row p (by rw [List.mem_singleton] at hp; subst hp; simp), fun p hp => F.new p (by rw [List.mem_singleton] at hp; subst hp; simp), F.t⟩⟩
  have F1 := Lib.hid G0
  have SF := Lib.hid SF0
  have RB := Lib.hid RB0
  have ST := Lib.hid ST0
  have HW := Lib.hid hw0
  clear F0 G0 SF0 ST0 RB0 hw0 hV er hx
  go_enter Tryd.func80, Tryd.ntmps80
  go_wp2_with fail
  rw [← HW.out]
  go_region_held3 (fun w3 => w3.cell? ⟨w.heap.size, 0, none⟩ = some (.bool na) ∧ w3.cell? ⟨w.heap.size, 1, none⟩ = some (.string sa)) (first | with_reducible exact SF.out _ F3.out | exact SF.out _ F1.out | exact SF.out _ F1.out.drew | exact ST.out _ F3.out _ _) (first
    | (go_at_call 39; refine (C1.out _).mono ?_; rintro e w3 ⟨⟨v1, rfl, hR1⟩, hT⟩; have F3 := Lib.hid (F1.out.drew.keep hT); have HR1 := Lib.hid hR1; clear hT hR1)
    | (go_at_call 37; refine (rwide (!na) (bv (sb sa)) v1 _ HR1.out HPl.out).mono ?_; rw [HV.out]; rintro e w6 ⟨rfl, hT⟩; have F3 := Lib.hid (F3.out.keep hT); obtain ⟨r0, r1⟩ := (RB.out _ F3.out).two 0 rfl; obtain ⟨t0, t1⟩ := (RB.out _ F3.out).fro2 0 rfl; clear hT))
  go_wp2
  refine bodyPost_ret (v := .agg #[.bool br, .string sr]) (by simp [results, Tryd.results80, go_sem, r0, r1]) rfl ⟨by rw [ER.out], ?_⟩
  exact (RB.out _ F3.out).fin2 0 rfl _ _

end Go.Proofs.YtmpfgkpimjiecaaDoor
namespace Go.Proofs.YtmpfgkpimjiecaaDoor
open Go.RowKit Dg
set_option maxHeartbeats 4000000 in
set_option maxRecDepth 100000 in
theorem rSub {na nb : Bool} {sa sc : ByteArray} {x y : Int} (hx : Rep 1000 na sa x) (hy : Rep 1000 nb sc y) (w : World) :
    Calls Tryd.prog 57 #[.agg #[.bool na, .string sa], .agg #[.bool nb, .string sc]] w fun e w' => e = .returned (wz (x - y)) ∧ Tch [] w w' := by
  obtain ⟨bn, sn, en⟩ : ∃ b s, wz (-y) = .agg #[.bool b, .string s] := ⟨_, _, wz_mo _⟩
  have rn : Rep 1000 bn sn (-y) := Rep.of_wz en (by rw [Int.natAbs_neg]; exact hy.lt)
  obtain ⟨br, sr, er⟩ : ∃ b s, wz (x - y) = .agg #[.bool b, .string s] := ⟨_, _, wz_mo _⟩
  have c1 := fun w1 => rNeg hy w1
  rw [en] at c1
  have c2 := fun w1 => rAdd hx rn w1
  rw [show x + -y = x - y from by omega, er] at c2
  have C1 := Lib.hid c1
  have C2 := Lib.hid c2
  have ER := Lib.hid er
  have F0 := (((Fr.nil w).add (.cells #[.bool na, .string sa] 26) w.heap.size rfl).add (.cells #[.bool nb, .string sc] 26) (w.heap.size + 1) (by simp)).add (.cells #[.bool false, .string ⟨#[]⟩] 26) (w.heap.size + 1 + 1) (by simp)
  obtain ⟨w0, l, hw0, G0, SF0, ST0, RB0⟩ : ∃ w0 l, w0 = (((w.alloc (.cells #[.bool na, .string sa] 26)).alloc (.cells #[.bool nb, .string sc] 26)).alloc (.cells #[.bool false, .string ⟨#[]⟩] 26)) ∧ Fr w w0 l ∧
      (∀ w3, Fr w w3 l → w3.cell? ⟨w.heap.size, 0, none⟩ = some (.bool na) ∧ w3.cell? ⟨w.heap.size, 1, none⟩ = some (.string sa) ∧ w3.cell? ⟨w.heap.size + 1, 0, none⟩ = some (.bool nb) ∧ w3.cell? ⟨w.heap.size + 1, 1, none⟩ = some (.string sc)) ∧
      (∀ w3, Fr w w3 l → ∀ u v, ((w3.setCell ⟨w.heap.size + 1 + 1, 0, none⟩ u).setCell ⟨w.heap.size + 1 + 1, 1, none⟩ v).cell? ⟨w.heap.size, 0, none⟩ = some (.bool na) ∧ ((w3.setCell ⟨w.heap.size + 1 + 1, 0, none⟩ u).setCell ⟨w.heap.size + 1 + 1, 1, none⟩ v).cell? ⟨w.heap.size, 1, none⟩ = some (.string sa) ∧ ((w3.setCell ⟨w.heap.size + 1 + 1, 0, none⟩ u).setCell ⟨w.heap.size + 1 + 1, 1, none⟩ v).cell? ⟨w.heap.size + 1, 0, none⟩ = some (.bool nb) ∧ ((w3.setCell ⟨w.heap.size + 1 + 1, 0, none⟩ u).setCell ⟨w.heap.size + 1 + 1, 1, none⟩ v).cell? ⟨w.heap.size + 1, 1, none⟩ = some (.string sc)) ∧
      (∀ w3, Fr w w3 l → Fr w w3 [(w.heap.size + 1 + 1, .cells #[.bool false, .string ⟨#[]⟩] 26 (0, 0))]) :=
    ⟨_, _, rfl, F0, fun w3 F => ⟨F.cell 0 0 rfl rfl, F.cell 0 1 rfl rfl, F.cell 1 0 rfl rfl, F.cell 1 1 rfl rfl⟩,
      fun w3 F u v => ⟨by rw [World.cell?_setCell_other _ _ _ _ (by simp), World.cell?_setCell_other _ _ _ _ (by simp)]; exact F.cell 0 0 rfl rfl, by rw [World.cell?_setCell_other _ _ _ _ (by simp), World.cell?_setCell_other _ _ _ _ (by simp)]; exact F.cell 0 1 rfl rfl, by rw [World.cell?_setCell_other _ _ _ _ (by simp), World.cell?_setCell_other _ _ _ _ (by simp)]; exact F.cell 1 0 rfl rfl, by rw [World.cell?_setCell_other _ _ _ _ (by simp), World.cell?_setCell_other _ _ _ _ (by simp)]; exact F.cell 1 1 rfl rfl⟩,
      fun w3 F => ⟨fun p hp => F.row p (by rw [List.mem_singleton] at hp; subst hp; simp), fun p hp => F.new p (by rw [List.mem_singleton] at hp; subst hp; simp), F.t⟩⟩
  have F1 := Lib.hid G0
  have SF := Lib.hid SF0
  have RB := Lib.hid RB0
  have ST := Lib.hid ST0
  have HW := Lib.hid hw0
  clear c1 c2 en er rn hx hy F0 G0 SF0 ST0 RB0 hw0
  go_enter Tryd.func57, Tryd.ntmps57
  go_wp2_with fail
  rw [← HW.out]
  go_region_held3 (fun w3 => w3.cell? ⟨w.heap.size, 0, none⟩ = some (.bool na) ∧ w3.cell? ⟨w.heap.size, 1, none⟩ = some (.string sa) ∧ w3.cell? ⟨w.heap.size + 1, 0, none⟩ = some (.bool nb) ∧ w3.cell? ⟨w.heap.size + 1, 1, none⟩ = some (.string sc)) (first | with_reducible exact SF.out _ F3.out | exact SF.out _ F1.out | exact SF.out _ F1.out.drew | exact ST.out _ F3.out _ _) (first
    | (go_at_call 80; refine (C1.out _).mono ?_; rintro e w3 ⟨rfl, hT⟩; have F3 := Lib.hid (F1.out.drew.keep hT); clear hT)
    | (go_at_call 19; refine (C2.out _).mono ?_; rintro e w6 ⟨rfl, hT⟩; have F3 := Lib.hid (F3.out.keep hT); obtain ⟨r0, r1⟩ := (RB.out _ F3.out).two 0 rfl; obtain ⟨t0, t1⟩ := (RB.out _ F3.out).fro2 0 rfl; clear hT))
  go_wp2
  refine bodyPost_ret (v := .agg #[.bool br, .string sr]) (by simp [results, Tryd.results57, go_sem, r0, r1]) rfl ⟨by rw [ER.out], ?_⟩
  exact (RB.out _ F3.out).fin2 0 rfl _ _

end Go.Proofs.YtmpfgkpimjiecaaDoor
