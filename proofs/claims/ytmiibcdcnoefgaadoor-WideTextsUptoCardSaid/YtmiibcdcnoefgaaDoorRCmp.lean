/- lithophaneref01.compare. -/
import Derived.Test.YtmiibcdcnoefgaaDoorRef
import Derived.Test.YtmiibcdcnoefgaaDoorByWord
namespace Go.Proofs.YtmiibcdcnoefgaaDoor
open Go.RowKit Dg

set_option maxHeartbeats 4000000 in
set_option maxRecDepth 100000 in
theorem rcompare (A Bq : Option Addr) (ca cb : Nat) (xs ys : List Nat) (w : World) (hA : Rd w.heap.size w A xs) (hB : Rd w.heap.size w Bq ys) (hx : Ok 65536 xs) (hy : Ok 65536 ys) (htx : Trim xs) (hty : Trim ys) (hlx : xs.length ≤ 100000) :
    Calls Tryd.prog 53 #[.slice A xs.length ca, .slice Bq ys.length cb] w fun e w' => e = .returned (.int .i64 (cmpI (dg 65536 xs : Int) (dg 65536 ys : Int))) ∧ Tch [] w w' := by
  have HA := Lib.hid hA
  have HB := Lib.hid hB
  by_cases hl : xs.length = ys.length
  · have HL := Lib.hid hl
    have HX := Lib.hid hx
    have HY := Lib.hid hy
    have hb1 : ((xs.length : Int) == (ys.length : Int)) = true := by simp [hl]
    clear hA hB hx hy htx hty hl
    go_enter Tryd.func53, Tryd.ntmps53
    go_wp2
    go_loopw [5] (fun ui wr => ∃ (m : Nat) (I : Int), ui = .int .i64 I ∧ Hid (I = (m : Int) - 1) ∧ m ≤ xs.length ∧ Hid (xs.drop m = ys.drop m) ∧ Hid (Tch [] w wr)) (fun ui _ => (intOf ui + 1).toNat)
    case atStart => exact ⟨xs.length, _, rfl, Lib.hid rfl, Nat.le_refl _, Lib.hid (by rw [List.drop_length, HL.out, List.drop_length]), Lib.hid (Tch.refl [] w)⟩
    case round =>
      obtain ⟨m, I, rfl, hI, hm, hD, hT⟩ := hrel
      cases m with
      | zero =>
        obtain rfl : I = -1 := by have := hI.out; omega
        have he : Hid ((0 : Int) = cmpI (dg 65536 xs : Int) (dg 65536 ys : Int)) := Lib.hid (by have hd := hD.out; rw [List.drop_zero, List.drop_zero] at hd; rw [hd]; unfold cmpI; simp)
        go_wp2
        go_ret
        exact ⟨by rw [← he.out]; rfl, hT.out⟩
      | succ j =>
        obtain rfl : I = (j : Int) := by have := hI.out; omega
        have hjx : j < xs.length := by omega
        have hjy : j < ys.length := by rw [← HL.out]; exact hjx
        obtain ⟨gA, rfl, x, ex, cx⟩ := (HA.out.kept hT.out (by simp)).read hjx
        obtain ⟨gB, rfl, y, ey, cy⟩ := (HB.out.kept hT.out (by simp)).read hjy
        by_cases hxy : x = y
        · subst hxy
          have hd2 : Hid (xs.drop j = ys.drop j) := Lib.hid (by rw [drop_eq_getD_cons xs j hjx, drop_eq_getD_cons ys j hjy, hD.out, ex.out, ey.out])
          go_wp2
          go_region
          go_wp2
          exact ⟨⟨j, _, rfl, Lib.hid rfl, by omega, hd2, Lib.hid hT.out.drew⟩, by simp [intOf]⟩
        · have h := cmpI_drop HX.out HY.out HL.out hjx hD.out (by rw [ex.out, ey.out]; exact hxy)
          rw [ex.out, ey.out] at h
          have hb2 : ((x : Int) == (y : Int)) = false := by simp; omega
          by_cases hlt : x < y
          · have hlt' : (x : Int) < (y : Int) := by omega
            have he : Hid ((-1 : Int) = cmpI (dg 65536 xs : Int) (dg 65536 ys : Int)) := Lib.hid (by rw [← h]; exact cmpI_lt hlt')
            clear h hxy
            go_wp2
            go_region
            go_wp2
            go_region
            go_wp2
            go_ret
            exact ⟨by rw [← he.out]; rfl, hT.out.drew.drew⟩
          · have hlt' : ¬ (x : Int) < (y : Int) := by omega
            have he : Hid ((1 : Int) = cmpI (dg 65536 xs : Int) (dg 65536 ys : Int)) := Lib.hid (by rw [← h]; exact cmpI_gt (by omega) (by omega))
            clear h hxy
            go_wp2
            go_region
            go_wp2
            go_region
            go_wp2
            go_ret
            exact ⟨by rw [← he.out]; rfl, hT.out.drew.drew⟩
  · have h := cmpI_len (b := 65536) (by decide) hx hy htx hty hl
    have hb1 : ((xs.length : Int) == (ys.length : Int)) = false := by simp; omega
    by_cases hlt : xs.length < ys.length
    · have hlt' : (xs.length : Int) < (ys.length : Int) := by omega
      have he : Hid ((-1 : Int) = cmpI (dg 65536 xs : Int) (dg 65536 ys : Int)) := Lib.hid (by rw [← h]; exact cmpI_lt hlt')
      clear h hl hx hy htx hty hA hB
      go_enter Tryd.func53, Tryd.ntmps53
      go_wp2
      go_ret
      exact ⟨by rw [← he.out]; rfl, Tch.refl [] w⟩
    · have hlt' : ¬ (xs.length : Int) < (ys.length : Int) := by omega
      have he : Hid ((1 : Int) = cmpI (dg 65536 xs : Int) (dg 65536 ys : Int)) := Lib.hid (by rw [← h]; exact cmpI_gt (by omega) (by omega))
      clear h hl hx hy htx hty hA hB
      go_enter Tryd.func53, Tryd.ntmps53
      go_wp2
      go_ret
      exact ⟨by rw [← he.out]; rfl, Tch.refl [] w⟩

end Go.Proofs.YtmiibcdcnoefgaaDoor
