/- wide.addWords. -/
import Derived.Test.YtpedbahppkimbaaDoorAppend
import Derived.Test.YtpedbahppkimbaaDoorAdd
namespace Go.Proofs.YtpedbahppkimbaaDoor
open Go.RowKit Dg

theorem info_u64 : (Tryd.prog.info? 56).map (fun i => (i.zero, i.size, i.bytes)) = some (some (.int .u64 0), 1, 8) := by kernel_rfl

def AddWPost (w : World) (g : Nat) (xs ys : List Nat) (e : Ending) (w' : World) : Prop :=
  ∃ v zs, e = .returned v ∧ Ok BB zs ∧ dg BB zs = dg BB xs + dg BB ys ∧ zs.length ≤ max xs.length ys.length + 1 ∧ Words 56 .u64 w [g] v zs w'

set_option maxHeartbeats 1000000 in
set_option maxRecDepth 100000 in
theorem addWords (gx capx gy capy : Nat) (pre' post' : List Value) (oy : Nat) (xs ys : List Nat) (w : World) (hgg : gx ≠ gy) (hx : Ok BB xs) (hy : Ok BB ys) (hbx : xs.length ≤ 100000000) (hby : ys.length ≤ 100000000)
    (hX : Own w 56 .u64 gx capx xs) (hY : Win w 56 .u64 gy oy pre' ys post') :
    Calls Tryd.prog 69 #[.slice (some ⟨gx, 0, none⟩) xs.length capx, .slice (some ⟨gy, oy, none⟩) ys.length capy] w (AddWPost w gx xs ys) := by
  obtain ⟨i0, hi, hz0, hz1, hz2⟩ := info_parts info_u64
  go_enter Tryd.func69, Tryd.ntmps69
  go_wp2
  go_loopw [0] (fun v wr => ∃ (g cap n : Nat), v = .slice (some ⟨g, 0, none⟩) (xs.length + n : Nat) cap ∧ n ≤ ys.length ∧ (0 < n → xs.length + n ≤ ys.length) ∧ Own wr 56 .u64 g cap (xs ++ List.replicate n 0) ∧ (g ∈ [gx] ∨ w.heap.size ≤ g) ∧ Tch [gx] w wr)
    (fun v _ => ys.length - lenOf v)
  case atStart => exact ⟨gx, capx, 0, rfl, by omega, by omega, by simpa using hX, .inl (by simp), Tch.refl _ _⟩
  case round =>
    obtain ⟨g, cap, n, rfl, hn, hn2, hO, hg, hT⟩ := hrel
    by_cases hlt : xs.length + n < ys.length
    · have hna : Own (wr.alloc (.cells #[.int .u64 0] 56)) 56 .u64 g cap (xs ++ List.replicate n 0) := hO.kept ((Tch.refl [] wr).alloc _) (by simp)
      go_wp2_with (at_builtin; refine wpList_app_one _ rfl _ _ 78 rfl 56 .u64 i0 Tryd.underlying78 hi hz0 hz1 (by omega) g cap (xs.length + n) (xs ++ List.replicate n 0) hna (by simp) rfl ⟨wr.heap.size, 0, none⟩ 1 0 rfl (by simp) (by omega) ?_)
      intro v' w' happ
      have hW : Words 56 .u64 w [gx] v' (xs ++ List.replicate (n + 1) 0) w' := by
        have h := happ.words hT hg ((Tch.refl [] wr).alloc _)
        rwa [← List.append_assoc, replicate_snoc] at h
      obtain ⟨g', cap', rfl, ho, hg', hT'⟩ := hW
      have HO := Lib.hid ho
      have HL : Hid ((xs ++ List.replicate (n + 1) 0).length = xs.length + (n + 1)) := Lib.hid (by simp)
      clear ho happ hna hO
      go_wp2
      go_roundw
      case rel => exact ⟨g', cap', n + 1, by rw [HL.out], by omega, by omega, HO.out, hg', hT'⟩
      case measure => simp [lenOf]; omega
    · have hle : ys.length ≤ (xs ++ List.replicate n 0).length := by simp; omega
      have hgy : g ≠ gy := by
        rcases hg with h | h
        · simp at h; omega
        · have := hY.lt; omega
      obtain ⟨rest, hW⟩ := hO.win
      have hYr := hY.kept hT (by simp; omega)
      have hlen : (xs ++ List.replicate n 0).length = xs.length + n := by simp
      have hok : Ok BB (xs ++ List.replicate n 0) := hx.append (Ok.replicate n (by decide))
      have cA := fun w1 h1 h2 => addInPlace g 0 cap gy oy capy [] rest pre' post' (xs ++ List.replicate n 0) ys w1 hgy hok hy hle (by rw [hlen]; omega) h1 h2
      rw [hlen] at cA
      have CA := Lib.hid cA
      have HLn := Lib.hid hlen
      clear cA hlen hle
      go_wp2_with fail
      refine (CA.out _ (by exact hW) (by exact hYr)).mono ?_
      rintro e w1 ⟨c, zs, rfl, hA, hW1, hT1⟩
      have hT2 := hT.trans hT1 (by simpa using hg)
      have hO1 : Own w1 56 .u64 g cap zs := hO.again hW hW1 hA.len
      have hzl : zs.length = xs.length + n := hA.len.trans HLn.out
      have hval : dg BB zs + BB ^ zs.length * c = dg BB xs + dg BB ys := by
        have := hA.val
        rw [← hA.len, dg_append, dg_zeros, Nat.mul_zero, Nat.add_zero] at this
        exact this
      have HZ := Lib.hid hzl
      have HV := Lib.hid hval
      have c1 := hA.c1
      have hzok := hA.ok
      clear hA hT1 hzl hval CA
      by_cases hc : c = 0
      · subst hc
        go_wp2
        go_ret
        refine ⟨_, zs, rfl, hzok, by have := HV.out; omega, by rw [HZ.out]; omega, g, cap, by rw [HZ.out]; rfl, hO1, hg, hT2⟩
      · obtain rfl : c = 1 := by omega
        have hc1 : (((1 : Nat) : Int) != 0) = true := by decide
        have hna : Own (w1.alloc (.cells #[.int .u64 1] 56)) 56 .u64 g cap zs := hO1.kept ((Tch.refl [] w1).alloc _) (by simp)
        go_wp2_with (at_builtin; refine wpList_app_one _ rfl _ _ 78 rfl 56 .u64 i0 Tryd.underlying78 hi hz0 hz1 (by omega) g cap (xs.length + n) zs hna HZ.out rfl ⟨w1.heap.size, 0, none⟩ 1 1 rfl (by simp) (by omega) ?_)
        intro v' w' happ
        have hWd := happ.words hT2 hg ((Tch.refl [] w1).alloc _)
        have HWd := Lib.hid hWd
        clear happ hna hWd
        go_wp2
        go_ret
        exact ⟨v', zs ++ [1], rfl, hzok.snoc (by decide), by rw [dg_snoc]; have := HV.out; omega, by rw [List.length_append, HZ.out, List.length_singleton]; omega, HWd.out⟩

end Go.Proofs.YtpedbahppkimbaaDoor
