/- wide.trim. -/
import Derived.Test.YtmiibcdcnoefgaaDoorMem
namespace Go.Proofs.YtmiibcdcnoefgaaDoor
open Go.RowKit Dg

def lenOf : Value → Nat | .slice _ n _ => n | _ => 0

set_option maxHeartbeats 1000000 in
set_option maxRecDepth 100000 in
theorem trim (g o cap : Nat) (pre post : List Value) (xs : List Nat) (w : World) (hb : xs.length ≤ 1000000000) (hc : xs.length ≤ cap)
    (hX : Win w 76 .u64 g o pre xs post) :
    Calls Tryd.prog 87 #[.slice (some ⟨g, o, none⟩) xs.length cap] w fun e w' => e = .returned (.slice (some ⟨g, o, none⟩) (cut xs).length cap) ∧ w = w' := by
  go_enter Tryd.func87, Tryd.ntmps87
  go_wp2
  go_loop [0] (fun v => ∃ m : Nat, v = .slice (some ⟨g, o, none⟩) m cap ∧ m ≤ xs.length ∧ Hid (cut (xs.take m) = cut xs)) (fun v => lenOf v)
  case atStart => exact ⟨xs.length, rfl, Nat.le_refl _, Lib.hid (by rw [List.take_of_length_le (Nat.le_refl _)])⟩
  case round =>
    obtain ⟨m, rfl, hm, hC⟩ := hrel
    cases m with
    | zero =>
      have e : Hid ((cut xs).length = 0) := Lib.hid (by have := hC.out; rw [List.take_zero] at this; rw [← this]; rfl)
      go_wp2
      go_ret
      exact ⟨by rw [e.out]; rfl, rfl⟩
    | succ k =>
      have hk : k < xs.length := by omega
      have hkc : k ≤ cap := by omega
      obtain ⟨x, ex, cx⟩ := hX.read hk
      by_cases hx : x = 0
      · subst hx
        have hC' := Lib.hid ((cut_take_zero hk ex.out).symm.trans hC.out)
        go_wp2
        go_round
        case rel => exact ⟨k, by first | rfl | simp, by omega, hC'⟩
        case measure => simp [lenOf]
      · have hx1 : ((x : Int) == 0) = false := by simpa using hx
        have e : Hid ((cut xs).length = k + 1) := Lib.hid (by rw [← hC.out, cut_take_pos hk (by rw [ex.out]; exact hx), List.length_take]; omega)
        clear hx
        go_wp2
        go_ret
        exact ⟨by rw [e.out]; rfl, rfl⟩

end Go.Proofs.YtmiibcdcnoefgaaDoor
