/- wide.addInPlace. -/
import Derived.Test.YtmiibcdcnoefgaaDoorMem
namespace Go.Proofs.YtmiibcdcnoefgaaDoor
open Go.RowKit Dg

def AddPost (w : World) (g o : Nat) (pre : List Value) (xs ys : List Nat) (post : List Value) (e : Ending) (w' : World) : Prop :=
  ∃ (c : Nat) (zs : List Nat), e = .returned (.int .u64 (c : Int)) ∧ AddOut BB xs ys c zs ∧ Win w' 76 .u64 g o pre zs post ∧ Tch [g] w w'

set_option maxHeartbeats 1000000 in
set_option maxRecDepth 100000 in
theorem addInPlace (gx ox capx gy oy capy : Nat) (pre post pre' post' : List Value) (xs ys : List Nat) (w : World) (hgg : gx ≠ gy) (hx : Ok BB xs) (hy : Ok BB ys) (hl : ys.length ≤ xs.length) (hb : xs.length ≤ 1000000000)
    (hX : Win w 76 .u64 gx ox pre xs post) (hY : Win w 76 .u64 gy oy pre' ys post') :
    Calls Tryd.prog 106 #[.slice (some ⟨gx, ox, none⟩) xs.length capx, .slice (some ⟨gy, oy, none⟩) ys.length capy] w (AddPost w gx ox pre xs ys post) := by
  go_enter Tryd.func106, Tryd.ntmps106
  go_wp2
  go_loopw [5, 10] (fun c i wr => ∃ (k cN : Nat) (ws : List Nat), k ≤ ys.length ∧ i = .int .i64 k ∧ c = .int .u64 cN ∧ AddInv BB xs ys k cN ws ∧ Win wr 76 .u64 gx ox pre (ws ++ xs.drop k) post ∧ Tch [gx] w wr)
    (fun _ i _ => ys.length - (intOf i).toNat)
  case atStart => exact ⟨0, 0, [], Nat.zero_le _, rfl, rfl, AddInv.zero _ _ _, hX, Tch.refl _ _⟩
  case round =>
    obtain ⟨k, cN, ws, hk, rfl, rfl, hI, hW, hT⟩ := hrel
    by_cases hlt : k < ys.length
    · have hYr := hY.kept hT (by simp; omega)
      have hkx : k < xs.length := by omega
      obtain ⟨y, ey, cy⟩ := hYr.read hlt
      obtain ⟨x, ex, cx⟩ := hW.readApp hI.len hkx
      have fx := hW.frozen (ox + k)
      obtain ⟨s, t, hst, hs, ht, hrun⟩ := add_run x y cN (ex.out ▸ hx.getD (by decide) k) (ey.out ▸ hy.getD (by decide) k) hI.c1
      have HS := Lib.hid (hI.step hkx (s := s) (t := t) (by rw [ex.out, ey.out]; exact hst) hs ht)
      have HW := Lib.hid (hW.step hI.len hkx s)
      have HT := Lib.hid (hT.setCell (p := ⟨gx, ox + k, none⟩) (by simp) (.int .u64 (s : Int)))
      clear hst hs ht hx hy hX hY hYr hgg
      go_wp2
      go_region
      go_wp2
      go_roundw
      case rel => exact ⟨k + 1, t, ws ++ [s], by omega, by go_num, rfl, HS.out, HW.out.drew, HT.out.drew⟩
      case measure => simp [intOf]; omega
    · obtain rfl : k = ys.length := by omega
      clear hlt hY hX
      go_wp2
      go_loopw [5, 7] (fun c i wr => ∃ (k cN : Nat) (ws : List Nat), ys.length ≤ k ∧ k ≤ xs.length ∧ i = .int .i64 k ∧ c = .int .u64 cN ∧ AddInv BB xs ys k cN ws ∧ Win wr 76 .u64 gx ox pre (ws ++ xs.drop k) post ∧ Tch [gx] w wr)
        (fun _ i _ => xs.length - (intOf i).toNat)
      case atStart => exact ⟨ys.length, cN, ws, Nat.le_refl _, hl, rfl, rfl, hI, hW, hT⟩
      case round =>
        clear hI hW hT
        obtain ⟨k, cN, ws, hk, hkx', rfl, rfl, hI, hW, hT⟩ := hrel
        by_cases hlt : k < xs.length
        · by_cases hc : cN = 0
          · subst hc
            have HO := Lib.hid (hI.out hx hkx' hk (.inr rfl))
            go_wp2
            go_ret
            exact ⟨0, _, rfl, HO.out, hW, hT⟩
          · have hc1 : ((cN : Int) == 0) = false := by simpa using hc
            have hc2 : ((cN : Int) != 0) = true := by simpa using hc
            obtain ⟨x, ex, cx⟩ := hW.readApp hI.len hlt
            have fx := hW.frozen (ox + k)
            obtain ⟨s, t, hst, hs, ht, hrun⟩ := add_mid_run x cN (ex.out ▸ hx.getD (by decide) k) hI.c1
            have HS := Lib.hid (hI.step hlt (s := s) (t := t) (by rw [ex.out, getD_ge hk]; exact hst) hs ht)
            have HW := Lib.hid (hW.step hI.len hlt s)
            have HT := Lib.hid (hT.setCell (p := ⟨gx, ox + k, none⟩) (by simp) (.int .u64 (s : Int)))
            clear hst hs ht hx hy hgg hc
            go_wp2
            go_roundw
            case rel => exact ⟨k + 1, t, ws ++ [s], by omega, by omega, by go_num, rfl, HS.out, HW.out, HT.out⟩
            case measure => simp [intOf]; omega
        · obtain rfl : k = xs.length := by omega
          have HO := Lib.hid (hI.out hx hkx' hk (.inl rfl))
          go_wp2
          go_ret
          exact ⟨cN, _, rfl, HO.out, hW, hT⟩

end Go.Proofs.YtmiibcdcnoefgaaDoor
