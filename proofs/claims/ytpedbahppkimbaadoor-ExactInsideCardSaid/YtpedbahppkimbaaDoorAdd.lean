/- wide.addInPlace. -/
import Derived.Test.YtpedbahppkimbaaDoorMem
namespace Go.Proofs.YtpedbahppkimbaaDoor
open Go.RowKit Dg

def AddPost (w : World) (g o : Nat) (pre : List Value) (xs ys : List Nat) (post : List Value) (e : Ending) (w' : World) : Prop :=
  ∃ (c : Nat) (zs : List Nat), e = .returned (.int .u64 (c : Int)) ∧ AddOut BB xs ys c zs ∧ Win w' 56 .u64 g o pre zs post ∧ Tch [g] w w'

set_option maxHeartbeats 1000000 in
set_option maxRecDepth 100000 in
theorem addInPlace (gx ox capx gy oy capy : Nat) (pre post pre' post' : List Value) (xs ys : List Nat) (w : World) (hgg : gx ≠ gy) (hx : Ok BB xs) (hy : Ok BB ys) (hl : ys.length ≤ xs.length) (hb : xs.length ≤ 1000000000)
    (hX : Win w 56 .u64 gx ox pre xs post) (hY : Win w 56 .u64 gy oy pre' ys post') :
    Calls Tryd.prog 79 #[.slice (some ⟨gx, ox, none⟩) xs.length capx, .slice (some ⟨gy, oy, none⟩) ys.length capy] w (AddPost w gx ox pre xs ys post) := by
  go_enter Tryd.func79, Tryd.ntmps79
  go_wp2
  go_loopw [5, 10] (fun c i wr => ∃ (k cN : Nat) (ws : List Nat), k ≤ ys.length ∧ i = .int .i64 k ∧ c = .int .u64 cN ∧ AddInv BB xs ys k cN ws ∧ Win wr 56 .u64 gx ox pre (ws ++ xs.drop k) post ∧ Tch [gx] w wr)
    (fun _ i _ => ys.length - (intOf i).toNat)
  case atStart => exact ⟨0, 0, [], Nat.zero_le _, rfl, rfl, AddInv.zero _ _ _, hX, Tch.refl _ _⟩
  case round =>
    obtain ⟨k, cN, ws, hk, rfl, rfl, hI, hW, hT⟩ := hrel
    by_cases hlt : k < ys.length
    · have hYr := hY.kept hT (by simp; omega)
      have hkx : k < xs.length := by omega
      obtain ⟨y, ey, cy⟩ := hYr.read hlt
      obtain ⟨x, ex, cx⟩ := hW.readApp hI.len hkx
      have fx := hW.frozen (ox + k)
      obtain ⟨s, t, hst, hs, ht, hrun⟩ := add_run x y cN (ex.out ▸ hx.getD (by decide) k) (ey.out ▸ hy.getD (by decide) k) hI.c1
      have HS := Lib.hid (hI.step hkx (s := s) (t := t) (by rw [ex.out, ey.out]; exact hst) hs ht)
      have HW := Lib.hid (hW.step hI.len hkx s)
      have HT := Lib.hid (hT.setCell (p := ⟨gx, ox + k, none⟩) (by simp) (.int .u64 (s : Int)))
      clear hst hs ht hx hy hX hY hYr hgg
      go_wp2
      go_region
      go_wp2
      go_roundw
      case rel => exact ⟨k + 1, t, ws ++ [s], by omega, by go_num, rfl, HS.out, HW.out.drew, HT.out.drew⟩
      case measure => simp [intOf]; omega
    · obtain rfl : k = ys.length := by omega
      clear hlt hY hX
      go_wp2
      go_loopw [5, 7] (fun c i wr => ∃ (k cN : Nat) (ws : List Nat), ys.length ≤ k ∧ k ≤ xs.length ∧ i = .int .i64 k ∧ c = .int .u64 cN ∧ AddInv BB xs ys k cN ws ∧ Win wr 56 .u64 gx ox pre (ws ++ xs.drop k) post ∧ Tch [gx] w wr)
        (fun _ i _ => xs.length - (intOf i).toNat)
      case atStart => exact ⟨ys.length, cN, ws, Nat.le_refl _, hl, rfl, rfl, hI, hW, hT⟩
      case round =>
        clear hI hW hT
        obtain ⟨k, cN, ws, hk, hkx', rfl, rfl, hI, hW, hT⟩ := hrel
        by_cases hlt : k < xs.length
        · by_cases hc : cN = 0
          · subst hc
            have HO := Lib.hid (hI.out hx hkx' hk (.inr rfl))
            go_wp2
            go_ret
            exact ⟨0, _, rfl, HO.out, hW, hT⟩
          · have hc1 : ((cN : Int) == 0) = false := by simpa using hc
            have hc2 : ((cN : Int) != 0) = true := by simpa using hc
            obtain ⟨x, ex, cx⟩ := hW.readApp hI.len hlt
            have fx := hW.frozen (ox + k)
            obtain ⟨s, t, hst, hs, ht, hrun⟩ := add_mid_run x cN (ex.out ▸ hx.getD (by decide) k) hI.c1
            have HS := Lib.hid (hI.step hlt (s := s) (t := t) (by rw [ex.out, getD_ge hk]; exact hst) hs ht)
            have HW := Lib.hid (hW.step hI.len hlt s)
            have HT := Lib.hid (hT.setCell (p := ⟨gx, ox + k, none⟩) (by simp) (.int .u64 (s : Int)))
            clear hst hs ht hx hy hgg hc
            go_wp2
            go_roundw
            case rel => exact ⟨k + 1, t, ws ++ [s], by omega, by omega, by go_num, rfl, HS.out, HW.out, HT.out⟩
            case measure => simp [intOf]; omega
        · obtain rfl : k = xs.length := by omega
          have HO := Lib.hid (hI.out hx hkx' hk (.inl rfl))
          go_wp2
          go_ret
          exact ⟨cN, _, rfl, HO.out, hW, hT⟩

end Go.Proofs.YtpedbahppkimbaaDoor

/- wide.subtractInPlace, wide.addProduct, wide.subtractProduct. -/
namespace Go.Proofs.YtpedbahppkimbaaDoor
open Go.RowKit Dg

def SubPost (w : World) (g o : Nat) (pre : List Value) (xs ys : List Nat) (post : List Value) (e : Ending) (w' : World) : Prop :=
  ∃ zs : List Nat, e = .returned (.tuple #[]) ∧ SubOut BB xs ys zs ∧ Win w' 56 .u64 g o pre zs post ∧ Tch [g] w w'

set_option maxHeartbeats 1000000 in
set_option maxRecDepth 100000 in
theorem subtractInPlace (gx ox capx gy oy capy : Nat) (pre post pre' post' : List Value) (xs ys : List Nat) (w : World) (hgg : gx ≠ gy) (hx : Ok BB xs) (hy : Ok BB ys) (hl : ys.length ≤ xs.length) (hb : xs.length ≤ 1000000000)
    (hle : dg BB ys ≤ dg BB xs)
    (hX : Win w 56 .u64 gx ox pre xs post) (hY : Win w 56 .u64 gy oy pre' ys post') :
    Calls Tryd.prog 71 #[.slice (some ⟨gx, ox, none⟩) xs.length capx, .slice (some ⟨gy, oy, none⟩) ys.length capy] w (SubPost w gx ox pre xs ys post) := by
  have HLE := Lib.hid hle
  clear hle
  go_enter Tryd.func71, Tryd.ntmps71
  go_wp2
  go_loopw [4, 9] (fun c i wr => ∃ (k cN : Nat) (ws : List Nat), k ≤ ys.length ∧ i = .int .i64 k ∧ c = .int .u64 cN ∧ SubInv BB xs ys k cN ws ∧ Win wr 56 .u64 gx ox pre (ws ++ xs.drop k) post ∧ Tch [gx] w wr)
    (fun _ i _ => ys.length - (intOf i).toNat)
  case atStart => exact ⟨0, 0, [], Nat.zero_le _, rfl, rfl, SubInv.zero _ _ _, hX, Tch.refl _ _⟩
  case round =>
    obtain ⟨k, cN, ws, hk, rfl, rfl, hI, hW, hT⟩ := hrel
    by_cases hlt : k < ys.length
    · have hYr := hY.kept hT (by simp; omega)
      have hkx : k < xs.length := by omega
      obtain ⟨y, ey, cy⟩ := hYr.read hlt
      obtain ⟨x, ex, cx⟩ := hW.readApp hI.len hkx
      have fx := hW.frozen (ox + k)
      obtain ⟨s, t, hst, hs, ht, hrun⟩ := sub_run x y cN (ex.out ▸ hx.getD (by decide) k) (ey.out ▸ hy.getD (by decide) k) hI.c1
      have HS := Lib.hid (hI.step hkx (s := s) (t := t) (by rw [ex.out, ey.out]; exact hst) hs ht)
      have HW := Lib.hid (hW.step hI.len hkx s)
      have HT := Lib.hid (hT.setCell (p := ⟨gx, ox + k, none⟩) (by simp) (.int .u64 (s : Int)))
      clear hst hs ht hx hy hX hY hYr hgg
      go_wp2
      go_region
      go_wp2
      go_roundw
      case rel => exact ⟨k + 1, t, ws ++ [s], by omega, by go_num, rfl, HS.out, HW.out.drew, HT.out.drew⟩
      case measure => simp [intOf]; omega
    · obtain rfl : k = ys.length := by omega
      clear hlt hY hX
      go_wp2
      go_loopw [4, 6] (fun c i wr => ∃ (k cN : Nat) (ws : List Nat), ys.length ≤ k ∧ k ≤ xs.length ∧ i = .int .i64 k ∧ c = .int .u64 cN ∧ SubInv BB xs ys k cN ws ∧ Win wr 56 .u64 gx ox pre (ws ++ xs.drop k) post ∧ Tch [gx] w wr)
        (fun _ i _ => xs.length - (intOf i).toNat)
      case atStart => exact ⟨ys.length, cN, ws, Nat.le_refl _, hl, rfl, rfl, hI, hW, hT⟩
      case round =>
        clear hI hW hT
        obtain ⟨k, cN, ws, hk, hkx', rfl, rfl, hI, hW, hT⟩ := hrel
        by_cases hlt : k < xs.length
        · by_cases hc : cN = 0
          · subst hc
            have HO := Lib.hid (hI.out hx hkx' hk HLE.out (.inr rfl))
            go_wp2
            go_end0
            exact ⟨_, rfl, HO.out, hW, hT⟩
          · have hc1 : ((cN : Int) == 0) = false := by simpa using hc
            have hc2 : ((cN : Int) != 0) = true := by simpa using hc
            obtain ⟨x, ex, cx⟩ := hW.readApp hI.len hlt
            have fx := hW.frozen (ox + k)
            obtain ⟨s, t, hst, hs, ht, hrun⟩ := sub_mid_run x cN (ex.out ▸ hx.getD (by decide) k) hI.c1
            have HS := Lib.hid (hI.step hlt (s := s) (t := t) (by rw [ex.out, getD_ge hk]; exact hst) hs ht)
            have HW := Lib.hid (hW.step hI.len hlt s)
            have HT := Lib.hid (hT.setCell (p := ⟨gx, ox + k, none⟩) (by simp) (.int .u64 (s : Int)))
            clear hst hs ht hx hy hgg hc
            go_wp2
            go_roundw
            case rel => exact ⟨k + 1, t, ws ++ [s], by omega, by omega, by go_num, rfl, HS.out, HW.out, HT.out⟩
            case measure => simp [intOf]; omega
        · obtain rfl : k = xs.length := by omega
          have HO := Lib.hid (hI.out hx hkx' hk HLE.out (.inl rfl))
          go_wp2
          go_end0
          exact ⟨_, rfl, HO.out, hW, hT⟩

def MulPost (w : World) (g o : Nat) (pre : List Value) (ss xs : List Nat) (f : Nat) (post : List Value) (e : Ending) (w' : World) : Prop :=
  ∃ (c : Nat) (zs : List Nat), e = .returned (.int .u64 (c : Int)) ∧ MulOut BB ss xs f c zs ∧ Win w' 56 .u64 g o pre zs post ∧ Tch [g] w w'

set_option maxHeartbeats 1000000 in
set_option maxRecDepth 100000 in
theorem addProduct (gs os caps gx ox capx : Nat) (pre post pre' post' : List Value) (ss xs : List Nat) (f : Nat) (w : World) (hgg : gs ≠ gx) (hs0 : Ok BB ss) (hx : Ok BB xs) (hf : f < BB) (hl : xs.length = ss.length) (hb : ss.length ≤ 1000000000)
    (hS : Win w 56 .u64 gs os pre ss post) (hX : Win w 56 .u64 gx ox pre' xs post') :
    Calls Tryd.prog 72 #[.slice (some ⟨gs, os, none⟩) ss.length caps, .slice (some ⟨gx, ox, none⟩) xs.length capx, .int .u64 f] w (MulPost w gs os pre ss xs f post) := by
  have HL := Lib.hid hl
  have hxs : xs.length ≤ ss.length := by omega
  clear hl
  go_enter Tryd.func72, Tryd.ntmps72
  go_wp2
  go_loopw [7, 13] (fun c i wr => ∃ (k cN : Nat) (ws : List Nat), k ≤ xs.length ∧ i = .int .i64 k ∧ c = .int .u64 cN ∧ MulInv BB ss xs f k cN ws ∧ Win wr 56 .u64 gs os pre (ws ++ ss.drop k) post ∧ Tch [gs] w wr)
    (fun _ i _ => xs.length - (intOf i).toNat)
  case atStart => exact ⟨0, 0, [], Nat.zero_le _, rfl, rfl, MulInv.zero (by decide) _ _ _, hS, Tch.refl _ _⟩
  case round =>
    obtain ⟨k, cN, ws, hk, rfl, rfl, hI, hW, hT⟩ := hrel
    by_cases hlt : k < xs.length
    · have hXr := hX.kept hT (by simp; omega)
      have hkx : k < ss.length := by omega
      obtain ⟨x, ex, cx⟩ := hXr.read hlt
      obtain ⟨a, ea, ca⟩ := hW.readApp hI.len hkx
      have fa := hW.frozen (os + k)
      have xb : x < BB := ex.out ▸ hx.getD (by decide) k
      have ab : a < BB := ea.out ▸ hs0.getD (by decide) k
      have cb := Lib.hid hI.cb
      clear hX hXr hS
      go_wp2_with fail
      refine (multiplyAdd x f cN xb hf cb.out _).mono ?_
      rintro e w' ⟨h, l, E, hh, hlo, rfl, rfl⟩
      obtain ⟨s, t, hst, hs, ht, hrun⟩ := add_zero_run a l ab hlo
      obtain ⟨F1, F2, F3⟩ := prod_nat xb hf cb.out ab E hst
      have HS := Lib.hid (hI.step hkx (s := s) (t := t + h) (by rw [ex.out, ea.out]; exact F1) hs F2)
      have HW := Lib.hid (hW.step hI.len hkx s)
      have HT := Lib.hid (hT.setCell (p := ⟨gs, os + k, none⟩) (by simp) (.int .u64 (s : Int)))
      clear hst hs ht hh hlo E F1 F2 hgg xb ab cb
      go_wp2
      go_roundw
      case rel => exact ⟨k + 1, t + h, ws ++ [s], by omega, by go_num, by first | rfl | rw [F3] | simp [F3], HS.out, HW.out, HT.out⟩
      case measure => simp [intOf]; omega
    · obtain rfl : k = xs.length := by omega
      have HO := Lib.hid ((HL.out ▸ hI : MulInv BB ss xs f ss.length cN ws).out HL.out)
      have HW : Hid (Win wr 56 .u64 gs os pre ws post) := Lib.hid (by rw [HL.out, List.drop_of_length_le (Nat.le_refl _), List.append_nil] at hW; exact hW)
      go_wp2
      go_ret
      exact ⟨cN, _, rfl, HO.out, HW.out, hT⟩

end Go.Proofs.YtpedbahppkimbaaDoor

/- wide.trim. -/
namespace Go.Proofs.YtpedbahppkimbaaDoor
open Go.RowKit Dg

def lenOf : Value → Nat | .slice _ n _ => n | _ => 0

set_option maxHeartbeats 1000000 in
set_option maxRecDepth 100000 in
theorem trim (g o cap : Nat) (pre post : List Value) (xs : List Nat) (w : World) (hb : xs.length ≤ 1000000000) (hc : xs.length ≤ cap)
    (hX : Win w 56 .u64 g o pre xs post) :
    Calls Tryd.prog 61 #[.slice (some ⟨g, o, none⟩) xs.length cap] w fun e w' => e = .returned (.slice (some ⟨g, o, none⟩) (cut xs).length cap) ∧ w = w' := by
  go_enter Tryd.func61, Tryd.ntmps61
  go_wp2
  go_loop [0] (fun v => ∃ m : Nat, v = .slice (some ⟨g, o, none⟩) m cap ∧ m ≤ xs.length ∧ Hid (cut (xs.take m) = cut xs)) (fun v => lenOf v)
  case atStart => exact ⟨xs.length, rfl, Nat.le_refl _, Lib.hid (by rw [List.take_of_length_le (Nat.le_refl _)])⟩
  case round =>
    obtain ⟨m, rfl, hm, hC⟩ := hrel
    cases m with
    | zero =>
      have e : Hid ((cut xs).length = 0) := Lib.hid (by have := hC.out; rw [List.take_zero] at this; rw [← this]; rfl)
      go_wp2
      go_ret
      exact ⟨by rw [e.out]; rfl, rfl⟩
    | succ k =>
      have hk : k < xs.length := by omega
      have hkc : k ≤ cap := by omega
      obtain ⟨x, ex, cx⟩ := hX.read hk
      by_cases hx : x = 0
      · subst hx
        have hC' := Lib.hid ((cut_take_zero hk ex.out).symm.trans hC.out)
        go_wp2
        go_round
        case rel => exact ⟨k, by first | rfl | simp, by omega, hC'⟩
        case measure => simp [lenOf]
      · have hx1 : ((x : Int) == 0) = false := by simpa using hx
        have e : Hid ((cut xs).length = k + 1) := Lib.hid (by rw [← hC.out, cut_take_pos hk (by rw [ex.out]; exact hx), List.length_take]; omega)
        clear hx
        go_wp2
        go_ret
        exact ⟨by rw [e.out]; rfl, rfl⟩

end Go.Proofs.YtpedbahppkimbaaDoor
