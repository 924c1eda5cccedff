/- wide.addInPlace. -/
import Derived.Test.YtmiibcdcnoefgaaGreatDoorMem
namespace Go.Proofs.YtmiibcdcnoefgaaGreatDoor
open Go.RowKit Dg

def AddPost (w : World) (g o : Nat) (pre : List Value) (xs ys : List Nat) (post : List Value) (e : Ending) (w' : World) : Prop :=
  ∃ (c : Nat) (zs : List Nat), e = .returned (.int .u64 (c : Int)) ∧ AddOut BB xs ys c zs ∧ Win w' 56 .u64 g o pre zs post ∧ Tch [g] w w'

set_option maxHeartbeats 1000000 in
set_option maxRecDepth 100000 in
theorem addInPlace (gx ox capx gy oy capy : Nat) (pre post pre' post' : List Value) (xs ys : List Nat) (w : World) (hgg : gx ≠ gy) (hx : Ok BB xs) (hy : Ok BB ys) (hl : ys.length ≤ xs.length) (hb : xs.length ≤ 1000000000)
    (hX : Win w 56 .u64 gx ox pre xs post) (hY : Win w 56 .u64 gy oy pre' ys post') :
    Calls Tryz.prog 88 #[.slice (some ⟨gx, ox, none⟩) xs.length capx, .slice (some ⟨gy, oy, none⟩) ys.length capy] w (AddPost w gx ox pre xs ys post) := by
  go_enter Tryz.func88, Tryz.ntmps88
  go_wp2
  go_loopw [5, 10] (fun c i wr => ∃ (k cN : Nat) (ws : List Nat), k ≤ ys.length ∧ i = .int .i64 k ∧ c = .int .u64 cN ∧ AddInv BB xs ys k cN ws ∧ Win wr 56 .u64 gx ox pre (ws ++ xs.drop k) post ∧ Tch [gx] w wr)
    (fun _ i _ => ys.length - (intOf i).toNat)
  case atStart => exact ⟨0, 0, [], Nat.zero_le _, rfl, rfl, AddInv.zero _ _ _, hX, Tch.refl _ _⟩
  case round =>
    obtain ⟨k, cN, ws, hk, rfl, rfl, hI, hW, hT⟩ := hrel
    by_cases hlt : k < ys.length
    · have hYr := hY.kept hT (by simp; omega)
      have hkx : k < xs.length := by omega
      obtain ⟨y, ey, cy⟩ := hYr.read hlt
      obtain ⟨x, ex, cx⟩ := hW.readApp hI.len hkx
      have fx := hW.frozen (ox + k)
      obtain ⟨s, t, hst, hs, ht, hrun⟩ := add_run x y cN (ex.out ▸ hx.getD (by decide) k) (ey.out ▸ hy.getD (by decide) k) hI.c1
      have HS := Lib.hid (hI.step hkx (s := s) (t := t) (by rw [ex.out, ey.out]; exact hst) hs ht)
      have HW := Lib.hid (hW.step hI.len hkx s)
      have HT := Lib.hid (hT.setCell (p := ⟨gx, ox + k, none⟩) (by simp) (.int .u64 (s : Int)))
      clear hst hs ht hx hy hX hY hYr hgg
      go_wp2
      go_region
      go_wp2
      go_roundw
      case rel => exact ⟨k + 1, t, ws ++ [s], by omega, by go_num, rfl, HS.out, HW.out.drew, HT.out.drew⟩
      case measure => simp [intOf]; omega
    · obtain rfl : k = ys.length := by omega
      clear hlt hY hX
      go_wp2
      go_loopw [5, 7] (fun c i wr => ∃ (k cN : Nat) (ws : List Nat), ys.length ≤ k ∧ k ≤ xs.length ∧ i = .int .i64 k ∧ c = .int .u64 cN ∧ AddInv BB xs ys k cN ws ∧ Win wr 56 .u64 gx ox pre (ws ++ xs.drop k) post ∧ Tch [gx] w wr)
        (fun _ i _ => xs.length - (intOf i).toNat)
      case atStart => exact ⟨ys.length, cN, ws, Nat.le_refl _, hl, rfl, rfl, hI, hW, hT⟩
      case round =>
        clear hI hW hT
        obtain ⟨k, cN, ws, hk, hkx', rfl, rfl, hI, hW, hT⟩ := hrel
        by_cases hlt : k < xs.length
        · by_cases hc : cN = 0
          · subst hc
            have HO := Lib.hid (hI.out hx hkx' hk (.inr rfl))
            go_wp2
            go_ret
            exact ⟨0, _, rfl, HO.out, hW, hT⟩
          · have hc1 : ((cN : Int) == 0) = false := by simpa using hc
            have hc2 : ((cN : Int) != 0) = true := by simpa using hc
            obtain ⟨x, ex, cx⟩ := hW.readApp hI.len hlt
            have fx := hW.frozen (ox + k)
            obtain ⟨s, t, hst, hs, ht, hrun⟩ := add_mid_run x cN (ex.out ▸ hx.getD (by decide) k) hI.c1
            have HS := Lib.hid (hI.step hlt (s := s) (t := t) (by rw [ex.out, getD_ge hk]; exact hst) hs ht)
            have HW := Lib.hid (hW.step hI.len hlt s)
            have HT := Lib.hid (hT.setCell (p := ⟨gx, ox + k, none⟩) (by simp) (.int .u64 (s : Int)))
            clear hst hs ht hx hy hgg hc
            go_wp2
            go_roundw
            case rel => exact ⟨k + 1, t, ws ++ [s], by omega, by omega, by go_num, rfl, HS.out, HW.out, HT.out⟩
            case measure => simp [intOf]; omega
        · obtain rfl : k = xs.length := by omega
          have HO := Lib.hid (hI.out hx hkx' hk (.inl rfl))
          go_wp2
          go_ret
          exact ⟨cN, _, rfl, HO.out, hW, hT⟩

end Go.Proofs.YtmiibcdcnoefgaaGreatDoor

/- wide.subtractInPlace, wide.addProduct, wide.subtractProduct. -/
namespace Go.Proofs.YtmiibcdcnoefgaaGreatDoor
open Go.RowKit Dg

def SubPost (w : World) (g o : Nat) (pre : List Value) (xs ys : List Nat) (post : List Value) (e : Ending) (w' : World) : Prop :=
  ∃ zs : List Nat, e = .returned (.tuple #[]) ∧ SubOut BB xs ys zs ∧ Win w' 56 .u64 g o pre zs post ∧ Tch [g] w w'

set_option maxHeartbeats 1000000 in
set_option maxRecDepth 100000 in
theorem subtractInPlace (gx ox capx gy oy capy : Nat) (pre post pre' post' : List Value) (xs ys : List Nat) (w : World) (hgg : gx ≠ gy) (hx : Ok BB xs) (hy : Ok BB ys) (hl : ys.length ≤ xs.length) (hb : xs.length ≤ 1000000000)
    (hle : dg BB ys ≤ dg BB xs)
    (hX : Win w 56 .u64 gx ox pre xs post) (hY : Win w 56 .u64 gy oy pre' ys post') :
    Calls Tryz.prog 83 #[.slice (some ⟨gx, ox, none⟩) xs.length capx, .slice (some ⟨gy, oy, none⟩) ys.length capy] w (SubPost w gx ox pre xs ys post) := by
  have HLE := Lib.hid hle
  clear hle
  go_enter Tryz.func83, Tryz.ntmps83
  go_wp2
  go_loopw [4, 9] (fun c i wr => ∃ (k cN : Nat) (ws : List Nat), k ≤ ys.length ∧ i = .int .i64 k ∧ c = .int .u64 cN ∧ SubInv BB xs ys k cN ws ∧ Win wr 56 .u64 gx ox pre (ws ++ xs.drop k) post ∧ Tch [gx] w wr)
    (fun _ i _ => ys.length - (intOf i).toNat)
  case atStart => exact ⟨0, 0, [], Nat.zero_le _, rfl, rfl, SubInv.zero _ _ _, hX, Tch.refl _ _⟩
  case round =>
    obtain ⟨k, cN, ws, hk, rfl, rfl, hI, hW, hT⟩ := hrel
    by_cases hlt : k < ys.length
    · have hYr := hY.kept hT (by simp; omega)
      have hkx : k < xs.length := by omega
      obtain ⟨y, ey, cy⟩ := hYr.read hlt
      obtain ⟨x, ex, cx⟩ := hW.readApp hI.len hkx
      have fx := hW.frozen (ox + k)
      obtain ⟨s, t, hst, hs, ht, hrun⟩ := sub_run x y cN (ex.out ▸ hx.getD (by decide) k) (ey.out ▸ hy.getD (by decide) k) hI.c1
      have HS := Lib.hid (hI.step hkx (s := s) (t := t) (by rw [ex.out, ey.out]; exact hst) hs ht)
      have HW := Lib.hid (hW.step hI.len hkx s)
      have HT := Lib.hid (hT.setCell (p := ⟨gx, ox + k, none⟩) (by simp) (.int .u64 (s : Int)))
      clear hst hs ht hx hy hX hY hYr hgg
      go_wp2
      go_region
      go_wp2
      go_roundw
      case rel => exact ⟨k + 1, t, ws ++ [s], by omega, by go_num, rfl, HS.out, HW.out.drew, HT.out.drew⟩
      case measure => simp [intOf]; omega
    · obtain rfl : k = ys.length := by omega
      clear hlt hY hX
      go_wp2
      go_loopw [4, 6] (fun c i wr => ∃ (k cN : Nat) (ws : List Nat), ys.length ≤ k ∧ k ≤ xs.length ∧ i = .int .i64 k ∧ c = .int .u64 cN ∧ SubInv BB xs ys k cN ws ∧ Win wr 56 .u64 gx ox pre (ws ++ xs.drop k) post ∧ Tch [gx] w wr)
        (fun _ i _ => xs.length - (intOf i).toNat)
      case atStart => exact ⟨ys.length, cN, ws, Nat.le_refl _, hl, rfl, rfl, hI, hW, hT⟩
      case round =>
        clear hI hW hT
        obtain ⟨k, cN, ws, hk, hkx', rfl, rfl, hI, hW, hT⟩ := hrel
        by_cases hlt : k < xs.length
        · by_cases hc : cN = 0
          · subst hc
            have HO := Lib.hid (hI.out hx hkx' hk HLE.out (.inr rfl))
            go_wp2
            go_end0
            exact ⟨_, rfl, HO.out, hW, hT⟩
          · have hc1 : ((cN : Int) == 0) = false := by simpa using hc
            have hc2 : ((cN : Int) != 0) = true := by simpa using hc
            obtain ⟨x, ex, cx⟩ := hW.readApp hI.len hlt
            have fx := hW.frozen (ox + k)
            obtain ⟨s, t, hst, hs, ht, hrun⟩ := sub_mid_run x cN (ex.out ▸ hx.getD (by decide) k) hI.c1
            have HS := Lib.hid (hI.step hlt (s := s) (t := t) (by rw [ex.out, getD_ge hk]; exact hst) hs ht)
            have HW := Lib.hid (hW.step hI.len hlt s)
            have HT := Lib.hid (hT.setCell (p := ⟨gx, ox + k, none⟩) (by simp) (.int .u64 (s : Int)))
            clear hst hs ht hx hy hgg hc
            go_wp2
            go_roundw
            case rel => exact ⟨k + 1, t, ws ++ [s], by omega, by omega, by go_num, rfl, HS.out, HW.out, HT.out⟩
            case measure => simp [intOf]; omega
        · obtain rfl : k = xs.length := by omega
          have HO := Lib.hid (hI.out hx hkx' hk HLE.out (.inl rfl))
          go_wp2
          go_end0
          exact ⟨_, rfl, HO.out, hW, hT⟩

def MulPost (w : World) (g o : Nat) (pre : List Value) (ss xs : List Nat) (f : Nat) (post : List Value) (e : Ending) (w' : World) : Prop :=
  ∃ (c : Nat) (zs : List Nat), e = .returned (.int .u64 (c : Int)) ∧ MulOut BB ss xs f c zs ∧ Win w' 56 .u64 g o pre zs post ∧ Tch [g] w w'

set_option maxHeartbeats 1000000 in
set_option maxRecDepth 100000 in
theorem addProduct (gs os caps gx ox capx : Nat) (pre post pre' post' : List Value) (ss xs : List Nat) (f : Nat) (w : World) (hgg : gs ≠ gx) (hs0 : Ok BB ss) (hx : Ok BB xs) (hf : f < BB) (hl : xs.length = ss.length) (hb : ss.length ≤ 1000000000)
    (hS : Win w 56 .u64 gs os pre ss post) (hX : Win w 56 .u64 gx ox pre' xs post') :
    Calls Tryz.prog 65 #[.slice (some ⟨gs, os, none⟩) ss.length caps, .slice (some ⟨gx, ox, none⟩) xs.length capx, .int .u64 f] w (MulPost w gs os pre ss xs f post) := by
  have HL := Lib.hid hl
  have hxs : xs.length ≤ ss.length := by omega
  clear hl
  go_enter Tryz.func65, Tryz.ntmps65
  go_wp2
  go_loopw [7, 13] (fun c i wr => ∃ (k cN : Nat) (ws : List Nat), k ≤ xs.length ∧ i = .int .i64 k ∧ c = .int .u64 cN ∧ MulInv BB ss xs f k cN ws ∧ Win wr 56 .u64 gs os pre (ws ++ ss.drop k) post ∧ Tch [gs] w wr)
    (fun _ i _ => xs.length - (intOf i).toNat)
  case atStart => exact ⟨0, 0, [], Nat.zero_le _, rfl, rfl, MulInv.zero (by decide) _ _ _, hS, Tch.refl _ _⟩
  case round =>
    obtain ⟨k, cN, ws, hk, rfl, rfl, hI, hW, hT⟩ := hrel
    by_cases hlt : k < xs.length
    · have hXr := hX.kept hT (by simp; omega)
      have hkx : k < ss.length := by omega
      obtain ⟨x, ex, cx⟩ := hXr.read hlt
      obtain ⟨a, ea, ca⟩ := hW.readApp hI.len hkx
      have fa := hW.frozen (os + k)
      have xb : x < BB := ex.out ▸ hx.getD (by decide) k
      have ab : a < BB := ea.out ▸ hs0.getD (by decide) k
      have cb := Lib.hid hI.cb
      clear hX hXr hS
      go_wp2_with fail
      refine (multiplyAdd x f cN xb hf cb.out _).mono ?_
      rintro e w' ⟨h, l, E, hh, hlo, rfl, rfl⟩
      obtain ⟨s, t, hst, hs, ht, hrun⟩ := add_zero_run a l ab hlo
      obtain ⟨F1, F2, F3⟩ := prod_nat xb hf cb.out ab E hst
      have HS := Lib.hid (hI.step hkx (s := s) (t := t + h) (by rw [ex.out, ea.out]; exact F1) hs F2)
      have HW := Lib.hid (hW.step hI.len hkx s)
      have HT := Lib.hid (hT.setCell (p := ⟨gs, os + k, none⟩) (by simp) (.int .u64 (s : Int)))
      clear hst hs ht hh hlo E F1 F2 hgg xb ab cb
      go_wp2
      go_roundw
      case rel => exact ⟨k + 1, t + h, ws ++ [s], by omega, by go_num, by first | rfl | rw [F3] | simp [F3], HS.out, HW.out, HT.out⟩
      case measure => simp [intOf]; omega
    · obtain rfl : k = xs.length := by omega
      have HO := Lib.hid ((HL.out ▸ hI : MulInv BB ss xs f ss.length cN ws).out HL.out)
      have HW : Hid (Win wr 56 .u64 gs os pre ws post) := Lib.hid (by rw [HL.out, List.drop_of_length_le (Nat.le_refl _), List.append_nil] at hW; exact hW)
      go_wp2
      go_ret
      exact ⟨cN, _, rfl, HO.out, HW.out, hT⟩

def SmPost (w : World) (g o : Nat) (pre : List Value) (xs ys : List Nat) (f : Nat) (post : List Value) (e : Ending) (w' : World) : Prop :=
  ∃ (d : Nat) (zs : List Nat), e = .returned (.int .u64 (d : Int)) ∧ SmOut BB xs ys f d zs ∧ Win w' 56 .u64 g o pre zs post ∧ Tch [g] w w'

set_option maxHeartbeats 1000000 in
set_option maxRecDepth 100000 in
theorem subtractProduct (gx ox capx gy oy capy : Nat) (pre post pre' post' : List Value) (xs ys : List Nat) (f : Nat) (w : World) (hgg : gx ≠ gy) (hx : Ok BB xs) (hy : Ok BB ys) (hf : f < BB) (hl : xs.length = ys.length + 1) (hb : xs.length ≤ 1000000000)
    (hX : Win w 56 .u64 gx ox pre xs post) (hY : Win w 56 .u64 gy oy pre' ys post') :
    Calls Tryz.prog 87 #[.slice (some ⟨gx, ox, none⟩) xs.length capx, .slice (some ⟨gy, oy, none⟩) ys.length capy, .int .u64 f] w (SmPost w gx ox pre xs ys f post) := by
  have HL := Lib.hid hl
  have hys : ys.length < xs.length := by omega
  clear hl
  go_enter Tryz.func87, Tryz.ntmps87
  go_wp2
  go_loopw [7, 8, 15] (fun c d i wr => ∃ (k cN dN : Nat) (ws : List Nat), k ≤ ys.length ∧ i = .int .i64 k ∧ c = .int .u64 cN ∧ d = .int .u64 dN ∧ SmInv BB xs ys f k cN dN ws ∧ Win wr 56 .u64 gx ox pre (ws ++ xs.drop k) post ∧ Tch [gx] w wr)
    (fun _ _ i _ => ys.length - (intOf i).toNat)
  case atStart => exact ⟨0, 0, 0, [], Nat.zero_le _, rfl, rfl, rfl, SmInv.zero (by decide) _ _ _, hX, Tch.refl _ _⟩
  case round =>
    obtain ⟨k, cN, dN, ws, hk, rfl, rfl, rfl, hI, hW, hT⟩ := hrel
    by_cases hlt : k < ys.length
    · have hYr := hY.kept hT (by simp; omega)
      have hkx : k < xs.length := by omega
      obtain ⟨y, ey, cy⟩ := hYr.read hlt
      obtain ⟨x, ex, cx⟩ := hW.readApp hI.len hkx
      have fx := hW.frozen (ox + k)
      have yb : y < BB := ey.out ▸ hy.getD (by decide) k
      have xb : x < BB := ex.out ▸ hx.getD (by decide) k
      have cb := Lib.hid hI.cb
      clear hX hYr hY
      go_wp2_with fail
      refine (multiplyAdd y f cN yb hf cb.out _).mono ?_
      rintro e w' ⟨h, l, E, hh, hlo, rfl, rfl⟩
      obtain ⟨s, t, hst, hs, ht, hrun⟩ := sub_run x l dN xb hlo hI.d1
      have F1 := subprod_nat E hst
      have HS := Lib.hid (hI.step hkx (s := s) (t := h) (u := t) (by rw [ex.out, ey.out]; exact F1) hs hh ht)
      have HW := Lib.hid (hW.step hI.len hkx s)
      have HT := Lib.hid (hT.setCell (p := ⟨gx, ox + k, none⟩) (by simp) (.int .u64 (s : Int)))
      clear hst hs ht hh hlo E F1 hgg xb yb cb
      go_wp2
      go_roundw
      case rel => exact ⟨k + 1, h, t, ws ++ [s], by omega, by go_num, rfl, rfl, HS.out, HW.out, HT.out⟩
      case measure => simp [intOf]; omega
    · obtain rfl : k = ys.length := by omega
      obtain ⟨x, ex, cx⟩ := hW.readApp hI.len hys
      have fx := hW.frozen (ox + ys.length)
      obtain ⟨s, t, hst, hs, ht, hrun⟩ := sub_run x cN dN (ex.out ▸ hx.getD (by decide) _) hI.cb hI.d1
      have HO := Lib.hid (hI.out HL.out (by rw [ex.out]; exact hst) hs ht)
      have HW := Lib.hid (hW.step hI.len hys s)
      have HT := Lib.hid (hT.setCell (p := ⟨gx, ox + ys.length, none⟩) (by simp) (.int .u64 (s : Int)))
      have HZ : Hid (ws ++ [s] ++ xs.drop (ys.length + 1) = ws ++ [s]) := Lib.hid (by rw [← HL.out, List.drop_of_length_le (Nat.le_refl _), List.append_nil])
      clear hst hs ht hX hY hlt
      go_wp2
      go_ret
      exact ⟨t, _, rfl, HO.out, HZ.out ▸ HW.out, HT.out⟩

end Go.Proofs.YtmiibcdcnoefgaaGreatDoor

/- wide.shiftLeft, wide.shiftRight. -/
namespace Go.Proofs.YtmiibcdcnoefgaaGreatDoor
open Go.RowKit Dg

theorem BB_pow (c : Nat) (hc : c < 64) : BB = 2 ^ (64 - c) * 2 ^ c := by
  rw [← Nat.pow_add, show 64 - c + c = 64 by omega]; rfl

theorem or_add {a n c : Nat} (hn : n < 2 ^ c) : (2 ^ c * a) ||| n = 2 ^ c * a + n := (Nat.two_pow_add_eq_or_of_lt hn a).symm

theorem cast_pow (x c : Nat) : (x : Int) * 2 ^ c = ((x * 2 ^ c : Nat) : Int) := by simp
theorem cast_div (x c : Nat) : (x : Int) / 2 ^ c = ((x / 2 ^ c : Nat) : Int) := by simp

/-- One word is shifted to the left. -/
theorem shl_word (x n c : Nat) (hx : x < BB) (hc : c < 64) (hn : n < 2 ^ c) : ∃ s t : Nat, s + BB * t = x * 2 ^ c + n ∧ s < BB ∧ t < 2 ^ c ∧
    bits .or .u64 (IntKind.u64.wrap ((x : Int) * 2 ^ c)) (n : Int) = (s : Int) ∧ (x : Int) / 2 ^ (64 - c) = (t : Int) := by
  have hB := BB_pow c hc
  have hp : 0 < 2 ^ c := Nat.two_pow_pos c
  have hq : 0 < 2 ^ (64 - c) := Nat.two_pow_pos _
  have e1 : x * 2 ^ c % BB = 2 ^ c * (x % 2 ^ (64 - c)) := by rw [hB, Nat.mul_mod_mul_right, Nat.mul_comm]
  have hr : x % 2 ^ (64 - c) + 1 ≤ 2 ^ (64 - c) := Nat.mod_lt _ hq
  have h1 : 2 ^ c * (x % 2 ^ (64 - c)) + n < BB := by
    rw [hB, Nat.mul_comm (2 ^ (64 - c))]
    have := Nat.mul_le_mul_left (2 ^ c) hr
    rw [Nat.mul_add] at this
    omega
  refine ⟨2 ^ c * (x % 2 ^ (64 - c)) + n, x / 2 ^ (64 - c), ?_, h1, ?_, ?_, cast_div x _⟩
  · have e2 : BB * (x / 2 ^ (64 - c)) = 2 ^ c * (2 ^ (64 - c) * (x / 2 ^ (64 - c))) := by rw [← Nat.mul_assoc, Nat.mul_comm (2 ^ c), ← hB]
    have e3 := Nat.div_add_mod x (2 ^ (64 - c))
    have e4 : x * 2 ^ c = 2 ^ c * (2 ^ (64 - c) * (x / 2 ^ (64 - c))) + 2 ^ c * (x % 2 ^ (64 - c)) := by rw [← Nat.mul_add, e3, Nat.mul_comm]
    omega
  · rw [Nat.div_lt_iff_lt_mul hq, Nat.mul_comm, ← hB]; exact hx
  · rw [cast_pow, wrapM, ← BB_eq, e1, bits_or_u64_nat _ _ (by rw [← BB_eq]; omega) (by rw [← BB_eq]; omega), or_add hn]

/-- One word is shifted to the right, the rest r of the word above comes in. -/
theorem shr_word (x r c : Nat) (hx : x < BB) (hc : c < 64) (hr : r < 2 ^ c) : ∃ s t : Nat, 2 ^ c * s + t = BB * r + x ∧ s < BB ∧ t < 2 ^ c ∧
    bits .or .u64 ((x : Int) / 2 ^ c) ((r * 2 ^ (64 - c) : Nat) : Int) = (s : Int) ∧ IntKind.u64.wrap ((x : Int) * 2 ^ (64 - c)) = ((t * 2 ^ (64 - c) : Nat) : Int) := by
  have hB := BB_pow c hc
  have hp : 0 < 2 ^ c := Nat.two_pow_pos c
  have hq : 0 < 2 ^ (64 - c) := Nat.two_pow_pos _
  have h2 : x / 2 ^ c < 2 ^ (64 - c) := by rw [Nat.div_lt_iff_lt_mul hp, ← hB]; exact hx
  have h1 : r * 2 ^ (64 - c) + x / 2 ^ c < BB := by
    have := Nat.mul_le_mul_right (2 ^ (64 - c)) (show r + 1 ≤ 2 ^ c from hr)
    rw [Nat.add_mul, Nat.mul_comm (2 ^ c), ← hB] at this
    omega
  have e3 := Nat.div_add_mod x (2 ^ c)
  refine ⟨r * 2 ^ (64 - c) + x / 2 ^ c, x % 2 ^ c, ?_, h1, Nat.mod_lt _ hp, ?_, ?_⟩
  · have e2 : 2 ^ c * (r * 2 ^ (64 - c)) = BB * r := by rw [hB, Nat.mul_comm r, ← Nat.mul_assoc, Nat.mul_comm (2 ^ c)]
    rw [Nat.mul_add, e2]
    omega
  · have h3 : x / 2 ^ c < BB := Nat.lt_of_le_of_lt (Nat.div_le_self _ _) hx
    rw [cast_div, bits_or_u64_nat _ _ (by rw [← BB_eq]; exact h3) (by rw [← BB_eq]; exact Nat.lt_of_le_of_lt (Nat.le_add_right _ _) h1), Nat.or_comm, Nat.mul_comm r, or_add h2]
  · rw [cast_pow, wrapM, ← BB_eq]
    congr 1
    rw [hB, Nat.mul_comm (2 ^ (64 - c)) (2 ^ c), Nat.mul_mod_mul_right]

def ShlPost (w : World) (g o : Nat) (pre : List Value) (xs : List Nat) (f : Nat) (post : List Value) (e : Ending) (w' : World) : Prop :=
  ∃ (c : Nat) (zs : List Nat), e = .returned (.int .u64 (c : Int)) ∧ ShOut BB xs f c zs ∧ Win w' 56 .u64 g o pre zs post ∧ Tch [g] w w'

set_option maxHeartbeats 1000000 in
set_option maxRecDepth 100000 in
theorem shiftLeft (gx ox capx : Nat) (pre post : List Value) (xs : List Nat) (c : Nat) (hc : c < 64) (w : World) (hx : Ok BB xs) (hb : xs.length ≤ 1000000000)
    (hX : Win w 56 .u64 gx ox pre xs post) :
    Calls Tryz.prog 67 #[.slice (some ⟨gx, ox, none⟩) xs.length capx, .int .u64 c] w (ShlPost w gx ox pre xs (2 ^ c) post) := by
  go_enter Tryz.func67, Tryz.ntmps67
  go_wp2
  go_loopw [5, 9] (fun c' i wr => ∃ (k cN : Nat) (ws : List Nat), k ≤ xs.length ∧ i = .int .i64 k ∧ c' = .int .u64 cN ∧ ShInv BB xs (2 ^ c) k cN ws ∧ Win wr 56 .u64 gx ox pre (ws ++ xs.drop k) post ∧ Tch [gx] w wr)
    (fun _ i _ => xs.length - (intOf i).toNat)
  case atStart => exact ⟨0, 0, [], Nat.zero_le _, rfl, rfl, ShInv.zero _ (Nat.two_pow_pos c), hX, Tch.refl _ _⟩
  case round =>
    obtain ⟨k, cN, ws, hk, rfl, rfl, hI, hW, hT⟩ := hrel
    by_cases hlt : k < xs.length
    · obtain ⟨x, ex, cx⟩ := hW.readApp hI.len hlt
      have fx := hW.frozen (ox + k)
      obtain ⟨s, t, hst, hs, ht, e1, e2⟩ := shl_word x cN c (ex.out ▸ hx.getD (by decide) k) hc hI.cb
      have HS := Lib.hid (hI.step hlt (s := s) (t := t) (by rw [ex.out]; exact hst) hs ht)
      have HW := Lib.hid (hW.step hI.len hlt s)
      have HT := Lib.hid (hT.setCell (p := ⟨gx, ox + k, none⟩) (by simp) (.int .u64 (s : Int)))
      clear hst hs ht hx hX
      go_wp2
      go_region
      go_wp2
      go_roundw
      case rel => exact ⟨k + 1, t, ws ++ [s], by omega, by go_num, by first | rfl | rw [e2], HS.out, by first | exact HW.out.drew | (rw [e1]; exact HW.out.drew), by first | exact HT.out.drew | (rw [e1]; exact HT.out.drew)⟩
      case measure => simp [intOf]; omega
    · obtain rfl : k = xs.length := by omega
      have HO := Lib.hid hI.out
      have HW : Hid (Win wr 56 .u64 gx ox pre ws post) := Lib.hid (by rw [List.drop_of_length_le (Nat.le_refl _), List.append_nil] at hW; exact hW)
      go_wp2
      go_ret
      exact ⟨cN, _, rfl, HO.out, HW.out, hT⟩

def ShrPost (w : World) (g o : Nat) (pre : List Value) (xs : List Nat) (f : Nat) (post : List Value) (e : Ending) (w' : World) : Prop :=
  ∃ (r : Nat) (zs : List Nat), e = .returned (.tuple #[]) ∧ DnOut BB xs f r zs ∧ Win w' 56 .u64 g o pre zs post ∧ Tch [g] w w'

set_option maxHeartbeats 1000000 in
set_option maxRecDepth 100000 in
theorem shiftRight (gx ox capx : Nat) (pre post : List Value) (xs : List Nat) (c : Nat) (hc : c < 64) (w : World) (hx : Ok BB xs) (hb : xs.length ≤ 1000000000)
    (hX : Win w 56 .u64 gx ox pre xs post) :
    Calls Tryz.prog 69 #[.slice (some ⟨gx, ox, none⟩) xs.length capx, .int .u64 c] w (ShrPost w gx ox pre xs (2 ^ c) post) := by
  go_enter Tryz.func69, Tryz.ntmps69
  go_wp2
  go_loopw [4, 5] (fun c' i wr => ∃ (m r : Nat) (ws : List Nat), m ≤ xs.length ∧ i = .int .i64 ((m : Int) - 1) ∧ c' = .int .u64 ((r * 2 ^ (64 - c) : Nat) : Int) ∧ DnInv BB xs (2 ^ c) m r ws ∧ Win wr 56 .u64 gx ox pre (xs.take m ++ ws) post ∧ Tch [gx] w wr)
    (fun _ i _ => (intOf i + 1).toNat)
  case atStart => exact ⟨xs.length, 0, [], Nat.le_refl _, rfl, by simp, DnInv.zero _ (Nat.two_pow_pos c), by simpa using hX, Tch.refl _ _⟩
  case round =>
    obtain ⟨m, r, ws, hm, hi, rfl, hI, hW, hT⟩ := hrel
    obtain _ | m := m
    · obtain rfl : _ = Value.int .i64 (-1) := hi
      have HO := Lib.hid hI.out
      have HW : Hid (Win wr 56 .u64 gx ox pre ws post) := Lib.hid (by simpa using hW)
      go_wp2
      go_end0
      exact ⟨r, _, rfl, HO.out, HW.out, hT⟩
    · have hi' : _ = Value.int .i64 (m : Int) := hi.trans (by congr 1; omega)
      clear hi
      subst hi'
      have hlt : m < xs.length := by omega
      obtain ⟨x, ex, cx⟩ := hW.readDn hlt
      have fx := hW.frozen (ox + m)
      obtain ⟨s, t, hst, hs, ht, e1, e2⟩ := shr_word x r c (ex.out ▸ hx.getD (by decide) m) hc hI.rb
      have HS := Lib.hid (hI.step (s := s) (t := t) (by rw [ex.out]; exact hst) hs ht)
      have HW := Lib.hid (hW.stepDn hlt s)
      have HT := Lib.hid (hT.setCell (p := ⟨gx, ox + m, none⟩) (by simp) (.int .u64 (s : Int)))
      have H1 := Lib.hid e1
      have H2 := Lib.hid e2
      generalize hR : r * 2 ^ (64 - c) = R at *
      generalize hU : t * 2 ^ (64 - c) = U at *
      have HU := Lib.hid hU
      clear hst hs ht hx hX hR hU
      go_wp2
      go_region
      go_wp2
      go_roundw
      case rel => exact ⟨m, t, s :: ws, by omega, by first | rfl | go_num, by first | (rw [HU.out]; done) | rw [HU.out, H2.out], HS.out, by first | exact HW.out.drew | (rw [H1.out]; exact HW.out.drew), by first | exact HT.out.drew | (rw [H1.out]; exact HT.out.drew)⟩
      case measure => first | (simp [intOf]; done) | (simp [intOf]; omega)

end Go.Proofs.YtmiibcdcnoefgaaGreatDoor

/- wide.trim. -/
namespace Go.Proofs.YtmiibcdcnoefgaaGreatDoor
open Go.RowKit Dg

def lenOf : Value → Nat | .slice _ n _ => n | _ => 0

set_option maxHeartbeats 1000000 in
set_option maxRecDepth 100000 in
theorem trim (g o cap : Nat) (pre post : List Value) (xs : List Nat) (w : World) (hb : xs.length ≤ 1000000000) (hc : xs.length ≤ cap)
    (hX : Win w 56 .u64 g o pre xs post) :
    Calls Tryz.prog 62 #[.slice (some ⟨g, o, none⟩) xs.length cap] w fun e w' => e = .returned (.slice (some ⟨g, o, none⟩) (cut xs).length cap) ∧ w = w' := by
  go_enter Tryz.func62, Tryz.ntmps62
  go_wp2
  go_loop [0] (fun v => ∃ m : Nat, v = .slice (some ⟨g, o, none⟩) m cap ∧ m ≤ xs.length ∧ Hid (cut (xs.take m) = cut xs)) (fun v => lenOf v)
  case atStart => exact ⟨xs.length, rfl, Nat.le_refl _, Lib.hid (by rw [List.take_of_length_le (Nat.le_refl _)])⟩
  case round =>
    obtain ⟨m, rfl, hm, hC⟩ := hrel
    cases m with
    | zero =>
      have e : Hid ((cut xs).length = 0) := Lib.hid (by have := hC.out; rw [List.take_zero] at this; rw [← this]; rfl)
      go_wp2
      go_ret
      exact ⟨by rw [e.out]; rfl, rfl⟩
    | succ k =>
      have hk : k < xs.length := by omega
      have hkc : k ≤ cap := by omega
      obtain ⟨x, ex, cx⟩ := hX.read hk
      by_cases hx : x = 0
      · subst hx
        have hC' := Lib.hid ((cut_take_zero hk ex.out).symm.trans hC.out)
        go_wp2
        go_round
        case rel => exact ⟨k, by first | rfl | simp, by omega, hC'⟩
        case measure => simp [lenOf]
      · have hx1 : ((x : Int) == 0) = false := by simpa using hx
        have e : Hid ((cut xs).length = k + 1) := Lib.hid (by rw [← hC.out, cut_take_pos hk (by rw [ex.out]; exact hx), List.length_take]; omega)
        clear hx
        go_wp2
        go_ret
        exact ⟨by rw [e.out]; rfl, rfl⟩

end Go.Proofs.YtmiibcdcnoefgaaGreatDoor
