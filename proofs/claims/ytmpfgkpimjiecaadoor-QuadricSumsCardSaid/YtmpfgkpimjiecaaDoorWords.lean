/- What all walks that call Go's library import. -/
import Derived.Test.YtmpfgkpimjiecaaDoorShelf
import Derived.Deep.RegionHeld3
import Derived.Deep.RegionWith
import Derived.Test.YtmpfgkpimjiecaaDoorMem
import Derived.Test.YtmpfgkpimjiecaaDoorAddW
namespace Go.Proofs.YtmpfgkpimjiecaaDoor
open Go.RowKit
theorem quiet_add {P : Program} {f : FuncId} {args : Array Value} {w : World} {a n : Nat} {v : Value}
    (h : Calls P f args (w.drewN (a + n)) fun e w' => e = .returned v ∧ ∃ m, w' = (w.drewN (a + n)).drewN m) :
    Calls P f args (w.drewN (a + n)) fun e w'' => e = .returned v ∧ ∃ m, w'' = w.drewN (a + m) :=
  h.mono fun _ _ ⟨he, m, hm⟩ => ⟨he, n + m, by rw [hm, World.drewN_drewN, Nat.add_assoc]⟩

theorem drewN_ex (w : World) (a b : Nat) : ∃ m, w.drewN m = (w.drewN a).drewN b := ⟨a + b, (World.drewN_drewN w a b).symm⟩

end Go.Proofs.YtmpfgkpimjiecaaDoor
namespace Go.Proofs.YtmpfgkpimjiecaaDoor
open Go.RowKit Dg
/-- The bytes of a string, as numbers, the first one first. -/
def sb (s : ByteArray) : List Nat := s.data.toList.map UInt8.toNat

theorem sb_length (s : ByteArray) : (sb s).length = s.size := by simp [sb]

theorem sb_ok (s : ByteArray) : Ok 256 (sb s) := by
  intro x hx
  simp only [sb, List.mem_map] at hx
  obtain ⟨b, _, rfl⟩ := hx
  exact UInt8.toNat_lt b

/-- The value of bytes, the most significant one first. -/
def bv (l : List Nat) : Nat := dg 256 l.reverse

theorem bv_snoc (l : List Nat) (x : Nat) : bv (l ++ [x]) = x + 256 * bv l := by simp [bv, dg]

theorem bv_lt {l : List Nat} (h : Ok 256 l) : bv l < 256 ^ l.length := by
  have := dg_lt h.reverse
  rwa [List.length_reverse] at this

theorem sb_take_succ (s : ByteArray) (k : Nat) (h : k < s.size) : (sb s).take (k + 1) = (sb s).take k ++ [s[k].toNat] := by
  rw [take_succ_getD _ _ (by rw [sb_length]; exact h)]
  congr 2
  have h' : k < s.data.toList.length := by simpa using h
  simp only [sb, List.getD, List.getElem?_map, List.getElem?_eq_getElem h', Option.map_some, Option.getD_some]
  rfl

theorem pow256_le {k : Nat} (h : k ≤ 7) : 256 ^ k ≤ 72057594037927936 := Nat.pow_le_pow_right (by omega) h

theorem word_step (W b k : Nat) (hW : W < 256 ^ k) (hk : k ≤ 7) (hb : b < 256) : bits .or .u64 (IntKind.u64.wrap ((W : Int) * 256)) (b : Int) = ((b + 256 * W : Nat) : Int) := by
  have h1 : W < 72057594037927936 := Nat.lt_of_lt_of_le hW (pow256_le hk)
  have e : (W : Int) * 256 = ((256 * W : Nat) : Int) := by omega
  rw [e, wrapN _ (by omega), bits_or_u64_nat _ _ (by omega) (by omega)]
  congr 1
  have := Nat.two_pow_add_eq_or_of_lt (i := 8) (show b < 2 ^ 8 from hb) W
  simp only [Nat.reducePow] at this
  omega

set_option maxHeartbeats 1000000 in
set_option maxRecDepth 100000 in
theorem wordOf (s : ByteArray) (hs : s.size ≤ 8) (w : World) :
    Calls Tryd.prog 90 #[.string s] w fun e w' => e = .returned (.int .u64 (bv (sb s) : Int)) ∧ w = w' := by
  go_enter Tryd.func90, Tryd.ntmps90
  go_wp2
  go_loop [3, 7] (fun a i => ∃ (k W : Nat), k ≤ s.size ∧ i = .int .i64 k ∧ a = .int .u64 (W : Int) ∧ Hid (W = bv ((sb s).take k))) (fun _ i => s.size - (intOf i).toNat)
  case atStart => exact ⟨0, 0, Nat.zero_le _, rfl, rfl, Lib.hid rfl⟩
  case round =>
    obtain ⟨k, W, hk, rfl, rfl, hW⟩ := hrel
    by_cases hlt : k < s.size
    · obtain ⟨b, hb⟩ : ∃ b : Nat, s[k].toNat = b := ⟨_, rfl⟩
      have hbl : b < 256 := by rw [← hb]; exact UInt8.toNat_lt _
      have hWl : W < 256 ^ k := by
        rw [hW.out]
        have := bv_lt (((sb_ok s)).take k)
        rwa [List.length_take, sb_length, Nat.min_eq_left hk] at this
      have r := word_step W b k hWl (by omega) hbl
      have HS : Hid (b + 256 * W = bv ((sb s).take (k + 1))) := Lib.hid (by rw [sb_take_succ s k hlt, bv_snoc, hW.out, hb])
      have HB := Lib.hid hb
      have R := Lib.hid r
      clear hWl r hb
      go_wp2
      go_round
      case rel => exact ⟨k + 1, b + 256 * W, by omega, by go_num, by first | rfl | (rw [HB.out, wrapN b (by omega), R.out]), HS⟩
      case measure => simp [intOf]; omega
    · obtain rfl : k = s.size := by omega
      have HE : Hid (W = bv (sb s)) := Lib.hid (by rw [hW.out, List.take_of_length_le (by rw [sb_length]; exact Nat.le_refl _)])
      go_wp2
      go_ret
      exact ⟨by rw [HE.out]; rfl, rfl⟩

/-- The bytes without zeros in front. -/
def mg (s : ByteArray) : ByteArray := ⟨(Lib.trimLeftB s.data.toList 0).toArray⟩

theorem sb_mg (s : ByteArray) : sb (mg s) = (sb s).dropWhile (· == 0) := by
  simp only [sb, mg, Lib.trimLeftB]
  induction s.data.toList with
  | nil => rfl
  | cons b r ih =>
    simp only [List.map_cons, List.dropWhile_cons]
    by_cases h : b = 0
    · subst h
      simpa using ih
    · have h2 : ¬ b.toNat = 0 := fun e => h (UInt8.toNat_inj.1 e)
      simp [h, h2]

theorem bv_dropWhile (l : List Nat) : bv (l.dropWhile (· == 0)) = bv l := by
  induction l with
  | nil => rfl
  | cons x r ih =>
    rw [List.dropWhile_cons]
    by_cases h : x = 0
    · subst h
      simp only [beq_self_eq_true, if_true]
      rw [ih, bv, bv, List.reverse_cons, dg_snoc, Nat.mul_zero, Nat.add_zero]
    · simp [h]

theorem trim_dropWhile (l : List Nat) : Trim (l.dropWhile (· == 0)).reverse := by
  induction l with
  | nil => exact Trim.nil
  | cons x r ih =>
    rw [List.dropWhile_cons]
    by_cases h : x = 0
    · subst h; simpa using ih
    · simp only [beq_iff_eq, h, if_false]
      intro _
      simp [h]

theorem bv_mg (s : ByteArray) : bv (sb (mg s)) = bv (sb s) := by rw [sb_mg, bv_dropWhile]

theorem trim_mg (s : ByteArray) : Trim (sb (mg s)).reverse := by rw [sb_mg]; exact trim_dropWhile _

theorem size_mg (s : ByteArray) : (mg s).size ≤ s.size := by
  have h : (sb (mg s)).length ≤ (sb s).length := by rw [sb_mg]; exact (List.dropWhile_sublist _).length_le
  rwa [sb_length, sb_length] at h

set_option maxHeartbeats 1000000 in
set_option maxRecDepth 100000 in
theorem magnitude (ng : Bool) (s : ByteArray) (w : World) :
    Calls Tryd.prog 68 #[.agg #[.bool ng, .string s]] w fun e w' => e = .returned (.string (mg s)) ∧ Tch [] w w' := by
  have hT := Lib.hid (fun w1 => Tryd.strings_TrimLeft_one s 0 (by decide) w1)
  go_enter Tryd.func68, Tryd.ntmps68
  go_wp2_with fail
  refine (hT.out _).mono ?_
  rintro e w1 ⟨rfl, hw⟩
  subst hw
  go_wp2
  go_ret
  exact ⟨rfl, (Tch.refl [] w).alloc _⟩

end Go.Proofs.YtmpfgkpimjiecaaDoor
namespace Go.Proofs.YtmpfgkpimjiecaaDoor
open Go.RowKit Dg
theorem sb_extract (s : ByteArray) (a b : Nat) : sb (s.extract a b) = ((sb s).take b).drop a := by
  simp [sb, ByteArray.data_extract, List.drop_take, List.map_take, List.map_drop]

theorem bv_append (a b : List Nat) : bv (a ++ b) = bv b + 256 ^ b.length * bv a := by
  rw [bv, List.reverse_append, dg_append, List.length_reverse]; rfl

theorem BB_256 (n : Nat) : BB ^ n = 256 ^ (8 * n) := by rw [Nat.pow_mul]; rfl

/-- The words of the bytes l, from the end on: those behind place e. -/
structure WdInv (l : List Nat) (e : Nat) (ws : List Nat) : Prop where
  ok : Ok BB ws
  len : 8 * ws.length + e = l.length
  val : dg BB ws = bv (l.drop e)

theorem WdInv.zero (l : List Nat) : WdInv l l.length [] := ⟨Ok.nil _, by simp, by rw [List.drop_length]; rfl⟩

theorem WdInv.step {l ws : List Nat} {e : Nat} (hl : Ok 256 l) (h : WdInv l (e + 8) ws) : WdInv l e (ws ++ [bv ((l.take (e + 8)).drop e)]) := by
  have hlen := h.len
  have hc : ((l.take (e + 8)).drop e).length = 8 := by rw [List.length_drop, List.length_take]; omega
  have hb := bv_lt ((hl.take (e + 8)).drop e)
  rw [hc] at hb
  refine ⟨h.ok.snoc hb, by simp; omega, ?_⟩
  have e1 : l.drop e = (l.take (e + 8)).drop e ++ l.drop (e + 8) := by
    conv => lhs; rw [← List.take_append_drop (e + 8) l]
    rw [List.drop_append_of_le_length (by rw [List.length_take]; omega)]
  rw [dg_snoc, e1, bv_append, h.val, BB_256]
  congr 2
  rw [List.length_drop]; congr 1; omega

/-- All words have been taken. -/
theorem WdInv.last {l ws : List Nat} {e : Nat} (hl : Ok 256 l) (h : WdInv l e ws) (he : e ≤ 8) (h0 : 0 < e) (ht : Trim l.reverse) : ws ++ [bv (l.take e)] = digs BB (bv l) ∧ bv (l.take e) < BB := by
  have hlen := h.len
  have hte : (l.take e).length = e := by rw [List.length_take]; omega
  have hb := bv_lt (hl.take e)
  rw [hte] at hb
  have hb2 : bv (l.take e) < BB := Nat.lt_of_lt_of_le hb (Nat.pow_le_pow_right (by omega) he)
  have hv : dg BB (ws ++ [bv (l.take e)]) = bv l := by
    rw [dg_snoc, h.val, BB_256]
    conv => rhs; rw [← List.take_append_drop e l, bv_append]
    rw [List.length_drop, show 8 * ws.length = l.length - e by omega]
  refine ⟨?_, hb2⟩
  have hok := h.ok.snoc hb2
  rw [← hv]
  refine (digs_dg (by decide) hok ?_).symm
  intro hne
  rw [show (ws ++ [bv (l.take e)]).getLast hne = bv (l.take e) from by simp]
  intro hz
  have hln : l.reverse ≠ [] := by intro h; have h9 := congrArg List.length h; rw [List.length_reverse, List.length_nil] at h9; omega
  have h1 := pow_le_of_trim (b := 256) ht hln
  rw [List.length_reverse] at h1
  have h2 : bv l < 256 ^ (l.length - e) := by
    rw [← hv, dg_snoc, hz, Nat.mul_zero, Nat.add_zero]
    have := dg_lt h.ok
    rw [BB_256, show 8 * ws.length = l.length - e by omega] at this
    exact this
  have h3 : 256 ^ (l.length - e) ≤ 256 ^ (l.length - 1) := Nat.pow_le_pow_right (by omega) (by omega)
  have h4 : bv l = dg 256 l.reverse := rfl
  omega

theorem bv_nil_of {l : List Nat} {ws : List Nat} (h : WdInv l 0 ws) (hl : Ok 256 l) (ht : Trim l.reverse) : ws = digs BB (bv l) := by
  by_cases hn : l = []
  · subst hn
    have hlen := h.len
    rw [List.length_nil] at hlen
    have hw : ws = [] := List.eq_nil_of_length_eq_zero (by omega)
    rw [hw]; exact (digs_zero BB).symm
  · have hv := h.val
    rw [List.drop_zero] at hv
    rw [← hv]
    refine (digs_dg (by decide) h.ok ?_).symm
    intro hne hz
    have hln : l.reverse ≠ [] := by simpa using hn
    have h1 := pow_le_of_trim (b := 256) ht hln
    rw [List.length_reverse] at h1
    have e := List.dropLast_concat_getLast hne
    have h5 := dg_snoc BB ws.dropLast (ws.getLast hne)
    rw [e, hz, Nat.mul_zero, Nat.add_zero] at h5
    have h6 := dg_lt (b := BB) (xs := ws.dropLast) (fun y hy => h.ok y ((List.dropLast_sublist _).subset hy))
    rw [← h5, hv, List.length_dropLast, BB_256] at h6
    have hl2 := h.len
    have h3 : 256 ^ (8 * (ws.length - 1)) ≤ 256 ^ (l.length - 1) := Nat.pow_le_pow_right (by omega) (by omega)
    have h4 : bv l = dg 256 l.reverse := rfl
    omega

def WdState (l : List Nat) (E : Int) (ws : List Nat) : Prop := (0 < E ∧ ∃ e : Nat, E = (e : Int) ∧ WdInv l e ws) ∨ (E ≤ 0 ∧ ws = digs BB (bv l))

set_option maxHeartbeats 2000000 in
set_option maxRecDepth 100000 in
theorem appendWords (gs caps : Nat) (ng : Bool) (s : ByteArray) (w : World) (hb : s.size ≤ 1000000) (hS : Own w 86 .u64 gs caps []) :
    Calls Tryd.prog 74 #[.slice (some ⟨gs, 0, none⟩) 0 caps, .agg #[.bool ng, .string s]] w fun e w' => ∃ v, e = .returned v ∧ Words 86 .u64 w [gs] v (digs BB (bv (sb s))) w' := by
  obtain ⟨i0, hi, hz0, hz1, hz2⟩ := info_parts info_u64
  have hM := Lib.hid (fun w1 => magnitude ng s w1)
  go_enter Tryd.func74, Tryd.ntmps74
  go_wp2_with fail
  refine (hM.out _).mono ?_
  rintro e w1 ⟨rfl, hT⟩
  have hT1 : Tch [] w w1 := ((Tch.refl [] w).alloc _).trans hT (by simp)
  have hS1 := hS.kept hT1 (by simp)
  have hT2 : Tch [gs] w w1 := hT1.mono (by simp)
  obtain ⟨l, el⟩ : ∃ l, l = sb (mg s) := ⟨_, rfl⟩
  have hlo : Ok 256 l := by rw [el]; exact sb_ok _
  have hlt : Trim l.reverse := by rw [el]; exact trim_mg s
  have hll : l.length = (mg s).size := by rw [el, sb_length]
  have hbv : bv l = bv (sb s) := by rw [el, bv_mg]
  have HL := Lib.hid hll
  have HB := Lib.hid hbv
  have HE := Lib.hid el
  have hsz := size_mg s
  have h0 : WdState l ((mg s).size : Int) [] := by
    have hz := WdInv.zero l
    rw [hll] at hz
    by_cases h : (mg s).size = 0
    · rw [h] at hz ⊢
      exact .inr ⟨by omega, bv_nil_of hz hlo hlt⟩
    · exact .inl ⟨by omega, _, rfl, hz⟩
  obtain ⟨m, hm⟩ : ∃ m, m = mg s := ⟨_, rfl⟩
  rw [← hm] at HL HE h0 hsz ⊢
  clear hT hT1 hS el hll hbv hm hM
  go_wp2
  go_loopw [0, 6] (fun v i wr => ∃ (g cap : Nat) (E : Int) (ws : List Nat), v = .slice (some ⟨g, 0, none⟩) ws.length cap ∧ i = .int .i64 E ∧ E ≤ m.size ∧ -8 ≤ E ∧ WdState l E ws ∧ Own wr 86 .u64 g cap ws ∧ (g ∈ [gs] ∨ w.heap.size ≤ g) ∧ Tch [gs] w wr)
    (fun _ i _ => (intOf i).toNat)
  case atStart => exact ⟨gs, caps, _, [], rfl, rfl, Int.le_refl _, by omega, h0, hS1, .inl (by simp), hT2⟩
  case round =>
    clear hS1 hT2 h0
    obtain ⟨g, cap, E, ws, rfl, rfl, hE1, hE2, hst, hO, hg, hT⟩ := hrel
    rcases hst with ⟨hpos, e, rfl, hI⟩ | ⟨hneg, rfl⟩
    · have hlen := hI.len
      rw [HL.out] at hlen
      by_cases h8 : 8 < e
      · obtain ⟨d, rfl⟩ : ∃ d, e = d + 8 := ⟨e - 8, by omega⟩
        obtain ⟨x, hx⟩ : ∃ x, bv (sb (m.extract d (d + 8))) = x := ⟨_, rfl⟩
        have cW := wordOf (m.extract d (d + 8)) (by rw [← sb_length, sb_extract, List.length_drop, List.length_take, sb_length]; omega) wr
        rw [hx] at cW
        have hxw : x = bv ((l.take (d + 8)).drop d) := by rw [← hx, sb_extract, HE.out]
        have CW := Lib.hid cW
        have hst2 : Hid (WdState l (d : Int) (ws ++ [x])) := Lib.hid (by rw [hxw]; exact .inl ⟨by omega, d, rfl, hI.step hlo⟩)
        have hna : Own (wr.alloc (.cells #[.int .u64 (x : Int)] 86)) 86 .u64 g cap ws := hO.kept ((Tch.refl [] wr).alloc _) (by simp)
        have HLN := Lib.hid hlen
        have hws : ws.length ≤ 1000000 := by omega
        clear cW hx hxw hlen hI
        go_wp2_with fail
        refine CW.out.mono ?_
        rintro e1 w2 ⟨rfl, rfl⟩
        go_wp2_with (at_builtin; refine wpList_app_one _ rfl _ _ 79 rfl 86 .u64 i0 Tryd.underlying79 hi hz0 hz1 (by omega) g cap ws.length ws hna rfl rfl ⟨wr.heap.size, 0, none⟩ 1 x rfl (by simp) (by omega) ?_)
        intro v' w3 happ
        obtain ⟨g2, cap2, rfl, hO2, hg2, hT2⟩ := happ.words hT hg ((Tch.refl [] wr).alloc _)
        have HO2 := Lib.hid hO2
        clear happ hna hO hT hO2 CW
        go_wp2
        go_roundw
        case rel => exact ⟨g2, cap2, (d : Int), ws ++ [x], by simp, by first | rfl | go_num, by omega, by omega, hst2.out, HO2.out, hg2, hT2⟩
        case measure => first | (simp [intOf]; done) | (simp [intOf]; omega)
      · obtain ⟨x, hx⟩ : ∃ x, bv (sb (m.extract 0 e)) = x := ⟨_, rfl⟩
        have cW := wordOf (m.extract 0 e) (by rw [← sb_length, sb_extract, List.length_drop, List.length_take, sb_length]; omega) wr
        rw [hx] at cW
        have hxw : x = bv (l.take e) := by rw [← hx, sb_extract, HE.out, List.drop_zero]
        have CW := Lib.hid cW
        have hst2 : Hid (WdState l ((e : Int) - 8) (ws ++ [x])) := Lib.hid (by rw [hxw]; exact .inr ⟨by omega, (hI.last hlo (by omega) (by omega) hlt).1⟩)
        have hna : Own (wr.alloc (.cells #[.int .u64 (x : Int)] 86)) 86 .u64 g cap ws := hO.kept ((Tch.refl [] wr).alloc _) (by simp)
        have HLN := Lib.hid hlen
        have hws : ws.length ≤ 1000000 := by omega
        clear cW hx hxw hlen hI
        go_wp2_with fail
        rw [show (max 0 ((e : Int) - 8)).toNat = 0 from by omega]
        refine CW.out.mono ?_
        rintro e1 w2 ⟨rfl, rfl⟩
        go_wp2_with (at_builtin; refine wpList_app_one _ rfl _ _ 79 rfl 86 .u64 i0 Tryd.underlying79 hi hz0 hz1 (by omega) g cap ws.length ws hna rfl rfl ⟨wr.heap.size, 0, none⟩ 1 x rfl (by simp) (by omega) ?_)
        intro v' w3 happ
        obtain ⟨g2, cap2, rfl, hO2, hg2, hT2⟩ := happ.words hT hg ((Tch.refl [] wr).alloc _)
        have HO2 := Lib.hid hO2
        clear happ hna hO hT hO2 CW
        go_wp2
        go_roundw
        case rel => exact ⟨g2, cap2, ((e : Int) - 8), ws ++ [x], by simp, by first | rfl | go_num, by omega, by omega, hst2.out, HO2.out, hg2, hT2⟩
        case measure => first | (simp [intOf]; done) | (simp [intOf]; omega)
    · go_wp2
      go_ret
      rw [HB.out] at *
      exact ⟨_, rfl, g, cap, rfl, hO, hg, hT⟩

end Go.Proofs.YtmpfgkpimjiecaaDoor
namespace Go.Proofs.YtmpfgkpimjiecaaDoor
open Go.RowKit Dg
def NewPost (w : World) (e : Ending) (w' : World) : Prop := ∃ g, e = .returned (.slice (some ⟨g, 0, none⟩) 0 8) ∧ Own w' 86 .u64 g 8 [] ∧ w.heap.size ≤ g ∧ Tch [] w w'

set_option maxHeartbeats 1000000 in
set_option maxRecDepth 100000 in
theorem newWords (w : World) : Calls Tryd.prog 53 #[] w (NewPost w) := by
  have hmk : ∀ w, (Instr.makeSlice 79 (.int .i64 0) (.int .i64 8)).run Tryd.prog w = .ok (.slice (some ⟨w.heap.size, 0, none⟩) 0 8) (w.alloc (.cells #[.int .u64 0, .int .u64 0, .int .u64 0, .int .u64 0, .int .u64 0, .int .u64 0, .int .u64 0, .int .u64 0] 86)) := fun _ => by kernel_rfl
  go_enter Tryd.func53, Tryd.ntmps53
  go_wp2
  go_ret
  refine ⟨w.heap.size, rfl, ?_, Nat.le_refl _, (Tch.refl [] w).alloc _⟩
  exact Own.of_row (Below.heap_alloc_new' w _) rfl (by decide) rfl (by simp)

theorem cell_kept {w w' : World} {a : Addr} {v : Value} (hc : w.cell? a = some v) (h : Tch [] w w') : w'.cell? a = some v :=
  (World.cell?_of_block (w := w) (h.block a.block (World.block_lt_of_cell? w a hc) (by simp))).trans hc

theorem cell_kept2 {S : List Nat} {w w' : World} {a : Addr} {v : Value} (hc : w.cell? a = some v) (h : Tch S w w') (hn : a.block ∉ S) : w'.cell? a = some v :=
  (World.cell?_of_block (w := w) (h.block a.block (World.block_lt_of_cell? w a hc) hn)).trans hc

theorem Words.tch {T : TypeId} {k : IntKind} {w w' : World} {S : List Nat} {v : Value} {xs : List Nat} (h : Words T k w S v xs w') : Tch S w w' := by
  obtain ⟨_, _, _, _, _, ht⟩ := h; exact ht

/-- The words of a number are in a new block. -/
def DecPost (w : World) (ws : List Nat) (e : Ending) (w' : World) : Prop := ∃ g cap, e = .returned (.slice (some ⟨g, 0, none⟩) ws.length cap) ∧ Own w' 86 .u64 g cap ws ∧ w.heap.size ≤ g ∧ Tch [] w w'

set_option maxHeartbeats 2000000 in
set_option maxRecDepth 100000 in
theorem decode (ng : Bool) (s : ByteArray) (w : World) (hb : s.size ≤ 1000000) :
    Calls Tryd.prog 54 #[.agg #[.bool ng, .string s]] w (DecPost w (digs BB (bv (sb s)))) := by
  go_enter Tryd.func54, Tryd.ntmps54
  go_wp2_with fail
  obtain ⟨w0, hw0⟩ : ∃ w0, w0 = w.alloc (.cells #[.bool ng, .string s] 26) := ⟨_, rfl⟩
  obtain ⟨B, hB⟩ : ∃ B, B = w.heap.size := ⟨_, rfl⟩
  have b0 : w0.cell? ⟨B, 0, none⟩ = some (.bool ng) := by rw [hw0, hB]; simp
  have b1 : w0.cell? ⟨B, 1, none⟩ = some (.string s) := by rw [hw0, hB]; simp
  have bs : B < w0.heap.size := by rw [hw0, hB]; simp
  have hT0 : Tch [] w w0 := by rw [hw0]; exact (Tch.refl [] w).alloc _
  have hBw : Hid (B = w.heap.size) := Lib.hid hB
  rw [← hw0, ← hB]
  clear hw0 hB
  go_region_held3 (fun w' => w'.cell? ⟨B, 0, none⟩ = some (.bool ng) ∧ w'.cell? ⟨B, 1, none⟩ = some (.string s)) (first | exact ⟨b0, b1⟩ | exact ⟨d0, d1⟩ | exact ⟨e0, e1⟩) (first | (go_at_call 53; refine (newWords _).mono ?_; rintro e w1 ⟨g, rfl, hO, hg, hT1⟩; have d0 := cell_kept (a := ⟨B, 0, none⟩) (v := .bool ng) (by exact b0) hT1; have d1 := cell_kept (a := ⟨B, 1, none⟩) (v := .string s) (by exact b1) hT1) | (go_at_call 74; refine (appendWords g 8 ng s _ hb hO).mono ?_; rintro e w2 ⟨v, rfl, hW⟩; have hgB : B ∉ [g] := (by intro h; rw [List.mem_singleton] at h; have h9 : w0.heap.size ≤ g := hg; omega); have e0 := cell_kept2 (a := ⟨B, 0, none⟩) (v := .bool ng) (by exact d0) hW.tch hgB; have e1 := cell_kept2 (a := ⟨B, 1, none⟩) (v := .string s) (by exact d1) hW.tch hgB))
  obtain ⟨g2, cap2, rfl, hO2, hg2, hT2⟩ := hW
  go_wp2
  go_ret
  have hsz := hT0.size
  have hgg : w.heap.size ≤ g := Nat.le_trans hsz (by simpa using hg)
  refine ⟨g2, cap2, rfl, hO2, ?_, ((hT0.drew).trans hT1 (by simp)).trans hT2 (by simpa using hgg)⟩
  rcases hg2 with h | h
  · simp at h; omega
  · have := hT1.size; simp at this; omega

end Go.Proofs.YtmpfgkpimjiecaaDoor
