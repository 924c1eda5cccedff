/- wide.wordOf, wide.magnitude. -/
import Derived.Test.YtpedbahppkimbaaDoorUse
namespace Go.Proofs.YtpedbahppkimbaaDoor
open Go.RowKit Dg

/-- The bytes of a string, as numbers, the first one first. -/
def sb (s : ByteArray) : List Nat := s.data.toList.map UInt8.toNat

theorem sb_length (s : ByteArray) : (sb s).length = s.size := by simp [sb]
theorem sb_ok (s : ByteArray) : Ok 256 (sb s) := by
  intro x hx
  simp only [sb, List.mem_map] at hx
  obtain ⟨b, _, rfl⟩ := hx
  exact UInt8.toNat_lt b

/-- The value of bytes, the most significant one first. -/
def bv (l : List Nat) : Nat := dg 256 l.reverse

theorem bv_snoc (l : List Nat) (x : Nat) : bv (l ++ [x]) = x + 256 * bv l := by simp [bv, dg]
theorem bv_lt {l : List Nat} (h : Ok 256 l) : bv l < 256 ^ l.length := by
  have := dg_lt h.reverse
  rwa [List.length_reverse] at this

theorem sb_take_succ (s : ByteArray) (k : Nat) (h : k < s.size) : (sb s).take (k + 1) = (sb s).take k ++ [s[k].toNat] := by
  rw [take_succ_getD _ _ (by rw [sb_length]; exact h)]
  congr 2
  have h' : k < s.data.toList.length := by simpa using h
  simp only [sb, List.getD, List.getElem?_map, List.getElem?_eq_getElem h', Option.map_some, Option.getD_some]
  rfl

theorem pow256_le {k : Nat} (h : k ≤ 7) : 256 ^ k ≤ 72057594037927936 := Nat.pow_le_pow_right (by omega) h

theorem word_step (W b k : Nat) (hW : W < 256 ^ k) (hk : k ≤ 7) (hb : b < 256) : bits .or .u64 (IntKind.u64.wrap ((W : Int) * 256)) (b : Int) = ((b + 256 * W : Nat) : Int) := by
  have h1 : W < 72057594037927936 := Nat.lt_of_lt_of_le hW (pow256_le hk)
  have e : (W : Int) * 256 = ((256 * W : Nat) : Int) := by omega
  rw [e, wrapN _ (by omega), bits_or_u64_nat _ _ (by omega) (by omega)]
  congr 1
  have := Nat.two_pow_add_eq_or_of_lt (i := 8) (show b < 2 ^ 8 from hb) W
  simp only [Nat.reducePow] at this
  omega

set_option maxHeartbeats 1000000 in
set_option maxRecDepth 100000 in
theorem wordOf (s : ByteArray) (hs : s.size ≤ 8) (w : World) :
    Calls Tryd.prog 84 #[.string s] w fun e w' => e = .returned (.int .u64 (bv (sb s) : Int)) ∧ w = w' := by
  go_enter Tryd.func84, Tryd.ntmps84
  go_wp2
  go_loop [3, 7] (fun a i => ∃ (k W : Nat), k ≤ s.size ∧ i = .int .i64 k ∧ a = .int .u64 (W : Int) ∧ Hid (W = bv ((sb s).take k))) (fun _ i => s.size - (intOf i).toNat)
  case atStart => exact ⟨0, 0, Nat.zero_le _, rfl, rfl, Lib.hid rfl⟩
  case round =>
    obtain ⟨k, W, hk, rfl, rfl, hW⟩ := hrel
    by_cases hlt : k < s.size
    · obtain ⟨b, hb⟩ : ∃ b : Nat, s[k].toNat = b := ⟨_, rfl⟩
      have hbl : b < 256 := by rw [← hb]; exact UInt8.toNat_lt _
      have hWl : W < 256 ^ k := by
        rw [hW.out]
        have := bv_lt (((sb_ok s)).take k)
        rwa [List.length_take, sb_length, Nat.min_eq_left hk] at this
      have r := word_step W b k hWl (by omega) hbl
      have HS : Hid (b + 256 * W = bv ((sb s).take (k + 1))) := Lib.hid (by rw [sb_take_succ s k hlt, bv_snoc, hW.out, hb])
      have HB := Lib.hid hb
      have R := Lib.hid r
      clear hWl r hb
      go_wp2
      go_round
      case rel => exact ⟨k + 1, b + 256 * W, by omega, by go_num, by first | rfl | (rw [HB.out, wrapN b (by omega), R.out]), HS⟩
      case measure => simp [intOf]; omega
    · obtain rfl : k = s.size := by omega
      have HE : Hid (W = bv (sb s)) := Lib.hid (by rw [hW.out, List.take_of_length_le (by rw [sb_length]; exact Nat.le_refl _)])
      go_wp2
      go_ret
      exact ⟨by rw [HE.out]; rfl, rfl⟩

/-- The bytes without zeros in front. -/
def mg (s : ByteArray) : ByteArray := ⟨(Lib.trimLeftB s.data.toList 0).toArray⟩

theorem sb_mg (s : ByteArray) : sb (mg s) = (sb s).dropWhile (· == 0) := by
  simp only [sb, mg, Lib.trimLeftB]
  induction s.data.toList with
  | nil => rfl
  | cons b r ih =>
    simp only [List.map_cons, List.dropWhile_cons]
    by_cases h : b = 0
    · subst h
      simpa using ih
    · have h2 : ¬ b.toNat = 0 := fun e => h (UInt8.toNat_inj.1 e)
      simp [h, h2]

theorem bv_dropWhile (l : List Nat) : bv (l.dropWhile (· == 0)) = bv l := by
  induction l with
  | nil => rfl
  | cons x r ih =>
    rw [List.dropWhile_cons]
    by_cases h : x = 0
    · subst h
      simp only [beq_self_eq_true, if_true]
      rw [ih, bv, bv, List.reverse_cons, dg_snoc, Nat.mul_zero, Nat.add_zero]
    · simp [h]

theorem trim_dropWhile (l : List Nat) : Trim (l.dropWhile (· == 0)).reverse := by
  induction l with
  | nil => exact Trim.nil
  | cons x r ih =>
    rw [List.dropWhile_cons]
    by_cases h : x = 0
    · subst h; simpa using ih
    · simp only [beq_iff_eq, h, if_false]
      intro _
      simp [h]

theorem bv_mg (s : ByteArray) : bv (sb (mg s)) = bv (sb s) := by rw [sb_mg, bv_dropWhile]
theorem trim_mg (s : ByteArray) : Trim (sb (mg s)).reverse := by rw [sb_mg]; exact trim_dropWhile _
theorem size_mg (s : ByteArray) : (mg s).size ≤ s.size := by
  have h : (sb (mg s)).length ≤ (sb s).length := by rw [sb_mg]; exact (List.dropWhile_sublist _).length_le
  rwa [sb_length, sb_length] at h

set_option maxHeartbeats 1000000 in
set_option maxRecDepth 100000 in
theorem magnitude (ng : Bool) (s : ByteArray) (w : World) :
    Calls Tryd.prog 35 #[.agg #[.bool ng, .string s]] w fun e w' => e = .returned (.string (mg s)) ∧ Tch [] w w' := by
  have hT := Lib.hid (fun w1 => Tryd.strings_TrimLeft_one s 0 (by decide) w1)
  go_enter Tryd.func35, Tryd.ntmps35
  go_wp2_with fail
  refine (hT.out _).mono ?_
  rintro e w1 ⟨rfl, hw⟩
  subst hw
  go_wp2
  go_ret
  exact ⟨rfl, (Tch.refl [] w).alloc _⟩

end Go.Proofs.YtpedbahppkimbaaDoor
