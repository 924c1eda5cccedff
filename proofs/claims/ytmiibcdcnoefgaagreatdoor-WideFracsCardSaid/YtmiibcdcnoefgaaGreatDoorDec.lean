/- wide.isDecimal, wide.readDigits. -/
import Derived.Test.YtmiibcdcnoefgaaGreatDoorWord
namespace Go.Proofs.YtmiibcdcnoefgaaGreatDoor
open Go.RowKit Dg

/-- Only digits, of the bytes of a text. -/
def decs (l : List Nat) : Bool := l.all fun x => decide (48 ≤ x) && decide (x ≤ 57)

theorem decs_snoc (l : List Nat) (x : Nat) : decs (l ++ [x]) = (decs l && (decide (48 ≤ x) && decide (x ≤ 57))) := by simp [decs]

theorem decs_bad {l : List Nat} {k : Nat} (hk : k < l.length) (h : ¬ (48 ≤ l.getD k 0 ∧ l.getD k 0 ≤ 57)) : decs l = false := by
  simp only [decs, List.all_eq_false]
  refine ⟨l.getD k 0, ?_, by simpa using h⟩
  rw [List.getD, List.getElem?_eq_getElem hk]
  exact List.getElem_mem hk

theorem not_emp (s : ByteArray) : (!s.toList.isEmpty) = decide (0 < s.size) := by
  have e : s.data.toList.length = s.size := by simp
  rw [ByteArray.toList_eq, ← e]
  cases s.data.toList <;> simp

set_option maxHeartbeats 1000000 in
set_option maxRecDepth 100000 in
theorem isDecimal (s : ByteArray) (hs : s.size ≤ 1000000) (w : World) :
    Calls Tryz.prog 41 #[.string s] w fun e w' => e = .returned (.bool (decs (sb s) && decide (0 < s.size))) ∧ w = w' := by
  go_enter Tryz.func41, Tryz.ntmps41
  go_wp2
  go_loop [6] (fun i => ∃ k : Nat, k ≤ s.size ∧ i = .int .i64 k ∧ Hid (decs ((sb s).take k) = true)) (fun i => s.size - (intOf i).toNat)
  case atStart => exact ⟨0, Nat.zero_le _, rfl, Lib.hid rfl⟩
  case round =>
    obtain ⟨k, hk, rfl, hD⟩ := hrel
    by_cases hlt : k < s.size
    · obtain ⟨b, hb⟩ : ∃ b : Nat, s[k].toNat = b := ⟨_, rfl⟩
      have hsn := sb_take_succ s k hlt
      rw [hb] at hsn
      by_cases hd : 48 ≤ b ∧ b ≤ 57
      · have HS : Hid (decs ((sb s).take (k + 1)) = true) := Lib.hid (by rw [hsn, decs_snoc, hD.out]; simp [hd.1, hd.2])
        have HB := Lib.hid hb
        have hd1 := hd.1
        have hd2 := hd.2
        clear hsn hd hD
        go_wp2
        go_round
        case rel => exact ⟨k + 1, by omega, by go_num, HS⟩
        case measure => simp [intOf]; omega
      · have HS : Hid (decs (sb s) = false) := by
          refine Lib.hid (decs_bad (k := k) (by rw [sb_length]; exact hlt) ?_)
          have h2 := take_succ_getD (sb s) k (by rw [sb_length]; exact hlt)
          rw [hsn] at h2
          have h3 := List.append_cancel_left h2
          simp only [List.cons.injEq, and_true] at h3
          rw [← h3]; exact hd
        by_cases h48 : b < 48
        · clear hsn hd hD
          go_wp2
          go_ret
          exact ⟨by rw [HS.out]; rfl, rfl⟩
        · have h57 : 57 < b := by omega
          clear hsn hd hD
          go_wp2
          go_ret
          exact ⟨by rw [HS.out]; rfl, rfl⟩
    · obtain rfl : k = s.size := by omega
      have HE : Hid (decs (sb s) = true) := Lib.hid (by rw [← hD.out, List.take_of_length_le (by rw [sb_length]; exact Nat.le_refl _)])
      clear hD
      go_wp2
      go_ret
      exact ⟨by rw [HE.out, ← not_emp]; rfl, rfl⟩

/-- The value of decimal digits, the first one first. -/
def nv (l : List Nat) : Nat := l.foldl (fun a x => a * 10 + (x - 48)) 0

theorem nv_snoc (l : List Nat) (x : Nat) : nv (l ++ [x]) = nv l * 10 + (x - 48) := by simp [nv]

theorem decs_take {l : List Nat} (h : decs l = true) (k : Nat) : decs (l.take k) = true := by
  simp only [decs, List.all_eq_true] at h ⊢
  exact fun x hx => h x (List.mem_of_mem_take hx)

theorem decs_drop {l : List Nat} (h : decs l = true) (k : Nat) : decs (l.drop k) = true := by
  simp only [decs, List.all_eq_true] at h ⊢
  exact fun x hx => h x (List.mem_of_mem_drop hx)

theorem nv_foldl (l : List Nat) (a : Nat) : l.foldl (fun a x => a * 10 + (x - 48)) a = a * 10 ^ l.length + nv l := by
  induction l generalizing a with
  | nil => simp [nv]
  | cons x r ih =>
    have e : nv (x :: r) = (0 * 10 + (x - 48)) * 10 ^ r.length + nv r := by
      rw [← ih]; rfl
    rw [List.foldl_cons, ih, e, List.length_cons, Nat.pow_succ]
    generalize 10 ^ r.length = p
    grind

theorem nv_append (l m : List Nat) : nv (l ++ m) = nv l * 10 ^ m.length + nv m := by
  rw [nv, List.foldl_append, nv_foldl m]; rfl

theorem nv_lt {l : List Nat} (h : decs l = true) : nv l < 10 ^ l.length := by
  induction l with
  | nil => simp [nv]
  | cons x r ih =>
    have hx : 48 ≤ x ∧ x ≤ 57 := by simp [decs] at h; omega
    have hr : decs r = true := by simp [decs] at h ⊢; exact h.2
    have h1 := ih hr
    rw [show x :: r = [x] ++ r from rfl, nv_append, List.length_append, Nat.pow_add]
    have e : nv [x] = x - 48 := by simp [nv]
    rw [e]
    have h2 : (x - 48 + 1) * 10 ^ r.length ≤ 10 * 10 ^ r.length := Nat.mul_le_mul_right _ (by omega)
    rw [Nat.add_mul, Nat.one_mul] at h2
    simp only [List.length_cons, List.length_nil, Nat.zero_add, Nat.pow_one]
    omega

theorem dec_step (v b : Nat) (hv : v < 1000000000000000000) (h1 : 48 ≤ b) (h2 : b ≤ 57) : IntKind.u64.wrap (IntKind.u64.wrap ((v : Int) * 10) + ((b : Int) - 48) % 256) = ((v * 10 + (b - 48) : Nat) : Int) := by
  simp only [IntKind.wrap_u64]
  omega

set_option maxHeartbeats 1000000 in
set_option maxRecDepth 100000 in
theorem readDigits (s : ByteArray) (hs : s.size ≤ 19) (hd : decs (sb s) = true) (w : World) :
    Calls Tryz.prog 43 #[.string s] w fun e w' => e = .returned (.int .u64 (nv (sb s) : Int)) ∧ w = w' := by
  have HDD := Lib.hid hd
  clear hd
  go_enter Tryz.func43, Tryz.ntmps43
  go_wp2
  go_loop [3, 7] (fun a i => ∃ (k V : Nat), k ≤ s.size ∧ i = .int .i64 k ∧ a = .int .u64 (V : Int) ∧ Hid (V = nv ((sb s).take k))) (fun _ i => s.size - (intOf i).toNat)
  case atStart => exact ⟨0, 0, Nat.zero_le _, rfl, rfl, Lib.hid rfl⟩
  case round =>
    obtain ⟨k, V, hk, rfl, rfl, hV⟩ := hrel
    by_cases hlt : k < s.size
    · obtain ⟨b, hb⟩ : ∃ b : Nat, s[k].toNat = b := ⟨_, rfl⟩
      have hsn := sb_take_succ s k hlt
      rw [hb] at hsn
      have hdb : 48 ≤ b ∧ b ≤ 57 := by
        have h := decs_take HDD.out (k + 1)
        rw [hsn, decs_snoc] at h
        simp at h; omega
      have hVl : V < 1000000000000000000 := by
        rw [hV.out]
        have h1 := nv_lt (decs_take HDD.out k)
        rw [List.length_take, sb_length, Nat.min_eq_left hk] at h1
        exact Nat.lt_of_lt_of_le h1 (Nat.pow_le_pow_right (by omega) (show k ≤ 18 by omega))
      have R := Lib.hid (dec_step V b hVl hdb.1 hdb.2)
      have HS : Hid (V * 10 + (b - 48) = nv ((sb s).take (k + 1))) := Lib.hid (by rw [hsn, nv_snoc, hV.out])
      have HB := Lib.hid hb
      clear hVl hdb hsn hb
      go_wp2
      go_round
      case rel => exact ⟨k + 1, V * 10 + (b - 48), by omega, by go_num, by first | rfl | (rw [HB.out, R.out]), HS⟩
      case measure => simp [intOf]; omega
    · obtain rfl : k = s.size := by omega
      have HE : Hid (V = nv (sb s)) := Lib.hid (by rw [hV.out, List.take_of_length_le (by rw [sb_length]; exact Nat.le_refl _)])
      go_wp2
      go_ret
      exact ⟨by rw [HE.out]; rfl, rfl⟩

end Go.Proofs.YtmiibcdcnoefgaaGreatDoor
