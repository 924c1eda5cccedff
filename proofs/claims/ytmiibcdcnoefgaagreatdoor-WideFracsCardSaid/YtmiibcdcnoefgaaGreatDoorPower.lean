/- wide.powerOfTwo, wide.bitLength. -/
import Derived.Test.YtmiibcdcnoefgaaGreatDoorWords
import Derived.Deep.OwnRows
namespace Go.Proofs.YtmiibcdcnoefgaaGreatDoor
open Go.RowKit Dg

theorem madeCells_list (z : Value) (n : Nat) : (madeCells #[z] n).toList = List.replicate n z := by
  apply List.ext_getElem
  · simp [madeCells]
  · intro i h1 h2
    simp [madeCells, Nat.mod_one]

/-- A row made with room behind it. -/
theorem own_made (w : World) (T : TypeId) (k : IntKind) (n c : Nat) (h : n ≤ c) (hc : c ≤ maxLen) : Own (w.alloc (.cells (madeCells #[.int k 0] c) T)) T k w.heap.size c (List.replicate n 0) := by
  refine Own.of_row (Below.heap_alloc_new' w _) (size_madeCells _ _) hc ?_ (by simpa using h)
  rw [madeCells_list, ints_replicate, List.length_replicate, List.take_replicate, Nat.min_eq_left h]

set_option maxHeartbeats 1000000 in
set_option maxRecDepth 100000 in
theorem powerOfTwo (q r : Nat) (hr : r < 64) (hq : q ≤ 1000000) (w : World) :
    Calls Tryz.prog 70 #[.int .i64 ((64 * q + r : Nat) : Int)] w (DecPost w (List.replicate q 0 ++ [2 ^ r])) := by
  obtain ⟨i0, hi, hz0, hz1, hz2⟩ := info_parts info_u64
  obtain ⟨E, hE⟩ : ∃ E : Int, E = ((64 * q + r : Nat) : Int) := ⟨_, rfl⟩
  have hE0 : 0 ≤ E := by omega
  have hE1 : E < 100000000 := by omega
  have hEq : E / 64 = (q : Int) := by omega
  have hEr : E % 64 = (r : Int) := by omega
  have hmk : ∀ w, (Instr.makeSlice 52 (.int .i64 (q : Int)) (.int .i64 ((q : Int) + 1))).run Tryz.prog w = .ok (.slice (some ⟨w.heap.size, 0, none⟩) q (q + 1)) (w.alloc (.cells (madeCells #[.int .u64 0] (q + 1)) 56)) := by
    intro w
    have h := run_make (P := Tryz.prog) w 52 56 i0 _ Tryz.underlying52 hi hz0 .i64 .i64 (q : Int) ((q : Int) + 1) (by omega) (by omega) (by rw [hz2]; omega) (by omega)
    rw [hz1, Nat.mul_one, Int.toNat_natCast, show ((q : Int) + 1).toNat = q + 1 from by omega] at h
    exact h
  rw [← hE]
  clear hE
  obtain ⟨p, hp⟩ : ∃ p, p = 2 ^ r := ⟨_, rfl⟩
  have hpb : p < BB := by rw [hp, BB_eq]; exact Nat.lt_of_lt_of_le (Nat.pow_lt_pow_right (by omega) hr) (by decide)
  have hpw : IntKind.u64.wrap (2 ^ r) = (p : Int) := by
    have : ((2 : Int) ^ r) = ((p : Nat) : Int) := by rw [hp]; exact (Int.natCast_pow 2 r).symm
    rw [this, IntKind.wrap_u64]; rw [BB_eq] at hpb; omega
  rw [← hp]
  have hown := ((own_made w 56 .u64 q (q + 1) (by omega) (by unfold maxLen; omega)).kept ((Tch.refl [] _).alloc (.cells #[.int .u64 (p : Int)] 56)) (by simp))
  clear hp hpb
  go_enter Tryz.func70, Tryz.ntmps70
  go_wp2_with (at_builtin; refine wpList_app_one _ rfl _ _ 52 rfl 56 .u64 i0 Tryz.underlying52 hi hz0 hz1 (by omega) w.heap.size (q + 1) q (List.replicate q 0) hown (by simp) rfl ⟨w.heap.size + 1, 0, none⟩ 1 p rfl (by simp) (by omega) ?_)
  intro v' w3 happ
  obtain ⟨g2, cap2, rfl, hO2, hg2, hT2⟩ := happ
  have HO2 := Lib.hid hO2
  clear hO2 hown
  go_wp2
  go_ret
  have hs : (w.alloc (.cells (madeCells #[.int .u64 0] (q + 1)) 56)).heap.size = w.heap.size + 1 := by simp
  refine ⟨g2, cap2, rfl, HO2.out, ?_, ?_⟩
  · rcases hg2 with h | h
    · omega
    · simp at h; omega
  · exact (((Tch.refl [] w).alloc _).alloc _).trans hT2 (by simp)

set_option maxHeartbeats 1000000 in
set_option maxRecDepth 100000 in
theorem bitLength (gx ox capx n : Nat) (pre post : List Value) (xs : List Nat) (w : World) (hx : Ok BB xs) (hb : xs.length ≤ 1000000) (hn : xs.length = n + 1) (hX : Win w 56 .u64 gx ox pre xs post) :
    Calls Tryz.prog 71 #[.slice (some ⟨gx, ox, none⟩) (n + 1) capx] w fun e w' => e = .returned (.int .i64 ((64 * n + Lib.bitLen (xs.getD n 0) : Nat) : Int)) ∧ Tch [] w w' := by
  obtain ⟨x, hxv, hc⟩ := hX.read (j := n) (by omega)
  have hxb : x < BB := by rw [← hxv.out]; exact hx.getD (by decide) n
  have HC := Lib.hid (fun w1 => Tryz.bits_Len64 (x : Int) w1 (by omega) (by rw [BB_eq] at hxb; omega))
  have hl : Lib.bitLen x ≤ 64 := Lib.bitLen_le x 64 (Nat.le_refl _) hxb
  have hnn : ((n : Int) + 1 - 1) = n := by omega
  rw [hxv.out]
  obtain ⟨bl, hbl⟩ : ∃ bl, bl = Lib.bitLen x := ⟨_, rfl⟩
  rw [show (x : Int).toNat = x from by omega, ← hbl] at HC
  rw [← hbl] at hl ⊢
  clear hbl hX hxv hx
  go_enter Tryz.func71, Tryz.ntmps71
  go_wp2_with fail
  refine (HC.out _).mono ?_
  rintro e w1 ⟨rfl, rfl⟩
  go_wp2
  go_ret
  exact ⟨by first | rfl | (congr 2; omega), (Tch.refl [] _).drewN 0⟩

end Go.Proofs.YtmiibcdcnoefgaaGreatDoor
