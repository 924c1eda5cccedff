/- wide.Sign, wide.From, wide.Neg. -/
import Derived.Test.YtpedbahppkimbaaDoorEncode
import Derived.Test.YtpedbahppkimbaaDoorWord
namespace Go.Proofs.YtpedbahppkimbaaDoor
open Go.RowKit Dg

theorem sb_inj {a b : ByteArray} (h : sb a = sb b) : a = b := by rw [← str_sb a, ← str_sb b, h]

theorem cell_kept0 {w w' : World} {a : Addr} {v : Value} (hc : w.cell? a = some v) (h : Tch [] w w') : w'.cell? a = some v :=
  (World.cell?_of_block (w := w) (h.block a.block (World.block_lt_of_cell? w a hc) (by simp))).trans hc

theorem mg_nil {s : ByteArray} (h : bv (sb s) = 0) : (mg s).toList = [] := by
  rw [ByteArray.toList_eq]
  have h1 : (sb (mg s)).reverse = [] := by
    have h2 := trim_mg s
    have h3 : dg 256 (sb (mg s)).reverse = 0 := by rw [← bv_mg] at h; exact h
    by_cases hn : (sb (mg s)).reverse = []
    · exact hn
    · exact absurd h3 (dg_ne_zero (by omega) h2 hn)
  have h2 : sb (mg s) = [] := by simpa using h1
  simpa [sb] using h2

theorem mg_cons {s : ByteArray} (h : bv (sb s) ≠ 0) : (mg s).toList ≠ [] := by
  rw [ByteArray.toList_eq]
  intro h1
  apply h
  rw [← bv_mg]
  simp only [sb, h1]; rfl

/-- The sign of a number. -/
def sgn (ng : Bool) (n : Nat) : Int := if n = 0 then 0 else if ng then -1 else 1

set_option maxHeartbeats 1000000 in
set_option maxRecDepth 100000 in
theorem Sign (ng : Bool) (s : ByteArray) (w : World) :
    Calls Tryd.prog 19 #[.agg #[.bool ng, .string s]] w fun e w' => e = .returned (.int .i64 (sgn ng (bv (sb s)))) ∧ Tch [] w w' := by
  have CM := Lib.hid (fun w1 => magnitude ng s w1)
  go_enter Tryd.func19, Tryd.ntmps19
  go_wp2_with fail
  refine (CM.out _).mono ?_
  rintro e w1 ⟨rfl, hT⟩
  have hc : (w.alloc (.cells #[.bool ng, .string s] 36)).cell? ⟨w.heap.size, 0, none⟩ = some (.bool ng) := by simp
  have c0 := cell_kept0 hc hT
  have hT1 := Lib.hid (((Tch.refl [] w).alloc _).trans hT (by simp))
  clear hc hT
  by_cases hz : bv (sb s) = 0
  · have HZ := Lib.hid hz
    have h1 := mg_nil hz
    have h2 : (mg s).toList.isEmpty = true := by rw [h1]; rfl
    clear hz
    go_wp2
    go_ret
    exact ⟨by unfold sgn; rw [if_pos HZ.out]; rfl, hT1.out⟩
  · have HZ := Lib.hid hz
    have h1 : ((mg s).toList == []) = false := by simpa using mg_cons hz
    have h2 : (mg s).toList.isEmpty = false := by simpa using mg_cons hz
    clear hz
    cases ng with
    | true =>
      go_wp2
      go_ret
      exact ⟨by unfold sgn; rw [if_neg HZ.out]; rfl, hT1.out⟩
    | false =>
      go_wp2
      go_ret
      exact ⟨by unfold sgn; rw [if_neg HZ.out]; rfl, hT1.out⟩

theorem win_one (w : World) (x : Nat) : Win (w.alloc (.cells #[.int .u64 (x : Int)] 56)) 56 .u64 w.heap.size 0 [] [x] [] := ⟨Below.heap_alloc_new' w _, rfl⟩

theorem dg_one (x : Nat) : dg BB [x] = x := by simp [dg]

set_option maxHeartbeats 1000000 in
set_option maxRecDepth 100000 in
theorem From (n : Int) (h1 : -9223372036854775808 ≤ n) (h2 : n ≤ 9223372036854775807) (w : World) :
    Calls Tryd.prog 26 #[.int .i64 n] w fun e w' => e = .returned (wv (decide (n < 0)) n.natAbs) ∧ Tch [] w w' := by
  obtain ⟨x, hx⟩ : ∃ x, x = n.natAbs := ⟨_, rfl⟩
  have hxb : x < BB := by rw [BB_eq]; omega
  have HX := Lib.hid hx
  have r1 : n < 0 → IntKind.u64.wrap (-(IntKind.u64.wrap n)) = (x : Int) := by intro h; simp only [IntKind.wrap_u64]; omega
  have r2 : 0 ≤ n → IntKind.u64.wrap n = (x : Int) := by intro h; simp only [IntKind.wrap_u64]; omega
  obtain ⟨bz, sz, ez⟩ : ∃ bz sz, wv (decide (n < 0)) x = .agg #[.bool bz, .string sz] := by
    unfold wv
    split
    · exact ⟨_, _, rfl⟩
    · exact ⟨_, _, rfl⟩
  have hE := fun g cap w1 hW => encode (decide (n < 0)) g cap 0 [] [] [x] w1 (Ok.cons hxb (Ok.nil _)) (by simp) hW
  have HE := Lib.hid hE
  obtain ⟨w0, hw0⟩ : ∃ w0, w0 = w.alloc (.cells #[.bool false, .string ⟨#[]⟩] 36) := ⟨_, rfl⟩
  have hT0 : Tch [] w w0 := by rw [hw0]; exact (Tch.refl [] w).alloc _
  have hB0 : w0.heap[w.heap.size]? = some (.cells #[.bool false, .string ⟨#[]⟩] 36 (0, 0)) := by rw [hw0]; exact Below.heap_alloc_new' w _
  have hE1 := HE.out w0.heap.size 1 (w0.alloc (.cells #[.int .u64 (x : Int)] 56)) (by simp) (win_one w0 x)
  rw [dg_one, ez] at hE1
  have hsz : w0.heap.size = w.heap.size + 1 := by rw [hw0]; simp
  rw [hsz, hw0] at hE1
  rw [hw0] at hT0 hB0
  have HE1 := Lib.hid hE1
  have HZ := Lib.hid ez
  have HB := Lib.hid hB0
  have HT0 := Lib.hid hT0
  clear hE ez hE1 hxb hB0 hT0 hsz hw0 HE w0
  have fin : ∀ w1, Tch [] ((w.alloc (.cells #[.bool false, .string ⟨#[]⟩] 36)).alloc (.cells #[.int .u64 (x : Int)] 56)) w1 → w1.cell? ⟨w.heap.size, 0, none⟩ = some (.bool false) ∧ w1.cell? ⟨w.heap.size, 1, none⟩ = some (.string ⟨#[]⟩) ∧ w1.frozen? ⟨w.heap.size, 0, none⟩ = false ∧ w1.frozen? ⟨w.heap.size, 1, none⟩ = false ∧ Tch [] w w1 := by
    intro w1 h
    have h1 : Tch [] (w.alloc (.cells #[.bool false, .string ⟨#[]⟩] 36)) w1 := ((Tch.refl [] _).alloc _).trans h (by simp)
    have hb := (h1.block w.heap.size (by simp) (by simp)).trans HB.out
    exact ⟨by rw [cell_of_row _ _ _ _ _ _ hb]; rfl, by rw [cell_of_row _ _ _ _ _ _ hb]; rfl, frozen_of_row _ _ _ _ _ hb, frozen_of_row _ _ _ _ _ hb, HT0.out.trans h1 (by simp)⟩
  have FIN := Lib.hid fin
  clear fin
  rcases (show n < 0 ∨ 0 ≤ n from by omega) with hn | hn
  · have R := r1 hn
    have hd : decide (n < 0) = true := by simpa using hn
    rw [hd] at HE1
    have HD := Lib.hid hd
    clear r1 r2 hd hx
    go_enter Tryd.func26, Tryd.ntmps26
    go_wp2_with fail
    refine HE1.out.mono ?_
    rintro e w1 ⟨rfl, hT⟩
    obtain ⟨c0, c1, f0, f1, hT1⟩ := FIN.out w1 hT
    clear hT
    go_wp2
    refine bodyPost_ret (v := .agg #[.bool bz, .string sz]) (by simp [results, Tryd.results26, go_sem, c0, c1]) rfl ⟨?_, ?_⟩
    · rw [← HX.out, HZ.out]
    · exact (hT1.setCell (.inr (by simp)) _).setCell (.inr (by simp)) _
  · have R := r2 hn
    have hd : decide (n < 0) = false := by simpa using hn
    rw [hd] at HE1
    have HD := Lib.hid hd
    have hnx : n = (x : Int) := by omega
    clear r1 r2 hd hx R
    subst hnx
    go_enter Tryd.func26, Tryd.ntmps26
    go_wp2_with fail
    refine HE1.out.mono ?_
    rintro e w1 ⟨rfl, hT⟩
    obtain ⟨c0, c1, f0, f1, hT1⟩ := FIN.out w1 hT
    clear hT
    go_wp2
    refine bodyPost_ret (v := .agg #[.bool bz, .string sz]) (by simp [results, Tryd.results26, go_sem, c0, c1]) rfl ⟨?_, ?_⟩
    · rw [← HX.out, HZ.out]
    · exact (hT1.setCell (.inr (by simp)) _).setCell (.inr (by simp)) _

end Go.Proofs.YtpedbahppkimbaaDoor
