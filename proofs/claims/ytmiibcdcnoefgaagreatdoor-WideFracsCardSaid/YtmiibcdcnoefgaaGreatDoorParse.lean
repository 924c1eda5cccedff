/- wide.Parse. -/
import Derived.Test.YtmiibcdcnoefgaaGreatDoorChunk
import Derived.Test.YtmiibcdcnoefgaaGreatDoorDec
import Derived.Test.YtmiibcdcnoefgaaGreatDoorRoot
namespace Go.Proofs.YtmiibcdcnoefgaaGreatDoor
open Go.RowKit Dg

/-- What Parse answers, of the digits d behind the sign. -/
def parV (neg : Bool) (l : List Nat) : Value :=
  if decs l = true ∧ l ≠ [] then .tuple #[wv neg (nv l), .bool true] else .tuple #[.agg #[.bool false, .string ⟨#[]⟩], .bool false]

/-- The digits l, of which those of t are left; X holds the number of the others. -/
structure PsInv (l : List Nat) (t : ByteArray) (X : List Nat) : Prop where
  ok : Ok BB X
  dec : decs (sb t) = true
  some : ∃ P, l = P ++ sb t ∧ dg BB X = nv P ∧ X.length ≤ P.length ∧ (P = [] ∨ t.size % 19 = 0)

theorem PsInv.step {l : List Nat} {t : ByteArray} {X zs : List Nat} {z : Nat} (h : PsInv l t X) (hz : z = (t.size - 1) % 19 + 1) (h0 : 0 < t.size) (hok : Ok BB zs) (hv : dg BB zs = 10000000000000000000 * dg BB X + nv (sb (t.extract 0 z))) (hl : zs.length ≤ X.length + 1) :
    PsInv l (t.extract z t.size) zs := by
  obtain ⟨P, h1, h2, h3, h4⟩ := h.some
  have e1 : sb (t.extract 0 z) = (sb t).take z := by rw [sb_extract, List.drop_zero]
  have e2 : sb (t.extract z t.size) = (sb t).drop z := by rw [sb_extract, List.take_of_length_le (by rw [sb_length]; exact Nat.le_refl _)]
  have hlt : ((sb t).take z).length = z := by rw [List.length_take, sb_length]; omega
  refine ⟨hok, by rw [e2]; exact decs_drop h.dec z, P ++ (sb t).take z, ?_, ?_, ?_, ?_⟩
  · rw [e2, List.append_assoc, List.take_append_drop]; exact h1
  · rw [hv, e1, nv_append, hlt, h2]
    rcases h4 with h4 | h4
    · rw [h4]; simp [nv]
    · rw [show z = 19 from by omega, Nat.mul_comm]
  · rw [List.length_append, hlt]; omega
  · right
    rw [← sb_length, e2, List.length_drop, sb_length]
    omega

theorem dec_lt_BB {t : ByteArray} (h : decs (sb t) = true) (hs : t.size ≤ 19) : nv (sb t) < BB := by
  have h1 := nv_lt h
  rw [sb_length] at h1
  exact Nat.lt_of_lt_of_le h1 (Nat.le_trans (Nat.pow_le_pow_right (by omega) hs) (by decide))

set_option maxHeartbeats 4000000 in
set_option maxRecDepth 100000 in
theorem Parse (s d : ByteArray) (neg : Bool) (w : World) (hs : d.size ≤ 400000) (hd : d = ⟨(Lib.trimPrefix s.data.toList [45]).toArray⟩) (hn : neg = Lib.hasPrefix s.data.toList [45]) :
    Calls Tryz.prog 18 #[.string s] w fun e w' => e = .returned (parV neg (sb d)) ∧ Tch [] w w' := by
  have CP := fun w1 => Tryz.strings_CutPrefix s ⟨#[45]⟩ w1
  have CQ : ∀ w1, Calls Tryz.prog 40 #[.string s, .string ⟨#[45]⟩] w1 fun e w' => e = .returned (.tuple #[.string d, .bool neg]) ∧ w' = w1 := by
    intro w1; rw [hd, hn]; exact CP w1
  have HCQ := Lib.hid CQ
  clear CP CQ hd hn
  have CI := Lib.hid (fun w1 => isDecimal d (by omega) w1)
  go_enter Tryz.func18, Tryz.ntmps18
  go_wp2_with fail
  refine (HCQ.out _).mono ?_
  rintro e w1 ⟨rfl, rfl⟩
  go_wp2_with fail
  refine (CI.out _).mono ?_
  rintro e w1 ⟨rfl, rfl⟩
  obtain ⟨A, hA⟩ : ∃ A, A = w.heap.size := ⟨_, rfl⟩
  obtain ⟨w0, hw0⟩ : ∃ w0, w0 = w.alloc (.cells #[.bool false, .string ⟨#[]⟩] 28) := ⟨_, rfl⟩
  have hB0 : w0.heap[A]? = some (.cells #[.bool false, .string ⟨#[]⟩] 28 (0, 0)) := by rw [hw0, hA]; exact Below.heap_alloc_new' w _
  have hT0 : Tch [] w w0 := by rw [hw0]; exact (Tch.refl [] w).alloc _
  have hz0 : w0.heap.size = A + 1 := by rw [hw0, hA]; simp
  rw [← hw0, ← hA]
  have fin : ∀ w1, Tch [] w0 w1 → w1.cell? ⟨A, 0, none⟩ = some (.bool false) ∧ w1.cell? ⟨A, 1, none⟩ = some (.string ⟨#[]⟩) ∧ w1.frozen? ⟨A, 0, none⟩ = false ∧ w1.frozen? ⟨A, 1, none⟩ = false ∧ Tch [] w w1 := by
    intro w1 h
    have hb := (h.block A (by omega) (by simp)).trans hB0
    exact ⟨by rw [cell_of_row _ _ _ _ _ _ hb]; rfl, by rw [cell_of_row _ _ _ _ _ _ hb]; rfl, frozen_of_row _ _ _ _ _ hb, frozen_of_row _ _ _ _ _ hb, hT0.trans h (by simp)⟩
  have FIN := Lib.hid fin
  have HA := Lib.hid hA
  have HZ := Lib.hid hz0
  clear fin hB0 hT0 hz0 hw0 hA
  by_cases hc : decs (sb d) = true ∧ 0 < d.size
  · have hcb : (decs (sb d) && decide (0 < d.size)) = true := by simp [hc.1, hc.2]
    rw [hcb]
    obtain ⟨bz, sz, ez⟩ := wv_agg neg (nv (sb d))
    have HV : Hid (parV neg (sb d) = .tuple #[.agg #[.bool bz, .string sz], .bool true]) := Lib.hid (by
      unfold parV
      rw [if_pos ⟨hc.1, fun h => by have := sb_length d; rw [h] at this; simp at this; omega⟩, ez])
    have EZ := Lib.hid ez
    have hI0 : PsInv (sb d) d [] := ⟨Ok.nil _, hc.1, [], rfl, by simp [dg, nv], Nat.le_refl _, .inl rfl⟩
    have HI0 := Lib.hid hI0
    have HDL := Lib.hid (sb_length d)
    clear hcb hc ez hI0
    go_wp2_with fail
    refine (newWords _).mono ?_
    rintro e w2 ⟨g, rfl, hO, hg, hT2⟩
    have HO := Lib.hid hO
    have HT2 := Lib.hid hT2
    clear hO hT2
    go_wp2
    go_loopw [4, 6] (fun ds x wr => ∃ (t : ByteArray) (g cap : Nat) (X : List Nat), ds = .string t ∧ x = .slice (some ⟨g, 0, none⟩) X.length cap ∧ PsInv (sb d) t X ∧ Own wr 56 .u64 g cap X ∧ w0.heap.size ≤ g ∧ Tch [] w0 wr) (fun ds _ _ => match ds with | .string t => t.size | _ => 0)
    case atStart => exact ⟨d, g, 8, [], rfl, rfl, HI0.out, HO.out, hg, HT2.out⟩
    case round =>
      clear HO HT2 hg HI0
      obtain ⟨t, g, cap, X, rfl, rfl, hI, hO, hg, hT⟩ := hrel
      have hts : t.size ≤ d.size := by
        obtain ⟨P, h1, _⟩ := hI.some
        have h2 := congrArg List.length h1
        rw [List.length_append, sb_length, sb_length] at h2
        omega
      have hXl : X.length ≤ d.size := by
        obtain ⟨P, h1, _, h3, _⟩ := hI.some
        have h2 := congrArg List.length h1
        rw [List.length_append, sb_length, sb_length] at h2
        omega
      by_cases h0 : 0 < t.size
      · obtain ⟨z, hz⟩ : ∃ z, z = (t.size - 1) % 19 + 1 := ⟨_, rfl⟩
        have hzi : ((t.size : Int) - 1) % 19 + 1 = (z : Int) := by omega
        have hz19 : z ≤ 19 := by omega
        have hzt : z ≤ t.size := by omega
        have hdc : decs (sb (t.extract 0 z)) = true := by rw [sb_extract, List.drop_zero]; exact decs_take hI.dec z
        have hsz : (t.extract 0 z).size ≤ 19 := by rw [← sb_length, sb_extract, List.length_drop, List.length_take]; omega
        have CR := Lib.hid (fun w1 => readDigits (t.extract 0 z) hsz hdc w1)
        have hcb := dec_lt_BB hdc hsz
        have HST := Lib.hid (fun zs h1 h2 h3 => hI.step (zs := zs) hz h0 h1 h2 h3)
        have CC := Lib.hid (fun w1 h => appendChunk g cap X (nv (sb (t.extract 0 z))) w1 hI.ok (by omega) hcb h)
        have HI := Lib.hid hI
        have HMS : Hid ((t.extract z t.size).size < t.size) := Lib.hid (by rw [← sb_length, sb_extract, List.length_drop, List.length_take, sb_length]; omega)
        obtain ⟨t1, ht1⟩ : ∃ t1, t1 = t.extract 0 z := ⟨_, rfl⟩
        rw [← ht1] at CR CC HST
        have HT1 := Lib.hid ht1
        clear hdc hsz hcb hI ht1 hz
        go_wp2_with fail
        rw [← HT1.out]
        refine (CR.out _).mono ?_
        rintro e w3 ⟨rfl, rfl⟩
        have CC2 := Lib.hid (CC.out _ hO)
        clear hO
        go_wp2_with fail
        refine CC2.out.mono ?_
        rintro e w4 ⟨v, zs, rfl, hzo, hzv, hzl, g4, cap4, rfl, hO4, hg4, hT4⟩
        have HI4 := Lib.hid (HST.out zs hzo hzv hzl)
        have HO4 := Lib.hid hO4
        have hT5 : Tch [] w0 w4 := hT.trans hT4 (by intro k hk; rw [List.mem_singleton] at hk; exact .inr (by omega))
        have hg5 : w0.heap.size ≤ g4 := by
          have hs1 := hT.size
          rw [List.mem_singleton] at hg4
          rcases hg4 with e | e <;> omega
        have HT5 := Lib.hid hT5
        clear hzo hzv hzl hO4 hg4 hT4 hT5 CC2 CC CR HST
        go_wp2
        go_roundw
        case rel => exact ⟨t.extract z t.size, g4, cap4, zs, rfl, rfl, HI4.out, HO4.out, hg5, HT5.out⟩
        case measure => exact HMS.out
      · have hX : dg BB X = nv (sb d) := by
          obtain ⟨P, h1, h2, _⟩ := hI.some
          have h3 : sb t = [] := List.eq_nil_of_length_eq_zero (by rw [sb_length]; omega)
          rw [h3, List.append_nil] at h1
          rw [h2, h1]
        have ht0 : t.size = 0 := by omega
        obtain ⟨rest, Wx⟩ := hO.win
        have CE := fun w1 h => encode neg g cap 0 [] rest X w1 hI.ok (by omega) hO.le h
        rw [hX, EZ.out] at CE
        have HCE := Lib.hid CE
        clear hX CE hI hO h0
        go_wp2_with fail
        refine (HCE.out _ Wx).mono ?_
        rintro e w3 ⟨rfl, hT3⟩
        obtain ⟨c0, c1, f0, f1, hT9⟩ := FIN.out w3 (hT.trans hT3 (by simp))
        clear hT3 Wx
        go_wp2
        refine bodyPost_ret (v := .tuple #[.agg #[.bool bz, .string sz], .bool true]) (by simp [results, Tryz.results18, go_sem, c0, c1]) rfl ⟨by rw [HV.out], ?_⟩
        have hAe := HA.out
        exact (hT9.setCell (.inr (by simp; omega)) _).setCell (.inr (by simp; omega)) _
  · have hcb : (decs (sb d) && decide (0 < d.size)) = false := by simpa using hc
    rw [hcb]
    have HV : Hid (parV neg (sb d) = .tuple #[.agg #[.bool false, .string ⟨#[]⟩], .bool false]) := Lib.hid (by
      unfold parV
      refine if_neg ?_
      rintro ⟨h1, h2⟩
      exact hc ⟨h1, by rw [← sb_length]; exact List.length_pos_iff.2 h2⟩)
    obtain ⟨c0, c1, f0, f1, hT9⟩ := FIN.out w0 (Tch.refl [] w0)
    clear hcb hc
    go_wp2
    refine bodyPost_ret (v := .tuple #[.agg #[.bool false, .string ⟨#[]⟩], .bool false]) (by simp [results, Tryz.results18, go_sem, c0, c1]) rfl ⟨by rw [HV.out], ?_⟩
    have hAe := HA.out
    exact (hT9.setCell (.inr (by simp; omega)) _).setCell (.inr (by simp; omega)) _

end Go.Proofs.YtmiibcdcnoefgaaGreatDoor
