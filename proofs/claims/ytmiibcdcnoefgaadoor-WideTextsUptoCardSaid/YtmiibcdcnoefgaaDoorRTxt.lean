/- lithophaneref01.Text. -/
import Derived.Test.YtmiibcdcnoefgaaDoorOver
import Derived.Test.YtmiibcdcnoefgaaDoorTxt
namespace Go.Proofs.YtmiibcdcnoefgaaDoor
open Go.RowKit Dg

theorem sb_append (a b : ByteArray) : sb (a ++ b) = sb a ++ sb b := by simp [sb]

theorem digs_ten (m : Nat) : digs 65536 (m % 10) = if m % 10 = 0 then [] else [m % 10] := by
  by_cases h : m % 10 = 0
  · rw [if_pos h, h, digs_zero 65536]
  · rw [if_neg h, digs_pos (by decide) h, Nat.mod_eq_of_lt (by omega), Nat.div_eq_of_lt (by omega), digs_zero 65536]

theorem dl_length_le {n k : Nat} (h : n < 10 ^ k) : (dl n).length ≤ k := by
  induction k generalizing n with
  | zero => rw [show n = 0 by simpa using h, dl_zero]; exact Nat.le_refl _
  | succ k ih =>
    rcases Nat.eq_zero_or_pos n with h0 | h0
    · rw [h0, dl_zero]; simp
    · rw [dl_pos (by omega), List.length_append]
      have := ih (n := n / 10) (by rw [Nat.pow_succ] at h; omega)
      simp; omega

def slen : Value → Nat | .string s => s.size | _ => 0

set_option maxHeartbeats 8000000 in
set_option maxRecDepth 100000 in
theorem rText (ng : Bool) (s : ByteArray) (hs : s.size ≤ 1000) (w : World) :
    Calls Tryd.prog 40 #[.agg #[.bool ng, .string s]] w fun e w' => e = .returned (.string (txt ng (bv (sb s)))) ∧ Tch [] w w' := by
  have hdl : (digs 65536 (bv (sb s))).length ≤ 1000 := Nat.le_trans (digs_len_size s) hs
  have CD := Lib.hid (fun w1 => rdigits ng s w1 (by omega))
  have hdn : (dl (bv (sb s))).length ≤ 3000 := by
    refine Nat.le_trans (dl_length_le (k := 3 * s.size) (Nat.lt_of_lt_of_le (bv_lt (sb_ok s)) ?_)) (by omega)
    rw [sb_length, Nat.pow_mul]
    exact Nat.pow_le_pow_left (by decide) _
  obtain ⟨n, hn⟩ : ∃ n, bv (sb s) = n := ⟨_, rfl⟩
  rw [hn] at CD hdl hdn ⊢
  clear hn hs
  have F := Lib.hid ((Fr.nil w).add (.cells #[.bool ng, .string s] 27) w.heap.size rfl)
  obtain ⟨c0, c1⟩ := F.out.two 0 rfl
  go_enter Tryd.func40, Tryd.ntmps40
  go_wp2_with fail
  refine (CD.out _).mono ?_
  rintro e w1 ⟨⟨v1, rfl, hR⟩, h1⟩
  have F := Lib.hid (F.out.keep h1)
  have HR := Lib.hid (hR.mono (C := w.heap.size) (by simp))
  clear hR h1 c0 c1 CD
  by_cases h0 : n = 0
  · have e1 : txt ng n = ⟨#[48]⟩ := by unfold txt; rw [if_pos h0]
    have E1 := Lib.hid e1
    obtain ⟨A, ca, rfl⟩ := HR.out.slice
    have e2 : (digs 65536 n).length = 0 := by rw [h0, digs_zero]; rfl
    rw [e2]
    clear e1 e2 h0
    go_wp2
    go_ret
    exact ⟨by rw [E1.out]; rfl, F.out.t⟩
  · obtain ⟨A, ca, rfl⟩ := HR.out.slice
    have h0' : 0 < (digs 65536 n).length := List.length_pos_iff.2 (by rw [digs_pos (by decide) h0]; simp)
    have hz : ¬ (((digs 65536 n).length : Int) = 0) := by omega
    have hz2 : (((digs 65536 n).length : Int) == 0) = false := by simpa using hz
    have HN0 := Lib.hid h0
    have HDN := Lib.hid hdn
    have HDL := Lib.hid hdl
    clear h0 hdn hdl
    go_wp2
    go_loopw [3, 4] (fun ux us wr => ∃ (m : Nat) (t : ByteArray) (v : Value), v = ux ∧ us = .string t ∧ m ≤ n ∧ Hid (dl n = dl m ++ sb t) ∧ Hid (Row w.heap.size wr 3 .i64 v (digs 65536 m)) ∧ Hid (Fr w wr [(w.heap.size, .cells #[.bool ng, .string s] 27 (0, 0))])) (fun _ us _ => (dl n).length - slen us)
    case atStart => exact ⟨n, ⟨#[]⟩, _, rfl, rfl, Nat.le_refl _, Lib.hid (by simp [sb]), HR, F⟩
    case round =>
      clear HR F h0' hz hz2
      obtain ⟨m, t, v, rfl, rfl, hmn, hD, hR, hF⟩ := hrel
      obtain ⟨A, ca, rfl⟩ := hR.out.slice
      have hts : t.size ≤ 3000 := by
        have h1 := congrArg List.length hD.out
        rw [List.length_append, sb_length] at h1
        have := HDN.out; omega
      by_cases hm : m = 0
      · subst hm
        have ht : t = bs (dl n) := by
          apply sb_inj
          rw [sb_bs (decs_ok (dl_decs n)), hD.out, dl_zero, List.nil_append]
        rw [digs_zero, List.length_nil]
        obtain ⟨c0, c1⟩ := hF.out.two 0 rfl
        cases ng with
        | false =>
          have E1 : Hid (txt false n = t) := Lib.hid (by unfold txt; rw [if_neg HN0.out, ht]; rfl)
          clear ht hD hR
          go_wp2
          go_ret
          exact ⟨by rw [E1.out]; rfl, hF.out.t⟩
        | true =>
          have E1 : Hid (txt true n = ⟨#[45]⟩ ++ t) := Lib.hid (by unfold txt; rw [if_neg HN0.out, if_pos rfl, ht])
          clear ht hD hR
          go_wp2
          go_ret
          exact ⟨by rw [E1.out]; rfl, hF.out.t⟩
      · have hml : 0 < (digs 65536 m).length := List.length_pos_iff.2 (by rw [digs_pos (by decide) hm]; simp)
        have HML : Hid ((digs 65536 m).length ≤ 1000) := Lib.hid (Nat.le_trans (digs_len_mono hmn) HDL.out)
        have cO := rover A (some ⟨wr.heap.size, 0, none⟩) ca 1 (digs 65536 m) [10] (wr.alloc (.cells #[.int .i64 ((10 : Nat) : Int)] 3)) ((Rd.of_rowA hR.out).kept ((Tch.refl [] wr).alloc _) (by simp) |>.lift (by simp)) (.inr ⟨_, 1, rfl, (own_one wr 10).lt, own_one wr 10⟩) (digs_ok (by decide) m) (Ok.cons (by decide) (Ok.nil _)) (by intro _; simp) (by decide) (by have := HML.out; omega) (by decide)
        rw [dg_digs (by decide), show dg 65536 [10] = 10 from rfl] at cO
        have CO := Lib.hid cO
        have hDm : dl m = dl (m / 10) ++ [48 + m % 10] := dl_pos hm
        have HD2 : Hid (∀ t2 : ByteArray, sb t2 = [48 + m % 10] → dl n = dl (m / 10) ++ sb (t2 ++ t)) := Lib.hid (fun t2 h => by rw [hD.out, hDm, sb_append, h, List.append_assoc])
        have HMS : Hid (∀ t2 : ByteArray, t2.size = 1 → (dl n).length - (t2 ++ t).size < (dl n).length - t.size) := Lib.hid (fun t2 h => by
          have h1 := congrArg List.length hD.out
          rw [hDm] at h1
          simp only [List.length_append, sb_length, List.length_singleton] at h1
          rw [ByteArray.size_append]; omega)
        have HM10 : Hid (m / 10 ≤ n) := Lib.hid (Nat.le_trans (Nat.div_le_self _ _) hmn)
        have hd10 : m % 10 < 10 := Nat.mod_lt _ (by decide)
        clear cO hDm hD hR
        go_wp2_with fail
        refine CO.out.mono ?_
        rintro e w2 ⟨⟨v1, v2, rfl, hR1, hR2⟩, hT2⟩
        have hF2 := hF.out.keep (((Tch.refl [] wr).alloc _).trans hT2 (by simp))
        have hsz := hF.out.t.size
        have HR1 := Lib.hid (hR1.mono (C := w.heap.size) (by simp; omega))
        obtain ⟨d, hd⟩ : ∃ d, m % 10 = d := ⟨_, rfl⟩
        have hcvt : ∀ u : World, (convert 22 9 (.slice (some ⟨u.heap.size, 0, none⟩) 1 1)).run Tryd.prog (u.alloc (.cells #[.int .u8 ((48 + d : Nat) : Int)] 5)) = .ok (.string (bs [48 + d])) (u.alloc (.cells #[.int .u8 ((48 + d : Nat) : Int)] 5)) := by
          intro u
          have W : Win (u.alloc (.cells #[.int .u8 ((48 + d : Nat) : Int)] 5)) 5 .u8 u.heap.size 0 [] [48 + d] [] := ⟨Below.heap_alloc_new' u _, rfl⟩
          exact conv_pre W 1 1 (by simp)
        rw [hd] at hd10 HD2
        have HD3 := Lib.hid (HD2.out (bs [48 + d]) (sb_bs (by intro x hx; simp at hx; omega)))
        have HM3 := Lib.hid (HMS.out (bs [48 + d]) (by rw [bs_size]; rfl))
        have hb1 : (bs [48 + d]).size = 1 := by rw [bs_size]; rfl
        have hF3 : ∀ o : Obj, Fr w (w2.alloc o) [(w.heap.size, .cells #[.bool ng, .string s] 27 (0, 0))] := fun o => hF2.keep ((Tch.refl [] w2).alloc o)
        have HF3 := Lib.hid hF3
        rw [digs_ten, hd] at hR2
        obtain ⟨T1, hT1⟩ : ∃ T1, bs [48 + d] = T1 := ⟨_, rfl⟩
        rw [hT1] at hcvt HD3 HM3 hb1
        obtain ⟨A1, c1, rfl⟩ := HR1.out.slice
        clear hR1 hT2 hF hF2 hF3 hsz HD2 HMS CO hT1
        by_cases hd0 : d = 0
        · subst hd0
          rw [if_pos rfl] at hR2
          obtain ⟨A2, c2, rfl⟩ := hR2.slice
          have hcv := hcvt w2
          rw [show ((48 + 0 : Nat) : Int) = 48 from rfl] at hcv
          rw [List.length_nil]
          clear hR2 hcvt
          go_wp2
          exact ⟨⟨m / 10, T1 ++ t, _, rfl, rfl, HM10.out, HD3, Lib.hid (HR1.out.kept ((Tch.refl [] w2).alloc _)), Lib.hid (HF3.out _)⟩, HM3.out⟩
        · rw [if_neg hd0] at hR2
          obtain ⟨A2, c2, rfl⟩ := hR2.slice
          obtain ⟨g2, rfl, _, x, ex, cx⟩ := hR2.read (j := 0) (by simp)
          have hx : d = x := by simpa using ex.out
          subst hx
          have hcv := hcvt w2
          rw [show ((48 + d : Nat) : Int) = 48 + (d : Int) from by omega] at hcv
          rw [show [d].length = 1 from rfl]
          clear hR2 hcvt ex
          go_wp2
          exact ⟨⟨m / 10, T1 ++ t, _, rfl, rfl, HM10.out, HD3, Lib.hid (HR1.out.kept ((Tch.refl [] w2).alloc _)), Lib.hid (HF3.out _)⟩, HM3.out⟩

end Go.Proofs.YtmiibcdcnoefgaaDoor
