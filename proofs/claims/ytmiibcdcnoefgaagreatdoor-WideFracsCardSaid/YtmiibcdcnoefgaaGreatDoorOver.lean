/- lithophaneref01.by, lithophaneref01.over: the reference's long division. -/
import Derived.Test.YtmiibcdcnoefgaaGreatDoorRef
import Derived.Test.YtmiibcdcnoefgaaGreatDoorPlus
import Derived.Deep.LoopGhost
namespace Go.Proofs.YtmiibcdcnoefgaaGreatDoor.Dg

/-- The digits from the j-th one on are divided by Y. -/
structure OvInv (Y : Nat) (xs : List Nat) (j : Nat) (Q : List Nat) (R : Nat) : Prop where
  len : Q.length = xs.length
  ok : Ok 65536 Q
  val : dg 65536 (xs.drop j) = dg 65536 (Q.drop j) * Y + R
  lt : R < Y

theorem OvInv.start {Y : Nat} (hY : 0 < Y) (xs : List Nat) : OvInv Y xs xs.length (List.replicate xs.length 0) 0 :=
  ⟨by simp, Ok.replicate _ (by decide), by rw [List.drop_length, List.drop_of_length_le (by simp)]; simp [dg], hY⟩

theorem Ok.set' {b : Nat} {xs : List Nat} (h : Ok b xs) (j z : Nat) (hz : z < b) : Ok b (xs.set j z) := by
  intro y hy
  rcases List.mem_or_eq_of_mem_set hy with h1 | h1
  · exact h y h1
  · omega

theorem OvInv.step {Y : Nat} {xs Q : List Nat} {j R T q : Nat} (h : OvInv Y xs (j + 1) Q R) (hj : j < xs.length) (hT : T = xs.getD j 0 + 65536 * R) (h1 : Y * q ≤ T) (h2 : T < Y * (q + 1)) (hq : q < 65536) : OvInv Y xs j (Q.set j q) (T - Y * q) := by
  have e1 := dg_drop 65536 xs j hj
  have e2 : (Q.set j q).drop j = q :: Q.drop (j + 1) := by
    rw [drop_eq_getD_cons _ j (by rw [List.length_set, h.len]; exact hj)]
    congr 1
    · rw [List.getD, List.getElem?_set_self (by rw [h.len]; exact hj)]; rfl
    · exact List.drop_set_of_lt (by omega)
  refine ⟨by rw [List.length_set]; exact h.len, h.ok.set' j q hq, ?_, ?_⟩
  · rw [e1, h.val, e2, dg_cons, Nat.mul_add, Nat.add_mul]
    have e3 : 65536 * (dg 65536 (Q.drop (j + 1)) * Y) = 65536 * dg 65536 (Q.drop (j + 1)) * Y := by rw [Nat.mul_assoc]
    rw [e3, Nat.mul_comm q Y]
    omega
  · rw [Nat.mul_add, Nat.mul_one] at h2; omega

theorem digs_len_mono {a c : Nat} (h : a ≤ c) : (digs 65536 a).length ≤ (digs 65536 c).length := by
  refine digs_length_le (by decide) (Nat.lt_of_le_of_lt h ?_)
  have := dg_lt (digs_ok (b := 65536) (by decide) c)
  rwa [dg_digs (by decide)] at this

theorem cut_cons {R x : Nat} (hx : x < 65536) : cut (x :: digs 65536 R) = digs 65536 (x + 65536 * R) := by
  rw [cut_eq (b := 65536) (by decide) (Ok.cons hx (digs_ok (by decide) R)), dg_cons, dg_digs (by decide)]
end Go.Proofs.YtmiibcdcnoefgaaGreatDoor.Dg

namespace Go.Proofs.YtmiibcdcnoefgaaGreatDoor
open Go.RowKit Dg

theorem Row.keptS {B : Nat} {w w' : World} {T : TypeId} {k : IntKind} {v : Value} {xs : List Nat} {S : List Nat} (h : Row B w T k v xs) (t : Tch S w w') (hS : ∀ g ∈ S, g < B) : Row B w' T k v xs := by
  rcases h with h | ⟨g, cap, h1, h2, h3⟩
  · exact .inl h
  · exact .inr ⟨g, cap, h1, h2, h3.kept t (fun hg => by have := hS g hg; omega)⟩

theorem Own.put {w : World} {T : TypeId} {k : IntKind} {g cap : Nat} {xs : List Nat} (h : Own w T k g cap xs) {j : Nat} (hj : j < xs.length) :
    (∃ u, w.cell? ⟨g, j, none⟩ = some u) ∧ w.frozen? ⟨g, j, none⟩ = false ∧ ∀ z : Nat, Own (w.setCell ⟨g, j, none⟩ (.int k (z : Int))) T k g cap (xs.set j z) := by
  obtain ⟨r, W⟩ := h.win
  have hc := W.cell hj
  rw [Nat.zero_add] at hc
  refine ⟨⟨_, hc⟩, W.frozen j, fun z => ?_⟩
  have W2 := W.set hj z
  rw [Nat.zero_add] at W2
  exact h.again W W2 (by simp)

/-- 'append([]int{x}, r...)'. -/
theorem app_two {w : World} {g : Nat} {x : Nat} (hown : Own w 3 .i64 g 1 [x]) {B : Nat} {v : Value} {ys : List Nat} (hR : Row B w 3 .i64 v ys) (hl : ys.length ≤ 1000000000) :
    ∃ v' w', (Builtin.append_ #[72, 72] 72 #[.slice (some ⟨g, 0, none⟩) 1 1, v]).run Tryz.prog w = .ok v' w' ∧ App w 3 .i64 g (x :: ys) v' w' := by
  obtain ⟨i0, hi, hz0, hz1, hz2⟩ := info_parts info_int
  by_cases h0 : ys = []
  · subst h0
    refine ⟨.slice (some ⟨g, 0, none⟩) 1 1, w, ?_, g, 1, by simp, hown, .inl rfl, Tch.refl _ _⟩
    rcases hR with ⟨rfl, _⟩ | ⟨g2, cap2, rfl, _, _⟩
    · simp [Builtin.append_, run_underlying Tryz.underlying72, sizeOf, typeInfo, hi, Builtin.lenOf, Builtin.firstCells, storeCells]
    · simp [Builtin.append_, run_underlying Tryz.underlying72, sizeOf, typeInfo, hi, Builtin.lenOf, Builtin.firstCells, storeCells, loadCells, loadCellsFrom]
  · rcases hR with ⟨_, h1⟩ | ⟨g2, cap2, rfl, _, ho⟩
    · exact absurd h1 h0
    · obtain ⟨r, W⟩ := ho.win
      have h := app_cells w 72 72 3 .i64 i0 Tryz.underlying72 hi hz0 hz1 (by omega) g 1 [x] hown ⟨g2, 0, none⟩ cap2 ys (fun j u hu => by
        have hj : j < ys.length := by have := (List.getElem?_eq_some_iff.1 hu).1; rwa [ints_length] at this
        rw [ints_get .i64 ys j hj] at hu
        have hc := W.cell hj
        rw [← hu]
        rw [Nat.zero_add] at hc
        rw [← hc]
        unfold Addr.add
        by_cases hz : j = 0
        · simp [hz]
        · simp [hz]) (by simp; omega) (by simp; omega)
      exact h

theorem own_one (w : World) (x : Nat) : Own (w.alloc (.cells #[.int .i64 (x : Int)] 3)) 3 .i64 w.heap.size 1 [x] :=
  ⟨[], ⟨Below.heap_alloc_new' w _, rfl⟩, rfl, by decide⟩

set_option maxHeartbeats 4000000 in
set_option maxRecDepth 100000 in
theorem rby (A : Option Addr) (ca : Nat) (xs : List Nat) (d : Nat) (w : World) (hA : Rd w.heap.size w A xs) (hx : Ok 65536 xs) (hd : d < 65536) (hlx : xs.length ≤ 100000) :
    Calls Tryz.prog 80 #[.slice A xs.length ca, .int .i64 (d : Int)] w fun e w' => (∃ v, e = .returned v ∧ Row w.heap.size w' 3 .i64 v (digs 65536 (dg 65536 xs * d))) ∧ Tch [] w w' := by
  have hT := rtimes A (some ⟨w.heap.size, 0, none⟩) ca 1 xs [d] (w.alloc (.cells #[.int .i64 (d : Int)] 3))
    (by rcases hA with h | ⟨g, cap, h1, h2, h3⟩
        · exact .inl h
        · exact .inr ⟨g, cap, h1, by simp; omega, h3.kept ((Tch.refl [] w).alloc _) (by simp)⟩)
    (.inr ⟨w.heap.size, 1, rfl, by simp, own_one w d⟩) hx (Ok.cons hd (Ok.nil _)) hlx (by simp)
  have HT := Lib.hid hT
  clear hT hA hx hd hlx
  go_enter Tryz.func80, Tryz.ntmps80
  go_wp2_with fail
  refine HT.out.mono ?_
  rintro e w2 ⟨⟨v, rfl, hR⟩, hT2⟩
  have HR := Lib.hid (hR.mono (C := w.heap.size) (by simp))
  have HT2 := Lib.hid (((Tch.refl [] w).alloc (.cells #[.int .i64 (d : Int)] 3)).trans hT2 (by simp))
  clear hR hT2 HT
  go_wp2
  go_ret
  refine ⟨⟨v, rfl, ?_⟩, HT2.out⟩
  have := HR.out
  simpa [dg] using this

theorem cmpI_le {x y : Int} (h : x ≤ y) : cmpI x y ≤ 0 := by
  unfold cmpI; split
  · omega
  · split <;> omega
theorem cmpI_pos {x y : Int} (h : y < x) : 0 < cmpI x y := by
  unfold cmpI; rw [if_neg (by omega), if_pos h]; omega
theorem cmpI_neg {x y : Int} (h : x < y) : cmpI x y < 0 := by
  unfold cmpI; rw [if_pos h]; omega
theorem cmpI_nn {x y : Int} (h : y ≤ x) : ¬ cmpI x y < 0 := by
  unfold cmpI; rw [if_neg (by omega)]; split <;> omega

theorem make_int (n : Nat) (hn : n ≤ 100000) (u : World) : (Instr.makeSlice 72 (.int .i64 (n : Int)) (.int .i64 (n : Int))).run Tryz.prog u =
    .ok (.slice (some ⟨u.heap.size, 0, none⟩) n n) (u.alloc (.cells (madeCells #[.int .i64 0] n) 3)) := by
  obtain ⟨i0, hi, hz0, hz1, hz2⟩ := info_parts info_int
  have h := run_make (P := Tryz.prog) u 72 3 i0 (.int .i64 0) Tryz.underlying72 hi hz0 .i64 .i64 (n : Int) (n : Int) (by omega) (Int.le_refl _) (by rw [hz2]; omega) (by omega)
  have e : ((n : Int)).toNat = n := by omega
  rw [e] at h
  simpa [hz1, Value.cells] using h

theorem made_zeros (n : Nat) (hn : n ≤ 100000) (u : World) : Own (u.alloc (.cells (madeCells #[.int .i64 0] n) 3)) 3 .i64 u.heap.size n (List.replicate n 0) := by
  refine ⟨[], ⟨?_, rfl⟩, by simp, by unfold maxLen; omega⟩
  rw [Below.heap_alloc_new' u]
  congr 2
  apply Array.ext
  · simp [madeCells, ints]
  · intro i h1 h2
    simp [madeCells, ints, Nat.mod_one]

theorem Rd.lift {B C : Nat} {w : World} {A : Option Addr} {xs : List Nat} (h : Rd B w A xs) (hc : B ≤ C) : Rd C w A xs := by
  rcases h with h | ⟨g, cap, h1, h2, h3⟩
  · exact .inl h
  · exact .inr ⟨g, cap, h1, by omega, h3⟩

theorem Rd.of_rowA {B n c : Nat} {w : World} {A : Option Addr} {xs : List Nat} (h : Row B w 3 .i64 (.slice A n c) xs) : Rd w.heap.size w A xs := by
  obtain ⟨A', c', e, hr⟩ := Rd.of_row h (Nat.le_refl _)
  simp only [Value.slice.injEq] at e
  rw [e.1]; exact hr

set_option maxHeartbeats 8000000 in
set_option maxRecDepth 100000 in
theorem rover (A Bq : Option Addr) (ca cb : Nat) (xs ys : List Nat) (w : World) (hA : Rd w.heap.size w A xs) (hB : Rd w.heap.size w Bq ys) (hx : Ok 65536 xs) (hy : Ok 65536 ys) (hty : Trim ys) (hy0 : 0 < dg 65536 ys) (hlx : xs.length ≤ 50000) (hly : ys.length ≤ 50000) :
    Calls Tryz.prog 51 #[.slice A xs.length ca, .slice Bq ys.length cb] w fun e w' => (∃ v1 v2, e = .returned (.tuple #[v1, v2]) ∧ Row w.heap.size w' 3 .i64 v1 (digs 65536 (dg 65536 xs / dg 65536 ys)) ∧ Row w.heap.size w' 3 .i64 v2 (digs 65536 (dg 65536 xs % dg 65536 ys))) ∧ Tch [] w w' := by
  obtain ⟨Y, hYe⟩ : ∃ Y, Y = dg 65536 ys := ⟨_, rfl⟩
  rw [← hYe] at hy0 ⊢
  have hYp : Y < 65536 ^ ys.length := by rw [hYe]; exact dg_lt hy
  have HTL : Hid (∀ T, T < 65536 * Y → (digs 65536 T).length ≤ 50001) := Lib.hid (fun T hT => by
    have h1 : T < 65536 ^ (ys.length + 1) := by
      rw [Nat.pow_succ, Nat.mul_comm]; exact Nat.lt_trans hT (Nat.mul_lt_mul_of_pos_left hYp (by decide))
    have := digs_length_le (b := 65536) (by decide) h1
    omega)
  have hmk := make_int xs.length (by omega)
  obtain ⟨w0, hw0⟩ : ∃ w0, w0 = w.alloc (.cells (madeCells #[.int .i64 0] xs.length) 3) := ⟨_, rfl⟩
  have hO0 := made_zeros xs.length (by omega) w
  rw [← hw0] at hO0
  have hT0 : Tch [] w w0 := by rw [hw0]; exact (Tch.refl [] w).alloc _
  have hz0 : w0.heap.size = w.heap.size + 1 := by rw [hw0]; simp
  have HA := Lib.hid hA
  have HB := Lib.hid hB
  have HX := Lib.hid hx
  have HY := Lib.hid hy
  have HTY := Lib.hid hty
  have HYE := Lib.hid hYe
  have HY0 := Lib.hid hy0
  have HO0 := Lib.hid hO0
  have HT0 := Lib.hid hT0
  have HZ0 := Lib.hid hz0
  have HW0 := Lib.hid hw0
  clear hA hB hx hy hty hYe hy0 hO0 hT0 hz0 hw0 hYp
  go_enter Tryz.func51, Tryz.ntmps51
  go_wp2
  rw [← HW0.out]
  clear hmk
  go_loopw [7, 8] (fun ur ui wr => ∃ (j R : Nat) (I : Int) (Q : List Nat) (v : Value), v = ur ∧ ui = .int .i64 I ∧ Hid (I = (j : Int) - 1) ∧ j ≤ xs.length ∧ Hid (OvInv Y xs j Q R) ∧ Hid (Row w0.heap.size wr 3 .i64 v (digs 65536 R)) ∧ Hid (Own wr 3 .i64 w.heap.size xs.length Q) ∧ Hid (Tch [] w wr)) (fun _ ui _ => (intOf ui + 1).toNat)
  case atStart => exact ⟨xs.length, 0, _, _, _, rfl, rfl, Lib.hid rfl, Nat.le_refl _, Lib.hid (OvInv.start HY0.out xs), Lib.hid (by rw [digs_zero]; exact Row.nil), HO0, HT0⟩
  case round =>
    obtain ⟨j, R, I, Q, v, rfl, rfl, hI, hj, hV, hR, hQ, hT⟩ := hrel
    cases j with
    | zero =>
      obtain rfl : I = -1 := by have := hI.out; omega
      have hval := hV.out.val
      rw [List.drop_zero, List.drop_zero] at hval
      have hlt := hV.out.lt
      have e1 : dg 65536 xs / Y = dg 65536 Q := by
        rw [hval, Nat.add_comm, Nat.add_mul_div_right _ _ HY0.out, Nat.div_eq_of_lt hlt, Nat.zero_add]
      have e2 : dg 65536 xs % Y = R := by
        rw [hval, Nat.add_comm, Nat.add_mul_mod_self_right, Nat.mod_eq_of_lt hlt]
      have hRQ : Row w.heap.size wr 3 .i64 (.slice (some ⟨w.heap.size, 0, none⟩) Q.length xs.length) Q := .inr ⟨_, _, rfl, Nat.le_refl _, hQ.out⟩
      obtain ⟨v', hv', hC⟩ := rtrim hRQ (by rw [hV.out.len]; omega)
      rw [cut_eq (b := 65536) (by decide) hV.out.ok, ← e1] at hv'
      rw [hV.out.len] at hC
      have HC := Lib.hid hC
      have HV' := Lib.hid hv'
      have HR2 : Hid (Row w.heap.size wr 3 .i64 v (digs 65536 (dg 65536 xs % Y))) := Lib.hid (by rw [e2]; exact hR.out.mono (by have := HZ0.out; omega))
      clear hval hlt e1 e2 hRQ hv' hC hI hV hR hQ
      go_wp2_with fail
      refine (HC.out _ (Tch.refl [] _)).mono ?_
      rintro e w5 ⟨rfl, rfl⟩
      go_wp2
      go_ret2
      exact ⟨⟨_, _, rfl, HV'.out, HR2.out⟩, hT.out⟩
    | succ j =>
      obtain rfl : I = (j : Int) := by have := hI.out; omega
      have hjx : j < xs.length := by omega
      obtain ⟨gA, hgA, x, ex, cx⟩ := (HA.out.kept hT.out (by simp)).read hjx
      subst hgA
      have hxb : x < 65536 := by rw [← ex.out]; exact HX.out.getD (by decide) j
      obtain ⟨T, hTe⟩ : ∃ T, T = x + 65536 * R := ⟨_, rfl⟩
      have hTY : T < 65536 * Y := by have := hV.out.lt; omega
      have hTl := HTL.out T hTY
      have hRl : (digs 65536 R).length ≤ 50001 := HTL.out R (by have := hV.out.lt; omega)
      obtain ⟨v1, w3, hr, hApp⟩ := app_two (own_one wr x) (hR.out.kept ((Tch.refl [] wr).alloc _)) (by omega)
      obtain ⟨g1, cap1, hv1, hO1, hg1, hT1⟩ := hApp
      have hT3 : Tch [] wr w3 := ((Tch.refl [] wr).alloc _).trans hT1 (by simp)
      have hs0 := HT0.out.size
      have hsw : w0.heap.size ≤ wr.heap.size := by
        have h1 := hQ.out.lt
        have h2 := HZ0.out
        omega
      have hRow1 : Row w0.heap.size w3 3 .i64 v1 (x :: digs 65536 R) := .inr ⟨g1, cap1, hv1, by rcases hg1 with h | h; (· omega); (· simp at h; omega), hO1⟩
      obtain ⟨v2, hRow2, hC2⟩ := rtrim hRow1 (by simp; omega)
      rw [cut_cons hxb, ← hTe] at hRow2
      obtain ⟨TT, hTT⟩ : ∃ TT, digs 65536 T = TT := ⟨_, rfl⟩
      rw [hTT] at hRow2 hTl
      obtain ⟨A2, c2, hv2, hRd2⟩ := Rd.of_row hRow2 (Nat.le_refl _)
      have hTTo : Ok 65536 TT := by rw [← hTT]; exact digs_ok (by decide) T
      have hTTt : Trim TT := by rw [← hTT]; exact digs_trim (by decide) T
      have hTTv : dg 65536 TT = T := by rw [← hTT]; exact dg_digs (by decide) T
      have CC := Lib.hid (rcompare A2 Bq c2 cb TT ys w3 hRd2 ((HB.out.kept (hT.out.trans hT3 (by simp)) (by simp)).lift (by have h1 := hT.out.size; have h2 := hT3.size; omega)) hTTo HY.out hTTt HTY.out (by omega))
      rw [hTTv, ← HYE.out] at CC
      have HR2 := Lib.hid hRow2
      have HTT := Lib.hid hTT
      have HTE := Lib.hid hTe
      have HTO := Lib.hid hTTo
      have HTV := Lib.hid hTTv
      have HTL2 := Lib.hid hTl
      have HTY2 := Lib.hid hTY
      have HC2 := Lib.hid hC2
      have HT3 := Lib.hid (hT.out.trans hT3 (by simp))
      have HQ3 := Lib.hid (hQ.out.kept hT3 (by simp))
      have HSW := Lib.hid hsw
      have HV1 := Lib.hid hv1
      have HRR := Lib.hid hr
      clear hTe hTY hTl hRl hv1 hO1 hg1 hT1 hT3 hs0 hsw hRow1 hRow2 hC2 hTT hRd2 hTTo hTTt hTTv hR hQ hT hI hr
      go_wp2_with (at_builtin; refine Lib.wpList_append_run _ rfl _ _ _ _ rfl _ _ rfl rfl v1 w3 HRR.out ?_)
      go_wp2_with fail
      refine (HC2.out _ (Tch.refl [] _)).mono ?_
      rintro e w4 ⟨rfl, rfl⟩
      subst hv2
      obtain ⟨c, hc⟩ : ∃ c, cmpI (T : Int) (Y : Int) = c := ⟨_, rfl⟩
      rw [hc] at CC
      have hcc : (T < Y ∧ c < 0) ∨ (Y ≤ T ∧ ¬ c < 0) := by
        rcases Nat.lt_or_ge T Y with h | h
        · exact .inl ⟨h, by rw [← hc]; exact cmpI_neg (by omega)⟩
        · exact .inr ⟨h, by rw [← hc]; exact cmpI_nn (by omega)⟩
      clear hc
      rcases hcc with ⟨hty, hcn⟩ | ⟨hty, hcn⟩
      all_goals
        go_wp2_with fail
        refine CC.out.mono ?_
        rintro e w5 ⟨rfl, hT5⟩
        have HT5 := Lib.hid hT5
        have HLO : Hid (Y * 0 ≤ T) := Lib.hid (by omega)
        have HTY3 := Lib.hid hty
        clear hT5 hty CC
        go_wp2
        obtain ⟨wo, rfl⟩ : ∃ wo : World, wo = w5 := ⟨_, rfl⟩
        go_loopw [9, 10] (fun ul uh wi => ∃ (lo hi : Nat), ul = .int .i64 (lo : Int) ∧ uh = .int .i64 (hi : Int) ∧ lo < hi ∧ hi ≤ 65536 ∧ Hid (Y * lo ≤ T) ∧ Hid (T < Y * hi) ∧ Hid (Tch [] w3 wi)) (fun ul uh _ => (intOf uh).toNat - (intOf ul).toNat)
        case atStart => first
          | exact ⟨0, 1, rfl, rfl, by decide, by decide, HLO, Lib.hid (by have := HTY3.out; omega), HT5⟩
          | exact ⟨0, 65536, rfl, rfl, by decide, by decide, HLO, Lib.hid (by have := HTY2.out; omega), HT5⟩
        case round =>
          obtain ⟨lo, hi, rfl, rfl, hlh, hh6, hL, hH, hTi⟩ := hrel
          by_cases hd : lo + 1 < hi
          · obtain ⟨m, hm⟩ : ∃ m : Nat, ((lo : Int) + (hi : Int)) / 2 = (m : Int) := ⟨(((lo : Int) + (hi : Int)) / 2).toNat, by omega⟩
            have hm1 : lo < m ∧ m < hi := by omega
            have hd1 : (1 : Int) < (hi : Int) - (lo : Int) := by omega
            have hRB := ((HB.out.kept HT3.out (by simp)).kept hTi.out (by simp)).lift (C := wr.heap.size) (by have h1 := HT3.out.size; have h2 := hTi.out.size; omega)
            have CB := Lib.hid (rby Bq cb ys m wr hRB HY.out (by omega) (by omega))
            rw [← HYE.out] at CB
            obtain ⟨DD, hDD⟩ : ∃ DD, digs 65536 (Y * m) = DD := ⟨_, rfl⟩
            have hDo : Ok 65536 DD := by rw [← hDD]; exact digs_ok (by decide) _
            have hDt : Trim DD := by rw [← hDD]; exact digs_trim (by decide) _
            have hDv : dg 65536 DD = Y * m := by rw [← hDD]; exact dg_digs (by decide) _
            have hDl : DD.length ≤ 50001 := by rw [← hDD]; exact HTL.out _ (by rw [Nat.mul_comm]; exact Nat.mul_lt_mul_of_pos_right (by omega) HY0.out)
            rw [hDD] at CB
            have HDo := Lib.hid hDo
            have HDt := Lib.hid hDt
            have HDv := Lib.hid hDv
            have HDl := Lib.hid hDl
            clear hRB hDo hDt hDv hDl hDD
            go_wp2_with fail
            refine CB.out.mono ?_
            rintro e w6 ⟨⟨vb, rfl, hRb⟩, hT6⟩
            obtain ⟨A3, c3, rfl, hRd3⟩ := Rd.of_row hRb (Nat.le_refl _)
            have hTi6 := hTi.out.trans hT6 (by simp)
            have CD := Lib.hid (rcompare A3 A2 c3 c2 DD TT w6 hRd3 (Rd.of_rowA (HR2.out.kept hTi6)) HDo.out HTO.out HDt.out (by rw [← HTT.out]; exact digs_trim (by decide) T) (by have := HDl.out; omega))
            rw [HDv.out, HTV.out] at CD
            obtain ⟨c9, hc9⟩ : ∃ c9, cmpI ((Y * m : Nat) : Int) (T : Int) = c9 := ⟨_, rfl⟩
            rw [hc9] at CD
            have HTi6 := Lib.hid hTi6
            clear hRb hT6 hRd3 hTi6 CB
            by_cases hle : Y * m ≤ T
            · have hc0 : c9 ≤ 0 := by rw [← hc9]; exact cmpI_le (by omega)
              have HL2 := Lib.hid hle
              clear hc9 hle
              go_wp2_with fail
              refine CD.out.mono ?_
              rintro e w7 ⟨rfl, hT7⟩
              have HT7 := Lib.hid (HTi6.out.trans hT7 (by simp))
              clear hT7 CD
              go_wp2
              exact ⟨⟨m, hi, rfl, rfl, by omega, hh6, HL2, hH, HT7⟩, by simp [intOf]; omega⟩
            · have hc0 : 0 < c9 := by rw [← hc9]; exact cmpI_pos (by omega)
              have HH2 : Hid (T < Y * m) := Lib.hid (by omega)
              clear hc9 hle
              go_wp2_with fail
              refine CD.out.mono ?_
              rintro e w7 ⟨rfl, hT7⟩
              have HT7 := Lib.hid (HTi6.out.trans hT7 (by simp))
              clear hT7 CD
              go_wp2
              exact ⟨⟨lo, m, rfl, rfl, by omega, by omega, hL, HH2, HT7⟩, by simp [intOf]; omega⟩
          · have HE : Hid (hi = lo + 1) := Lib.hid (by omega)
            have hd2 : (hi : Int) - (lo : Int) = 1 := by omega
            have hlo : lo < 65536 := by omega
            have HQ5 := Lib.hid ((HQ3.out.kept hTi.out (by simp)).put (j := j) (by rw [hV.out.len]; exact hjx))
            obtain ⟨u, hcu⟩ := HQ5.out.1
            have hfr := HQ5.out.2.1
            have hS6 : Tch [w.heap.size] wr (wr.setCell ⟨w.heap.size, j, none⟩ (.int .i64 (lo : Int))) := (Tch.refl _ wr).setCell (.inl (by simp)) _
            have hsz : wr.heap.size ≤ (wr.setCell ⟨w.heap.size, j, none⟩ (.int .i64 (lo : Int))).heap.size := hS6.size
            have hRB := (((HB.out.kept HT3.out (by simp)).kept hTi.out (by simp)).kept hS6 (by simp)).lift (C := (wr.setCell ⟨w.heap.size, j, none⟩ (.int .i64 (lo : Int))).heap.size) (by have h1 := HT3.out.size; have h2 := hTi.out.size; omega)
            have CB := Lib.hid (rby Bq cb ys lo _ hRB HY.out hlo (by omega))
            rw [← HYE.out] at CB
            have hR6 := (HR2.out.kept hTi.out).keptS hS6 (by intro g hg; rw [List.mem_singleton] at hg; have := HZ0.out; omega)
            obtain ⟨DD, hDD⟩ : ∃ DD, digs 65536 (Y * lo) = DD := ⟨_, rfl⟩
            have hDo : Ok 65536 DD := by rw [← hDD]; exact digs_ok (by decide) _
            have hDv : dg 65536 DD = Y * lo := by rw [← hDD]; exact dg_digs (by decide) _
            have hDl : DD.length ≤ TT.length := by rw [← hDD, ← HTT.out]; exact digs_len_mono hL.out
            rw [hDD] at CB
            have HDo := Lib.hid hDo
            have HDv := Lib.hid hDv
            have HDl := Lib.hid hDl
            have HR6 := Lib.hid hR6
            have HQ6 := Lib.hid (HQ5.out.2.2 lo)
            have HT6 := Lib.hid ((HT3.out.trans hTi.out (by simp)).setCell (p := ⟨w.heap.size, j, none⟩) (.inr (by simp)) (.int .i64 (lo : Int)))
            have HV2 := Lib.hid (hV.out.step (q := lo) hjx (by rw [show xs.getD j 0 = x from ex.out]; exact HTE.out) hL.out (by rw [← HE.out]; exact hH.out) hlo)
            clear hRB hDo hDv hDl hDD hR6 hS6 hsz hd
            go_wp2_with fail
            refine CB.out.mono ?_
            rintro e w7 ⟨⟨vb, rfl, hRb⟩, hT7⟩
            obtain ⟨A4, c4, rfl, hRd4⟩ := Rd.of_row hRb (Nat.le_refl _)
            have CM := Lib.hid (rminus A2 A4 c2 c4 TT DD w7 (Rd.of_rowA (HR6.out.kept hT7)) hRd4 HTO.out HDo.out (by have := HTL2.out; omega) HDl.out (by rw [HDv.out, HTV.out]; exact hL.out))
            rw [HDv.out, HTV.out] at CM
            have HT7 := Lib.hid hT7
            clear hRb hT7 hRd4 CB hcu hfr
            go_wp2_with fail
            refine CM.out.mono ?_
            rintro e w8 ⟨⟨v8, rfl, hR8⟩, hT8⟩
            have HT8 := Lib.hid (HT7.out.trans hT8 (by simp))
            have HR8 := Lib.hid (hR8.mono (C := w0.heap.size) (by have h1 := HT7.out.size; have h2 := HT0.out.size; have h3 := HQ6.out.lt; have h4 := HZ0.out; omega))
            clear hR8 hT8 CM
            go_wp2
            exact ⟨⟨j, T - Y * lo, _, Q.set j lo, v8, rfl, rfl, Lib.hid rfl, by omega, HV2, HR8, Lib.hid (HQ6.out.kept HT8.out (by simp)), Lib.hid (HT6.out.trans HT8.out (by simp))⟩, by simp [intOf]⟩

end Go.Proofs.YtmiibcdcnoefgaaGreatDoor

/- lithophaneref01.Quo. -/
namespace Go.Proofs.YtmiibcdcnoefgaaGreatDoor
open Go.RowKit Dg

theorem zval_zero (b : Bool) (n : Nat) : zval b n = 0 ↔ n = 0 := by have := natAbs_zval b n; omega

set_option maxHeartbeats 8000000 in
set_option maxRecDepth 100000 in
theorem rQuo {na nb : Bool} {sa sc : ByteArray} {x y : Int} (hx : Rep 1000 na sa x) (hy : Rep 1000 nb sc y) (w : World) :
    Calls Tryz.prog 26 #[.agg #[.bool na, .string sa], .agg #[.bool nb, .string sc]] w fun e w' => e = .returned (zquoV x y) ∧ Tch [] w w' := by
  obtain ⟨X, hX⟩ : ∃ X, X = digs 65536 (bv (sb sa)) := ⟨_, rfl⟩
  obtain ⟨Y, hY⟩ : ∃ Y, Y = digs 65536 (bv (sb sc)) := ⟨_, rfl⟩
  have c1 := fun w1 => rdigits na sa w1 (by have := hx.size; omega)
  have c2 := fun w1 => rdigits nb sc w1 (by have := hy.size; omega)
  rw [← hX] at c1
  rw [← hY] at c2
  have C1 := Lib.hid c1
  have C2 := Lib.hid c2
  have HXo : Hid (Ok 65536 X) := Lib.hid (by rw [hX]; exact digs_ok (by decide) _)
  have HYo : Hid (Ok 65536 Y) := Lib.hid (by rw [hY]; exact digs_ok (by decide) _)
  have HYt : Hid (Trim Y) := Lib.hid (by rw [hY]; exact digs_trim (by decide) _)
  have HXl : Hid (X.length ≤ 1000) := Lib.hid (by rw [hX]; exact Nat.le_trans (digs_len_size sa) hx.size)
  have HYl : Hid (Y.length ≤ 1000) := Lib.hid (by rw [hY]; exact Nat.le_trans (digs_len_size sc) hy.size)
  have HXv : Hid (dg 65536 X = bv (sb sa)) := Lib.hid (by rw [hX, dg_digs (by decide)])
  have HYv : Hid (dg 65536 Y = bv (sb sc)) := Lib.hid (by rw [hY, dg_digs (by decide)])
  have F0 := (((((Fr.nil w).add (.cells #[.bool na, .string sa] 28) (w.heap.size) rfl).add (.cells #[.bool nb, .string sc] 28) (w.heap.size + 1) (by simp)).add (.cells #[.bool false, .string ⟨#[]⟩] 28) (w.heap.size + 1 + 1) (by simp)).add (.cells #[.bool false, .string ⟨#[]⟩] 28) (w.heap.size + 1 + 1 + 1) (by simp))
  obtain ⟨w0, l, hw0, G0, SF0, RB0⟩ : ∃ w0 l, w0 = ((((w.alloc (.cells #[.bool na, .string sa] 28)).alloc (.cells #[.bool nb, .string sc] 28)).alloc (.cells #[.bool false, .string ⟨#[]⟩] 28)).alloc (.cells #[.bool false, .string ⟨#[]⟩] 28)) ∧ Fr w w0 l ∧ (∀ w3, Fr w w3 l → w3.cell? ⟨w.heap.size, 0, none⟩ = some (.bool na) ∧ w3.cell? ⟨w.heap.size, 1, none⟩ = some (.string sa) ∧ w3.cell? ⟨w.heap.size + 1, 0, none⟩ = some (.bool nb) ∧ w3.cell? ⟨w.heap.size + 1, 1, none⟩ = some (.string sc)) ∧ (∀ w3, Fr w w3 l → Fr w w3 [(w.heap.size + 1 + 1, .cells #[.bool false, .string ⟨#[]⟩] 28 (0, 0)), (w.heap.size + 1 + 1 + 1, .cells #[.bool false, .string ⟨#[]⟩] 28 (0, 0))]) :=
    ⟨_, _, rfl, F0, fun w3 F => ⟨F.cell 0 0 rfl rfl, F.cell 0 1 rfl rfl, F.cell 1 0 rfl rfl, F.cell 1 1 rfl rfl⟩,
      fun w3 F => ⟨fun p hp => F.row p (by simp only [List.mem_cons, List.not_mem_nil, or_false] at hp; rcases hp with rfl | rfl <;> simp), fun p hp => F.new p (by simp only [List.mem_cons, List.not_mem_nil, or_false] at hp; rcases hp with rfl | rfl <;> simp), F.t⟩⟩
  have ST2 : Hid (∀ (w3 : World) u v, (w3.cell? ⟨w.heap.size, 0, none⟩ = some (.bool na) ∧ w3.cell? ⟨w.heap.size, 1, none⟩ = some (.string sa) ∧ w3.cell? ⟨w.heap.size + 1, 0, none⟩ = some (.bool nb) ∧ w3.cell? ⟨w.heap.size + 1, 1, none⟩ = some (.string sc)) → ((w3.setCell ⟨w.heap.size + 1 + 1, 0, none⟩ u).setCell ⟨w.heap.size + 1 + 1, 1, none⟩ v).cell? ⟨w.heap.size, 0, none⟩ = some (.bool na) ∧ ((w3.setCell ⟨w.heap.size + 1 + 1, 0, none⟩ u).setCell ⟨w.heap.size + 1 + 1, 1, none⟩ v).cell? ⟨w.heap.size, 1, none⟩ = some (.string sa) ∧ ((w3.setCell ⟨w.heap.size + 1 + 1, 0, none⟩ u).setCell ⟨w.heap.size + 1 + 1, 1, none⟩ v).cell? ⟨w.heap.size + 1, 0, none⟩ = some (.bool nb) ∧ ((w3.setCell ⟨w.heap.size + 1 + 1, 0, none⟩ u).setCell ⟨w.heap.size + 1 + 1, 1, none⟩ v).cell? ⟨w.heap.size + 1, 1, none⟩ = some (.string sc)) := Lib.hid (fun w3 u v ⟨h0, h1, h2, h3⟩ => ⟨by rw [World.cell?_setCell_other _ _ _ _ (by simp), World.cell?_setCell_other _ _ _ _ (by simp)]; exact h0, by rw [World.cell?_setCell_other _ _ _ _ (by simp), World.cell?_setCell_other _ _ _ _ (by simp)]; exact h1, by rw [World.cell?_setCell_other _ _ _ _ (by simp), World.cell?_setCell_other _ _ _ _ (by simp)]; exact h2, by rw [World.cell?_setCell_other _ _ _ _ (by simp), World.cell?_setCell_other _ _ _ _ (by simp)]; exact h3⟩)
  have ST3 : Hid (∀ (w3 : World) u v, (w3.cell? ⟨w.heap.size, 0, none⟩ = some (.bool na) ∧ w3.cell? ⟨w.heap.size, 1, none⟩ = some (.string sa) ∧ w3.cell? ⟨w.heap.size + 1, 0, none⟩ = some (.bool nb) ∧ w3.cell? ⟨w.heap.size + 1, 1, none⟩ = some (.string sc)) → ((w3.setCell ⟨w.heap.size + 1 + 1 + 1, 0, none⟩ u).setCell ⟨w.heap.size + 1 + 1 + 1, 1, none⟩ v).cell? ⟨w.heap.size, 0, none⟩ = some (.bool na) ∧ ((w3.setCell ⟨w.heap.size + 1 + 1 + 1, 0, none⟩ u).setCell ⟨w.heap.size + 1 + 1 + 1, 1, none⟩ v).cell? ⟨w.heap.size, 1, none⟩ = some (.string sa) ∧ ((w3.setCell ⟨w.heap.size + 1 + 1 + 1, 0, none⟩ u).setCell ⟨w.heap.size + 1 + 1 + 1, 1, none⟩ v).cell? ⟨w.heap.size + 1, 0, none⟩ = some (.bool nb) ∧ ((w3.setCell ⟨w.heap.size + 1 + 1 + 1, 0, none⟩ u).setCell ⟨w.heap.size + 1 + 1 + 1, 1, none⟩ v).cell? ⟨w.heap.size + 1, 1, none⟩ = some (.string sc)) := Lib.hid (fun w3 u v ⟨h0, h1, h2, h3⟩ => ⟨by rw [World.cell?_setCell_other _ _ _ _ (by simp), World.cell?_setCell_other _ _ _ _ (by simp)]; exact h0, by rw [World.cell?_setCell_other _ _ _ _ (by simp), World.cell?_setCell_other _ _ _ _ (by simp)]; exact h1, by rw [World.cell?_setCell_other _ _ _ _ (by simp), World.cell?_setCell_other _ _ _ _ (by simp)]; exact h2, by rw [World.cell?_setCell_other _ _ _ _ (by simp), World.cell?_setCell_other _ _ _ _ (by simp)]; exact h3⟩)
  have F1 := Lib.hid G0
  have SF := Lib.hid SF0
  have RB := Lib.hid RB0
  have HW := Lib.hid hw0
  clear F0 G0 SF0 RB0 hw0 hX hY c1 c2
  by_cases h0 : y = 0
  · have hb0 : bv (sb sc) = 0 := (zval_zero nb _).1 (by rw [hy.val, h0])
    have hYn : Y = [] := by
      have h1 := HYv.out
      rw [hb0] at h1
      have h2 := digs_dg (b := 65536) (by decide) HYo.out HYt.out
      rw [h1, digs_zero] at h2
      exact h2.symm
    have HV : Hid (zquoV x y = .tuple #[.agg #[.bool false, .string ⟨#[]⟩], .agg #[.bool false, .string ⟨#[]⟩], .bool false]) := Lib.hid (by unfold zquoV; rw [if_pos h0])
    subst hYn
    clear hx hy h0 hb0
    go_enter Tryz.func26, Tryz.ntmps26
    go_wp2_with fail
    rw [← HW.out]
    refine (C2.out _).mono ?_
    rintro e w3 ⟨⟨v2, rfl, hR2⟩, hT⟩
    obtain ⟨A2, k2, rfl, _⟩ := Rd.of_row hR2 (Nat.le_refl _)
    have F3 := Lib.hid (F1.out.keep hT)
    obtain ⟨r0, r1⟩ := (RB.out _ F3.out).two 0 rfl
    obtain ⟨t0, t1⟩ := (RB.out _ F3.out).fro2 0 rfl
    obtain ⟨r2, r3⟩ := (RB.out _ F3.out).two 1 rfl
    obtain ⟨t2, t3⟩ := (RB.out _ F3.out).fro2 1 rfl
    clear hT hR2
    go_wp2
    refine bodyPost_ret (v := .tuple #[.agg #[.bool false, .string ⟨#[]⟩], .agg #[.bool false, .string ⟨#[]⟩], .bool false]) (by simp [results, Tryz.results26, go_sem, r0, r1, r2, r3]) rfl ⟨by rw [HV.out], ?_⟩
    exact (((RB.out _ F3.out).fin2 0 rfl _ _).setCell (.inr (by simp; omega)) _).setCell (.inr (by simp; omega)) _
  · have hb0 : bv (sb sc) ≠ 0 := fun h => h0 (by rw [← hy.val, (zval_zero nb _).2 h])
    have HY0 : Hid (0 < dg 65536 Y) := Lib.hid (by rw [HYv.out]; omega)
    have hYl : 0 < Y.length := by
      rcases Nat.eq_zero_or_pos Y.length with h | h
      · have h1 := HYv.out
        rw [List.eq_nil_of_length_eq_zero h] at h1
        exact absurd h1.symm hb0
      · exact h
    have hYb : ((Y.length : Int) == 0) = false := beq_eq_false_iff_ne.2 (by omega)
    obtain ⟨bq, sq, eq⟩ : ∃ b s, wz (x.tdiv y) = .agg #[.bool b, .string s] := ⟨_, _, wz_mo _⟩
    obtain ⟨br, sr, er⟩ : ∃ b s, wz (x.tmod y) = .agg #[.bool b, .string s] := ⟨_, _, wz_mo _⟩
    have HV : Hid (zquoV x y = .tuple #[.agg #[.bool bq, .string sq], .agg #[.bool br, .string sr], .bool true]) := Lib.hid (by unfold zquoV; rw [if_neg h0, eq, er])
    have HQ : Hid (wv (!(na == nb)) (dg 65536 X / dg 65536 Y) = .agg #[.bool bq, .string sq]) := Lib.hid (by rw [HXv.out, HYv.out, wv_wz, div_sign, hx.val, hy.val, eq])
    have HR : Hid (wv na (dg 65536 X % dg 65536 Y) = .agg #[.bool br, .string sr]) := Lib.hid (by rw [HXv.out, HYv.out, wv_wz, mod_sign na nb, hx.val, hy.val, er])
    have HQl : Hid ((digs 65536 (dg 65536 X / dg 65536 Y)).length ≤ 1000000) := Lib.hid (by
      have h1 := digs_len_mono (Nat.div_le_self (dg 65536 X) (dg 65536 Y))
      have h2 := digs_length_le (b := 65536) (by decide) (dg_lt HXo.out)
      have := HXl.out; omega)
    have HRl : Hid ((digs 65536 (dg 65536 X % dg 65536 Y)).length ≤ 1000000) := Lib.hid (by
      have h1 := digs_len_mono (Nat.mod_le (dg 65536 X) (dg 65536 Y))
      have h2 := digs_length_le (b := 65536) (by decide) (dg_lt HXo.out)
      have := HXl.out; omega)
    clear hx hy h0 hb0 eq er
    go_enter Tryz.func26, Tryz.ntmps26
    go_wp2_with fail
    rw [← HW.out]
    refine (C2.out _).mono ?_
    rintro e w3 ⟨⟨v2, rfl, hR2⟩, hT⟩
    obtain ⟨A2, k2, rfl, hD2⟩ := Rd.of_row hR2 (Nat.le_refl _)
    have F3 := Lib.hid (F1.out.keep hT)
    have HD2 := Lib.hid hD2
    obtain ⟨a0, a1, a2, a3⟩ := SF.out _ F3.out
    clear hT hR2 hD2
    go_wp2_with fail
    refine (C1.out _).mono ?_
    rintro e w4 ⟨⟨v1, rfl, hR1⟩, hT⟩
    obtain ⟨A1, k1, rfl, hD1⟩ := Rd.of_row hR1 (Nat.le_refl _)
    have F3 := Lib.hid (F3.out.keep hT)
    have HD1 := Lib.hid hD1
    have HD2 := Lib.hid (HD2.out.up (HD2.out.kept hT (by simp)) hT.size)
    clear hT hR1 hD1 a0 a1 a2 a3
    go_wp2_with fail
    refine (rover A1 A2 k1 k2 X Y _ HD1.out HD2.out HXo.out HYo.out HYt.out HY0.out (by have := HXl.out; omega) (by have := HYl.out; omega)).mono ?_
    rintro e w5 ⟨⟨v3, v4, rfl, hR3, hR4⟩, hT⟩
    have F3 := Lib.hid (F3.out.keep hT)
    have CW1 := Lib.hid (fun w' (t : Tch [] w5 w') => rwide (!(na == nb)) (dg 65536 X / dg 65536 Y) v3 w' (hR3.kept t) HQl.out)
    have CW2 := Lib.hid (fun w' (t : Tch [] w5 w') => rwide na (dg 65536 X % dg 65536 Y) v4 w' (hR4.kept t) HRl.out)
    rw [HQ.out] at CW1
    rw [HR.out] at CW2
    have HT := Lib.hid ((Tch.refl [] w5).drew)
    clear hT hR3 hR4
    go_wp2_with fail
    go_region_held3 (fun w3 => w3.cell? ⟨w.heap.size, 0, none⟩ = some (.bool na) ∧ w3.cell? ⟨w.heap.size, 1, none⟩ = some (.string sa) ∧ w3.cell? ⟨w.heap.size + 1, 0, none⟩ = some (.bool nb) ∧ w3.cell? ⟨w.heap.size + 1, 1, none⟩ = some (.string sc)) (first | with_reducible exact SF.out _ F4.out | with_reducible exact SF.out _ F3.out.drew | with_reducible exact ST2.out _ _ _ (by assumption) | with_reducible exact ST3.out _ _ _ (by assumption)) (first
      | (go_at_call 52; (first | (with_reducible refine (CW1.out _ HT.out).mono ?_) | (with_reducible refine (CW2.out _ HT.out).mono ?_)); rintro e w6 ⟨rfl, hT⟩; (first | (with_reducible have F4 := Lib.hid (F4.out.keep hT)) | (with_reducible have F4 := Lib.hid (F3.out.drew.keep hT))); have HT := Lib.hid (HT.out.trans hT (by simp)); (try clear r0 r1 r2 r3 t0 t1 t2 t3); obtain ⟨r0, r1⟩ := (RB.out _ F4.out).two 0 rfl; obtain ⟨t0, t1⟩ := (RB.out _ F4.out).fro2 0 rfl; obtain ⟨r2, r3⟩ := (RB.out _ F4.out).two 1 rfl; obtain ⟨t2, t3⟩ := (RB.out _ F4.out).fro2 1 rfl; clear hT))
    all_goals go_wp2
    all_goals refine bodyPost_ret (v := .tuple #[.agg #[.bool bq, .string sq], .agg #[.bool br, .string sr], .bool true]) (by simp [results, Tryz.results26, go_sem, r0, r1, r2, r3]) rfl ⟨by rw [HV.out], ?_⟩
    all_goals first
      | exact (((RB.out _ F4.out).fin2 0 rfl _ _).setCell (.inr (by simp; omega)) _).setCell (.inr (by simp; omega)) _
      | exact (((RB.out _ F4.out).fin2 1 rfl _ _).setCell (.inr (by simp; omega)) _).setCell (.inr (by simp; omega)) _

end Go.Proofs.YtmiibcdcnoefgaaGreatDoor

/- lithophaneref01.Gcd. -/
namespace Go.Proofs.YtmiibcdcnoefgaaGreatDoor
open Go.RowKit Dg

set_option maxHeartbeats 8000000 in
set_option maxRecDepth 100000 in
theorem rGcd {na nb : Bool} {sa sc : ByteArray} {x y : Int} (hx : Rep 1000 na sa x) (hy : Rep 1000 nb sc y) (w : World) :
    Calls Tryz.prog 24 #[.agg #[.bool na, .string sa], .agg #[.bool nb, .string sc]] w fun e w' => e = .returned (wz (Int.gcd x y : Int)) ∧ Tch [] w w' := by
  obtain ⟨G, hG⟩ : ∃ G, G = Nat.gcd (bv (sb sa)) (bv (sb sc)) := ⟨_, rfl⟩
  obtain ⟨br, sr, er⟩ : ∃ b s, wz (Int.gcd x y : Int) = .agg #[.bool b, .string s] := ⟨_, _, wz_mo _⟩
  have HV : Hid (wv false G = .agg #[.bool br, .string sr]) := Lib.hid (by
    rw [← er, wv_wz]
    have e : Nat.gcd (bv (sb sa)) (bv (sb sc)) = Int.gcd x y := by
      unfold Int.gcd; rw [← hx.val, ← hy.val, natAbs_zval, natAbs_zval]
    rw [hG, e]; rfl)
  have ER := Lib.hid er
  have C1 := Lib.hid (fun w1 => rdigits na sa w1 (by have := hx.size; omega))
  have C2 := Lib.hid (fun w1 => rdigits nb sc w1 (by have := hy.size; omega))
  have HL1 : Hid ((digs 65536 (bv (sb sa))).length ≤ 1000) := Lib.hid (Nat.le_trans (digs_len_size sa) hx.size)
  have HL2 : Hid ((digs 65536 (bv (sb sc))).length ≤ 1000) := Lib.hid (Nat.le_trans (digs_len_size sc) hy.size)
  obtain ⟨N, hN⟩ : ∃ N, bv (sb sa) = N := ⟨_, rfl⟩
  obtain ⟨M, hM⟩ : ∃ M, bv (sb sc) = M := ⟨_, rfl⟩
  rw [hN] at hG HL1 C1
  rw [hM] at hG HL2 C2
  have HG := Lib.hid hG
  have F0 := ((((Fr.nil w).add (.cells #[.bool na, .string sa] 28) (w.heap.size) rfl).add (.cells #[.bool nb, .string sc] 28) (w.heap.size + 1) (by simp)).add (.cells #[.bool false, .string ⟨#[]⟩] 28) (w.heap.size + 1 + 1) (by simp))
  obtain ⟨w0, l, hw0, G0, SF0, RB0⟩ : ∃ w0 l, w0 = (((w.alloc (.cells #[.bool na, .string sa] 28)).alloc (.cells #[.bool nb, .string sc] 28)).alloc (.cells #[.bool false, .string ⟨#[]⟩] 28)) ∧ Fr w w0 l ∧ (∀ w3, Fr w w3 l → (w3.cell? ⟨w.heap.size, 0, none⟩ = some (.bool na) ∧ w3.cell? ⟨w.heap.size, 1, none⟩ = some (.string sa)) ∧ (w3.cell? ⟨w.heap.size + 1, 0, none⟩ = some (.bool nb) ∧ w3.cell? ⟨w.heap.size + 1, 1, none⟩ = some (.string sc))) ∧ (∀ w3, Fr w w3 l → Fr w w3 [(w.heap.size + 1 + 1, .cells #[.bool false, .string ⟨#[]⟩] 28 (0, 0))]) :=
    ⟨_, _, rfl, F0, fun w3 F => ⟨⟨F.cell 0 0 rfl rfl, F.cell 0 1 rfl rfl⟩, ⟨F.cell 1 0 rfl rfl, F.cell 1 1 rfl rfl⟩⟩,
      fun w3 F => ⟨fun p hp => F.row p (by rw [List.mem_singleton] at hp; subst hp; simp), fun p hp => F.new p (by rw [List.mem_singleton] at hp; subst hp; simp), F.t⟩⟩
  have F1 := Lib.hid G0
  have SF := Lib.hid SF0
  have RB := Lib.hid RB0
  have HW := Lib.hid hw0
  clear F0 G0 SF0 RB0 hw0 er hN hM hG hx hy
  go_enter Tryz.func24, Tryz.ntmps24
  go_wp2_with fail
  rw [← HW.out]
  refine (C1.out _).mono ?_
  rintro e w3 ⟨⟨v1, rfl, hR1⟩, hT⟩
  have F3 := Lib.hid (F1.out.keep hT)
  have HR1 := Lib.hid hR1
  have HT := Lib.hid hT
  obtain ⟨_, ⟨b0, b1⟩⟩ := SF.out _ F3.out
  clear hT hR1
  go_wp2_with fail
  refine (C2.out _).mono ?_
  rintro e w4 ⟨⟨v2, rfl, hR2⟩, hT⟩
  have F3 := Lib.hid (F3.out.keep hT)
  have HR1 := Lib.hid (HR1.out.kept hT)
  have HR2 := Lib.hid (hR2.mono (C := w0.heap.size) HT.out.size)
  have HT := Lib.hid (HT.out.trans hT (by simp))
  clear hT hR2 b0 b1
  go_wp2
  go_loopg [5, 6] M (fun k u5 u6 wr => ∃ (X : Nat) (v u : Value), v = u5 ∧ u = u6 ∧ Hid (Nat.gcd X k = G) ∧ Hid (Row w0.heap.size wr 3 .i64 v (digs 65536 X)) ∧ Hid (Row w0.heap.size wr 3 .i64 u (digs 65536 k)) ∧ Hid ((digs 65536 X).length ≤ 1000) ∧ Hid ((digs 65536 k).length ≤ 1000) ∧ Hid (Fr w wr l))
  case atStart => exact ⟨N, v1, v2, rfl, rfl, Lib.hid HG.out.symm, HR1, HR2, HL1, HL2, F3⟩
  case round =>
    obtain ⟨X, v, u, rfl, rfl, hg, hX, hY, hlx, hly, hF⟩ := hrel
    rcases Nat.eq_zero_or_pos gk with h0 | h0
    · subst h0
      have hXG : Hid (X = G) := Lib.hid (by rw [← hg.out, Nat.gcd_zero_right])
      have HRX : Hid (Row w0.heap.size wr 3 .i64 v (digs 65536 G)) := Lib.hid (by rw [← hXG.out]; exact hX.out)
      have hY2 := hY.out
      rw [digs_zero] at hY2
      obtain ⟨A2, c2, rfl, _⟩ := Rd.of_row hY2 (Nat.le_refl _)
      have CW := Lib.hid (rwide false G v wr HRX.out (by rw [← hXG.out]; have := hlx.out; omega))
      rw [HV.out] at CW
      clear hY2 hY hX hg hXG HRX hlx hly
      simp only [List.length_nil]
      go_wp2_with fail
      refine CW.out.mono ?_
      rintro e w6 ⟨rfl, hT6⟩
      have F6 := Lib.hid (hF.out.keep hT6)
      obtain ⟨r0, r1⟩ := (RB.out _ F6.out).two 0 rfl
      obtain ⟨t0, t1⟩ := (RB.out _ F6.out).fro2 0 rfl
      clear hT6
      go_wp2
      refine bodyPost_ret (v := .agg #[.bool br, .string sr]) (by simp [results, Tryz.results24, go_sem, r0, r1]) rfl ⟨by rw [ER.out], ?_⟩
      exact (RB.out _ F6.out).fin2 0 rfl _ _
    · obtain ⟨TX, hTX⟩ : ∃ TX, digs 65536 X = TX := ⟨_, rfl⟩
      obtain ⟨TY, hTY⟩ : ∃ TY, digs 65536 gk = TY := ⟨_, rfl⟩
      have hX2 := hX.out
      have hY2 := hY.out
      rw [hTX] at hX2
      rw [hTY] at hY2
      obtain ⟨A1, c1, rfl, hD1⟩ := Rd.of_row hX2 (Nat.le_refl _)
      obtain ⟨A2, c2, rfl, hD2⟩ := Rd.of_row hY2 (Nat.le_refl _)
      have hv1 : dg 65536 TX = X := by rw [← hTX]; exact dg_digs (by decide) _
      have hv2 : dg 65536 TY = gk := by rw [← hTY]; exact dg_digs (by decide) _
      have hl2 : 0 < TY.length := by
        rcases Nat.eq_zero_or_pos TY.length with h | h
        · rw [List.eq_nil_of_length_eq_zero h] at hv2
          simp [dg] at hv2; omega
        · exact h
      have CO := Lib.hid (rover A1 A2 c1 c2 TX TY wr hD1 hD2 (by rw [← hTX]; exact digs_ok (by decide) _) (by rw [← hTY]; exact digs_ok (by decide) _) (by rw [← hTY]; exact digs_trim (by decide) _) (by rw [hv2]; exact h0) (by rw [← hTX]; have := hlx.out; omega) (by rw [← hTY]; have := hly.out; omega))
      rw [hv1, hv2] at CO
      have HY2 := Lib.hid hY2
      have HTY := Lib.hid hTY
      have HGS : Hid (Nat.gcd gk (X % gk) = G) := Lib.hid (by rw [← hg.out, Nat.gcd_comm X gk, Nat.gcd_rec gk X, Nat.gcd_comm])
      have HLR : Hid ((digs 65536 (X % gk)).length ≤ 1000) := Lib.hid (Nat.le_trans (digs_len_mono (Nat.mod_le X gk)) hlx.out)
      have HLT : Hid (X % gk < gk) := Lib.hid (Nat.mod_lt _ h0)
      have hsz : Hid (w0.heap.size ≤ wr.heap.size) := Lib.hid (by
        rcases HY2.out with ⟨_, h2⟩ | ⟨g, cap, _, h2, h3⟩
        · rw [h2] at hl2; simp at hl2
        · have := h3.lt; omega)
      clear hX hY hX2 hY2 hD1 hD2 hv1 hv2 hg hTX hTY
      go_wp2_with fail
      refine CO.out.mono ?_
      rintro e w6 ⟨⟨v3, v4, rfl, hR3, hR4⟩, hT6⟩
      have HR4 := Lib.hid (hR4.mono (C := w0.heap.size) hsz.out)
      have F6 := Lib.hid (hF.out.keep hT6)
      have HY6 : Hid (Row w0.heap.size w6 3 .i64 (.slice A2 TY.length c2) (digs 65536 gk)) := Lib.hid (by rw [HTY.out]; exact HY2.out.kept hT6)
      have HLY := hly
      clear hR3 hR4 hT6 CO
      go_wp2
      go_roundg (X % gk)
      case rel => exact ⟨gk, _, v4, rfl, rfl, HGS, HY6, HR4, HLY, HLR, F6⟩
      case measure => exact HLT.out

end Go.Proofs.YtmiibcdcnoefgaaGreatDoor
