/- wide.multiply. -/
import Derived.Test.YtpedbahppkimbaaDoorAddW
import Derived.Test.YtpedbahppkimbaaDoorAdd
import Derived.Deep.RegionHeld3
import Derived.Deep.RegionWith
import Derived.IntWalk
import Derived.Test.YtpedbahppkimbaaDoorWords
import Derived.Test.YtpedbahppkimbaaDoorEncode
namespace Go.Proofs.YtpedbahppkimbaaDoor
open Go.RowKit Dg

/-- After i words of y: Q is x times them. -/
structure MwInv (xs ys : List Nat) (i : Nat) (Q : List Nat) : Prop where
  len : Q.length = i + xs.length
  ok : Ok BB Q
  val : dg BB Q = dg BB xs * dg BB (ys.take i)

theorem MwInv.step {xs ys Q zs : List Nat} {i c : Nat} (h : MwInv xs ys i Q) (hi : i < ys.length) (ha : MulOut BB (Q.drop i) xs (ys.getD i 0) c zs) : MwInv xs ys (i + 1) (Q.take i ++ (zs ++ [c])) := by
  have hl := h.len
  have hzl := ha.len
  rw [List.length_drop, hl] at hzl
  have htl : (Q.take i).length = i := by rw [List.length_take]; omega
  refine ⟨by rw [List.length_append, List.length_append, htl, hzl]; simp; omega, (h.ok.take i).append (ha.ok.snoc ha.cb), ?_⟩
  have hv := ha.val
  rw [← ha.len] at hv
  rw [dg_append, dg_snoc, hv, htl, dg_take_succ BB ys i hi, Nat.mul_add, Nat.mul_add, ← h.val]
  have e := dg_split BB Q i (by omega)
  have e2 : BB ^ i * (ys.getD i 0 * dg BB xs) = dg BB xs * (BB ^ i * ys.getD i 0) := by rw [← Nat.mul_assoc, Nat.mul_comm]
  omega

def MwPost (w : World) (gs : Nat) (xs ys : List Nat) (e : Ending) (w' : World) : Prop :=
  ∃ v zs, e = .returned v ∧ Ok BB zs ∧ zs.length = xs.length + ys.length ∧ dg BB zs = dg BB xs * dg BB ys ∧ Words 56 .u64 w [gs] v zs w'

theorem mw_part {Q : List Nat} {i m r : Nat} (hl : Q.length = i + m) : ((Q ++ List.replicate (r + 1) 0).drop i).take m = Q.drop i := by
  rw [List.drop_append_of_le_length (by omega), List.take_append_of_le_length (by rw [List.length_drop]; omega), List.take_of_length_le (by rw [List.length_drop]; omega)]

/-- What lies in the product's block behind one round's call. -/
theorem mw_after {w2 : World} {g k r c : Nat} {rest : List Value} {xs Q zs : List Nat} {y : Nat} (hQl : Q.length = k + xs.length)
    (hW2 : Win w2 56 .u64 g k ([] ++ ints .u64 ((Q ++ List.replicate (r + 1) 0).take k)) zs (ints .u64 ((Q ++ List.replicate (r + 1) 0).drop (k + xs.length)) ++ rest)) (hA : MulOut BB (Q.drop k) xs y c zs) :
    w2.cell? ⟨g, k + xs.length, none⟩ = some (.int .u64 0) ∧ w2.frozen? ⟨g, k + xs.length, none⟩ = false ∧
    Win (w2.setCell ⟨g, k + xs.length, none⟩ (.int .u64 (c : Int))) 56 .u64 g 0 [] (Q.take k ++ (zs ++ [c]) ++ List.replicate r 0) rest := by
  have hzl := hA.len
  rw [List.length_drop, hQl] at hzl
  have e1 : (Q ++ List.replicate (r + 1) 0).take k = Q.take k := by rw [List.take_append_of_le_length (by omega)]
  have e2 : (Q ++ List.replicate (r + 1) 0).drop (k + xs.length) = List.replicate (r + 1) 0 := by rw [← hQl, List.drop_left]
  rw [e1, e2] at hW2
  have h3 : Win w2 56 .u64 g 0 [] (Q.take k ++ (zs ++ List.replicate (r + 1) 0)) rest := Win.whole (i := k) (by rw [Nat.zero_add]; exact hW2) rfl
  have hl : (Q.take k ++ zs).length = k + xs.length := by rw [List.length_append, List.length_take, hzl]; omega
  have hj : k + xs.length < (Q.take k ++ (zs ++ List.replicate (r + 1) 0)).length := by rw [← List.append_assoc, List.length_append, hl]; simp
  have e3 : Q.take k ++ (zs ++ List.replicate (r + 1) 0) = (Q.take k ++ zs) ++ List.replicate (r + 1) 0 := by rw [List.append_assoc]
  have hc := h3.cell hj
  have hs := h3.set hj c
  rw [Nat.zero_add] at hc hs
  refine ⟨?_, h3.frozen _, ?_⟩
  · rw [hc, e3, List.getD, ← hl, List.getElem?_append_right (Nat.le_refl _), Nat.sub_self]; rfl
  · rw [e3, ← hl, List.set_append_right _ _ (Nat.le_refl _), Nat.sub_self, List.replicate_succ, List.set_cons_zero] at hs
    rw [hl] at hs
    have e4 : Q.take k ++ (zs ++ [c]) ++ List.replicate r 0 = Q.take k ++ zs ++ c :: List.replicate r 0 := by simp [List.append_assoc]
    rw [e4]; exact hs

set_option maxHeartbeats 2000000 in
set_option maxRecDepth 100000 in
theorem multiply (gs ns caps gx capx ox gy capy oy : Nat) (prex postx prey posty : List Value) (ss xs ys : List Nat) (w : World) (hsx : gs ≠ gx) (hsy : gs ≠ gy) (hx : Ok BB xs) (hy : Ok BB ys) (hbx : xs.length ≤ 1000000) (hby : ys.length ≤ 1000000)
    (hS : Own w 56 .u64 gs caps ss) (hX : Win w 56 .u64 gx ox prex xs postx) (hY : Win w 56 .u64 gy oy prey ys posty) :
    Calls Tryd.prog 53 #[.slice (some ⟨gs, 0, none⟩) ns caps, .slice (some ⟨gx, ox, none⟩) xs.length capx, .slice (some ⟨gy, oy, none⟩) ys.length capy] w (MwPost w gs xs ys) := by
  obtain ⟨i0, hi, hz0, hz1, hz2⟩ := info_parts info_u64
  have hS0 := hS.take 0
  rw [List.take_zero] at hS0
  go_enter Tryd.func53, Tryd.ntmps53
  go_wp2_with (at_builtin; refine wpList_app_zeros _ rfl _ _ 78 3 rfl 56 .u64 .i64 .i64 i0 Tryd.underlying78 Tryd.underlying3 hi hz0 hz1 (by omega) gs caps 0 (xs.length + ys.length) [] hS0 rfl rfl _ ?hM rfl (by omega) ?_)
  case hM => omega
  intro v' w1 happ
  obtain ⟨g, cap, hv, hO, hg, hT⟩ := happ
  simp only [List.length_replicate] at hv hO
  subst hv
  have hgx : g ≠ gx := by have := hX.lt; rcases hg with h | h <;> omega
  have hgy : g ≠ gy := by have := hY.lt; rcases hg with h | h <;> omega
  have hX1 := hX.kept hT (by simp; exact fun h => hsx h.symm)
  have hY1 := hY.kept hT (by simp; exact fun h => hsy h.symm)
  have hglt := hO.lt
  clear hS0 hS
  go_wp2
  go_loopw [19] (fun i wr => ∃ (k : Nat) (Q : List Nat), i = .int .i64 k ∧ k ≤ ys.length ∧ MwInv xs ys k Q ∧ Own wr 56 .u64 g cap (Q ++ List.replicate (ys.length - k) 0) ∧ Tch [g] w1 wr)
    (fun i _ => ys.length - (intOf i).toNat)
  case atStart => exact ⟨0, List.replicate xs.length 0, rfl, Nat.zero_le _, ⟨by simp, Ok.replicate _ (by decide), by rw [dg_zeros]; simp [dg]⟩, by rw [List.replicate_append_replicate]; exact hO, Tch.refl _ _⟩
  case round =>
    clear hO
    obtain ⟨k, Q, rfl, hk, hI, hO, hTr⟩ := hrel
    by_cases hlt : k < ys.length
    · have hYr := hY1.kept hTr (by simp; exact fun h => hgy h.symm)
      have hXr := hX1.kept hTr (by simp; exact fun h => hgx h.symm)
      obtain ⟨y, ey, cy⟩ := hYr.read hlt
      have hyb : y < BB := ey.out ▸ hy.getD (by decide) k
      obtain ⟨r, hr⟩ : ∃ r, ys.length - k = r + 1 := ⟨ys.length - k - 1, by omega⟩
      rw [hr] at hO
      obtain ⟨rest, hW⟩ := hO.win
      have hQl := hI.len
      have hcap := hO.le
      rw [List.length_append, List.length_replicate, hQl] at hcap
      have hP := hW.part k xs.length (by rw [List.length_append, hQl]; omega)
      rw [Nat.zero_add, mw_part hQl] at hP
      have hDl : (Q.drop k).length = xs.length := by rw [List.length_drop, hQl]; omega
      have cA := addProduct g k (cap - k) gx ox capx _ _ prex postx (Q.drop k) xs y wr.drew hgx (hI.ok.drop k) hx hyb hDl.symm (by omega) hP hXr
      rw [hDl] at cA
      have CA := Lib.hid cA
      have hb1 : k + xs.length ≤ cap := by omega
      have hb2 : ¬ cap = k := by omega
      have HDl := Lib.hid hDl
      have HR := Lib.hid hr
      have HQL := Lib.hid hQl
      clear cA hP hDl hr hQl hX1 hY1 hXr hYr
      go_wp2_with fail
      have s1 : IntKind.i64.wrap ((k : Int) + (xs.length : Int)) = (k : Int) + (xs.length : Int) := IntWalk.i64_in _ (by omega)
      have s2 : 0 ≤ (k : Int) + (xs.length : Int) := by omega
      have s3 : ((k : Int) + (xs.length : Int)).toNat = k + xs.length := by omega
      have s4 : (k : Int) + (xs.length : Int) ≤ (cap : Int) := by omega
      have s5 : (k : Int) ≤ (k : Int) + (xs.length : Int) := by omega
      have s6 : (k : Int) + (xs.length : Int) < (xs.length : Int) + (ys.length : Int) := by omega
      have s7 : k + xs.length - k = xs.length := by omega
      go_region_with (first | (go_at_call 72; refine CA.out.mono ?_; rintro e w2 ⟨c, zs, rfl, hA, hW2, hT2⟩; obtain ⟨d0, d1, d2⟩ := mw_after HQL.out hW2 hA))
      have hI2 := hI.step hlt (by rw [ey.out]; exact hA)
      have hrr : ys.length - (k + 1) = r := by have := HR.out; omega
      have hO2 : Own (w2.setCell ⟨g, k + xs.length, none⟩ (.int .u64 (c : Int))) 56 .u64 g cap (Q.take k ++ (zs ++ [c]) ++ List.replicate (ys.length - (k + 1)) 0) := by
        rw [hrr]
        refine hO.again hW d2 ?_
        rw [List.length_append, hI2.len, List.length_append, HQL.out, List.length_replicate, List.length_replicate]; omega
      have hT3 := ((hTr.drew).trans hT2 (by simp)).setCell (p := ⟨g, k + xs.length, none⟩) (.inl (by simp)) (.int .u64 (c : Int))
      have HI2 := Lib.hid hI2
      have HO2 := Lib.hid hO2
      have HT3 := Lib.hid hT3
      clear s1 s2 s3 s4 s5 s6 s7 hI2 hrr hO2 hT3 hT2 hA hW2 d0 d1 d2 hW hO CA hcap
      go_wp2
      go_roundw
      case rel => exact ⟨k + 1, Q.take k ++ (zs ++ [c]), by first | rfl | go_num, by omega, HI2.out, HO2.out, HT3.out⟩
      case measure => simp [intOf]; omega
    · obtain rfl : k = ys.length := by omega
      have hO' : Hid (Own wr 56 .u64 g cap Q) := Lib.hid (by simpa using hO)
      have hQl := Lib.hid (hI.len)
      have hv := hI.val
      rw [List.take_of_length_le (Nat.le_refl _)] at hv
      have HV := Lib.hid hv
      have hok := hI.ok
      clear hv hI
      go_wp2
      go_ret
      refine ⟨_, Q, rfl, hok, by rw [hQl.out]; omega, HV.out, g, cap, ?_, hO'.out, by simpa using hg, hT.trans hTr (by simpa using hg)⟩
      rw [hQl.out, Nat.add_comm]; rfl

end Go.Proofs.YtpedbahppkimbaaDoor

/- wide.Mul. -/
namespace Go.Proofs.YtpedbahppkimbaaDoor
open Go.RowKit Dg

theorem two_kept {w w' : World} {S : List Nat} {B C : Nat} {v0 v1 u0 u1 : Value} (h : w.cell? ⟨B, 0, none⟩ = some v0 ∧ w.cell? ⟨B, 1, none⟩ = some v1 ∧ w.cell? ⟨C, 0, none⟩ = some u0 ∧ w.cell? ⟨C, 1, none⟩ = some u1) (ht : Tch S w w') (hB : B ∉ S) (hC : C ∉ S) :
    w'.cell? ⟨B, 0, none⟩ = some v0 ∧ w'.cell? ⟨B, 1, none⟩ = some v1 ∧ w'.cell? ⟨C, 0, none⟩ = some u0 ∧ w'.cell? ⟨C, 1, none⟩ = some u1 :=
  ⟨cell_kept2 h.1 ht hB, cell_kept2 h.2.1 ht hB, cell_kept2 h.2.2.1 ht hC, cell_kept2 h.2.2.2 ht hC⟩

theorem boxes3 (w : World) (o1 o2 o3 : Obj) : (((w.alloc o1).alloc o2).alloc o3).heap[w.heap.size]? = some o1 ∧ (((w.alloc o1).alloc o2).alloc o3).heap[w.heap.size + 1]? = some o2 ∧ (((w.alloc o1).alloc o2).alloc o3).heap[w.heap.size + 1 + 1]? = some o3 := by
  refine ⟨?_, ?_, ?_⟩
  · rw [Below.heap_alloc _ _ _ (by simp; omega), Below.heap_alloc _ _ _ (by simp)]; exact Below.heap_alloc_new' w o1
  · rw [Below.heap_alloc _ _ _ (by simp)]
    have h := Below.heap_alloc_new' (w.alloc o1) o2
    rwa [World.size_alloc] at h
  · have h := Below.heap_alloc_new' ((w.alloc o1).alloc o2) o3
    rwa [World.size_alloc, World.size_alloc] at h

theorem mul_tch {w0 w1 w2 w3 w4 w5 : World} {g : Nat} (h1 : Tch [] w0.drew w1) (h2 : Tch [] w1 w2) (h3 : Tch [] w2 w3) (h4 : Tch [g] w3 w4) (h5 : Tch [] w4 w5) : Tch [g] w0 w5 :=
  (((((Tch.drew (Tch.refl [g] w0)).trans h1 (by simp)).trans h2 (by simp)).trans h3 (by simp)).trans h4 (by simp)).trans h5 (by simp)

theorem kept_store {w : World} {A : Nat} {x y v0 v1 u0 u1 : Value} (h : w.cell? ⟨A, 0, none⟩ = some v0 ∧ w.cell? ⟨A, 1, none⟩ = some v1 ∧ w.cell? ⟨A + 1, 0, none⟩ = some u0 ∧ w.cell? ⟨A + 1, 1, none⟩ = some u1) :
    ((w.setCell ⟨A + 1 + 1, 0, none⟩ x).setCell ⟨A + 1 + 1, 1, none⟩ y).cell? ⟨A, 0, none⟩ = some v0 ∧ ((w.setCell ⟨A + 1 + 1, 0, none⟩ x).setCell ⟨A + 1 + 1, 1, none⟩ y).cell? ⟨A, 1, none⟩ = some v1 ∧
    ((w.setCell ⟨A + 1 + 1, 0, none⟩ x).setCell ⟨A + 1 + 1, 1, none⟩ y).cell? ⟨A + 1, 0, none⟩ = some u0 ∧ ((w.setCell ⟨A + 1 + 1, 0, none⟩ x).setCell ⟨A + 1 + 1, 1, none⟩ y).cell? ⟨A + 1, 1, none⟩ = some u1 := by
  obtain ⟨a, b, c, d⟩ := h
  refine ⟨?_, ?_, ?_, ?_⟩
  all_goals rw [World.cell?_setCell_other _ _ _ _ (by simp), World.cell?_setCell_other _ _ _ _ (by simp)]
  all_goals assumption

theorem dec_len (s : ByteArray) : (digs BB (bv (sb s))).length ≤ s.size := by
  refine digs_length_le (by decide) (Nat.lt_of_lt_of_le (bv_lt (sb_ok s)) ?_)
  rw [sb_length]
  exact Nat.pow_le_pow_left (by decide) _

theorem wv_agg (b : Bool) (n : Nat) : ∃ bz sz, wv b n = .agg #[.bool bz, .string sz] := by
  unfold wv
  split
  · exact ⟨_, _, rfl⟩
  · exact ⟨_, _, rfl⟩

set_option maxHeartbeats 4000000 in
set_option maxRecDepth 100000 in
theorem Mul (na nb : Bool) (sa sb' : ByteArray) (w : World) (ha : sa.size ≤ 400000) (hb : sb'.size ≤ 400000) :
    Calls Tryd.prog 38 #[.agg #[.bool na, .string sa], .agg #[.bool nb, .string sb']] w fun e w' => e = .returned (wv (!(na == nb)) (bv (sb sa) * bv (sb sb'))) ∧ Tch [] w w' := by
  go_enter Tryd.func38, Tryd.ntmps38
  go_wp2_with fail
  obtain ⟨w0, hw0⟩ : ∃ w0, w0 = ((w.alloc (.cells #[.bool na, .string sa] 36)).alloc (.cells #[.bool nb, .string sb'] 36)).alloc (.cells #[.bool false, .string ⟨#[]⟩] 36) := ⟨_, rfl⟩
  have hT0 : Tch [] w w0 := by rw [hw0]; exact (((Tch.refl [] w).alloc _).alloc _).alloc _
  obtain ⟨hA0, hA1, hR0⟩ := boxes3 w (.cells #[.bool na, .string sa] 36) (.cells #[.bool nb, .string sb'] 36) (.cells #[.bool false, .string ⟨#[]⟩] 36)
  rw [← hw0] at hA0 hA1 hR0
  have hS0 : w0.cell? ⟨w.heap.size, 0, none⟩ = some (.bool na) ∧ w0.cell? ⟨w.heap.size, 1, none⟩ = some (.string sa) ∧ w0.cell? ⟨w.heap.size + 1, 0, none⟩ = some (.bool nb) ∧ w0.cell? ⟨w.heap.size + 1, 1, none⟩ = some (.string sb') := by
    refine ⟨?_, ?_, ?_, ?_⟩
    · rw [cell_of_row _ _ _ _ _ _ hA0]; rfl
    · rw [cell_of_row _ _ _ _ _ _ hA0]; rfl
    · rw [cell_of_row _ _ _ _ _ _ hA1]; rfl
    · rw [cell_of_row _ _ _ _ _ _ hA1]; rfl
  have hz0 : w0.heap.size = w.heap.size + 3 := by rw [hw0]; simp
  obtain ⟨A, hA⟩ : ∃ A, A = w.heap.size := ⟨_, rfl⟩
  rw [← hw0, ← hA]
  rw [← hA] at hS0 hR0 hz0
  have HA := Lib.hid hA
  have HZ := Lib.hid hz0
  obtain ⟨xs, hxs⟩ : ∃ xs, xs = digs BB (bv (sb sa)) := ⟨_, rfl⟩
  obtain ⟨ys, hys⟩ : ∃ ys, ys = digs BB (bv (sb sb')) := ⟨_, rfl⟩
  have D1 := Lib.hid (fun w1 => decode na sa w1 (by omega))
  have D2 := Lib.hid (fun w1 => decode nb sb' w1 (by omega))
  rw [← hxs] at D1
  rw [← hys] at D2
  have hxo : Ok BB xs := by rw [hxs]; exact digs_ok (by decide) _
  have hyo : Ok BB ys := by rw [hys]; exact digs_ok (by decide) _
  have hxl : xs.length ≤ 400000 := by rw [hxs]; exact Nat.le_trans (dec_len sa) ha
  have hyl : ys.length ≤ 400000 := by rw [hys]; exact Nat.le_trans (dec_len sb') hb
  have hval : dg BB xs * dg BB ys = bv (sb sa) * bv (sb sb') := by rw [hxs, hys, dg_digs (by decide), dg_digs (by decide)]
  obtain ⟨bz, sz, ez⟩ := wv_agg (!(na == nb)) (bv (sb sa) * bv (sb sb'))
  have HV := Lib.hid hval
  have EZ := Lib.hid ez
  have hS0' := Lib.hid hS0
  clear hA0 hA1 hw0 hA hxs hys hval ez hz0
  have b0 := hS0.1; have b1 := hS0.2.1; have b2 := hS0.2.2.1; have b3 := hS0.2.2.2
  clear hS0
  go_region_held3 (fun w' => w'.cell? ⟨A, 0, none⟩ = some (.bool na) ∧ w'.cell? ⟨A, 1, none⟩ = some (.string sa) ∧ w'.cell? ⟨A + 1, 0, none⟩ = some (.bool nb) ∧ w'.cell? ⟨A + 1, 1, none⟩ = some (.string sb')) (first | exact ⟨b0, b1, b2, b3⟩ | exact K1.out | exact K2.out | exact K3.out | exact K4.out | exact K5.out | exact kept_store K5.out) (first | (go_at_call 54; refine (newWords _).mono ?_; rintro e w1 ⟨g0, rfl, hO0, hg0, hT1⟩; have K1 := Lib.hid (two_kept (by exact hS0'.out) hT1 (by simp) (by simp))) | (go_at_call_of 55 (Value.agg #[.bool na, .string sa]); refine (D1.out _).mono ?_; rintro e w2 ⟨g1, cap1, rfl, hO1, hg1, hT2⟩; have K2 := Lib.hid (two_kept K1.out hT2 (by simp) (by simp))) | (go_at_call_of 55 (Value.agg #[.bool nb, .string sb']); refine (D2.out _).mono ?_; rintro e w3 ⟨g2, cap2, rfl, hO2, hg2, hT3⟩; have K3 := Lib.hid (two_kept K2.out hT3 (by simp) (by simp))) | (go_at_call 53; obtain ⟨r1, W1⟩ := hO1.win; obtain ⟨r2, W2⟩ := hO2.win; have O0' := (hO0.kept hT2 (by simp)).kept hT3 (by simp); have W1' := W1.kept hT3 (by simp); have hG0 : A + 3 ≤ g0 := (by rw [← HZ.out]; exact hg0); have hl0 := hO0.lt; have hl1 := hO1.lt; refine (multiply g0 0 8 g1 cap1 0 g2 cap2 0 [] r1 [] r2 [] xs ys _ (by omega) (by have := hT2.size; omega) hxo hyo (by omega) (by omega) O0' W1' W2).mono ?_; rintro e w4 ⟨v, zs, rfl, hzo, hzl, hzv, g3, cap3, rfl, hO3, hg3, hT4⟩; have K4 := Lib.hid (two_kept K3.out hT4 (by rw [List.mem_singleton]; omega) (by rw [List.mem_singleton]; omega))) | (go_at_call 44; obtain ⟨r3, W3⟩ := hO3.win; have cE := encode (!(na == nb)) g3 cap3 0 [] r3 zs w4 hzo (by rw [hzl]; omega) hO3.le W3; rw [hzl, hzv, HV.out, EZ.out] at cE; refine cE.mono ?_; rintro e w5 ⟨rfl, hT5⟩; have K5 := Lib.hid (two_kept K4.out hT5 (by simp) (by simp)); have HT5 := Lib.hid (mul_tch hT1 hT2 hT3 hT4 hT5); have hBk := (HT5.out.block (A + 1 + 1) (by rw [HZ.out]; omega) (by rw [List.mem_singleton]; omega)).trans hR0; have c0 := cell_of_row w5 (A + 1 + 1) 0 _ _ _ hBk; have c1 := cell_of_row w5 (A + 1 + 1) 1 _ _ _ hBk; have f0 := frozen_of_row w5 (A + 1 + 1) 0 _ _ hBk; have f1 := frozen_of_row w5 (A + 1 + 1) 1 _ _ hBk))
  go_wp2
  refine bodyPost_ret (v := .agg #[.bool bz, .string sz]) (by simp [results, Tryd.results38, go_sem, c0, c1]) rfl ⟨?_, ?_⟩
  · rw [EZ.out]
  · have hAe := HA.out
    have h6 := hT0.trans HT5.out (by intro k hk; rw [List.mem_singleton] at hk; exact .inr (by omega))
    exact (h6.setCell (.inr (by simp; omega)) _).setCell (.inr (by simp; omega)) _

end Go.Proofs.YtpedbahppkimbaaDoor
