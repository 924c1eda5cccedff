/- wide.multiply. -/
import Derived.Test.YtmiibcdcnoefgaaDoorAddW
import Derived.Test.YtmiibcdcnoefgaaDoorSub
import Derived.Deep.RegionHeld3
import Derived.Deep.RegionWith
import Derived.IntWalk
namespace Go.Proofs.YtmiibcdcnoefgaaDoor
open Go.RowKit Dg

/-- After i words of y: Q is x times them. -/
structure MwInv (xs ys : List Nat) (i : Nat) (Q : List Nat) : Prop where
  len : Q.length = i + xs.length
  ok : Ok BB Q
  val : dg BB Q = dg BB xs * dg BB (ys.take i)

theorem MwInv.step {xs ys Q zs : List Nat} {i c : Nat} (h : MwInv xs ys i Q) (hi : i < ys.length) (ha : MulOut BB (Q.drop i) xs (ys.getD i 0) c zs) : MwInv xs ys (i + 1) (Q.take i ++ (zs ++ [c])) := by
  have hl := h.len
  have hzl := ha.len
  rw [List.length_drop, hl] at hzl
  have htl : (Q.take i).length = i := by rw [List.length_take]; omega
  refine ⟨by rw [List.length_append, List.length_append, htl, hzl]; simp; omega, (h.ok.take i).append (ha.ok.snoc ha.cb), ?_⟩
  have hv := ha.val
  rw [← ha.len] at hv
  rw [dg_append, dg_snoc, hv, htl, dg_take_succ BB ys i hi, Nat.mul_add, Nat.mul_add, ← h.val]
  have e := dg_split BB Q i (by omega)
  have e2 : BB ^ i * (ys.getD i 0 * dg BB xs) = dg BB xs * (BB ^ i * ys.getD i 0) := by rw [← Nat.mul_assoc, Nat.mul_comm]
  omega

def MwPost (w : World) (gs : Nat) (xs ys : List Nat) (e : Ending) (w' : World) : Prop :=
  ∃ v zs, e = .returned v ∧ Ok BB zs ∧ zs.length = xs.length + ys.length ∧ dg BB zs = dg BB xs * dg BB ys ∧ Words 76 .u64 w [gs] v zs w'

theorem mw_part {Q : List Nat} {i m r : Nat} (hl : Q.length = i + m) : ((Q ++ List.replicate (r + 1) 0).drop i).take m = Q.drop i := by
  rw [List.drop_append_of_le_length (by omega), List.take_append_of_le_length (by rw [List.length_drop]; omega), List.take_of_length_le (by rw [List.length_drop]; omega)]

/-- What lies in the product's block behind one round's call. -/
theorem mw_after {w2 : World} {g k r c : Nat} {rest : List Value} {xs Q zs : List Nat} {y : Nat} (hQl : Q.length = k + xs.length)
    (hW2 : Win w2 76 .u64 g k ([] ++ ints .u64 ((Q ++ List.replicate (r + 1) 0).take k)) zs (ints .u64 ((Q ++ List.replicate (r + 1) 0).drop (k + xs.length)) ++ rest)) (hA : MulOut BB (Q.drop k) xs y c zs) :
    w2.cell? ⟨g, k + xs.length, none⟩ = some (.int .u64 0) ∧ w2.frozen? ⟨g, k + xs.length, none⟩ = false ∧
    Win (w2.setCell ⟨g, k + xs.length, none⟩ (.int .u64 (c : Int))) 76 .u64 g 0 [] (Q.take k ++ (zs ++ [c]) ++ List.replicate r 0) rest := by
  have hzl := hA.len
  rw [List.length_drop, hQl] at hzl
  have e1 : (Q ++ List.replicate (r + 1) 0).take k = Q.take k := by rw [List.take_append_of_le_length (by omega)]
  have e2 : (Q ++ List.replicate (r + 1) 0).drop (k + xs.length) = List.replicate (r + 1) 0 := by rw [← hQl, List.drop_left]
  rw [e1, e2] at hW2
  have h3 : Win w2 76 .u64 g 0 [] (Q.take k ++ (zs ++ List.replicate (r + 1) 0)) rest := Win.whole (i := k) (by rw [Nat.zero_add]; exact hW2) rfl
  have hl : (Q.take k ++ zs).length = k + xs.length := by rw [List.length_append, List.length_take, hzl]; omega
  have hj : k + xs.length < (Q.take k ++ (zs ++ List.replicate (r + 1) 0)).length := by rw [← List.append_assoc, List.length_append, hl]; simp
  have e3 : Q.take k ++ (zs ++ List.replicate (r + 1) 0) = (Q.take k ++ zs) ++ List.replicate (r + 1) 0 := by rw [List.append_assoc]
  have hc := h3.cell hj
  have hs := h3.set hj c
  rw [Nat.zero_add] at hc hs
  refine ⟨?_, h3.frozen _, ?_⟩
  · rw [hc, e3, List.getD, ← hl, List.getElem?_append_right (Nat.le_refl _), Nat.sub_self]; rfl
  · rw [e3, ← hl, List.set_append_right _ _ (Nat.le_refl _), Nat.sub_self, List.replicate_succ, List.set_cons_zero] at hs
    rw [hl] at hs
    have e4 : Q.take k ++ (zs ++ [c]) ++ List.replicate r 0 = Q.take k ++ zs ++ c :: List.replicate r 0 := by simp [List.append_assoc]
    rw [e4]; exact hs

set_option maxHeartbeats 2000000 in
set_option maxRecDepth 100000 in
theorem multiply (gs ns caps gx capx ox gy capy oy : Nat) (prex postx prey posty : List Value) (ss xs ys : List Nat) (w : World) (hsx : gs ≠ gx) (hsy : gs ≠ gy) (hx : Ok BB xs) (hy : Ok BB ys) (hbx : xs.length ≤ 1000000) (hby : ys.length ≤ 1000000)
    (hS : Own w 76 .u64 gs caps ss) (hX : Win w 76 .u64 gx ox prex xs postx) (hY : Win w 76 .u64 gy oy prey ys posty) :
    Calls Tryd.prog 60 #[.slice (some ⟨gs, 0, none⟩) ns caps, .slice (some ⟨gx, ox, none⟩) xs.length capx, .slice (some ⟨gy, oy, none⟩) ys.length capy] w (MwPost w gs xs ys) := by
  obtain ⟨i0, hi, hz0, hz1, hz2⟩ := info_parts info_u64
  have hS0 := hS.take 0
  rw [List.take_zero] at hS0
  go_enter Tryd.func60, Tryd.ntmps60
  go_wp2_with (at_builtin; refine wpList_app_zeros _ rfl _ _ 70 3 rfl 76 .u64 .i64 .i64 i0 Tryd.underlying70 Tryd.underlying3 hi hz0 hz1 (by omega) gs caps 0 (xs.length + ys.length) [] hS0 rfl rfl _ ?hM rfl (by omega) ?_)
  case hM => omega
  intro v' w1 happ
  obtain ⟨g, cap, hv, hO, hg, hT⟩ := happ
  simp only [List.length_replicate] at hv hO
  subst hv
  have hgx : g ≠ gx := by have := hX.lt; rcases hg with h | h <;> omega
  have hgy : g ≠ gy := by have := hY.lt; rcases hg with h | h <;> omega
  have hX1 := hX.kept hT (by simp; exact fun h => hsx h.symm)
  have hY1 := hY.kept hT (by simp; exact fun h => hsy h.symm)
  have hglt := hO.lt
  clear hS0 hS
  go_wp2
  go_loopw [19] (fun i wr => ∃ (k : Nat) (Q : List Nat), i = .int .i64 k ∧ k ≤ ys.length ∧ MwInv xs ys k Q ∧ Own wr 76 .u64 g cap (Q ++ List.replicate (ys.length - k) 0) ∧ Tch [g] w1 wr)
    (fun i _ => ys.length - (intOf i).toNat)
  case atStart => exact ⟨0, List.replicate xs.length 0, rfl, Nat.zero_le _, ⟨by simp, Ok.replicate _ (by decide), by rw [dg_zeros]; simp [dg]⟩, by rw [List.replicate_append_replicate]; exact hO, Tch.refl _ _⟩
  case round =>
    clear hO
    obtain ⟨k, Q, rfl, hk, hI, hO, hTr⟩ := hrel
    by_cases hlt : k < ys.length
    · have hYr := hY1.kept hTr (by simp; exact fun h => hgy h.symm)
      have hXr := hX1.kept hTr (by simp; exact fun h => hgx h.symm)
      obtain ⟨y, ey, cy⟩ := hYr.read hlt
      have hyb : y < BB := ey.out ▸ hy.getD (by decide) k
      obtain ⟨r, hr⟩ : ∃ r, ys.length - k = r + 1 := ⟨ys.length - k - 1, by omega⟩
      rw [hr] at hO
      obtain ⟨rest, hW⟩ := hO.win
      have hQl := hI.len
      have hcap := hO.le
      rw [List.length_append, List.length_replicate, hQl] at hcap
      have hP := hW.part k xs.length (by rw [List.length_append, hQl]; omega)
      rw [Nat.zero_add, mw_part hQl] at hP
      have hDl : (Q.drop k).length = xs.length := by rw [List.length_drop, hQl]; omega
      have cA := addProduct g k (cap - k) gx ox capx _ _ prex postx (Q.drop k) xs y wr.drew hgx (hI.ok.drop k) hx hyb hDl.symm (by omega) hP hXr
      rw [hDl] at cA
      have CA := Lib.hid cA
      have hb1 : k + xs.length ≤ cap := by omega
      have hb2 : ¬ cap = k := by omega
      have HDl := Lib.hid hDl
      have HR := Lib.hid hr
      have HQL := Lib.hid hQl
      clear cA hP hDl hr hQl hX1 hY1 hXr hYr
      go_wp2_with fail
      have s1 : IntKind.i64.wrap ((k : Int) + (xs.length : Int)) = (k : Int) + (xs.length : Int) := IntWalk.i64_in _ (by omega)
      have s2 : 0 ≤ (k : Int) + (xs.length : Int) := by omega
      have s3 : ((k : Int) + (xs.length : Int)).toNat = k + xs.length := by omega
      have s4 : (k : Int) + (xs.length : Int) ≤ (cap : Int) := by omega
      have s5 : (k : Int) ≤ (k : Int) + (xs.length : Int) := by omega
      have s6 : (k : Int) + (xs.length : Int) < (xs.length : Int) + (ys.length : Int) := by omega
      have s7 : k + xs.length - k = xs.length := by omega
      go_region_with (first | (go_at_call 90; refine CA.out.mono ?_; rintro e w2 ⟨c, zs, rfl, hA, hW2, hT2⟩; obtain ⟨d0, d1, d2⟩ := mw_after HQL.out hW2 hA))
      have hI2 := hI.step hlt (by rw [ey.out]; exact hA)
      have hrr : ys.length - (k + 1) = r := by have := HR.out; omega
      have hO2 : Own (w2.setCell ⟨g, k + xs.length, none⟩ (.int .u64 (c : Int))) 76 .u64 g cap (Q.take k ++ (zs ++ [c]) ++ List.replicate (ys.length - (k + 1)) 0) := by
        rw [hrr]
        refine hO.again hW d2 ?_
        rw [List.length_append, hI2.len, List.length_append, HQL.out, List.length_replicate, List.length_replicate]; omega
      have hT3 := ((hTr.drew).trans hT2 (by simp)).setCell (p := ⟨g, k + xs.length, none⟩) (.inl (by simp)) (.int .u64 (c : Int))
      have HI2 := Lib.hid hI2
      have HO2 := Lib.hid hO2
      have HT3 := Lib.hid hT3
      clear s1 s2 s3 s4 s5 s6 s7 hI2 hrr hO2 hT3 hT2 hA hW2 d0 d1 d2 hW hO CA hcap
      go_wp2
      go_roundw
      case rel => exact ⟨k + 1, Q.take k ++ (zs ++ [c]), by first | rfl | go_num, by omega, HI2.out, HO2.out, HT3.out⟩
      case measure => simp [intOf]; omega
    · obtain rfl : k = ys.length := by omega
      have hO' : Hid (Own wr 76 .u64 g cap Q) := Lib.hid (by simpa using hO)
      have hQl := Lib.hid (hI.len)
      have hv := hI.val
      rw [List.take_of_length_le (Nat.le_refl _)] at hv
      have HV := Lib.hid hv
      have hok := hI.ok
      clear hv hI
      go_wp2
      go_ret
      refine ⟨_, Q, rfl, hok, by rw [hQl.out]; omega, HV.out, g, cap, ?_, hO'.out, by simpa using hg, hT.trans hTr (by simpa using hg)⟩
      rw [hQl.out, Nat.add_comm]; rfl

end Go.Proofs.YtmiibcdcnoefgaaDoor
