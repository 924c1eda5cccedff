/- wide.divide. -/
import Derived.Test.YtmiibcdcnoefgaaGreatDoorMath
import Derived.Test.YtmiibcdcnoefgaaGreatDoorWindow
import Derived.Test.YtmiibcdcnoefgaaGreatDoorAddW
import Derived.Test.YtmiibcdcnoefgaaGreatDoorAdd
namespace Go.Proofs.YtmiibcdcnoefgaaGreatDoor
open Go.RowKit Dg

/-- What divide leaves: the words of the quotient and of the rest, the divisor as it was. -/
def DivideOut (w : World) (gs gx gy : Nat) (xs ys : List Nat) (e : Ending) (w' : World) : Prop :=
  ∃ gq capq gr capr, e = .returned (.tuple #[.slice (some ⟨gq, 0, none⟩) (digs BB (dg BB xs / dg BB ys)).length capq, .slice (some ⟨gr, 0, none⟩) (digs BB (dg BB xs % dg BB ys)).length capr]) ∧
    Own w' 56 .u64 gq capq (digs BB (dg BB xs / dg BB ys)) ∧ Own w' 56 .u64 gr capr (digs BB (dg BB xs % dg BB ys)) ∧
    (gq = gs ∨ w.heap.size ≤ gq) ∧ (gr = gx ∨ w.heap.size ≤ gr) ∧ gq ≠ gr ∧ Tch [gs, gx, gy] w w'

set_option maxHeartbeats 1000000 in
set_option maxRecDepth 100000 in
theorem divide_small (gs ns caps gx capx gy capy oy : Nat) (pre' post' : List Value) (ss xs ys : List Nat) (w : World) (hsx : gs ≠ gx) (hx : Ok BB xs) (hxt : Trim xs) (hyt : Trim ys) (hby : ys.length ≤ 10000000)
    (hlt : xs.length < ys.length)
    (hS : Own w 56 .u64 gs caps ss) (hX : Own w 56 .u64 gx capx xs) (hY : Win w 56 .u64 gy oy pre' ys post') :
    Calls Tryz.prog 38 #[.slice (some ⟨gs, 0, none⟩) ns caps, .slice (some ⟨gx, 0, none⟩) xs.length capx, .slice (some ⟨gy, oy, none⟩) ys.length capy] w (fun e w' => DivideOut w gs gx gy xs ys e w' ∧ Win w' 56 .u64 gy oy pre' ys post') := by
  have hne : ys ≠ [] := by intro h; rw [h] at hlt; simp at hlt
  have hXY : dg BB xs < dg BB ys := by
    refine Nat.lt_of_lt_of_le (dg_lt hx) (Nat.le_trans ?_ (pow_le_of_trim hyt hne))
    exact Nat.pow_le_pow_right (by decide) (by omega)
  have e1 : digs BB (dg BB xs / dg BB ys) = [] := by rw [Nat.div_eq_of_lt hXY, digs_zero]
  have e2 : digs BB (dg BB xs % dg BB ys) = xs := by rw [Nat.mod_eq_of_lt hXY, digs_dg (by decide) hx hxt]
  have H1 := Lib.hid e1
  have H2 := Lib.hid e2
  have hS0 := hS.take 0
  rw [List.take_zero] at hS0
  clear e1 e2 hne
  go_enter Tryz.func38, Tryz.ntmps38
  go_wp2
  go_ret2
  refine ⟨⟨gs, caps, gx, capx, ?_, ?_, ?_, .inl rfl, .inl rfl, hsx, Tch.refl _ _⟩, hY⟩
  · rw [H1.out, H2.out]; rfl
  · rw [H1.out]; exact hS0
  · rw [H2.out]; exact hX

theorem getD_repl (k : Nat) (qs : List Nat) : (List.replicate (k + 1) 0 ++ qs).getD k 0 = 0 := by
  rw [List.getD, List.getElem?_append_left (by simp), List.getElem?_replicate]; simp

theorem set_repl (k q : Nat) (qs : List Nat) : (List.replicate (k + 1) 0 ++ qs).set k q = List.replicate k 0 ++ q :: qs := by
  rw [List.replicate_succ', List.append_assoc, List.set_append_right _ _ (by simp), List.length_replicate, Nat.sub_self]; rfl

theorem top_ne {ys1 ys : List Nat} {n top c : Nat} (h1 : Ok BB ys1) (hl1 : ys1.length = n + 1) (hv : dg BB ys1 = 2 ^ c * dg BB ys) (hy : Ok BB ys) (hl : ys.length = n + 1) (ht : ys.getD n 0 = top) (h0 : 0 < top) (_hc : c < 64) : ys1.getD n 0 ≠ 0 := by
  intro h
  obtain ⟨a, _⟩ := dg_lt_top h1 hl1
  obtain ⟨_, b⟩ := dg_lt_top hy hl
  rw [h, Nat.zero_add, Nat.one_mul, hv] at a
  rw [ht] at b
  have h2 := Nat.mul_le_mul_right (BB ^ n) (show 1 ≤ top from h0)
  have h3 := Nat.le_mul_of_pos_left (dg BB ys) (Nat.two_pow_pos c)
  omega

theorem pow_lt_BB {c : Nat} (hc : c < 64) : 2 ^ c < BB := by
  rw [BB_pow c hc]
  have h : 2 ^ 1 ≤ 2 ^ (64 - c) := Nat.pow_le_pow_right (by omega) (by omega)
  have h2 := Nat.mul_le_mul_right (2 ^ c) h
  have h3 := Nat.two_pow_pos c
  omega

set_option maxHeartbeats 4000000 in
set_option maxRecDepth 100000 in
theorem divide_big (gs ns caps gx capx gy capy oy m n : Nat) (pre' post' : List Value) (ss xs ys : List Nat) (w : World) (hsx : gs ≠ gx) (hsy : gs ≠ gy) (hxy : gx ≠ gy) (hx : Ok BB xs) (hy : Ok BB ys) (hbm : m ≤ 10000000) (hm : xs.length = m) (hn : ys.length = n + 1)
    (hle : n + 1 ≤ m) (htop : ys.getD n 0 ≠ 0)
    (hS : Own w 56 .u64 gs caps ss) (hX : Own w 56 .u64 gx capx xs) (hY : Win w 56 .u64 gy oy pre' ys post') :
    Calls Tryz.prog 38 #[.slice (some ⟨gs, 0, none⟩) ns caps, .slice (some ⟨gx, 0, none⟩) m capx, .slice (some ⟨gy, oy, none⟩) (n + 1 : Nat) capy] w (fun e w' => DivideOut w gs gx gy xs ys e w' ∧ Win w' 56 .u64 gy oy pre' ys post') := by
  obtain ⟨i0, hi, hz0, hz1, hz2⟩ := info_parts info_u64
  have hS0 := hS.take 0
  rw [List.take_zero] at hS0
  obtain ⟨top, et, ct⟩ := hY.read (j := n) (by omega)
  have ht0 : 0 < top := by rw [← et.out]; omega
  have htb : top < BB := et.out ▸ hy.getD (by decide) n
  obtain ⟨c, hc, ec, hcn, _⟩ := norm_shift top ht0 htb
  have HLZ := fun w1 => Tryz.bits_LeadingZeros64 (top : Int) w1 (by omega) (by rw [BB_eq] at htb; omega)
  have HM := Lib.hid hm
  have HN := Lib.hid hn
  have HEC := Lib.hid ec
  have HTOP := Lib.hid htop
  have CY := Lib.hid (fun w1 h => shiftLeft gy oy capy pre' post' ys c hc w1 hy (by omega) h)
  obtain ⟨restx, hWX⟩ := hX.win
  have CX := Lib.hid (fun w1 h => shiftLeft gx 0 capx [] restx xs c hc w1 hx (by omega) h)
  have HCN := Lib.hid hcn
  rw [HN.out] at CY
  rw [HM.out] at CX
  have HLZ' := Lib.hid HLZ
  clear HLZ ec hm hn htop hcn
  go_enter Tryz.func38, Tryz.ntmps38
  go_wp2_with fail
  refine (HLZ'.out _).mono ?_
  rintro e w0 ⟨rfl, hw⟩
  subst hw
  rw [Int.toNat_natCast, HEC.out]
  go_wp2_with fail
  refine (CY.out _ (by exact hY)).mono ?_
  rintro e w1 ⟨cy, ys1, rfl, hY1, hWY1, hT1⟩
  go_wp2_with fail
  have hWX1 := hWX.kept hT1 (by simp; exact hxy)
  refine (CX.out _ (by exact hWX1)).mono ?_
  rintro e w2 ⟨cx, xs1, rfl, hX1, hWX2, hT2⟩
  have hT12 : Tch [gx, gy] _ w2 := (hT1.mono (by simp)).trans hT2 (by simp)
  have hX2 : Own w2 56 .u64 gx capx xs1 := hX.again hWX hWX2 hX1.len
  have hWY2 := hWY1.kept hT2 (by simp; exact fun h => hxy h.symm)
  have hna : Own (w2.alloc (.cells #[.int .u64 (cx : Int)] 56)) 56 .u64 gx capx xs1 := hX2.kept ((Tch.refl [] w2).alloc _) (by simp)
  have HL1 : Hid (xs1.length = m) := Lib.hid (hX1.len.trans HM.out)
  clear hX2 hWX2 hWX1 hT1 hT2
  go_wp2_with (at_builtin; refine wpList_app_one _ rfl _ _ 52 rfl 56 .u64 i0 Tryz.underlying52 hi hz0 hz1 (by omega) gx capx m xs1 hna HL1.out rfl ⟨w2.heap.size, 0, none⟩ 1 cx rfl (by simp) (by omega) ?_)
  intro v' w3 happ
  have hT23 : Tch [gx] w2 w3 := by
    obtain ⟨_, _, _, _, _, h⟩ := happ
    exact ((Tch.refl [gx] w2).alloc _).trans h (by simp)
  have hT3 := hT12.trans hT23 (by simp)
  have hsz := hT12.size
  obtain ⟨gz, capz, hv, hZ, hgz', _⟩ := happ
  have hgz : gz = gx ∨ w0.heap.size ≤ gz := by
    rcases hgz' with h | h
    · exact .inl h
    · simp at h; exact .inr (by omega)
  obtain ⟨Z, eZ⟩ : ∃ Z, Z = xs1 ++ [cx] := ⟨_, rfl⟩
  rw [← eZ] at hZ hv
  have HZL : Hid (Z.length = m + 1) := Lib.hid (by rw [eZ, List.length_append, HL1.out]; rfl)
  rw [HZL.out] at hv
  subst hv
  have HZV : Hid (dg BB Z = 2 ^ c * dg BB xs) := Lib.hid (by rw [eZ, dg_snoc, hX1.len]; exact hX1.val)
  have HZO : Hid (Ok BB Z) := Lib.hid (by rw [eZ]; exact hX1.ok.snoc (Nat.lt_trans hX1.cb (pow_lt_BB hc)))
  clear eZ
  have hWY3 := hWY2.kept hT23 (by simp; exact fun h => hxy h.symm)
  have hS3 := hS0.kept hT3 (by simp; exact ⟨hsx, hsy⟩)
  have hgs3 : gs < w0.heap.size := hS0.lt
  have hgy0 : gy < w0.heap.size := hY.lt
  clear hna hWY2 hT23 hT12 hsz hgz'
  go_wp2_with (at_builtin; refine wpList_app_zeros _ rfl _ _ 52 3 rfl 56 .u64 .i64 .i64 i0 Tryz.underlying52 Tryz.underlying3 hi hz0 hz1 (by omega) gs caps 0 (m - n) [] hS3 rfl rfl _ ?hM rfl (by omega) ?_)
  case hM => omega
  intro v' w4 happ
  obtain ⟨gq, capq, hv, hQ, hgq', hT4⟩ := happ
  simp only [List.length_replicate] at hv hQ
  subst hv
  have hsz3 := hT3.size
  have hgq : gq = gs ∨ w0.heap.size ≤ gq := by
    rcases hgq' with h | h
    · exact .inl h
    · exact .inr (by omega)
  have hqz : gq ≠ gz := by
    have := hZ.lt
    rcases hgq' with h | h <;> rcases hgz with h2 | h2 <;> omega
  have hqy : gq ≠ gy := by rcases hgq with h | h <;> omega
  have hzy : gz ≠ gy := by rcases hgz with h | h <;> omega
  have hsz' : gz ≠ gs := by rcases hgz with h | h <;> omega
  have hT04 : Tch [gs, gx, gy] w0 w4 := (hT3.mono (by simp)).trans hT4 (by simp)
  have hZ4 := hZ.kept hT4 (by simp; exact hsz')
  have hWY4 := hWY3.kept hT4 (by simp; exact fun h => hsy h.symm)
  have DV : Hid (DvInv BB (2 ^ c * dg BB xs) (2 ^ c * dg BB ys) n (m - n) Z []) := by
    obtain ⟨a, b⟩ := dg_lt_top hy HN.out
    exact Lib.hid (DvInv.first (by decide) (Nat.two_pow_pos c) HZO.out HZL.out HZV.out (by rw [← HM.out]; exact dg_lt hx) (Nat.le_trans (Nat.le_mul_of_pos_left _ (by rw [et.out]; exact ht0)) b) (by omega))
  have hYv : Hid (dg BB ys1 = 2 ^ c * dg BB ys) := by
    obtain ⟨a, b⟩ := dg_lt_top hy HN.out
    have hlt : 2 ^ c * dg BB ys < BB ^ (n + 1) := shl_fits (top := top) ⟨2 ^ (64 - c), by rw [Nat.mul_comm]; exact BB_pow c hc⟩ (Nat.two_pow_pos c) HCN.out (by rw [← et.out]; exact a)
    have hv := hY1.val
    rw [HN.out] at hv
    have hcy : cy = 0 := by
      rcases Nat.eq_zero_or_pos cy with h | h
      · exact h
      · have := Nat.mul_le_mul_left (BB ^ (n + 1)) h
        omega
    rw [hcy, Nat.mul_zero, Nat.add_zero] at hv
    exact Lib.hid hv
  have hY1l : Hid (ys1.length = n + 1) := Lib.hid (hY1.len.trans HN.out)
  have hY1o := hY1.ok
  clear hgq' hT4 hZ hWY3 hS3 hY1 hX1 CY CX HLZ' HEC HZV HZO hS0 hWY1 hWX hT3 hsz3 HCN
  go_wp2
  obtain ⟨M, hM⟩ : ∃ M : Nat, M = m - n := ⟨_, rfl⟩
  rw [← hM] at hQ DV
  have HMn := Lib.hid hM
  rw [show ((m - n : Nat) : Int) = (M : Int) from by rw [hM]]
  rw [show m - n = M from hM.symm]
  have hMle : M ≤ m := by omega
  have hMn : M + n = m := by omega
  have HMN := Lib.hid hMn
  clear hM hMn
  go_loopw [10] (fun i wr => ∃ (j : Nat) (Z qs : List Nat), i = .int .i64 ((j : Int) - 1) ∧ j ≤ M ∧ Hid (Z.length = m + 1) ∧ Hid (j + qs.length = M) ∧ Own wr 56 .u64 gq capq (List.replicate j 0 ++ qs) ∧ Own wr 56 .u64 gz capz Z ∧ Win wr 56 .u64 gy oy pre' ys1 post' ∧
      DvInv BB (2 ^ c * dg BB xs) (2 ^ c * dg BB ys) n j Z qs ∧ Tch [gs, gx, gy] w0 wr) (fun i _ => (intOf i + 1).toNat)
  case atStart => exact ⟨M, Z, [], rfl, Nat.le_refl _, HZL.out, Lib.hid (by simp), by simpa using hQ, hZ4, hWY4, DV.out, hT04⟩
  case round =>
    clear hQ hZ4 hWY4 DV hT04
    obtain ⟨j, Z, qs, hi0, hj, HZl, Hql, hQ, hZ, hWY, hD, hT⟩ := hrel
    obtain _ | k := j
    · obtain rfl : _ = Value.int .i64 (-1) := hi0
      obtain ⟨hq1, hz1'⟩ := hD.out
      have hp := Nat.two_pow_pos c
      rw [Nat.mul_div_mul_left _ _ hp] at hq1
      rw [Nat.mul_mod_mul_left] at hz1'
      have HQ1 := Lib.hid hq1
      have HZ1 := Lib.hid hz1'
      have HZo := Lib.hid hD.okZ
      have HQo := Lib.hid hD.okq
      obtain ⟨restz, hWz⟩ := hZ.win
      have cY2 := shiftRight gy oy capy pre' post' ys1 c hc wr hY1o (by rw [hY1l.out]; omega) hWY
      rw [hY1l.out] at cY2
      have CY2 := Lib.hid cY2
      simp only [List.replicate_zero, List.nil_append, Nat.zero_add] at hQ Hql
      clear hq1 hz1' cY2 hD hp
      go_wp2_with fail
      refine CY2.out.mono ?_
      rintro e w5 ⟨r5, ys5, rfl, hY5, hWY5, hT5⟩
      have hys : ys5 = ys := by
        refine dg_inj (by decide) hY5.ok hy (hY5.len.trans (hY1l.out.trans HN.out.symm)) ?_
        rw [hY5.eqs.1, hYv.out, Nat.mul_div_cancel_left _ (Nat.two_pow_pos c)]
      subst hys
      have hWz5 := hWz.kept hT5 (by simp; exact hzy)
      have cZ2 := shiftRight gz 0 capz [] restz Z c hc w5 HZo.out (by rw [HZl.out]; omega) hWz5
      rw [HZl.out] at cZ2
      have CZ2 := Lib.hid cZ2
      clear cZ2 CY2
      go_wp2_with fail
      refine CZ2.out.mono ?_
      rintro e w6 ⟨r6, zs6, rfl, hZ6, hWz6, hT6⟩
      have hT56 : Tch [gz, gy] wr w6 := (hT5.mono (by simp)).trans hT6 (by simp)
      have hO6 : Own w6 56 .u64 gz capz zs6 := hZ.again hWz hWz6 hZ6.len
      have hQ6 := hQ.kept hT56 (by simp; exact ⟨hqz, hqy⟩)
      have hY6 := hWY5.kept hT6 (by simp; exact fun h => hzy h.symm)
      have hT06 := hT.trans hT56 (by rcases hgz with h | h <;> simp [h])
      obtain ⟨restq, hWq6⟩ := hQ6.win
      have hl6 : zs6.length = m + 1 := hZ6.len.trans HZl.out
      have cq := trim gq 0 capq [] restq qs w6 (by have := Hql.out; omega) hQ6.le hWq6
      have cz := trim gz 0 capz [] restz zs6 w6 (by omega) hO6.le hWz6
      rw [hl6] at cz
      rw [Hql.out] at cq
      have Cq := Lib.hid cq
      have Cz := Lib.hid cz
      have eq1 : cut qs = digs BB (dg BB xs / dg BB ys5) := by rw [cut_eq (by decide) HQo.out, HQ1.out]
      have ez1 : cut zs6 = digs BB (dg BB xs % dg BB ys5) := by rw [cut_eq (by decide) hZ6.ok, hZ6.eqs.1, HZ1.out, Nat.mul_div_cancel_left _ (Nat.two_pow_pos c)]
      have E1 := Lib.hid eq1
      have E2 := Lib.hid ez1
      clear cq cz hl6 hZ6 hT5 hT6 hT56 hWz6 hWz5 CZ2 eq1 ez1
      go_wp2_with fail
      refine Cq.out.mono ?_
      rintro e w7 ⟨rfl, rfl⟩
      go_wp2_with fail
      refine Cz.out.mono ?_
      rintro e w7 ⟨rfl, rfl⟩
      go_wp2
      go_ret2
      have g1 := hQ6.take (cut qs).length
      have g2 := hO6.take (cut zs6).length
      rw [← cut_take, E1.out] at g1
      rw [← cut_take, E2.out] at g2
      exact ⟨⟨gq, capq, gz, capz, by rw [← E1.out, ← E2.out]; rfl, g1, g2, hgq, hgz, hqz, hT06⟩, hY6⟩
    · have hi' : _ = Value.int .i64 (k : Int) := hi0.trans (by congr 1; omega)
      clear hi0
      subst hi'
      have hzc : m + 1 ≤ capz := by have := hZ.le; rw [HZl.out] at this; exact this
      have hb1 : k + n + 1 ≤ m := by have := HMN.out; omega
      have hb2 : k + (n + 1) + 1 ≤ capz := by omega
      have hb3 : ¬ capz = k := by omega
      obtain ⟨restz, hWz⟩ := hZ.win
      have hP := hWz.part k (n + 2) (by rw [HZl.out]; omega)
      rw [Nat.zero_add] at hP
      have hWl : ((Z.drop k).take (n + 2)).length = n + 2 := by rw [List.length_take, List.length_drop, HZl.out]; omega
      have hYb : dg BB ys1 < BB ^ (n + 1) := by have := dg_lt hY1o; rwa [hY1l.out] at this
      have hW0 : 0 < dg BB ys1 := by
        obtain ⟨a, b⟩ := dg_lt_top hy HN.out
        rw [hYv.out]
        refine Nat.mul_pos (Nat.two_pow_pos c) (Nat.lt_of_lt_of_le ?_ b)
        exact Nat.mul_pos (by rw [et.out]; exact ht0) (Nat.pow_pos (by decide))
      have hDl := hYv.out ▸ hD
      have hwin := hDl.win (by decide) hYb (by rw [HZl.out]; omega)
      have cW := divideWindow gz k (capz - k) gy oy capy n _ _ pre' post' _ ys1 wr hzy ((hD.okZ.drop k).take (n + 2)) hY1o hWl hY1l.out (by omega) (top_ne hY1o hY1l.out hYv.out hy HN.out et.out ht0 hc) hwin hP hWY
      have CW := Lib.hid cW
      have HWL := Lib.hid hWl
      have HYB := Lib.hid hYb
      have HW0 := Lib.hid hW0
      have HDL := Lib.hid hDl
      clear cW hP hwin hWl hYb hW0 hDl
      go_wp2_with fail
      rw [show k + (n + 1) + 1 - k = n + 2 from by omega]
      refine CW.out.mono ?_
      rintro e w5 ⟨q, rs, rfl, hqb, hO, hP5, hT5⟩
      have hlen5 : rs.length = n + 2 := hO.len.trans HWL.out
      have hZ5 : Own w5 56 .u64 gz capz (Z.take k ++ (rs ++ Z.drop (k + (n + 2)))) := by
        refine hZ.again hWz (Win.whole (by rw [Nat.zero_add]; exact hP5) rfl) ?_
        rw [List.length_append, List.length_append, hlen5, List.length_take, List.length_drop, HZl.out]; omega
      have hQ5 := hQ.kept hT5 (by simp; exact hqz)
      have hWY5 := hWY.kept hT5 (by simp; exact fun h => hzy h.symm)
      have hT05 := hT.trans hT5 (by rcases hgz with h | h <;> simp [h])
      obtain ⟨restq, hWq⟩ := hQ5.win
      have hql : k < (List.replicate (k + 1) 0 ++ qs).length := by simp; omega
      have hcell := hWq.cell hql
      have hfro := hWq.frozen k
      rw [Nat.zero_add, getD_repl] at hcell
      have hWs := hWq.set hql q
      rw [Nat.zero_add, set_repl] at hWs
      have HQ6 := Lib.hid (hQ5.again hWq hWs (by simp; omega))
      have hT6 : Tch [gq] w5 _ := (Tch.refl [gq] w5).setCell (p := ⟨gq, k, none⟩) (by simp) (.int .u64 (q : Int))
      have HZ6 := Lib.hid (hZ5.kept hT6 (by simp; exact fun h => hqz h.symm))
      have HY6 := Lib.hid (hWY5.kept hT6 (by simp; exact fun h => hqy h.symm))
      have HT6 := Lib.hid (hT05.trans hT6 (by rcases hgq with h | h <;> simp [h]))
      have HD6 : Hid (DvInv BB (2 ^ c * dg BB xs) (2 ^ c * dg BB ys) n k (Z.take k ++ (rs ++ Z.drop (k + (n + 2)))) (q :: qs)) := by
        have h := HDL.out.step HYB.out HW0.out (by rw [HZl.out]; omega) hO.ok hlen5 hO.quo hO.rem hqb
        exact Lib.hid (hYv.out ▸ h)
      have HL6 : Hid ((Z.take k ++ (rs ++ Z.drop (k + (n + 2)))).length = m + 1) := Lib.hid (by rw [List.length_append, List.length_append, hlen5, List.length_take, List.length_drop, HZl.out]; omega)
      have HQl : Hid (k + (q :: qs).length = M) := Lib.hid (by have := Hql.out; simp at this ⊢; omega)
      have hkM : k < M := by omega
      clear hWs hT6 hWq hO hP5 hT5 hlen5 hZ5 hQ5 hWY5 hT05 hQ hZ hWY hD CW hWz hT hql
      go_wp2
      go_roundw
      case rel => exact ⟨k, _, q :: qs, by first | rfl | go_num, by omega, HL6.out, HQl.out, HQ6.out, HZ6.out, HY6.out, HD6.out, HT6.out⟩
      case measure => first | (simp [intOf]; done) | (simp [intOf]; omega)

/-- wide.divide. -/
theorem divide (gs ns caps gx capx gy capy oy : Nat) (pre' post' : List Value) (ss xs ys : List Nat) (w : World) (hsx : gs ≠ gx) (hsy : gs ≠ gy) (hxy : gx ≠ gy) (hx : Ok BB xs) (hxt : Trim xs) (hy : Ok BB ys) (hyt : Trim ys) (hne : ys ≠ []) (hbx : xs.length ≤ 10000000) (hby : ys.length ≤ 10000000)
    (hS : Own w 56 .u64 gs caps ss) (hX : Own w 56 .u64 gx capx xs) (hY : Win w 56 .u64 gy oy pre' ys post') :
    Calls Tryz.prog 38 #[.slice (some ⟨gs, 0, none⟩) ns caps, .slice (some ⟨gx, 0, none⟩) xs.length capx, .slice (some ⟨gy, oy, none⟩) ys.length capy] w (fun e w' => DivideOut w gs gx gy xs ys e w' ∧ Win w' 56 .u64 gy oy pre' ys post') := by
  by_cases hlt : xs.length < ys.length
  · exact divide_small gs ns caps gx capx gy capy oy pre' post' ss xs ys w hsx hx hxt hyt hby hlt hS hX hY
  · obtain ⟨n, hn⟩ : ∃ n, ys.length = n + 1 := ⟨ys.length - 1, by have := List.length_pos_iff.2 hne; omega⟩
    have htop : ys.getD n 0 ≠ 0 := by
      have h := hyt hne
      rw [List.getLast_eq_getElem] at h
      simp only [hn, Nat.add_sub_cancel] at h
      rw [List.getD, List.getElem?_eq_getElem (by omega)]
      exact h
    rw [hn]
    exact divide_big gs ns caps gx capx gy capy oy xs.length n pre' post' ss xs ys w hsx hsy hxy hx hy hbx rfl hn (by omega) htop hS hX hY

end Go.Proofs.YtmiibcdcnoefgaaGreatDoor
