/- The walk of WideRoots. -/
import Derived.Test.YtmiibcdcnoefgaaDoorRRoot
import Derived.Test.YtmiibcdcnoefgaaDoorMid
import Derived.Test.YtmiibcdcnoefgaaDoorSan
import Derived.Test.YtmiibcdcnoefgaaDoorCmpW
namespace Go.Proofs.YtmiibcdcnoefgaaDoor
open Go.RowKit Dg

theorem root_ex (n : Nat) : ∃ r, r * r ≤ n ∧ n < (r + 1) * (r + 1) := by
  induction n with
  | zero => exact ⟨0, by decide, by decide⟩
  | succ n ih =>
    obtain ⟨r, h1, h2⟩ := ih
    by_cases h : n + 1 < (r + 1) * (r + 1)
    · exact ⟨r, by omega, h⟩
    · refine ⟨r + 1, by omega, ?_⟩
      have e : (r + 1 + 1) * (r + 1 + 1) = (r + 1) * (r + 1) + 2 * (r + 1) + 1 := by rw [Nat.add_mul, Nat.mul_add]; omega
      omega

set_option maxHeartbeats 8000000 in
set_option maxRecDepth 100000 in
theorem rootW {na : Bool} {sa : ByteArray} {x : Int} (hx : Rep 200 na sa x) (w : World) :
    Calls Tryd.prog 31 #[.agg #[.bool na, .string sa]] w fun e w' => e = .returned (.bool true) ∧ Tch [] w w' := by
  obtain ⟨r, hr1, hr2⟩ := root_ex (bv (sb sa))
  have k1 := fun w1 => Root na sa r w1 (by have := hx.size; omega) hr1 hr2
  have k2 := fun w1 => rRoot na sa r w1 (by have := hx.size; omega) hr1 hr2
  have k3 := fun w1 => ZSign hx.val w1
  have F0 := (Fr.nil w).add (.cells #[.bool na, .string sa] 27) w.heap.size rfl
  obtain ⟨n, hn⟩ : ∃ n, bv (sb sa) = n := ⟨_, rfl⟩
  have hxn : x = zval na n := by rw [← hn, hx.val]
  have hxs := hx.lt
  rw [hn] at k1 k2 hr1 hr2
  by_cases hc : n ≠ 0 ∧ na = true
  · have hxneg : x < 0 := by rw [hxn, hc.2]; simp [zval]; omega
    have e1 : rootV na n r = .tuple #[.agg #[.bool false, .string ⟨#[]⟩], .bool false] := by unfold rootV; rw [if_pos hc]
    have e3 : x.sign = -1 := Int.sign_eq_neg_one_of_neg hxneg
    rw [e1] at k1
    rw [e3] at k3
    have K1 := Lib.hid k1
    have K3 := Lib.hid k3
    have F := Lib.hid F0
    clear k1 k2 k3 F0 hxn hc hxneg e1 e3 hr1 hr2 hx hn hxs
    go_enter Tryd.func31, Tryd.ntmps31
    go_wp2_with fail
    refine (K1.out _).mono ?_
    rintro e w1 ⟨rfl, h1⟩
    have F := Lib.hid ((F.out.keep h1).add (.cells #[.bool false, .string ⟨#[]⟩] 27) w1.heap.size rfl)
    clear h1
    obtain ⟨a0, a1⟩ := F.out.two 0 rfl
    go_wp2_with fail
    refine (K3.out _).mono ?_
    rintro e w2 ⟨rfl, h1⟩
    have F := Lib.hid (F.out.keep h1)
    clear h1 a0 a1
    obtain ⟨a0, a1⟩ := F.out.two 1 rfl
    go_wp2
    go_ret
    exact ⟨rfl, F.out.t⟩
  · have hxe : x = (n : Int) := by
      rw [hxn]; unfold zval
      cases na with
      | false => rfl
      | true => have : n = 0 := by simpa using hc
                subst this; rfl
    obtain ⟨br, tr, er⟩ := wv_agg false r
    have e1 : rootV na n r = .tuple #[.agg #[.bool br, .string tr], .bool true] := by unfold rootV; rw [if_neg hc, er]
    have er2 : wz (r : Int) = .agg #[.bool br, .string tr] := by rw [← er, wv_wz]; rfl
    have lr : (r : Int).natAbs < 256 ^ 200 := by
      have h1 : r ≤ r * r := Nat.le_mul_self r
      have h2 : n < 256 ^ 200 := by rw [hxe] at hxs; simpa using hxs
      simp; omega
    have rr := Rep.of_wz er2 lr
    obtain ⟨bn, tn, en⟩ : ∃ b s, wz ((r : Int) + 1) = .agg #[.bool b, .string s] := ⟨_, _, wz_mo _⟩
    have rn := Rep.of_wz en (add_lt lr (show (1 : Int).natAbs < 256 ^ 200 from Nat.one_lt_pow (by decide) (by decide)))
    have k4 := fun w1 => ZAdd (rr.mono (L := 400000) (by omega)) r1 w1
    rw [en] at k4
    obtain ⟨b5, t5, e5⟩ : ∃ b s, wz ((r : Int) * (r : Int)) = .agg #[.bool b, .string s] := ⟨_, _, wz_mo _⟩
    obtain ⟨b6, t6, e6⟩ : ∃ b s, wz (((r : Int) + 1) * ((r : Int) + 1)) = .agg #[.bool b, .string s] := ⟨_, _, wz_mo _⟩
    have k5 := fun w1 => ZMul (rr.mono (L := 400000) (by omega)) (rr.mono (L := 400000) (by omega)) w1
    have k6 := fun w1 => ZMul (rn.mono (L := 400000) (by omega)) (rn.mono (L := 400000) (by omega)) w1
    rw [e5] at k5
    rw [e6] at k6
    have k7 := fun w1 => ZCmp (Rep.of_wz (K := ((r : Int) * (r : Int)).natAbs) e5 (Nat.lt_pow_self (by decide))).val hx.val w1
    have k8 := fun w1 => ZCmp (Rep.of_wz (K := (((r : Int) + 1) * ((r : Int) + 1)).natAbs) e6 (Nat.lt_pow_self (by decide))).val hx.val w1
    have q1 : (r : Int) * (r : Int) ≤ x := by rw [hxe]; exact_mod_cast hr1
    have q2 : x < ((r : Int) + 1) * ((r : Int) + 1) := by rw [hxe]; exact_mod_cast hr2
    obtain ⟨c7, h7⟩ : ∃ c, ((r : Int) * (r : Int) - x).sign = c := ⟨_, rfl⟩
    have hc7 : c7 ≤ 0 := by
      rw [← h7]
      rcases Int.lt_or_eq_of_le q1 with h | h
      · rw [Int.sign_eq_neg_one_of_neg (by omega)]; decide
      · rw [h, Int.sub_self]; decide
    rw [Int.sign_eq_one_of_pos (by omega)] at k8
    rw [h7] at k7
    obtain ⟨c3, h3⟩ : ∃ c, x.sign = c := ⟨_, rfl⟩
    have hc3 : 0 ≤ c3 := by
      rw [← h3, hxe]
      rcases Nat.eq_zero_or_pos n with h | h
      · rw [h]; decide
      · rw [Int.sign_eq_one_of_pos (by omega)]; decide
    rw [h3] at k3
    rw [e1] at k1 k2
    have K1 := Lib.hid k1
    have K2 := Lib.hid k2
    have K3 := Lib.hid k3
    have K4 := Lib.hid k4
    have K5 := Lib.hid k5
    have K6 := Lib.hid k6
    have K7 := Lib.hid k7
    have K8 := Lib.hid k8
    have F := Lib.hid F0
    clear k1 k2 k3 k4 k5 k6 k7 k8 F0 hxn hc hxe e1 er er2 lr rr en rn e5 e6 q1 q2 h7 h3 hr1 hr2 hx hn hxs
    go_enter Tryd.func31, Tryd.ntmps31
    go_wp2_with fail
    refine (K1.out _).mono ?_
    rintro e w1 ⟨rfl, h1⟩
    have F := Lib.hid ((F.out.keep h1).add (.cells #[.bool br, .string tr] 27) w1.heap.size rfl)
    clear h1
    obtain ⟨a0, a1⟩ := F.out.two 0 rfl
    go_wp2_with fail
    refine (K3.out _).mono ?_
    rintro e w2 ⟨rfl, h1⟩
    have F := Lib.hid (F.out.keep h1)
    clear h1 a0 a1
    obtain ⟨l, G, SA0⟩ : ∃ l, Fr w w2 l ∧ (∀ w', Fr w w' l → w'.cell? ⟨w.heap.size, 0, none⟩ = some (.bool na) ∧ w'.cell? ⟨w.heap.size, 1, none⟩ = some (.string sa) ∧ w'.cell? ⟨w1.heap.size, 0, none⟩ = some (.bool br) ∧ w'.cell? ⟨w1.heap.size, 1, none⟩ = some (.string tr)) :=
      ⟨_, F.out, fun w' F => ⟨F.cell 0 0 rfl rfl, F.cell 0 1 rfl rfl, F.cell 1 0 rfl rfl, F.cell 1 1 rfl rfl⟩⟩
    have F := Lib.hid G
    have SA := Lib.hid SA0
    clear G SA0
    go_upto_region 4 with (fail)
    obtain ⟨W, rfl⟩ : ∃ W : World, W = w2 := ⟨_, rfl⟩
    go_cut [5] (fun s5 wx => MidB w l (.cells #[.bool bn, .string tn] 27 (0, 0)) s5 wx)
    case first =>
      go_region_held3 (fun w' => w'.cell? ⟨w.heap.size, 0, none⟩ = some (.bool na) ∧ w'.cell? ⟨w.heap.size, 1, none⟩ = some (.string sa) ∧ w'.cell? ⟨w1.heap.size, 0, none⟩ = some (.bool br) ∧ w'.cell? ⟨w1.heap.size, 1, none⟩ = some (.string tr)) (first | with_reducible exact SA.out _ F3.out | with_reducible exact SA.out _ (F3.out.beside _) | with_reducible exact SA.out _ (F3.out.box2 _ _ _) | with_reducible exact SA.out _ (B3.out.set2 _ _) | with_reducible exact SA.out _ F.out | with_reducible exact SA.out _ F.out.drew | with_reducible exact SA.out _ (F.out.drew.beside _) | with_reducible exact SA.out _ (F.out.beside _).drew) (first
        | (go_at_call 30; (with_reducible refine (fr1 _).mono ?_); rintro e w5 ⟨rfl, hT⟩; (first | (with_reducible have B3 := Lib.hid (B3.out.keep hT); clear z0 z1' f0 f1; obtain ⟨⟨z0, z1'⟩, ⟨f0, f1⟩⟩ := B3.out.two; have F3 := Lib.hid B3.out.f) | (with_reducible have F3 := Lib.hid (F3.out.keep hT)) | (with_reducible have B3 := Lib.hid (F3.out.boxed _ hT); obtain ⟨⟨z0, z1'⟩, ⟨f0, f1⟩⟩ := B3.out.two; have F3 := Lib.hid B3.out.f) | (with_reducible have B3 := Lib.hid (F.out.boxedAt _ W.heap.size rfl (Tch.undrew hT)); obtain ⟨⟨z0, z1'⟩, ⟨f0, f1⟩⟩ := B3.out.two; have F3 := Lib.hid B3.out.f) | (with_reducible have F3 := Lib.hid (F.out.keep (Tch.undrew hT)))); clear hT)
        | (go_at_call 16; (with_reducible refine (K4.out _).mono ?_); rintro e w7 ⟨rfl, hT⟩; (first | (with_reducible have B3 := Lib.hid (B3.out.keep hT); clear z0 z1' f0 f1; obtain ⟨⟨z0, z1'⟩, ⟨f0, f1⟩⟩ := B3.out.two; have F3 := Lib.hid B3.out.f) | (with_reducible have F3 := Lib.hid (F3.out.keep hT)) | (with_reducible have B3 := Lib.hid (F3.out.boxed _ hT); obtain ⟨⟨z0, z1'⟩, ⟨f0, f1⟩⟩ := B3.out.two; have F3 := Lib.hid B3.out.f) | (with_reducible have B3 := Lib.hid (F.out.boxedAt _ W.heap.size rfl (Tch.undrew hT)); obtain ⟨⟨z0, z1'⟩, ⟨f0, f1⟩⟩ := B3.out.two; have F3 := Lib.hid B3.out.f) | (with_reducible have F3 := Lib.hid (F.out.keep (Tch.undrew hT)))); clear hT))
      all_goals (go_wp2_with fail; go_meet; (first | with_reducible exact F3.out.mid _ | with_reducible exact B3.out.mid2 _ _))
    case rest =>
      obtain ⟨g, rfl, FM, hr, hn⟩ := hcut
      have F := Lib.hid (FM.take hr hn)
      obtain ⟨a0, a1, _, _⟩ := SA.out _ FM
      clear FM hr hn
      go_wp2_with fail
      refine (K2.out _).mono ?_
      rintro e w4 ⟨rfl, h1⟩
      have F := Lib.hid ((F.out.keep h1).add (.cells #[.bool br, .string tr] 27) w4.heap.size rfl)
      clear h1 a0 a1
      obtain ⟨l2, G, SB0⟩ : ∃ l2, Fr w (w4.alloc (.cells #[.bool br, .string tr] 27)) l2 ∧ (∀ w', Fr w w' l2 → w'.cell? ⟨w.heap.size, 0, none⟩ = some (.bool na) ∧ w'.cell? ⟨w.heap.size, 1, none⟩ = some (.string sa) ∧ w'.cell? ⟨w1.heap.size, 0, none⟩ = some (.bool br) ∧ w'.cell? ⟨w1.heap.size, 1, none⟩ = some (.string tr) ∧ w'.cell? ⟨g, 0, none⟩ = some (.bool bn) ∧ w'.cell? ⟨g, 1, none⟩ = some (.string tn) ∧ w'.cell? ⟨w4.heap.size, 0, none⟩ = some (.bool br) ∧ w'.cell? ⟨w4.heap.size, 1, none⟩ = some (.string tr)) :=
        ⟨_, F.out, fun w' F => by
          obtain ⟨v0, v1, v2, v3⟩ := SA.out w' F.front.front
          exact ⟨v0, v1, v2, v3, F.front.last 0 rfl, F.front.last 1 rfl, F.last 0 rfl, F.last 1 rfl⟩⟩
      clear SA
      have F := Lib.hid G
      have SA := Lib.hid SB0
      clear G SB0
      go_wp2_with fail
      go_region_held3 (fun w' => w'.cell? ⟨w.heap.size, 0, none⟩ = some (.bool na) ∧ w'.cell? ⟨w.heap.size, 1, none⟩ = some (.string sa) ∧ w'.cell? ⟨w1.heap.size, 0, none⟩ = some (.bool br) ∧ w'.cell? ⟨w1.heap.size, 1, none⟩ = some (.string tr) ∧ w'.cell? ⟨g, 0, none⟩ = some (.bool bn) ∧ w'.cell? ⟨g, 1, none⟩ = some (.string tn) ∧ w'.cell? ⟨w4.heap.size, 0, none⟩ = some (.bool br) ∧ w'.cell? ⟨w4.heap.size, 1, none⟩ = some (.string tr)) (first | with_reducible exact SA.out _ F.out | with_reducible exact SA.out _ F.out.drew) (first | (go_at_call 26; (first | (with_reducible refine (K5.out _).mono ?_) | (with_reducible refine (K6.out _).mono ?_)); rintro e w' ⟨rfl, h1⟩; (first | (with_reducible have F := Lib.hid (F.out.keep h1)) | (with_reducible have F := Lib.hid (F.out.drew.keep h1))); clear h1) | (go_at_call 24; (first | (with_reducible refine (K7.out _).mono ?_) | (with_reducible refine (K8.out _).mono ?_)); rintro e w' ⟨rfl, h1⟩; (first | (with_reducible have F := Lib.hid (F.out.keep h1)) | (with_reducible have F := Lib.hid (F.out.drew.keep h1))); clear h1))
      go_wp2
      go_ret
      exact ⟨rfl, F.out.t⟩

set_option maxHeartbeats 8000000 in
set_option maxRecDepth 100000 in
theorem roots_walk (w : World) (a1 : Bool) (A1 : Option Addr) (len1 cap1 : Nat) (z1 : Int) (ys1 : List Nat) (hy1 : ys1.length = len1) (hl1 : len1 ≤ 1048576) (hA1 : Src w A1 ys1) (off : Int) :
    Calls Tryd.prog 7 #[.agg #[.bool a1, .slice A1 len1 cap1, .int .i64 z1], .int .i64 off] w fun e w' => e = .returned (.bool true) ∧ Tch [] w w' := by
  have F := Lib.hid (Fr.nil w)
  have N1 : Hid (∀ w' l, Fr w w' l → Calls Tryd.prog 15 #[.agg #[.bool a1, .slice A1 len1 cap1, .int .i64 z1]] w' fun e w2 => ∃ s, (s.size ≤ 40 ∧ e = .returned (.agg #[.bool a1, .string s])) ∧ Tch [] w' w2) := Lib.hid (fun w' l h => NumW a1 z1 A1 len1 cap1 ys1 w' hy1 hl1 (hA1.kept h.t))
  obtain ⟨k, hk⟩ : ∃ k : Int, off.tmod 3 = k := ⟨_, rfl⟩
  have hk1 : -2 ≤ k ∧ k ≤ 2 := by
    have h1 := Int.tmod_lt_of_pos off (b := 3) (by decide)
    have h2 := Int.lt_tmod_of_pos off (b := 3) (by decide)
    omega
  clear hA1 hy1 hl1
  go_enter Tryd.func7, Tryd.ntmps7
  go_wp2_with fail
  refine (sanity _).mono ?_
  rintro e w1 ⟨rfl, h1⟩
  have F := Lib.hid ((F.out.add (.cells #[.bool a1, .slice A1 len1 cap1, .int .i64 z1] 24) w.heap.size rfl).keep h1)
  clear h1
  have c0 := F.out.cell 0 0 rfl rfl
  have c1 := F.out.cell 0 1 rfl rfl
  have c2 := F.out.cell 0 2 rfl rfl
  go_wp2_with fail
  refine (N1.out _ _ F.out).mono ?_
  rintro e w2 ⟨s1, ⟨hs1, rfl⟩, h1⟩
  have F := Lib.hid ((F.out.keep h1).add (.cells #[.bool a1, .string s1] 27) w2.heap.size rfl)
  clear h1 c0 c1 c2 N1
  obtain ⟨x, hx⟩ : ∃ x, zval a1 (bv (sb s1)) = x := ⟨_, rfl⟩
  have ra : Rep 200 a1 s1 x := ⟨hx, by omega⟩
  have lx : x.natAbs < 256 ^ 40 := Rep.lt ⟨hx, hs1⟩
  obtain ⟨bm, tm, em⟩ : ∃ b s, wz (x * x) = .agg #[.bool b, .string s] := ⟨_, _, wz_mo _⟩
  obtain ⟨bk, tk, ek⟩ : ∃ b s, wz k = .agg #[.bool b, .string s] := ⟨_, _, wz_mo _⟩
  obtain ⟨bq, tq, eq⟩ : ∃ b s, wz (x * x + k) = .agg #[.bool b, .string s] := ⟨_, _, wz_mo _⟩
  have lk : k.natAbs < 256 ^ (40 + 40) := Nat.lt_of_lt_of_le (show k.natAbs < 256 by omega) (Nat.le_self_pow (by decide) 256)
  have rq := (Rep.of_wz eq (add_lt (mul_lt lx lx) lk)).mono (L := 200) (by omega)
  have k1 := fun w' => ZMul (ra.mono (L := 400000) (by omega)) (ra.mono (L := 400000) (by omega)) w'
  have k2 := fun w' => ZFrom k (by omega) (by omega) w'
  have k3 := fun w' => ZAdd ((Rep.of_wz em (mul_lt lx lx)).mono (L := 400000) (by omega)) ((Rep.of_wz ek lk).mono (L := 400000) (by omega)) w'
  rw [em] at k1
  rw [ek] at k2
  rw [eq] at k3
  have K1 := Lib.hid k1
  have K2 := Lib.hid k2
  have K3 := Lib.hid k3
  have K4 := Lib.hid (fun w' => rootW ra w')
  have K5 := Lib.hid (fun w' => rootW rq w')
  clear k1 k2 k3 hx ra lx em ek eq lk rq hs1
  obtain ⟨x0, x1⟩ := F.out.two 1 rfl
  go_wp2_with fail
  refine (K1.out _).mono ?_
  rintro e w3 ⟨rfl, h1⟩
  have F := Lib.hid (F.out.keep h1)
  clear h1 x0 x1
  go_wp2_with fail
  refine (K2.out _).mono ?_
  rintro e w4 ⟨rfl, h1⟩
  have F := Lib.hid (F.out.keep h1)
  clear h1
  go_wp2_with fail
  refine (K3.out _).mono ?_
  rintro e w5 ⟨rfl, h1⟩
  have F := Lib.hid ((F.out.keep h1).add (.cells #[.bool bq, .string tq] 27) w5.heap.size rfl)
  clear h1
  obtain ⟨x0, x1⟩ := F.out.two 1 rfl
  go_wp2_with fail
  refine (K4.out _).mono ?_
  rintro e w6 ⟨rfl, h1⟩
  have F := Lib.hid (F.out.keep h1)
  clear h1 x0 x1
  obtain ⟨x0, x1⟩ := F.out.two 2 rfl
  go_wp2_with fail
  refine (K5.out _).mono ?_
  rintro e w7 ⟨rfl, h1⟩
  have F := Lib.hid (F.out.keep h1)
  clear h1 x0 x1
  go_wp2
  go_ret
  exact ⟨rfl, F.out.t⟩

end Go.Proofs.YtmiibcdcnoefgaaDoor
