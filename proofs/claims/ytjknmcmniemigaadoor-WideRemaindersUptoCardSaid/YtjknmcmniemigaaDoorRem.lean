/- The walk of WideRemainders. -/
import Derived.Test.YtjknmcmniemigaaDoorNum
import Derived.Test.YtjknmcmniemigaaDoorSan
import Derived.Test.YtjknmcmniemigaaDoorCmpW
namespace Go.Proofs.YtjknmcmniemigaaDoor
open Go.RowKit Dg

/-- What the functions answer at dividend (a1, t1), divisor (a2, t2), which is not 0. -/
structure RmC (a1 a2 : Bool) (t1 t2 : ByteArray) (Q R CP CA : Bool × ByteArray) (sy sr sx : Int) : Prop where
  k1 : ∀ w, Calls Tryd.prog 26 #[.agg #[.bool a1, .string t1], .agg #[.bool a2, .string t2]] w fun e w' => e = .returned (.tuple #[.agg #[.bool Q.1, .string Q.2], .agg #[.bool R.1, .string R.2], .bool true]) ∧ Tch [] w w'
  k2 : ∀ w, Calls Tryd.prog 20 #[.agg #[.bool a2, .string t2]] w fun e w' => e = .returned (.int .i64 sy) ∧ Tch [] w w'
  k3 : ∀ w, Calls Tryd.prog 27 #[.agg #[.bool Q.1, .string Q.2], .agg #[.bool a2, .string t2]] w fun e w' => e = .returned (.agg #[.bool CP.1, .string CP.2]) ∧ Tch [] w w'
  k4 : ∀ w, Calls Tryd.prog 14 #[.agg #[.bool CP.1, .string CP.2], .agg #[.bool R.1, .string R.2]] w fun e w' => e = .returned (.agg #[.bool CA.1, .string CA.2]) ∧ Tch [] w w'
  k5 : ∀ w, Calls Tryd.prog 22 #[.agg #[.bool CA.1, .string CA.2], .agg #[.bool a1, .string t1]] w fun e w' => e = .returned (.int .i64 0) ∧ Tch [] w w'
  k6 : ∀ w, Calls Tryd.prog 22 #[.agg #[.bool false, .string R.2], .agg #[.bool false, .string t2]] w fun e w' => e = .returned (.int .i64 (-1)) ∧ Tch [] w w'
  k7 : ∀ w, Calls Tryd.prog 20 #[.agg #[.bool R.1, .string R.2]] w fun e w' => e = .returned (.int .i64 sr) ∧ Tch [] w w'
  k8 : ∀ w, Calls Tryd.prog 20 #[.agg #[.bool a1, .string t1]] w fun e w' => e = .returned (.int .i64 sx) ∧ Tch [] w w'
  ny : sy ≠ 0
  or : sr = 0 ∨ (sr = 1 ∧ sx = 1) ∨ (sr = -1 ∧ sx = -1)

theorem wz_pair2 (z : Int) : ∃ p : Bool × ByteArray, wz z = .agg #[.bool p.1, .string p.2] := ⟨(_, _), wz_mo z⟩

theorem tmod_sign (x y : Int) : (x.tmod y).sign = 0 ∨ ((x.tmod y).sign = 1 ∧ x.sign = 1) ∨ ((x.tmod y).sign = -1 ∧ x.sign = -1) := by
  rcases Int.lt_trichotomy (x.tmod y) 0 with h | h | h
  · right; right
    have hx : x < 0 := by
      by_cases h2 : x < 0
      · exact h2
      · have := Int.tmod_nonneg y (show 0 ≤ x by omega); omega
    exact ⟨Int.sign_eq_neg_one_of_neg h, Int.sign_eq_neg_one_of_neg hx⟩
  · left; rw [h]; rfl
  · right; left
    have hx : 0 < x := by
      by_cases h2 : 0 < x
      · exact h2
      · have h3 := Int.tmod_nonneg y (show 0 ≤ -x by omega)
        rw [Int.neg_tmod] at h3; omega
    exact ⟨Int.sign_eq_one_of_pos h, Int.sign_eq_one_of_pos hx⟩

theorem tmod_abs_lt (x y : Int) (h : y ≠ 0) : ((x.tmod y).natAbs : Int) < (y.natAbs : Int) := by
  rw [Int.natAbs_tmod]
  have : x.natAbs % y.natAbs < y.natAbs := Nat.mod_lt _ (by omega)
  omega

theorem RmC.mk' {a1 a2 : Bool} {t1 t2 : ByteArray} (h1 : t1.size ≤ 40) (h2 : t2.size ≤ 40) (h0 : zval a2 (bv (sb t2)) ≠ 0) : ∃ Q R CP CA sy sr sx, RmC a1 a2 t1 t2 Q R CP CA sy sr sx := by
  obtain ⟨x, hx⟩ : ∃ x, zval a1 (bv (sb t1)) = x := ⟨_, rfl⟩
  obtain ⟨y, hy⟩ : ∃ y, zval a2 (bv (sb t2)) = y := ⟨_, rfl⟩
  rw [hy] at h0
  have ra : Rep 400000 a1 t1 x := ⟨hx, by omega⟩
  have rb : Rep 400000 a2 t2 y := ⟨hy, by omega⟩
  have lx : x.natAbs < 256 ^ 40 := Rep.lt ⟨hx, h1⟩
  have ly : y.natAbs < 256 ^ 40 := Rep.lt ⟨hy, h2⟩
  have lq : (x.tdiv y).natAbs < 256 ^ 40 := Nat.lt_of_le_of_lt (by rw [Int.natAbs_tdiv]; exact Nat.div_le_self _ _) lx
  have lr : (x.tmod y).natAbs < 256 ^ 40 := Nat.lt_of_le_of_lt (by rw [Int.natAbs_tmod]; exact Nat.mod_le _ _) lx
  obtain ⟨Q, eQ⟩ := wz_pair2 (x.tdiv y)
  obtain ⟨R, eR⟩ := wz_pair2 (x.tmod y)
  obtain ⟨CP, eP⟩ := wz_pair2 (x.tdiv y * y)
  obtain ⟨CA, eA⟩ := wz_pair2 x
  have rQ : Rep 400000 Q.1 Q.2 (x.tdiv y) := (Rep.of_wz eQ lq).mono (by omega)
  have rR : Rep 400000 R.1 R.2 (x.tmod y) := (Rep.of_wz eR lr).mono (by omega)
  have rP : Rep 400000 CP.1 CP.2 (x.tdiv y * y) := (Rep.of_wz eP (mul_lt lq ly)).mono (by omega)
  have rA : Rep 400000 CA.1 CA.2 x := (Rep.of_wz eA lx).mono (by omega)
  have ab : ∀ (b : Bool) (s : ByteArray) (z : Int), zval b (bv (sb s)) = z → zval false (bv (sb s)) = (z.natAbs : Int) := by
    intro b s z h
    have h3 := natAbs_zval b (bv (sb s))
    rw [h] at h3
    rw [h3]; rfl
  refine ⟨Q, R, CP, CA, y.sign, (x.tmod y).sign, x.sign, fun w => ?_, fun w => ZSign hy w, fun w => ?_, fun w => ?_, fun w => ?_, fun w => ?_, fun w => ZSign rR.val w, fun w => ZSign hx w, fun h => h0 (Int.sign_eq_zero_iff_zero.1 h), tmod_sign x y⟩
  · have h := ZQuo ra rb w
    unfold zquoV at h
    rwa [if_neg h0, eQ, eR] at h
  · have h := ZMul rQ rb w
    rwa [eP] at h
  · have h := ZAdd rP rR w
    rwa [Int.tdiv_mul_add_tmod, eA] at h
  · have h := ZCmp rA.val hx w
    rwa [Int.sub_self] at h
  · have h := ZCmp (ab R.1 R.2 _ rR.val) (ab a2 t2 _ hy) w
    rwa [Int.sign_eq_neg_one_of_neg (by have := tmod_abs_lt x y h0; omega)] at h


/-- All have come up. -/
theorem wpAnyH_over {P : Program} {md : Region.Mode} {ops : Array Oper} {Q : Exit → Act → World → Prop} {S : World → Prop} {fuel : Nat} {listed : Array Bool} {a : Act} {w : World} (hr : Region.ready md ops listed = []) (h : wpAnyH P md ops Q S fuel listed a w) : Q .normal a w := by
  cases fuel with
  | zero => exact h.2
  | succ n => exact h.1 hr

/-- One operation is taken first; the slot that it writes is named. -/
theorem take_at {P : Program} {md : Region.Mode} {ops : Array Oper} {Q : Exit → Act → World → Prop} {S : World → Prop} {i : Nat} {oi : Oper} {v : Value} {fuel : Nat} {listed : Array Bool} {a : Act} {w : World} (d : Option Tmp) (hi : ops[i]? = some oi) (hd : oi.dst = d)
    (hs : Region.noSelect ops = true) (hf : Region.free md ops listed i = true) (hr : (Region.ready md ops listed).contains i = true)
    (hQ : ∀ c a w, Q (.panic c) (a.put oi.dst v) w → Q (.panic c) a w) (hy : YieldsIf P ops S oi v a) (hS : S w)
    (h : wpAnyH P md ops Q S fuel (listed.setIfInBounds i true) (a.put d v) w) : wpAnyH P md ops Q S (fuel + 1) listed a w := wpAnyH_take hi hs hf hr hQ hy hS (hd ▸ h)

/-- What is left of a region, handed out as it stands. -/
theorem region_leave {P : Program} {md : Region.Mode} {ops : Array Oper} {Q : Exit → Act → World → Prop} {S : World → Prop} {fuel : Nat} {listed : Array Bool} {K : Act → World → Prop} (hr : Region.ready md ops (Array.replicate ops.size true) = [])
    (h : Shut (∀ a w, S w → (S w → wpAnyH P md ops Q S fuel listed a w) → K a w)) :
    Shut (∀ a w, S w → (S w → wpAnyH P md ops Q S fuel listed a w) → K a w) = Shut (∀ a w, S w → (S w → wpAnyH P md ops (NoPanic (fun _ a w => wpAnyH P md ops Q S fuel listed a w)) S fuel (Array.replicate ops.size true) a w) → K a w) :=
  propext ⟨fun _ => fun a w hS hc => h.out a w hS (fun hs => wpAnyH_over (Q := NoPanic (fun _ a w => wpAnyH P md ops Q S fuel listed a w)) hr (hc hs)), fun _ => h⟩

set_option maxHeartbeats 4000000 in
set_option maxRecDepth 100000 in
theorem rem_walk (w : World) (n1 : Bool) (A1 : Option Addr) (len1 cap1 : Nat) (z1 : Int) (ys1 : List Nat) (hy1 : ys1.length = len1) (hl1 : len1 ≤ 1048576) (hA1 : Src w A1 ys1) (n2 : Bool) (A2 : Option Addr) (len2 cap2 : Nat) (z2 : Int) (ys2 : List Nat) (hy2 : ys2.length = len2) (hl2 : len2 ≤ 1048576) (hA2 : Src w A2 ys2) :
    Calls Tryd.prog 5 #[.agg #[.bool n1, .slice A1 len1 cap1, .int .i64 z1], .agg #[.bool n2, .slice A2 len2 cap2, .int .i64 z2]] w fun e w' => e = .returned (.bool true) ∧ Tch [] w w' := by
  have F := Lib.hid (Fr.nil w)
  have N1 : Hid (∀ w' l, Fr w w' l → Calls Tryd.prog 13 #[.agg #[.bool n1, .slice A1 len1 cap1, .int .i64 z1]] w' fun e w2 => ∃ s, (s.size ≤ 40 ∧ e = .returned (.agg #[.bool n1, .string s])) ∧ Tch [] w' w2) := Lib.hid (fun w' l h => NumW n1 z1 A1 len1 cap1 ys1 w' hy1 hl1 (hA1.kept h.t))
  have N2 : Hid (∀ w' l, Fr w w' l → Calls Tryd.prog 13 #[.agg #[.bool n2, .slice A2 len2 cap2, .int .i64 z2]] w' fun e w2 => ∃ s, (s.size ≤ 40 ∧ e = .returned (.agg #[.bool n2, .string s])) ∧ Tch [] w' w2) := Lib.hid (fun w' l h => NumW n2 z2 A2 len2 cap2 ys2 w' hy2 hl2 (hA2.kept h.t))
  clear hA1 hA2 hy1 hy2 hl1 hl2
  go_enter Tryd.func5, Tryd.ntmps5
  go_wp2_with fail
  refine (sanity _).mono ?_
  rintro e w1 ⟨rfl, h1⟩
  have F := Lib.hid ((((F.out.add (.cells #[.bool n1, .slice A1 len1 cap1, .int .i64 z1] 24) w.heap.size rfl).add (.cells #[.bool n2, .slice A2 len2 cap2, .int .i64 z2] 24) (w.heap.size + 1) (by simp))).keep h1)
  clear h1
  have c0 := F.out.cell 0 0 rfl rfl
  have c1 := F.out.cell 0 1 rfl rfl
  have c2 := F.out.cell 0 2 rfl rfl
  go_wp2_with fail
  refine (N1.out _ _ F.out).mono ?_
  rintro e w2 ⟨s1, ⟨hs1, rfl⟩, h1⟩
  have F := Lib.hid ((F.out.keep h1).add (.cells #[.bool n1, .string s1] 27) w2.heap.size rfl)
  clear h1 c0 c1 c2
  have c0 := F.out.cell 1 0 rfl rfl
  have c1 := F.out.cell 1 1 rfl rfl
  have c2 := F.out.cell 1 2 rfl rfl
  go_wp2_with fail
  refine (N2.out _ _ F.out).mono ?_
  rintro e w3 ⟨s2, ⟨hs2, rfl⟩, h1⟩
  have F := Lib.hid ((F.out.keep h1).add (.cells #[.bool n2, .string s2] 27) w3.heap.size rfl)
  clear h1 c0 c1 c2
  clear N1 N2
  obtain ⟨a0, a1⟩ := F.out.two 2 rfl
  obtain ⟨b0, b1⟩ := F.out.two 3 rfl
  by_cases h0 : zval n2 (bv (sb s2)) = 0
  · have hq : ∀ w', Calls Tryd.prog 26 #[.agg #[.bool n1, .string s1], .agg #[.bool n2, .string s2]] w' fun e w2 => e = .returned (.tuple #[.agg #[.bool false, .string ⟨#[]⟩], .agg #[.bool false, .string ⟨#[]⟩], .bool false]) ∧ Tch [] w' w2 := by
      intro w'
      have h := ZQuo (x := zval n1 (bv (sb s1))) (y := 0) ⟨rfl, by omega⟩ ⟨h0, by omega⟩ w'
      unfold zquoV at h
      rwa [if_pos rfl] at h
    have K1 := Lib.hid hq
    have K2 := Lib.hid (fun w' => ZSign h0 w')
    clear hq h0 hs1 hs2
    go_wp2_with fail
    refine (K1.out _).mono ?_
    rintro e w4 ⟨rfl, h1⟩
    have F := Lib.hid (((F.out.keep h1).add (.cells #[.bool false, .string ⟨#[]⟩] 27) w4.heap.size rfl).add (.cells #[.bool false, .string ⟨#[]⟩] 27) (w4.heap.size + 1) (by simp))
    clear h1 a0 a1 b0 b1
    obtain ⟨b0, b1⟩ := F.out.two 3 rfl
    go_wp2_with fail
    refine (K2.out _).mono ?_
    rintro e w5 ⟨rfl, h1⟩
    have F := Lib.hid (F.out.keep h1)
    clear h1 b0 b1
    obtain ⟨q0, q1⟩ := F.out.two 4 rfl
    obtain ⟨r0, r1⟩ := F.out.two 5 rfl
    go_wp2
    go_ret
    exact ⟨rfl, F.out.t⟩
  · obtain ⟨Q, R, CP, CA, sy, sr, sx, K⟩ := RmC.mk' (a1 := n1) (a2 := n2) hs1 hs2 h0
    obtain ⟨bQ, tQ⟩ := Q
    obtain ⟨bR, tR⟩ := R
    obtain ⟨bP, tP⟩ := CP
    obtain ⟨bA, tA⟩ := CA
    have K1 := Lib.hid K.k1
    have K2 := Lib.hid K.k2
    have K3 := Lib.hid K.k3
    have K4 := Lib.hid K.k4
    have K5 := Lib.hid K.k5
    have K6 := Lib.hid K.k6
    have K7 := Lib.hid K.k7
    have K8 := Lib.hid K.k8
    have hny : (sy == 0) = false := by simpa using K.ny
    have HO := Lib.hid K.or
    clear K h0 hs1 hs2
    go_wp2_with fail
    refine (K1.out _).mono ?_
    rintro e w4 ⟨rfl, h1⟩
    have F := Lib.hid (((F.out.keep h1).add (.cells #[.bool bQ, .string tQ] 27) w4.heap.size rfl).add (.cells #[.bool bR, .string tR] 27) (w4.heap.size + 1) (by simp))
    clear h1 a0 a1 b0 b1
    obtain ⟨b0, b1⟩ := F.out.two 3 rfl
    go_wp2_with fail
    refine (K2.out _).mono ?_
    rintro e w5 ⟨rfl, h1⟩
    have F := Lib.hid (F.out.keep h1)
    clear h1 b0 b1
    have FR := F
    have F5 := Lib.hid ((F.out.add (.cells #[.bool false, .string tR] 27) w5.heap.size rfl))
    have F := Lib.hid (F5.out.add (.cells #[.bool false, .string s2] 27) (w5.heap.size + 1) (by simp))
    obtain ⟨b0, b1⟩ := F5.out.two 3 rfl
    obtain ⟨r0, r1⟩ := FR.out.two 5 rfl
    clear F5 FR
    obtain ⟨l, G, SA0⟩ : ∃ l, Fr w ((w5.alloc (.cells #[.bool false, .string tR] 27)).alloc (.cells #[.bool false, .string s2] 27)) l ∧ (∀ w', Fr w w' l → w'.cell? ⟨w2.heap.size, 0, none⟩ = some (.bool n1) ∧ w'.cell? ⟨w2.heap.size, 1, none⟩ = some (.string s1) ∧ w'.cell? ⟨w3.heap.size, 0, none⟩ = some (.bool n2) ∧ w'.cell? ⟨w3.heap.size, 1, none⟩ = some (.string s2) ∧ w'.cell? ⟨w4.heap.size, 0, none⟩ = some (.bool bQ) ∧ w'.cell? ⟨w4.heap.size, 1, none⟩ = some (.string tQ) ∧ w'.cell? ⟨w4.heap.size + 1, 0, none⟩ = some (.bool bR) ∧ w'.cell? ⟨w4.heap.size + 1, 1, none⟩ = some (.string tR) ∧ w'.cell? ⟨w5.heap.size, 0, none⟩ = some (.bool false) ∧ w'.cell? ⟨w5.heap.size, 1, none⟩ = some (.string tR) ∧ w'.cell? ⟨w5.heap.size + 1, 0, none⟩ = some (.bool false) ∧ w'.cell? ⟨w5.heap.size + 1, 1, none⟩ = some (.string s2)) :=
      ⟨_, F.out, fun w' F => ⟨F.cell 2 0 rfl rfl, F.cell 2 1 rfl rfl, F.cell 3 0 rfl rfl, F.cell 3 1 rfl rfl, F.cell 4 0 rfl rfl, F.cell 4 1 rfl rfl, F.cell 5 0 rfl rfl, F.cell 5 1 rfl rfl, F.cell 6 0 rfl rfl, F.cell 6 1 rfl rfl, F.cell 7 0 rfl rfl, F.cell 7 1 rfl rfl⟩⟩
    have F := Lib.hid G
    have SA := Lib.hid SA0
    clear G SA0
    rcases HO.out with ho | ⟨ho, ho2⟩ | ⟨ho, ho2⟩
    · subst ho
      clear HO
      go_wp2_with fail
      clear b0 b1 r0 r1
      go_region_held3 (fun w' => w'.cell? ⟨w2.heap.size, 0, none⟩ = some (.bool n1) ∧ w'.cell? ⟨w2.heap.size, 1, none⟩ = some (.string s1) ∧ w'.cell? ⟨w3.heap.size, 0, none⟩ = some (.bool n2) ∧ w'.cell? ⟨w3.heap.size, 1, none⟩ = some (.string s2) ∧ w'.cell? ⟨w4.heap.size, 0, none⟩ = some (.bool bQ) ∧ w'.cell? ⟨w4.heap.size, 1, none⟩ = some (.string tQ) ∧ w'.cell? ⟨w4.heap.size + 1, 0, none⟩ = some (.bool bR) ∧ w'.cell? ⟨w4.heap.size + 1, 1, none⟩ = some (.string tR) ∧ w'.cell? ⟨w5.heap.size, 0, none⟩ = some (.bool false) ∧ w'.cell? ⟨w5.heap.size, 1, none⟩ = some (.string tR) ∧ w'.cell? ⟨w5.heap.size + 1, 0, none⟩ = some (.bool false) ∧ w'.cell? ⟨w5.heap.size + 1, 1, none⟩ = some (.string s2)) (first | with_reducible exact SA.out _ F.out | exact SA.out _ F.out.drew) (first | (go_at_call 27; (first | (with_reducible refine (K3.out _).mono ?_)); rintro e w' ⟨rfl, h1⟩; (first | (with_reducible have F := Lib.hid (F.out.keep h1)) | (with_reducible have F := Lib.hid (F.out.drew.keep h1))); clear h1) | (go_at_call 14; (first | (with_reducible refine (K4.out _).mono ?_)); rintro e w' ⟨rfl, h1⟩; (first | (with_reducible have F := Lib.hid (F.out.keep h1)) | (with_reducible have F := Lib.hid (F.out.drew.keep h1))); clear h1) | (go_at_call 22; (first | (with_reducible refine (K5.out _).mono ?_) | (with_reducible refine (K6.out _).mono ?_)); rintro e w' ⟨rfl, h1⟩; (first | (with_reducible have F := Lib.hid (F.out.keep h1)) | (with_reducible have F := Lib.hid (F.out.drew.keep h1))); clear h1) | (go_at_call 20; refine (K7.out _).mono ?_; rintro e w' ⟨rfl, h1⟩; have F := Lib.hid (F.out.keep h1); clear h1; rw [region_leave (by kernel_rfl) (by with_reducible assumption)] at *))
      have hSw := SA.out _ F.out
      show wpAnyH _ _ _ _ _ _ _ _ _
      refine take_at (some 70) (i := 23) (v := .bool true) rfl rfl (by kernel_rfl) (by kernel_rfl) (by kernel_rfl) (fun _ _ _ h => h) (Or.inl ⟨by rfl, ?_⟩) hSw ?_
      · (intro w1 hw1; go_simp)
      simp only [Act.put, List.setIfInBounds_toArray, List.set_cons_succ]
      refine take_at (some 71) (i := 24) (v := .bool true) rfl rfl (by kernel_rfl) (by kernel_rfl) (by kernel_rfl) (fun _ _ _ h => h) (Or.inl ⟨by rfl, ?_⟩) hSw ?_
      · (intro w1 hw1; go_simp)
      simp only [Act.put, List.setIfInBounds_toArray, List.set_cons_succ]
      refine take_at (some 72) (i := 25) (v := undef) rfl rfl (by kernel_rfl) (by kernel_rfl) (by kernel_rfl) (fun _ _ _ h => h) (Or.inr ⟨by rfl, rfl⟩) hSw ?_
      simp only [Act.put, List.setIfInBounds_toArray, List.set_cons_succ]
      refine take_at (some 73) (i := 26) (v := undef) rfl rfl (by kernel_rfl) (by kernel_rfl) (by kernel_rfl) (fun _ _ _ h => h) (Or.inr ⟨by rfl, rfl⟩) hSw ?_
      simp only [Act.put, List.setIfInBounds_toArray, List.set_cons_succ]
      refine take_at (some 74) (i := 27) (v := undef) rfl rfl (by kernel_rfl) (by kernel_rfl) (by kernel_rfl) (fun _ _ _ h => h) (Or.inr ⟨by rfl, rfl⟩) hSw ?_
      simp only [Act.put, List.setIfInBounds_toArray, List.set_cons_succ]
      refine take_at (some 75) (i := 28) (v := undef) rfl rfl (by kernel_rfl) (by kernel_rfl) (by kernel_rfl) (fun _ _ _ h => h) (Or.inr ⟨by rfl, rfl⟩) hSw ?_
      simp only [Act.put, List.setIfInBounds_toArray, List.set_cons_succ]
      refine take_at (some 76) (i := 29) (v := undef) rfl rfl (by kernel_rfl) (by kernel_rfl) (by kernel_rfl) (fun _ _ _ h => h) (Or.inr ⟨by rfl, rfl⟩) hSw ?_
      simp only [Act.put, List.setIfInBounds_toArray, List.set_cons_succ]
      refine take_at (some 77) (i := 30) (v := .bool true) rfl rfl (by kernel_rfl) (by kernel_rfl) (by kernel_rfl) (fun _ _ _ h => h) (Or.inl ⟨by rfl, ?_⟩) hSw ?_
      · (intro w1 hw1; go_simp)
      simp only [Act.put, List.setIfInBounds_toArray, List.set_cons_succ]
      refine take_at (some 78) (i := 31) (v := .bool true) rfl rfl (by kernel_rfl) (by kernel_rfl) (by kernel_rfl) (fun _ _ _ h => h) (Or.inl ⟨by rfl, ?_⟩) hSw ?_
      · (intro w1 hw1; go_simp)
      simp only [Act.put, List.setIfInBounds_toArray, List.set_cons_succ]
      refine take_at (some 4) (i := 32) (v := .bool true) rfl rfl (by kernel_rfl) (by kernel_rfl) (by kernel_rfl) (fun _ _ _ h => h) (Or.inl ⟨by rfl, ?_⟩) hSw ?_
      · (intro w1 hw1; go_simp)
      simp only [Act.put, List.setIfInBounds_toArray, List.set_cons_zero, List.set_cons_succ]
      refine wpAnyH_done (by kernel_rfl) ?_ _
      refine NoPanic.normal ?_
      clear hSw
      go_wp2
      go_ret
      exact ⟨rfl, F.out.t⟩
    · subst ho
      subst ho2
      clear HO
      have hb : ((1 : Int) == 0) = false := by decide
      have hb2 : ((1 : Int) == 1) = true := by decide
      go_wp2_with fail
      clear b0 b1 r0 r1
      go_region_held3 (fun w' => w'.cell? ⟨w2.heap.size, 0, none⟩ = some (.bool n1) ∧ w'.cell? ⟨w2.heap.size, 1, none⟩ = some (.string s1) ∧ w'.cell? ⟨w3.heap.size, 0, none⟩ = some (.bool n2) ∧ w'.cell? ⟨w3.heap.size, 1, none⟩ = some (.string s2) ∧ w'.cell? ⟨w4.heap.size, 0, none⟩ = some (.bool bQ) ∧ w'.cell? ⟨w4.heap.size, 1, none⟩ = some (.string tQ) ∧ w'.cell? ⟨w4.heap.size + 1, 0, none⟩ = some (.bool bR) ∧ w'.cell? ⟨w4.heap.size + 1, 1, none⟩ = some (.string tR) ∧ w'.cell? ⟨w5.heap.size, 0, none⟩ = some (.bool false) ∧ w'.cell? ⟨w5.heap.size, 1, none⟩ = some (.string tR) ∧ w'.cell? ⟨w5.heap.size + 1, 0, none⟩ = some (.bool false) ∧ w'.cell? ⟨w5.heap.size + 1, 1, none⟩ = some (.string s2)) (first | with_reducible exact SA.out _ F.out | exact SA.out _ F.out.drew) (first | (go_at_call 27; (first | (with_reducible refine (K3.out _).mono ?_)); rintro e w' ⟨rfl, h1⟩; (first | (with_reducible have F := Lib.hid (F.out.keep h1)) | (with_reducible have F := Lib.hid (F.out.drew.keep h1))); clear h1) | (go_at_call 14; (first | (with_reducible refine (K4.out _).mono ?_)); rintro e w' ⟨rfl, h1⟩; (first | (with_reducible have F := Lib.hid (F.out.keep h1)) | (with_reducible have F := Lib.hid (F.out.drew.keep h1))); clear h1) | (go_at_call 22; (first | (with_reducible refine (K5.out _).mono ?_) | (with_reducible refine (K6.out _).mono ?_)); rintro e w' ⟨rfl, h1⟩; (first | (with_reducible have F := Lib.hid (F.out.keep h1)) | (with_reducible have F := Lib.hid (F.out.drew.keep h1))); clear h1) | (go_at_call 20; (first | (with_reducible refine (K7.out _).mono ?_) | (with_reducible refine (K8.out _).mono ?_)); rintro e w' ⟨rfl, h1⟩; (first | (with_reducible have F := Lib.hid (F.out.keep h1)) | (with_reducible have F := Lib.hid (F.out.drew.keep h1))); clear h1))
      go_wp2
      go_ret
      exact ⟨rfl, F.out.t⟩
    · subst ho
      subst ho2
      clear HO
      have hb : ((-1 : Int) == 0) = false := by decide
      have hb2 : ((-1 : Int) == -1) = true := by decide
      go_wp2_with fail
      clear b0 b1 r0 r1
      go_region_held3 (fun w' => w'.cell? ⟨w2.heap.size, 0, none⟩ = some (.bool n1) ∧ w'.cell? ⟨w2.heap.size, 1, none⟩ = some (.string s1) ∧ w'.cell? ⟨w3.heap.size, 0, none⟩ = some (.bool n2) ∧ w'.cell? ⟨w3.heap.size, 1, none⟩ = some (.string s2) ∧ w'.cell? ⟨w4.heap.size, 0, none⟩ = some (.bool bQ) ∧ w'.cell? ⟨w4.heap.size, 1, none⟩ = some (.string tQ) ∧ w'.cell? ⟨w4.heap.size + 1, 0, none⟩ = some (.bool bR) ∧ w'.cell? ⟨w4.heap.size + 1, 1, none⟩ = some (.string tR) ∧ w'.cell? ⟨w5.heap.size, 0, none⟩ = some (.bool false) ∧ w'.cell? ⟨w5.heap.size, 1, none⟩ = some (.string tR) ∧ w'.cell? ⟨w5.heap.size + 1, 0, none⟩ = some (.bool false) ∧ w'.cell? ⟨w5.heap.size + 1, 1, none⟩ = some (.string s2)) (first | with_reducible exact SA.out _ F.out | exact SA.out _ F.out.drew) (first | (go_at_call 27; (first | (with_reducible refine (K3.out _).mono ?_)); rintro e w' ⟨rfl, h1⟩; (first | (with_reducible have F := Lib.hid (F.out.keep h1)) | (with_reducible have F := Lib.hid (F.out.drew.keep h1))); clear h1) | (go_at_call 14; (first | (with_reducible refine (K4.out _).mono ?_)); rintro e w' ⟨rfl, h1⟩; (first | (with_reducible have F := Lib.hid (F.out.keep h1)) | (with_reducible have F := Lib.hid (F.out.drew.keep h1))); clear h1) | (go_at_call 22; (first | (with_reducible refine (K5.out _).mono ?_) | (with_reducible refine (K6.out _).mono ?_)); rintro e w' ⟨rfl, h1⟩; (first | (with_reducible have F := Lib.hid (F.out.keep h1)) | (with_reducible have F := Lib.hid (F.out.drew.keep h1))); clear h1) | (go_at_call 20; (first | (with_reducible refine (K7.out _).mono ?_) | (with_reducible refine (K8.out _).mono ?_)); rintro e w' ⟨rfl, h1⟩; (first | (with_reducible have F := Lib.hid (F.out.keep h1)) | (with_reducible have F := Lib.hid (F.out.drew.keep h1))); clear h1))
      go_wp2
      go_ret
      exact ⟨rfl, F.out.t⟩

end Go.Proofs.YtjknmcmniemigaaDoor