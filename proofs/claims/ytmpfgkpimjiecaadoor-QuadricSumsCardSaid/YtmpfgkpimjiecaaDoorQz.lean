/- The walk of QuadricSums. -/
import Derived.Test.YtmpfgkpimjiecaaDoorQy
namespace Go.Proofs.YtmpfgkpimjiecaaDoor
open Go Go.RowKit Dg

def sumI (p q : Nat → Int) : Nat → Int := fun k => p k + q k
theorem at_sum (p q : Nat → Int) (v : P3) : atI (sumI p q) v = atI p v + atI q v := by
  simp only [atI, vI, sumI]
  grind
theorem sum_comm (p q : Nat → Int) : sameQ (sumI p q) (sumI q p) = true := (sameQ_iff _ _).2 fun _ _ => Int.add_comm _ _
theorem sum_assoc (p q r : Nat → Int) : sameQ (sumI (sumI p q) r) (sumI p (sumI q r)) = true := (sameQ_iff _ _).2 fun _ _ => Int.add_assoc _ _ _
theorem sum_zero (p : Nat → Int) : sameQ (sumI p fun _ => 0) p = true := (sameQ_iff _ _).2 fun _ _ => Int.add_zero _
theorem sumI_sm {p q : Nat → Int} {m : Nat} (hp : ∀ k, k < 10 → Sm m (p k)) (hq : ∀ k, k < 10 → Sm m (q k)) (k : Nat) (hk : k < 10) : Sm (m + 1) (sumI p q k) := (hp k hk).add (hq k hk)
theorem sgz_nonneg {z : Int} (h : 0 ≤ z) : sgz z = false := by unfold sgz; simp; omega
theorem at_pos (a b c v : P3) : 0 ≤ atI (ofI a b c) v := by
  rw [show atI (ofI a b c) v = rvI (plI a b c) v * rvI (plI a b c) v from at_sq (plI a b c) v]
  rcases Int.le_total 0 (rvI (plI a b c) v) with h | h
  · exact Int.mul_nonneg h h
  · exact Int.mul_nonneg_of_nonpos_of_nonpos h h
attribute [local go_sem ↓] eqlQ eqlQZ eqlN

set_option maxHeartbeats 8000000 in
set_option maxRecDepth 100000 in
theorem qsum_walk (a1 a2 a3 b1 b2 b3 r1 r2 r3 v : P3) (ha1 : a1.Ok) (ha2 : a2.Ok) (ha3 : a3.Ok) (hb1 : b1.Ok) (hb2 : b2.Ok) (hb3 : b3.Ok) (hr1 : r1.Ok) (hr2 : r2.Ok) (hr3 : r3.Ok) (hv : v.Ok) (w : World) (hF : FacOk w) :
    Calls Tryd.prog 6 #[.agg #[.int .i64 a1.x, .int .i64 a1.y, .int .i64 a1.z, .int .i64 a2.x, .int .i64 a2.y, .int .i64 a2.z, .int .i64 a3.x, .int .i64 a3.y, .int .i64 a3.z], .agg #[.int .i64 b1.x, .int .i64 b1.y, .int .i64 b1.z, .int .i64 b2.x, .int .i64 b2.y, .int .i64 b2.z, .int .i64 b3.x, .int .i64 b3.y, .int .i64 b3.z], .agg #[.int .i64 r1.x, .int .i64 r1.y, .int .i64 r1.z, .int .i64 r2.x, .int .i64 r2.y, .int .i64 r2.z, .int .i64 r3.x, .int .i64 r3.y, .int .i64 r3.z, .int .i64 v.x, .int .i64 v.y, .int .i64 v.z]] w fun e w' => e = .returned (.bool true) ∧ Tch [] w w' := by
  have c0 := fun (w1 : World) (h : FacOk w1) => sanity w1 h
  have cx := fun (w1 : World) (h : FacOk w1) => Of a1 a2 a3 ha1 ha2 ha3 w1 h
  have cy := fun (w1 : World) (h : FacOk w1) => Of b1 b2 b3 hb1 hb2 hb3 w1 h
  have cz := fun (w1 : World) (h : FacOk w1) => Of r1 r2 r3 hr1 hr2 hr3 w1 h
  have px := at_pos a1 a2 a3 v
  have py := at_pos b1 b2 b3 v
  have mx0 := ofI_sm ha1 ha2 ha3
  have my0 := ofI_sm hb1 hb2 hb3
  have mz0 := ofI_sm hr1 hr2 hr3
  obtain ⟨x, ex⟩ : ∃ u, u = ofI a1 a2 a3 := ⟨_, rfl⟩
  obtain ⟨y, ey⟩ : ∃ u, u = ofI b1 b2 b3 := ⟨_, rfl⟩
  obtain ⟨z, ez⟩ : ∃ u, u = ofI r1 r2 r3 := ⟨_, rfl⟩
  rw [← ex] at cx px mx0
  rw [← ey] at cy py my0
  rw [← ez] at cz mz0
  have ms := sumI_sm mx0 my0
  have ms3 := sumI_sm my0 mz0
  have cs : ∀ w1, Calls Tryd.prog 18 #[.agg (QV x), .agg (QV y)] w1 fun e w' => e = .returned (.agg (QV (sumI x y))) ∧ Tch [] w1 w' := fun w1 => Sum x y (fun k hk => (mx0 k hk).mono (by omega)) (fun k hk => (my0 k hk).mono (by omega)) w1
  have cr : ∀ w1, Calls Tryd.prog 20 #[.agg (QV x), .agg (QV y)] w1 fun e w' => e = .returned (.agg (QV (sumI x y))) ∧ Tch [] w1 w' := fun w1 => rSum x y (fun k hk => (mx0 k hk).mono (by omega)) (fun k hk => (my0 k hk).mono (by omega)) w1
  have t1 : ∀ w1, Calls Tryd.prog 18 #[.agg (QV y), .agg (QV x)] w1 fun e w' => e = .returned (.agg (QV (sumI y x))) ∧ Tch [] w1 w' := fun w1 => Sum y x (fun k hk => (my0 k hk).mono (by omega)) (fun k hk => (mx0 k hk).mono (by omega)) w1
  have t2 : ∀ w1, Calls Tryd.prog 18 #[.agg (QV (sumI x y)), .agg (QV z)] w1 fun e w' => e = .returned (.agg (QV (sumI (sumI x y) z))) ∧ Tch [] w1 w' := fun w1 => Sum (sumI x y) z (fun k hk => (ms k hk).mono (by omega)) (fun k hk => (mz0 k hk).mono (by omega)) w1
  have t3 : ∀ w1, Calls Tryd.prog 18 #[.agg (QV y), .agg (QV z)] w1 fun e w' => e = .returned (.agg (QV (sumI y z))) ∧ Tch [] w1 w' := fun w1 => Sum y z (fun k hk => (my0 k hk).mono (by omega)) (fun k hk => (mz0 k hk).mono (by omega)) w1
  have t4 : ∀ w1, Calls Tryd.prog 18 #[.agg (QV x), .agg (QV (sumI y z))] w1 fun e w' => e = .returned (.agg (QV (sumI x (sumI y z)))) ∧ Tch [] w1 w' := fun w1 => Sum x (sumI y z) (fun k hk => (mx0 k hk).mono (by omega)) (fun k hk => (ms3 k hk).mono (by omega)) w1
  have t5 : ∀ w1, Calls Tryd.prog 18 #[.agg (QV x), .agg #[.bool false, .string ⟨#[]⟩, .bool false, .string ⟨#[]⟩, .bool false, .string ⟨#[]⟩, .bool false, .string ⟨#[]⟩, .bool false, .string ⟨#[]⟩, .bool false, .string ⟨#[]⟩, .bool false, .string ⟨#[]⟩, .bool false, .string ⟨#[]⟩, .bool false, .string ⟨#[]⟩, .bool false, .string ⟨#[]⟩]] w1 fun e w' => e = .returned (.agg (QV (sumI x fun _ => 0))) ∧ Tch [] w1 w' := fun w1 => by
    have := Sum x (fun _ => 0) (fun k hk => (mx0 k hk).mono (by omega)) (fun k hk => Sm.nul _) w1
    rw [← QZ_eq] at this
    exact this
  have ax := fun (w1 : World) (h : FacOk w1) => At x v (fun k hk => (mx0 k hk).mono (by omega)) hv w1 h
  have ay := fun (w1 : World) (h : FacOk w1) => At y v (fun k hk => (my0 k hk).mono (by omega)) hv w1 h
  have asu := fun (w1 : World) (h : FacOk w1) => At (sumI x y) v (fun k hk => (ms k hk).mono (by omega)) hv w1 h
  have cm := fun (w1 : World) => LAdd ((atI_sm (m := 397) mx0 hv).mono (l := 3000) (by omega)) ((atI_sm (m := 397) my0 hv).mono (l := 3000) (by omega)) w1
  rw [at_sum] at asu
  have hm : sgz (atI x v + atI y v) = false := sgz_nonneg (by omega)
  obtain ⟨m, em⟩ : ∃ m, m = atI x v + atI y v := ⟨_, rfl⟩
  rw [← em] at asu cm hm
  obtain ⟨mx, emx⟩ : ∃ m, m = atI x v := ⟨_, rfl⟩
  obtain ⟨my, emy⟩ : ∃ m, m = atI y v := ⟨_, rfl⟩
  rw [← emx] at ax cm
  rw [← emy] at ay cm
  have k1 := sameQ_refl (sumI x y)
  have k2 := sum_comm x y
  have k3 := sum_assoc x y z
  have k4 := sum_zero x
  obtain ⟨s1, e1⟩ : ∃ u, u = sumI y x := ⟨_, rfl⟩
  obtain ⟨s4, e4⟩ : ∃ u, u = sumI x (sumI y z) := ⟨_, rfl⟩
  obtain ⟨s2, e2⟩ : ∃ u, u = sumI (sumI x y) z := ⟨_, rfl⟩
  obtain ⟨s3, e3⟩ : ∃ u, u = sumI y z := ⟨_, rfl⟩
  obtain ⟨s5, e5⟩ : ∃ u, u = sumI x fun _ => 0 := ⟨_, rfl⟩
  rw [← e1] at t1 k2
  rw [← e4] at t4 k3
  rw [← e2] at t2 k3
  rw [← e3] at t3 t4
  rw [← e5] at t5 k4
  obtain ⟨s, es⟩ : ∃ u, u = sumI x y := ⟨_, rfl⟩
  rw [← es] at cs cr t2 asu k1 k2
  have HM := Lib.hid hm
  clear hm
  have C0 := Lib.hid c0
  have CX := Lib.hid cx
  have CY := Lib.hid cy
  have CZ := Lib.hid cz
  have CS := Lib.hid cs
  have CR := Lib.hid cr
  have S1 := Lib.hid t1
  have S2 := Lib.hid t2
  have S3 := Lib.hid t3
  have S4 := Lib.hid t4
  have S5 := Lib.hid t5
  have AX := Lib.hid ax
  have AY := Lib.hid ay
  have AS := Lib.hid asu
  have CM := Lib.hid cm
  have HF := Lib.hid hF
  clear c0 cx cy cz px py mx0 my0 mz0 ms ms3 cs cr t1 t2 t3 t4 t5 ax ay asu cm em emx emy e1 e2 e3 e4 e5 es ex ey ez hF ha1 ha2 ha3 hb1 hb2 hb3 hr1 hr2 hr3 hv
  have F : Hid (Fr w (((w.alloc (.cells #[.int .i64 a1.x, .int .i64 a1.y, .int .i64 a1.z, .int .i64 a2.x, .int .i64 a2.y, .int .i64 a2.z, .int .i64 a3.x, .int .i64 a3.y, .int .i64 a3.z] 30)).alloc (.cells #[.int .i64 b1.x, .int .i64 b1.y, .int .i64 b1.z, .int .i64 b2.x, .int .i64 b2.y, .int .i64 b2.z, .int .i64 b3.x, .int .i64 b3.y, .int .i64 b3.z] 30)).alloc (.cells #[.int .i64 r1.x, .int .i64 r1.y, .int .i64 r1.z, .int .i64 r2.x, .int .i64 r2.y, .int .i64 r2.z, .int .i64 r3.x, .int .i64 r3.y, .int .i64 r3.z, .int .i64 v.x, .int .i64 v.y, .int .i64 v.z] 41)) [(w.heap.size, .cells #[.int .i64 a1.x, .int .i64 a1.y, .int .i64 a1.z, .int .i64 a2.x, .int .i64 a2.y, .int .i64 a2.z, .int .i64 a3.x, .int .i64 a3.y, .int .i64 a3.z] 30 (0, 0)), (w.heap.size + 1, .cells #[.int .i64 b1.x, .int .i64 b1.y, .int .i64 b1.z, .int .i64 b2.x, .int .i64 b2.y, .int .i64 b2.z, .int .i64 b3.x, .int .i64 b3.y, .int .i64 b3.z] 30 (0, 0)), (w.heap.size + 1 + 1, .cells #[.int .i64 r1.x, .int .i64 r1.y, .int .i64 r1.z, .int .i64 r2.x, .int .i64 r2.y, .int .i64 r2.z, .int .i64 r3.x, .int .i64 r3.y, .int .i64 r3.z, .int .i64 v.x, .int .i64 v.y, .int .i64 v.z] 41 (0, 0))]) := Lib.hid ((((Fr.nil w).add (.cells #[.int .i64 a1.x, .int .i64 a1.y, .int .i64 a1.z, .int .i64 a2.x, .int .i64 a2.y, .int .i64 a2.z, .int .i64 a3.x, .int .i64 a3.y, .int .i64 a3.z] 30) (w.heap.size) rfl).add (.cells #[.int .i64 b1.x, .int .i64 b1.y, .int .i64 b1.z, .int .i64 b2.x, .int .i64 b2.y, .int .i64 b2.z, .int .i64 b3.x, .int .i64 b3.y, .int .i64 b3.z] 30) (w.heap.size + 1) (by simp)).add (.cells #[.int .i64 r1.x, .int .i64 r1.y, .int .i64 r1.z, .int .i64 r2.x, .int .i64 r2.y, .int .i64 r2.z, .int .i64 r3.x, .int .i64 r3.y, .int .i64 r3.z, .int .i64 v.x, .int .i64 v.y, .int .i64 v.z] 41) (w.heap.size + 1 + 1) (by simp))
  go_enter Tryd.func6, Tryd.ntmps6
  go_wp2_with fail
  refine (C0.out _ (HF.out.tch F.out.t)).mono ?_
  rintro e w1 ⟨rfl, hT⟩
  have F := Lib.hid (F.out.keep hT)
  have HN : Hid (w.heap.size + 3 ≤ w1.heap.size) := Lib.hid (by have := (Array.getElem?_eq_some_iff.1 (F.out.at 2 rfl)).1; omega)
  clear hT C0
  go_upto_region 2 with (fail)
  refine wp_region_pass (by kernel_rfl) 84 [(3, .pointer (some ⟨w.heap.size, 0, none⟩)), (4, .pointer (some ⟨w.heap.size + 1, 0, none⟩)), (5, .pointer (some ⟨w.heap.size + 1 + 1, 0, none⟩))] [.is (.agg #[.int .i64 a1.x, .int .i64 a1.y, .int .i64 a1.z, .int .i64 a2.x, .int .i64 a2.y, .int .i64 a2.z, .int .i64 a3.x, .int .i64 a3.y, .int .i64 a3.z]), .is (.agg (QV x)), .is (.agg #[.int .i64 b1.x, .int .i64 b1.y, .int .i64 b1.z, .int .i64 b2.x, .int .i64 b2.y, .int .i64 b2.z, .int .i64 b3.x, .int .i64 b3.y, .int .i64 b3.z]), .is (.agg (QV y)), .is (.pointer (some ⟨w.heap.size + 1 + 1, 0, none⟩)), .is (.agg #[.int .i64 r1.x, .int .i64 r1.y, .int .i64 r1.z]), .is (.pointer (some ⟨w.heap.size + 1 + 1, 3, none⟩)), .is (.agg #[.int .i64 r2.x, .int .i64 r2.y, .int .i64 r2.z]), .is (.pointer (some ⟨w.heap.size + 1 + 1, 6, none⟩)), .is (.agg #[.int .i64 r3.x, .int .i64 r3.y, .int .i64 r3.z]), .is (.agg #[.int .i64 r1.x, .int .i64 r1.y, .int .i64 r1.z, .int .i64 r2.x, .int .i64 r2.y, .int .i64 r2.z, .int .i64 r3.x, .int .i64 r3.y, .int .i64 r3.z]), .is (.agg (QV z)), .new (.cells QZ 28 (0, 0)), .new (.cells QZ 28 (0, 0)), .new (.cells QZ 28 (0, 0)), .none, .none, .none] #[true, true, true, true, true, true, true, true, true, true, true, true, true, true, true, false, false, false] 3 (fun b => [(14, .agg #[.int .i64 a1.x, .int .i64 a1.y, .int .i64 a1.z, .int .i64 a2.x, .int .i64 a2.y, .int .i64 a2.z, .int .i64 a3.x, .int .i64 a3.y, .int .i64 a3.z]), (15, .agg (QV x)), (16, .agg #[.int .i64 b1.x, .int .i64 b1.y, .int .i64 b1.z, .int .i64 b2.x, .int .i64 b2.y, .int .i64 b2.z, .int .i64 b3.x, .int .i64 b3.y, .int .i64 b3.z]), (17, .agg (QV y)), (18, .pointer (some ⟨w.heap.size + 1 + 1, 0, none⟩)), (19, .agg #[.int .i64 r1.x, .int .i64 r1.y, .int .i64 r1.z]), (20, .pointer (some ⟨w.heap.size + 1 + 1, 3, none⟩)), (21, .agg #[.int .i64 r2.x, .int .i64 r2.y, .int .i64 r2.z]), (22, .pointer (some ⟨w.heap.size + 1 + 1, 6, none⟩)), (23, .agg #[.int .i64 r3.x, .int .i64 r3.y, .int .i64 r3.z]), (24, .agg #[.int .i64 r1.x, .int .i64 r1.y, .int .i64 r1.z, .int .i64 r2.x, .int .i64 r2.y, .int .i64 r2.z, .int .i64 r3.x, .int .i64 r3.y, .int .i64 r3.z]), (25, .agg (QV z)), (8, .pointer (some ⟨b 12, 0, none⟩)), (9, .pointer (some ⟨b 13, 0, none⟩)), (10, .pointer (some ⟨b 14, 0, none⟩))]) (by kernel_rfl) rfl (List.forall_mem_cons.2 ⟨rfl, (List.forall_mem_cons.2 ⟨rfl, (List.forall_mem_cons.2 ⟨rfl, (fun _ h => by cases h)⟩)⟩)⟩) (fun b => by kernel_rfl) (fun A hok HN hold => ?pass) (fun b wx hT hB => ?rest)
  case pass =>
    refine lt_cases (n := 17) (fun _ _ _ h => absurd h (by decide)) ?_
    refine lt_cases (n := 16) (fun _ _ _ h => absurd h (by decide)) ?_
    refine lt_cases (n := 15) (fun _ _ _ h => absurd h (by decide)) ?_
    refine lt_cases (n := 14) (fun listed a w' hp hJ hr => ?_) ?_
    · have F := Lib.hid (F.out.drew.keep hJ.t)
      refine J_step rfl (wanted_none rfl _) (fun K hK => ?_)
      simp only [execOp]
      go_simp
      exact hK.out _ _ (hJ.newB hok HN hp hr rfl rfl)
    refine lt_cases (n := 13) (fun listed a w' hp hJ hr => ?_) ?_
    · have F := Lib.hid (F.out.drew.keep hJ.t)
      refine J_step rfl (wanted_none rfl _) (fun K hK => ?_)
      simp only [execOp]
      go_simp
      exact hK.out _ _ (hJ.newB hok HN hp hr rfl rfl)
    refine lt_cases (n := 12) (fun listed a w' hp hJ hr => ?_) ?_
    · have F := Lib.hid (F.out.drew.keep hJ.t)
      refine J_step rfl (wanted_none rfl _) (fun K hK => ?_)
      simp only [execOp]
      go_simp
      exact hK.out _ _ (hJ.newB hok HN hp hr rfl rfl)
    refine lt_cases (n := 11) (fun listed a w' hp hJ hr => ?_) ?_
    · have F := Lib.hid (F.out.drew.keep hJ.t)
      have e24 := hJ.val hr 10 24 (v := .agg #[.int .i64 r1.x, .int .i64 r1.y, .int .i64 r1.z, .int .i64 r2.x, .int .i64 r2.y, .int .i64 r2.z, .int .i64 r3.x, .int .i64 r3.y, .int .i64 r3.z]) (by kernel_rfl) (by kernel_rfl) rfl
      have f24 := eval_getD e24
      refine J_step rfl (wanted_none rfl _) (fun K hK => ?_)
      go_simp
      refine (CZ.out _ (HF.out.tch F.out.t)).mono ?_
      rintro e w6 ⟨rfl, hT⟩
      exact hK.out _ _ (hJ.isV hok HN hp hr rfl rfl hT)
    refine lt_cases (n := 10) (fun listed a w' hp hJ hr => ?_) ?_
    · have F := Lib.hid (F.out.drew.keep hJ.t)
      have e19 := hJ.val hr 5 19 (v := .agg #[.int .i64 r1.x, .int .i64 r1.y, .int .i64 r1.z]) (by kernel_rfl) (by kernel_rfl) rfl
      have f19 := eval_getD e19
      have e21 := hJ.val hr 7 21 (v := .agg #[.int .i64 r2.x, .int .i64 r2.y, .int .i64 r2.z]) (by kernel_rfl) (by kernel_rfl) rfl
      have f21 := eval_getD e21
      have e23 := hJ.val hr 9 23 (v := .agg #[.int .i64 r3.x, .int .i64 r3.y, .int .i64 r3.z]) (by kernel_rfl) (by kernel_rfl) rfl
      have f23 := eval_getD e23
      refine J_step rfl (wanted_none rfl _) (fun K hK => ?_)
      go_simp
      exact hK.out _ _ (hJ.isV hok HN hp hr rfl rfl (Tch.refl [] _))
    refine lt_cases (n := 9) (fun listed a w' hp hJ hr => ?_) ?_
    · have F := Lib.hid (F.out.drew.keep hJ.t)
      have e22 := hJ.val hr 8 22 (v := .pointer (some ⟨w.heap.size + 1 + 1, 6, none⟩)) (by kernel_rfl) (by kernel_rfl) rfl
      have f22 := eval_getD e22
      have n0 := F.out.cell 2 6 rfl rfl
      have n1 := F.out.cell 2 7 rfl rfl
      have n2 := F.out.cell 2 8 rfl rfl
      refine J_step rfl (wanted_none rfl _) (fun K hK => ?_)
      go_simp
      exact hK.out _ _ (hJ.isV hok HN hp hr rfl rfl (Tch.refl [] _))
    refine lt_cases (n := 8) (fun listed a w' hp hJ hr => ?_) ?_
    · have F := Lib.hid (F.out.drew.keep hJ.t)
      have e5 := hJ.old 5 (v := .pointer (some ⟨w.heap.size + 1 + 1, 0, none⟩)) (by kernel_rfl) (hold (5, .pointer (some ⟨w.heap.size + 1 + 1, 0, none⟩)) (by simp))
      have f5 := eval_getD e5
      refine J_step rfl (wanted_none rfl _) (fun K hK => ?_)
      go_simp
      exact hK.out _ _ (hJ.isV hok HN hp hr rfl rfl (Tch.refl [] _))
    refine lt_cases (n := 7) (fun listed a w' hp hJ hr => ?_) ?_
    · have F := Lib.hid (F.out.drew.keep hJ.t)
      have e20 := hJ.val hr 6 20 (v := .pointer (some ⟨w.heap.size + 1 + 1, 3, none⟩)) (by kernel_rfl) (by kernel_rfl) rfl
      have f20 := eval_getD e20
      have n0 := F.out.cell 2 3 rfl rfl
      have n1 := F.out.cell 2 4 rfl rfl
      have n2 := F.out.cell 2 5 rfl rfl
      refine J_step rfl (wanted_none rfl _) (fun K hK => ?_)
      go_simp
      exact hK.out _ _ (hJ.isV hok HN hp hr rfl rfl (Tch.refl [] _))
    refine lt_cases (n := 6) (fun listed a w' hp hJ hr => ?_) ?_
    · have F := Lib.hid (F.out.drew.keep hJ.t)
      have e5 := hJ.old 5 (v := .pointer (some ⟨w.heap.size + 1 + 1, 0, none⟩)) (by kernel_rfl) (hold (5, .pointer (some ⟨w.heap.size + 1 + 1, 0, none⟩)) (by simp))
      have f5 := eval_getD e5
      refine J_step rfl (wanted_none rfl _) (fun K hK => ?_)
      go_simp
      exact hK.out _ _ (hJ.isV hok HN hp hr rfl rfl (Tch.refl [] _))
    refine lt_cases (n := 5) (fun listed a w' hp hJ hr => ?_) ?_
    · have F := Lib.hid (F.out.drew.keep hJ.t)
      have e18 := hJ.val hr 4 18 (v := .pointer (some ⟨w.heap.size + 1 + 1, 0, none⟩)) (by kernel_rfl) (by kernel_rfl) rfl
      have f18 := eval_getD e18
      have n0 := F.out.cell 2 0 rfl rfl
      have n1 := F.out.cell 2 1 rfl rfl
      have n2 := F.out.cell 2 2 rfl rfl
      refine J_step rfl (wanted_none rfl _) (fun K hK => ?_)
      go_simp
      exact hK.out _ _ (hJ.isV hok HN hp hr rfl rfl (Tch.refl [] _))
    refine lt_cases (n := 4) (fun listed a w' hp hJ hr => ?_) ?_
    · have F := Lib.hid (F.out.drew.keep hJ.t)
      have e5 := hJ.old 5 (v := .pointer (some ⟨w.heap.size + 1 + 1, 0, none⟩)) (by kernel_rfl) (hold (5, .pointer (some ⟨w.heap.size + 1 + 1, 0, none⟩)) (by simp))
      have f5 := eval_getD e5
      refine J_step rfl (wanted_none rfl _) (fun K hK => ?_)
      go_simp
      exact hK.out _ _ (hJ.isV hok HN hp hr rfl rfl (Tch.refl [] _))
    refine lt_cases (n := 3) (fun listed a w' hp hJ hr => ?_) ?_
    · have F := Lib.hid (F.out.drew.keep hJ.t)
      have e16 := hJ.val hr 2 16 (v := .agg #[.int .i64 b1.x, .int .i64 b1.y, .int .i64 b1.z, .int .i64 b2.x, .int .i64 b2.y, .int .i64 b2.z, .int .i64 b3.x, .int .i64 b3.y, .int .i64 b3.z]) (by kernel_rfl) (by kernel_rfl) rfl
      have f16 := eval_getD e16
      refine J_step rfl (wanted_none rfl _) (fun K hK => ?_)
      go_simp
      refine (CY.out _ (HF.out.tch F.out.t)).mono ?_
      rintro e w6 ⟨rfl, hT⟩
      exact hK.out _ _ (hJ.isV hok HN hp hr rfl rfl hT)
    refine lt_cases (n := 2) (fun listed a w' hp hJ hr => ?_) ?_
    · have F := Lib.hid (F.out.drew.keep hJ.t)
      have e4 := hJ.old 4 (v := .pointer (some ⟨w.heap.size + 1, 0, none⟩)) (by kernel_rfl) (hold (4, .pointer (some ⟨w.heap.size + 1, 0, none⟩)) (by simp))
      have f4 := eval_getD e4
      obtain ⟨⟨n0, n1, n2⟩, ⟨n3, n4, n5⟩, n6, n7, n8⟩ := F.out.nine 1 rfl
      refine J_step rfl (wanted_none rfl _) (fun K hK => ?_)
      go_simp
      exact hK.out _ _ (hJ.isV hok HN hp hr rfl rfl (Tch.refl [] _))
    refine lt_cases (n := 1) (fun listed a w' hp hJ hr => ?_) ?_
    · have F := Lib.hid (F.out.drew.keep hJ.t)
      have e14 := hJ.val hr 0 14 (v := .agg #[.int .i64 a1.x, .int .i64 a1.y, .int .i64 a1.z, .int .i64 a2.x, .int .i64 a2.y, .int .i64 a2.z, .int .i64 a3.x, .int .i64 a3.y, .int .i64 a3.z]) (by kernel_rfl) (by kernel_rfl) rfl
      have f14 := eval_getD e14
      refine J_step rfl (wanted_none rfl _) (fun K hK => ?_)
      go_simp
      refine (CX.out _ (HF.out.tch F.out.t)).mono ?_
      rintro e w6 ⟨rfl, hT⟩
      exact hK.out _ _ (hJ.isV hok HN hp hr rfl rfl hT)
    refine lt_cases (n := 0) (fun listed a w' hp hJ hr => ?_) ?_
    · have F := Lib.hid (F.out.drew.keep hJ.t)
      have e3 := hJ.old 3 (v := .pointer (some ⟨w.heap.size, 0, none⟩)) (by kernel_rfl) (hold (3, .pointer (some ⟨w.heap.size, 0, none⟩)) (by simp))
      have f3 := eval_getD e3
      obtain ⟨⟨n0, n1, n2⟩, ⟨n3, n4, n5⟩, n6, n7, n8⟩ := F.out.nine 0 rfl
      refine J_step rfl (wanted_none rfl _) (fun K hK => ?_)
      go_simp
      exact hK.out _ _ (hJ.isV hok HN hp hr rfl rfl (Tch.refl [] _))
    exact lt_none
  case rest =>
    have F := Lib.hid (F.out.drew.keep hT)
    simp only [putAll, List.foldl, Act.put, List.setIfInBounds_toArray, List.set_cons_zero, List.set_cons_succ]
    have n8 := hB.1 12 8 _ (by kernel_rfl) (by kernel_rfl) rfl
    have n9 := hB.1 13 9 _ (by kernel_rfl) (by kernel_rfl) rfl
    have n10 := hB.1 14 10 _ (by kernel_rfl) (by kernel_rfl) rfl
    have d1 := hB.2 12 13 8 9 _ _ (by decide) (by kernel_rfl) (by kernel_rfl) (by kernel_rfl) (by kernel_rfl) rfl rfl
    have d2 := hB.2 12 14 8 10 _ _ (by decide) (by kernel_rfl) (by kernel_rfl) (by kernel_rfl) (by kernel_rfl) rfl rfl
    have d3 := hB.2 13 14 9 10 _ _ (by decide) (by kernel_rfl) (by kernel_rfl) (by kernel_rfl) (by kernel_rfl) rfl rfl
    clear hB
    generalize b 12 = g8 at n8 d1 d2 ⊢
    generalize b 13 = g9 at n9 d1 d3 ⊢
    generalize b 14 = g10 at n10 d2 d3 ⊢
    have HW := Lib.hid (And.intro HN.out (And.intro (show w1.heap.size ≤ g8 from n8.2) (And.intro (show w1.heap.size ≤ g9 from n9.2) (And.intro (show w1.heap.size ≤ g10 from n10.2) (And.intro d1 (And.intro d2 d3))))))
    have hw : w.heap.size ≤ w1.heap.size := by have := HN.out; omega
    have F := Lib.hid (((F.out.with n8.1 n8.2 hw).with n9.1 n9.2 hw).with n10.1 n10.2 hw)
    have F : Hid (Fr w wx [(w.heap.size, .cells #[.int .i64 a1.x, .int .i64 a1.y, .int .i64 a1.z, .int .i64 a2.x, .int .i64 a2.y, .int .i64 a2.z, .int .i64 a3.x, .int .i64 a3.y, .int .i64 a3.z] 30 (0, 0)), (w.heap.size + 1, .cells #[.int .i64 b1.x, .int .i64 b1.y, .int .i64 b1.z, .int .i64 b2.x, .int .i64 b2.y, .int .i64 b2.z, .int .i64 b3.x, .int .i64 b3.y, .int .i64 b3.z] 30 (0, 0)), (w.heap.size + 1 + 1, .cells #[.int .i64 r1.x, .int .i64 r1.y, .int .i64 r1.z, .int .i64 r2.x, .int .i64 r2.y, .int .i64 r2.z, .int .i64 r3.x, .int .i64 r3.y, .int .i64 r3.z, .int .i64 v.x, .int .i64 v.y, .int .i64 v.z] 41 (0, 0)), (g8, .cells QZ 28 (0, 0)), (g9, .cells QZ 28 (0, 0)), (g10, .cells QZ 28 (0, 0))]) := F
    clear n8 n9 n10 d1 d2 d3 hT hw
    refine wpAny_ready (rs := [15]) (by kernel_rfl) (by simp) ?_
    refine AllReady.cons rfl (fun K hK0 => ?_) AllReady.nil
    have hK := Lib.hid hK0
    clear hK0
    rw [if_pos (by kernel_rfl)]
    refine wp_store_row 28 _ _ rfl g8 rfl _ _ rfl _ 20 (F.out.at 3 rfl) QZ_size (QV_size _) infoQ (QV_one _) ?_
    have F := Lib.hid (Fr.setR (l1 := [(w.heap.size, .cells #[.int .i64 a1.x, .int .i64 a1.y, .int .i64 a1.z, .int .i64 a2.x, .int .i64 a2.y, .int .i64 a2.z, .int .i64 a3.x, .int .i64 a3.y, .int .i64 a3.z] 30 (0, 0)), (w.heap.size + 1, .cells #[.int .i64 b1.x, .int .i64 b1.y, .int .i64 b1.z, .int .i64 b2.x, .int .i64 b2.y, .int .i64 b2.z, .int .i64 b3.x, .int .i64 b3.y, .int .i64 b3.z] 30 (0, 0)), (w.heap.size + 1 + 1, .cells #[.int .i64 r1.x, .int .i64 r1.y, .int .i64 r1.z, .int .i64 r2.x, .int .i64 r2.y, .int .i64 r2.z, .int .i64 r3.x, .int .i64 r3.y, .int .i64 r3.z, .int .i64 v.x, .int .i64 v.y, .int .i64 v.z] 41 (0, 0))]) (l2 := [(g9, .cells QZ 28 (0, 0)), (g10, .cells QZ 28 (0, 0))]) F.out (by have h1 := HW.out; simp; omega) (QV x))
    refine hK.out _ _ ?_
    clear hK K
    simp only [Act.put]
    refine wpAny_ready (rs := [16]) (by kernel_rfl) (by simp) ?_
    refine AllReady.cons rfl (fun K hK0 => ?_) AllReady.nil
    have hK := Lib.hid hK0
    clear hK0
    rw [if_pos (by kernel_rfl)]
    refine wp_store_row 28 _ _ rfl g9 rfl _ _ rfl _ 20 (F.out.at 4 rfl) QZ_size (QV_size _) infoQ (QV_one _) ?_
    have F := Lib.hid (Fr.setR (l1 := [(w.heap.size, .cells #[.int .i64 a1.x, .int .i64 a1.y, .int .i64 a1.z, .int .i64 a2.x, .int .i64 a2.y, .int .i64 a2.z, .int .i64 a3.x, .int .i64 a3.y, .int .i64 a3.z] 30 (0, 0)), (w.heap.size + 1, .cells #[.int .i64 b1.x, .int .i64 b1.y, .int .i64 b1.z, .int .i64 b2.x, .int .i64 b2.y, .int .i64 b2.z, .int .i64 b3.x, .int .i64 b3.y, .int .i64 b3.z] 30 (0, 0)), (w.heap.size + 1 + 1, .cells #[.int .i64 r1.x, .int .i64 r1.y, .int .i64 r1.z, .int .i64 r2.x, .int .i64 r2.y, .int .i64 r2.z, .int .i64 r3.x, .int .i64 r3.y, .int .i64 r3.z, .int .i64 v.x, .int .i64 v.y, .int .i64 v.z] 41 (0, 0)), (g8, .cells (QV x) 28 (0, 0))]) (l2 := [(g10, .cells QZ 28 (0, 0))]) F.out (by have h1 := HW.out; simp; omega) (QV y))
    refine hK.out _ _ ?_
    clear hK K
    simp only [Act.put]
    refine wpAny_ready (rs := [17]) (by kernel_rfl) (by simp) ?_
    refine AllReady.cons rfl (fun K hK0 => ?_) AllReady.nil
    have hK := Lib.hid hK0
    clear hK0
    rw [if_pos (by kernel_rfl)]
    refine wp_store_row 28 _ _ rfl g10 rfl _ _ rfl _ 20 (F.out.at 5 rfl) QZ_size (QV_size _) infoQ (QV_one _) ?_
    have F := Lib.hid (Fr.setR (l1 := [(w.heap.size, .cells #[.int .i64 a1.x, .int .i64 a1.y, .int .i64 a1.z, .int .i64 a2.x, .int .i64 a2.y, .int .i64 a2.z, .int .i64 a3.x, .int .i64 a3.y, .int .i64 a3.z] 30 (0, 0)), (w.heap.size + 1, .cells #[.int .i64 b1.x, .int .i64 b1.y, .int .i64 b1.z, .int .i64 b2.x, .int .i64 b2.y, .int .i64 b2.z, .int .i64 b3.x, .int .i64 b3.y, .int .i64 b3.z] 30 (0, 0)), (w.heap.size + 1 + 1, .cells #[.int .i64 r1.x, .int .i64 r1.y, .int .i64 r1.z, .int .i64 r2.x, .int .i64 r2.y, .int .i64 r2.z, .int .i64 r3.x, .int .i64 r3.y, .int .i64 r3.z, .int .i64 v.x, .int .i64 v.y, .int .i64 v.z] 41 (0, 0)), (g8, .cells (QV x) 28 (0, 0)), (g9, .cells (QV y) 28 (0, 0))]) (l2 := []) F.out (by have h1 := HW.out; simp; omega) (QV z))
    refine hK.out _ _ ?_
    clear hK K
    simp only [Act.put]
    have F : Hid (Fr w (((wx.setRow g8 (QV x)).setRow g9 (QV y)).setRow g10 (QV z)) [(w.heap.size, .cells #[.int .i64 a1.x, .int .i64 a1.y, .int .i64 a1.z, .int .i64 a2.x, .int .i64 a2.y, .int .i64 a2.z, .int .i64 a3.x, .int .i64 a3.y, .int .i64 a3.z] 30 (0, 0)), (w.heap.size + 1, .cells #[.int .i64 b1.x, .int .i64 b1.y, .int .i64 b1.z, .int .i64 b2.x, .int .i64 b2.y, .int .i64 b2.z, .int .i64 b3.x, .int .i64 b3.y, .int .i64 b3.z] 30 (0, 0)), (w.heap.size + 1 + 1, .cells #[.int .i64 r1.x, .int .i64 r1.y, .int .i64 r1.z, .int .i64 r2.x, .int .i64 r2.y, .int .i64 r2.z, .int .i64 r3.x, .int .i64 r3.y, .int .i64 r3.z, .int .i64 v.x, .int .i64 v.y, .int .i64 v.z] 41 (0, 0)), (g8, .cells (QV x) 28 (0, 0)), (g9, .cells (QV y) 28 (0, 0)), (g10, .cells (QV z) 28 (0, 0))]) := F
    generalize ((wx.setRow g8 (QV x)).setRow g9 (QV y)).setRow g10 (QV z) = W2 at F ⊢
    refine wpAny_end (by kernel_rfl) ?_
    go_wp2_with (first | (refine wpList_load_row rfl 28 _ rfl g8 rfl _ _ _ 20 (F.out.at 3 rfl) (QV_size x) Tryd.underlying28 rfl infoQ ?_; simp only [Act.put, List.setIfInBounds_toArray]) | (refine wpList_load_row rfl 28 _ rfl g9 rfl _ _ _ 20 (F.out.at 4 rfl) (QV_size y) Tryd.underlying28 rfl infoQ ?_; simp only [Act.put]))
    refine (CS.out _).mono ?_
    rintro e w3 ⟨rfl, hT⟩
    have HN3 : Hid (w.heap.size + 3 ≤ w3.heap.size ∧ g8 < w3.heap.size ∧ g9 < w3.heap.size ∧ g10 < w3.heap.size) := Lib.hid ⟨by have := (Array.getElem?_eq_some_iff.1 ((F.out.keep hT).at 2 rfl)).1; omega, (Array.getElem?_eq_some_iff.1 ((F.out.keep hT).at 3 rfl)).1, (Array.getElem?_eq_some_iff.1 ((F.out.keep hT).at 4 rfl)).1, (Array.getElem?_eq_some_iff.1 ((F.out.keep hT).at 5 rfl)).1⟩
    have F : Hid (Fr w (w3.alloc (.cells QZ 28)) [(w.heap.size, .cells #[.int .i64 a1.x, .int .i64 a1.y, .int .i64 a1.z, .int .i64 a2.x, .int .i64 a2.y, .int .i64 a2.z, .int .i64 a3.x, .int .i64 a3.y, .int .i64 a3.z] 30 (0, 0)), (w.heap.size + 1, .cells #[.int .i64 b1.x, .int .i64 b1.y, .int .i64 b1.z, .int .i64 b2.x, .int .i64 b2.y, .int .i64 b2.z, .int .i64 b3.x, .int .i64 b3.y, .int .i64 b3.z] 30 (0, 0)), (w.heap.size + 1 + 1, .cells #[.int .i64 r1.x, .int .i64 r1.y, .int .i64 r1.z, .int .i64 r2.x, .int .i64 r2.y, .int .i64 r2.z, .int .i64 r3.x, .int .i64 r3.y, .int .i64 r3.z, .int .i64 v.x, .int .i64 v.y, .int .i64 v.z] 41 (0, 0)), (g8, .cells (QV x) 28 (0, 0)), (g9, .cells (QV y) 28 (0, 0)), (g10, .cells (QV z) 28 (0, 0)), (w3.heap.size, .cells QZ 28 (0, 0))]) := Lib.hid ((F.out.keep hT).add (.cells QZ 28) w3.heap.size rfl)
    clear hT CS
    go_upto_region 4 with (first | (refine wpList_store_row rfl 28 _ _ rfl w3.heap.size rfl _ _ rfl _ 20 (F.out.at 6 rfl) QZ_size (QV_size _) infoQ (QV_one _) ?_; simp only [Act.put]; have F := Lib.hid (Fr.setR (l1 := [(w.heap.size, .cells #[.int .i64 a1.x, .int .i64 a1.y, .int .i64 a1.z, .int .i64 a2.x, .int .i64 a2.y, .int .i64 a2.z, .int .i64 a3.x, .int .i64 a3.y, .int .i64 a3.z] 30 (0, 0)), (w.heap.size + 1, .cells #[.int .i64 b1.x, .int .i64 b1.y, .int .i64 b1.z, .int .i64 b2.x, .int .i64 b2.y, .int .i64 b2.z, .int .i64 b3.x, .int .i64 b3.y, .int .i64 b3.z] 30 (0, 0)), (w.heap.size + 1 + 1, .cells #[.int .i64 r1.x, .int .i64 r1.y, .int .i64 r1.z, .int .i64 r2.x, .int .i64 r2.y, .int .i64 r2.z, .int .i64 r3.x, .int .i64 r3.y, .int .i64 r3.z, .int .i64 v.x, .int .i64 v.y, .int .i64 v.z] 41 (0, 0)), (g8, .cells (QV x) 28 (0, 0)), (g9, .cells (QV y) 28 (0, 0)), (g10, .cells (QV z) 28 (0, 0))]) (l2 := []) F.out (by have h1 := HW.out; have h2 := HN3.out; simp; omega) (QV s))))
    have F : Hid (Fr w ((w3.alloc (.cells #[.bool false, .string ⟨#[]⟩, .bool false, .string ⟨#[]⟩, .bool false, .string ⟨#[]⟩, .bool false, .string ⟨#[]⟩, .bool false, .string ⟨#[]⟩, .bool false, .string ⟨#[]⟩, .bool false, .string ⟨#[]⟩, .bool false, .string ⟨#[]⟩, .bool false, .string ⟨#[]⟩, .bool false, .string ⟨#[]⟩] 28)).setRow w3.heap.size (QV s)) [(w.heap.size, .cells #[.int .i64 a1.x, .int .i64 a1.y, .int .i64 a1.z, .int .i64 a2.x, .int .i64 a2.y, .int .i64 a2.z, .int .i64 a3.x, .int .i64 a3.y, .int .i64 a3.z] 30 (0, 0)), (w.heap.size + 1, .cells #[.int .i64 b1.x, .int .i64 b1.y, .int .i64 b1.z, .int .i64 b2.x, .int .i64 b2.y, .int .i64 b2.z, .int .i64 b3.x, .int .i64 b3.y, .int .i64 b3.z] 30 (0, 0)), (w.heap.size + 1 + 1, .cells #[.int .i64 r1.x, .int .i64 r1.y, .int .i64 r1.z, .int .i64 r2.x, .int .i64 r2.y, .int .i64 r2.z, .int .i64 r3.x, .int .i64 r3.y, .int .i64 r3.z, .int .i64 v.x, .int .i64 v.y, .int .i64 v.z] 41 (0, 0)), (g8, .cells (QV x) 28 (0, 0)), (g9, .cells (QV y) 28 (0, 0)), (g10, .cells (QV z) 28 (0, 0)), (w3.heap.size, .cells (QV s) 28 (0, 0))]) := F
    generalize (w3.alloc (.cells #[.bool false, .string ⟨#[]⟩, .bool false, .string ⟨#[]⟩, .bool false, .string ⟨#[]⟩, .bool false, .string ⟨#[]⟩, .bool false, .string ⟨#[]⟩, .bool false, .string ⟨#[]⟩, .bool false, .string ⟨#[]⟩, .bool false, .string ⟨#[]⟩, .bool false, .string ⟨#[]⟩, .bool false, .string ⟨#[]⟩] 28)).setRow w3.heap.size (QV s) = W3 at F ⊢
    have F0 := F
    refine wp_region_pass (by kernel_rfl) 84 [(5, .pointer (some ⟨w.heap.size + 1 + 1, 0, none⟩)), (8, .pointer (some ⟨g8, 0, none⟩)), (9, .pointer (some ⟨g9, 0, none⟩))] [.is (.agg (QV x)), .is (.pointer (some ⟨w.heap.size + 1 + 1, 9, none⟩)), .is (.agg #[.int .i64 v.x, .int .i64 v.y, .int .i64 v.z]), .is (.agg #[.bool (sgz mx), .string (moz mx)]), .is (.agg (QV y)), .is (.pointer (some ⟨w.heap.size + 1 + 1, 9, none⟩)), .is (.agg #[.int .i64 v.x, .int .i64 v.y, .int .i64 v.z]), .is (.agg #[.bool (sgz my), .string (moz my)]), .is (.agg #[.bool (sgz m), .string (moz m)]), .new (.cells #[.bool false, .string ⟨#[]⟩] 26 (0, 0)), .none] #[true, true, true, true, true, true, true, true, true, true, false] 1 (fun b => [(29, .agg (QV x)), (30, .pointer (some ⟨w.heap.size + 1 + 1, 9, none⟩)), (31, .agg #[.int .i64 v.x, .int .i64 v.y, .int .i64 v.z]), (32, .agg #[.bool (sgz mx), .string (moz mx)]), (33, .agg (QV y)), (34, .pointer (some ⟨w.heap.size + 1 + 1, 9, none⟩)), (35, .agg #[.int .i64 v.x, .int .i64 v.y, .int .i64 v.z]), (36, .agg #[.bool (sgz my), .string (moz my)]), (37, .agg #[.bool (sgz m), .string (moz m)]), (12, .pointer (some ⟨b 9, 0, none⟩))]) (by kernel_rfl) rfl (List.forall_mem_cons.2 ⟨rfl, (List.forall_mem_cons.2 ⟨rfl, (List.forall_mem_cons.2 ⟨rfl, (fun _ h => by cases h)⟩)⟩)⟩) (fun b => by kernel_rfl) (fun A hok HN hold => ?pass) (fun b wx hT hB => ?rest)
    case pass =>
      refine lt_cases (n := 10) (fun _ _ _ h => absurd h (by decide)) ?_
      refine lt_cases (n := 9) (fun listed a w' hp hJ hr => ?_) ?_
      · have F := Lib.hid (F.out.drew.keep hJ.t)
        refine J_step rfl (wanted_none rfl _) (fun K hK => ?_)
        simp only [execOp]
        go_simp
        exact hK.out _ _ (hJ.newB hok HN hp hr rfl rfl)
      refine lt_cases (n := 8) (fun listed a w' hp hJ hr => ?_) ?_
      · have F := Lib.hid (F.out.drew.keep hJ.t)
        have e32 := hJ.val hr 3 32 (v := .agg #[.bool (sgz mx), .string (moz mx)]) (by kernel_rfl) (by kernel_rfl) rfl
        have f32 := eval_getD e32
        have e36 := hJ.val hr 7 36 (v := .agg #[.bool (sgz my), .string (moz my)]) (by kernel_rfl) (by kernel_rfl) rfl
        have f36 := eval_getD e36
        refine J_step rfl (wanted_none rfl _) (fun K hK => ?_)
        go_simp
        refine (CM.out _).mono ?_
        rintro e w6 ⟨rfl, hT⟩
        exact hK.out _ _ (hJ.isV hok HN hp hr rfl rfl hT)
      refine lt_cases (n := 7) (fun listed a w' hp hJ hr => ?_) ?_
      · have F := Lib.hid (F.out.drew.keep hJ.t)
        have e33 := hJ.val hr 4 33 (v := .agg (QV y)) (by kernel_rfl) (by kernel_rfl) rfl
        have f33 := eval_getD e33
        have e35 := hJ.val hr 6 35 (v := .agg #[.int .i64 v.x, .int .i64 v.y, .int .i64 v.z]) (by kernel_rfl) (by kernel_rfl) rfl
        have f35 := eval_getD e35
        refine J_step rfl (wanted_none rfl _) (fun K hK => ?_)
        go_simp
        refine (AY.out _ (HF.out.tch F.out.t)).mono ?_
        rintro e w6 ⟨rfl, hT⟩
        exact hK.out _ _ (hJ.isV hok HN hp hr rfl rfl hT)
      refine lt_cases (n := 6) (fun listed a w' hp hJ hr => ?_) ?_
      · have F := Lib.hid (F.out.drew.keep hJ.t)
        have e34 := hJ.val hr 5 34 (v := .pointer (some ⟨w.heap.size + 1 + 1, 9, none⟩)) (by kernel_rfl) (by kernel_rfl) rfl
        have f34 := eval_getD e34
        have n0 := F.out.cell 2 9 rfl rfl
        have n1 := F.out.cell 2 10 rfl rfl
        have n2 := F.out.cell 2 11 rfl rfl
        refine J_step rfl (wanted_none rfl _) (fun K hK => ?_)
        go_simp
        exact hK.out _ _ (hJ.isV hok HN hp hr rfl rfl (Tch.refl [] _))
      refine lt_cases (n := 5) (fun listed a w' hp hJ hr => ?_) ?_
      · have F := Lib.hid (F.out.drew.keep hJ.t)
        have e5 := hJ.old 5 (v := .pointer (some ⟨w.heap.size + 1 + 1, 0, none⟩)) (by kernel_rfl) (hold (5, .pointer (some ⟨w.heap.size + 1 + 1, 0, none⟩)) (by simp))
        have f5 := eval_getD e5
        refine J_step rfl (wanted_none rfl _) (fun K hK => ?_)
        go_simp
        exact hK.out _ _ (hJ.isV hok HN hp hr rfl rfl (Tch.refl [] _))
      refine lt_cases (n := 4) (fun listed a w' hp hJ hr => ?_) ?_
      · have F := Lib.hid (F.out.drew.keep hJ.t)
        have e9 := hJ.old 9 (v := .pointer (some ⟨g9, 0, none⟩)) (by kernel_rfl) (hold (9, .pointer (some ⟨g9, 0, none⟩)) (by simp))
        have f9 := eval_getD e9
        refine J_step rfl (wanted_none rfl _) (fun K hK => ?_)
        refine up_load_row 28 (.tmp 9) rfl g9 e9 (QV y) 28 20 (F.out.at 4 rfl) (QV_size y) Tryd.underlying28 rfl infoQ ?_
        exact hK.out _ _ (hJ.isV hok HN hp hr rfl rfl (Tch.refl [] _))
      refine lt_cases (n := 3) (fun listed a w' hp hJ hr => ?_) ?_
      · have F := Lib.hid (F.out.drew.keep hJ.t)
        have e29 := hJ.val hr 0 29 (v := .agg (QV x)) (by kernel_rfl) (by kernel_rfl) rfl
        have f29 := eval_getD e29
        have e31 := hJ.val hr 2 31 (v := .agg #[.int .i64 v.x, .int .i64 v.y, .int .i64 v.z]) (by kernel_rfl) (by kernel_rfl) rfl
        have f31 := eval_getD e31
        refine J_step rfl (wanted_none rfl _) (fun K hK => ?_)
        go_simp
        refine (AX.out _ (HF.out.tch F.out.t)).mono ?_
        rintro e w6 ⟨rfl, hT⟩
        exact hK.out _ _ (hJ.isV hok HN hp hr rfl rfl hT)
      refine lt_cases (n := 2) (fun listed a w' hp hJ hr => ?_) ?_
      · have F := Lib.hid (F.out.drew.keep hJ.t)
        have e30 := hJ.val hr 1 30 (v := .pointer (some ⟨w.heap.size + 1 + 1, 9, none⟩)) (by kernel_rfl) (by kernel_rfl) rfl
        have f30 := eval_getD e30
        have n0 := F.out.cell 2 9 rfl rfl
        have n1 := F.out.cell 2 10 rfl rfl
        have n2 := F.out.cell 2 11 rfl rfl
        refine J_step rfl (wanted_none rfl _) (fun K hK => ?_)
        go_simp
        exact hK.out _ _ (hJ.isV hok HN hp hr rfl rfl (Tch.refl [] _))
      refine lt_cases (n := 1) (fun listed a w' hp hJ hr => ?_) ?_
      · have F := Lib.hid (F.out.drew.keep hJ.t)
        have e5 := hJ.old 5 (v := .pointer (some ⟨w.heap.size + 1 + 1, 0, none⟩)) (by kernel_rfl) (hold (5, .pointer (some ⟨w.heap.size + 1 + 1, 0, none⟩)) (by simp))
        have f5 := eval_getD e5
        refine J_step rfl (wanted_none rfl _) (fun K hK => ?_)
        go_simp
        exact hK.out _ _ (hJ.isV hok HN hp hr rfl rfl (Tch.refl [] _))
      refine lt_cases (n := 0) (fun listed a w' hp hJ hr => ?_) ?_
      · have F := Lib.hid (F.out.drew.keep hJ.t)
        have e8 := hJ.old 8 (v := .pointer (some ⟨g8, 0, none⟩)) (by kernel_rfl) (hold (8, .pointer (some ⟨g8, 0, none⟩)) (by simp))
        have f8 := eval_getD e8
        refine J_step rfl (wanted_none rfl _) (fun K hK => ?_)
        refine up_load_row 28 (.tmp 8) rfl g8 e8 (QV x) 28 20 (F.out.at 3 rfl) (QV_size x) Tryd.underlying28 rfl infoQ ?_
        exact hK.out _ _ (hJ.isV hok HN hp hr rfl rfl (Tch.refl [] _))
      exact lt_none
    case rest =>
      have F := Lib.hid (F.out.drew.keep hT)
      simp only [putAll, List.foldl, Act.put, List.setIfInBounds_toArray, List.set_cons_zero, List.set_cons_succ]
      have n12 := hB.1 9 12 _ (by kernel_rfl) (by kernel_rfl) rfl
      clear hB
      generalize b 9 = g12 at n12 ⊢
      have HW4 := Lib.hid (And.intro (Array.getElem?_eq_some_iff.1 (F0.out.at 3 rfl)).1 (And.intro (Array.getElem?_eq_some_iff.1 (F0.out.at 4 rfl)).1 (And.intro (Array.getElem?_eq_some_iff.1 (F0.out.at 5 rfl)).1 (And.intro (Array.getElem?_eq_some_iff.1 (F0.out.at 6 rfl)).1 (And.intro (show W3.heap.size ≤ g12 from n12.2) (Array.getElem?_eq_some_iff.1 (F0.out.at 2 rfl)).1)))))
      have F := Lib.hid (F.out.with n12.1 n12.2 F0.out.t.size)
      have F : Hid (Fr w wx [(w.heap.size, .cells #[.int .i64 a1.x, .int .i64 a1.y, .int .i64 a1.z, .int .i64 a2.x, .int .i64 a2.y, .int .i64 a2.z, .int .i64 a3.x, .int .i64 a3.y, .int .i64 a3.z] 30 (0, 0)), (w.heap.size + 1, .cells #[.int .i64 b1.x, .int .i64 b1.y, .int .i64 b1.z, .int .i64 b2.x, .int .i64 b2.y, .int .i64 b2.z, .int .i64 b3.x, .int .i64 b3.y, .int .i64 b3.z] 30 (0, 0)), (w.heap.size + 1 + 1, .cells #[.int .i64 r1.x, .int .i64 r1.y, .int .i64 r1.z, .int .i64 r2.x, .int .i64 r2.y, .int .i64 r2.z, .int .i64 r3.x, .int .i64 r3.y, .int .i64 r3.z, .int .i64 v.x, .int .i64 v.y, .int .i64 v.z] 41 (0, 0)), (g8, .cells (QV x) 28 (0, 0)), (g9, .cells (QV y) 28 (0, 0)), (g10, .cells (QV z) 28 (0, 0)), (w3.heap.size, .cells (QV s) 28 (0, 0)), (g12, .cells #[.bool false, .string ⟨#[]⟩] 26 (0, 0))]) := F
      clear n12 hT F0
      have c0 := F.out.cell 7 0 rfl rfl
      have c1 := F.out.cell 7 1 rfl rfl
      have g0 := F.out.frozen 7 0 rfl
      have g1 := F.out.frozen 7 1 rfl
      refine wpAny_ready (rs := [10]) (by kernel_rfl) (by simp) ?_
      refine AllReady.cons rfl (fun K hK0 => ?_) AllReady.nil
      have hK := Lib.hid hK0
      clear hK0
      go_simp
      refine hK.out _ _ ?_
      clear hK K
      have F : Hid (Fr w ((wx.setCell ⟨g12, 0, none⟩ (.bool (sgz m))).setCell ⟨g12, 1, none⟩ (.string (moz m))) [(w.heap.size, .cells #[.int .i64 a1.x, .int .i64 a1.y, .int .i64 a1.z, .int .i64 a2.x, .int .i64 a2.y, .int .i64 a2.z, .int .i64 a3.x, .int .i64 a3.y, .int .i64 a3.z] 30 (0, 0)), (w.heap.size + 1, .cells #[.int .i64 b1.x, .int .i64 b1.y, .int .i64 b1.z, .int .i64 b2.x, .int .i64 b2.y, .int .i64 b2.z, .int .i64 b3.x, .int .i64 b3.y, .int .i64 b3.z] 30 (0, 0)), (w.heap.size + 1 + 1, .cells #[.int .i64 r1.x, .int .i64 r1.y, .int .i64 r1.z, .int .i64 r2.x, .int .i64 r2.y, .int .i64 r2.z, .int .i64 r3.x, .int .i64 r3.y, .int .i64 r3.z, .int .i64 v.x, .int .i64 v.y, .int .i64 v.z] 41 (0, 0)), (g8, .cells (QV x) 28 (0, 0)), (g9, .cells (QV y) 28 (0, 0)), (g10, .cells (QV z) 28 (0, 0)), (w3.heap.size, .cells (QV s) 28 (0, 0)), (g12, .cells #[.bool (sgz m), .string (moz m)] 26 (0, 0))]) := Lib.hid ((Fr.setC (l1 := [(w.heap.size, .cells #[.int .i64 a1.x, .int .i64 a1.y, .int .i64 a1.z, .int .i64 a2.x, .int .i64 a2.y, .int .i64 a2.z, .int .i64 a3.x, .int .i64 a3.y, .int .i64 a3.z] 30 (0, 0)), (w.heap.size + 1, .cells #[.int .i64 b1.x, .int .i64 b1.y, .int .i64 b1.z, .int .i64 b2.x, .int .i64 b2.y, .int .i64 b2.z, .int .i64 b3.x, .int .i64 b3.y, .int .i64 b3.z] 30 (0, 0)), (w.heap.size + 1 + 1, .cells #[.int .i64 r1.x, .int .i64 r1.y, .int .i64 r1.z, .int .i64 r2.x, .int .i64 r2.y, .int .i64 r2.z, .int .i64 r3.x, .int .i64 r3.y, .int .i64 r3.z, .int .i64 v.x, .int .i64 v.y, .int .i64 v.z] 41 (0, 0)), (g8, .cells (QV x) 28 (0, 0)), (g9, .cells (QV y) 28 (0, 0)), (g10, .cells (QV z) 28 (0, 0)), (w3.heap.size, .cells (QV s) 28 (0, 0))]) (l2 := []) F.out (by have h1 := HW4.out; simp; omega) 0 (.bool (sgz m))).setC (l1 := [(w.heap.size, .cells #[.int .i64 a1.x, .int .i64 a1.y, .int .i64 a1.z, .int .i64 a2.x, .int .i64 a2.y, .int .i64 a2.z, .int .i64 a3.x, .int .i64 a3.y, .int .i64 a3.z] 30 (0, 0)), (w.heap.size + 1, .cells #[.int .i64 b1.x, .int .i64 b1.y, .int .i64 b1.z, .int .i64 b2.x, .int .i64 b2.y, .int .i64 b2.z, .int .i64 b3.x, .int .i64 b3.y, .int .i64 b3.z] 30 (0, 0)), (w.heap.size + 1 + 1, .cells #[.int .i64 r1.x, .int .i64 r1.y, .int .i64 r1.z, .int .i64 r2.x, .int .i64 r2.y, .int .i64 r2.z, .int .i64 r3.x, .int .i64 r3.y, .int .i64 r3.z, .int .i64 v.x, .int .i64 v.y, .int .i64 v.z] 41 (0, 0)), (g8, .cells (QV x) 28 (0, 0)), (g9, .cells (QV y) 28 (0, 0)), (g10, .cells (QV z) 28 (0, 0)), (w3.heap.size, .cells (QV s) 28 (0, 0))]) (l2 := []) (by have h1 := HW4.out; simp; omega) 1 (.string (moz m)))
      clear c0 c1 g0 g1
      generalize (wx.setCell ⟨g12, 0, none⟩ (.bool (sgz m))).setCell ⟨g12, 1, none⟩ (.string (moz m)) = W4 at F ⊢
      refine wpAny_end (by kernel_rfl) ?_
      go_upto_region 5 with (fail)
      refine wp_region_pass (by kernel_rfl) 84 [(5, .pointer (some ⟨w.heap.size + 1 + 1, 0, none⟩)), (7, .bool true), (8, .pointer (some ⟨g8, 0, none⟩)), (9, .pointer (some ⟨g9, 0, none⟩)), (10, .pointer (some ⟨g10, 0, none⟩)), (11, .pointer (some ⟨w3.heap.size, 0, none⟩)), (12, .pointer (some ⟨g12, 0, none⟩))] [.is (.bool true), .is (.bool true), .is (.agg (QV s)), .is (.agg (QV x)), .is (.agg (QV y)), .is (.agg (QV s)), .is (.bool true), .is (.bool true), .is (.bool true), .is (.agg (QV s)), .is (.agg (QV y)), .is (.agg (QV x)), .is (.agg (QV s1)), .is (.bool true), .is (.bool true), .is (.bool true), .is (.agg (QV s)), .is (.agg (QV z)), .is (.agg (QV s2)), .is (.agg (QV x)), .is (.agg (QV y)), .is (.agg (QV z)), .is (.agg (QV s3)), .is (.agg (QV s4)), .is (.bool true), .is (.bool true), .is (.bool true), .is (.agg (QV x)), .is (.agg #[.bool false, .string ⟨#[]⟩, .bool false, .string ⟨#[]⟩, .bool false, .string ⟨#[]⟩, .bool false, .string ⟨#[]⟩, .bool false, .string ⟨#[]⟩, .bool false, .string ⟨#[]⟩, .bool false, .string ⟨#[]⟩, .bool false, .string ⟨#[]⟩, .bool false, .string ⟨#[]⟩, .bool false, .string ⟨#[]⟩]), .is (.agg (QV s5)), .is (.agg (QV x)), .is (.bool true), .is (.bool true), .is (.bool true), .is (.agg (QV s)), .is (.pointer (some ⟨w.heap.size + 1 + 1, 9, none⟩)), .is (.agg #[.int .i64 v.x, .int .i64 v.y, .int .i64 v.z]), .is (.agg #[.bool (sgz m), .string (moz m)]), .is (.agg #[.bool (sgz m), .string (moz m)]), .is (.bool true), .is (.bool true), .is (.bool true), .is (.pointer (some ⟨g12, 0, none⟩)), .is (.bool (sgz m)), .is (.bool true), .is (.bool true), .is (.bool true)] #[true, true, true, true, true, true, true, true, true, true, true, true, true, true, true, true, true, true, true, true, true, true, true, true, true, true, true, true, true, true, true, true, true, true, true, true, true, true, true, true, true, true, true, true, true, true, true] 0 (fun b => [(38, .bool true), (39, .bool true), (40, .agg (QV s)), (41, .agg (QV x)), (42, .agg (QV y)), (43, .agg (QV s)), (44, .bool true), (45, .bool true), (46, .bool true), (47, .agg (QV s)), (48, .agg (QV y)), (49, .agg (QV x)), (50, .agg (QV s1)), (51, .bool true), (52, .bool true), (53, .bool true), (54, .agg (QV s)), (55, .agg (QV z)), (56, .agg (QV s2)), (57, .agg (QV x)), (58, .agg (QV y)), (59, .agg (QV z)), (60, .agg (QV s3)), (61, .agg (QV s4)), (62, .bool true), (63, .bool true), (64, .bool true), (65, .agg (QV x)), (66, .agg #[.bool false, .string ⟨#[]⟩, .bool false, .string ⟨#[]⟩, .bool false, .string ⟨#[]⟩, .bool false, .string ⟨#[]⟩, .bool false, .string ⟨#[]⟩, .bool false, .string ⟨#[]⟩, .bool false, .string ⟨#[]⟩, .bool false, .string ⟨#[]⟩, .bool false, .string ⟨#[]⟩, .bool false, .string ⟨#[]⟩]), (67, .agg (QV s5)), (68, .agg (QV x)), (69, .bool true), (70, .bool true), (71, .bool true), (72, .agg (QV s)), (73, .pointer (some ⟨w.heap.size + 1 + 1, 9, none⟩)), (74, .agg #[.int .i64 v.x, .int .i64 v.y, .int .i64 v.z]), (75, .agg #[.bool (sgz m), .string (moz m)]), (76, .agg #[.bool (sgz m), .string (moz m)]), (77, .bool true), (78, .bool true), (79, .bool true), (80, .pointer (some ⟨g12, 0, none⟩)), (81, .bool (sgz m)), (82, .bool true), (83, .bool true), (6, .bool true)]) (by kernel_rfl) rfl (List.forall_mem_cons.2 ⟨rfl, (List.forall_mem_cons.2 ⟨rfl, (List.forall_mem_cons.2 ⟨rfl, (List.forall_mem_cons.2 ⟨rfl, (List.forall_mem_cons.2 ⟨rfl, (List.forall_mem_cons.2 ⟨rfl, (List.forall_mem_cons.2 ⟨rfl, (fun _ h => by cases h)⟩)⟩)⟩)⟩)⟩)⟩)⟩) (fun b => by kernel_rfl) (fun A hok HN hold => ?pass) (fun b wx hT hB => ?rest)
      case pass =>
        refine lt_cases (n := 46) (fun listed a w' hp hJ hr => ?_) ?_
        · have F := Lib.hid (F.out.drew.keep hJ.t)
          have e83 := hJ.val hr 45 83 (v := .bool true) (by kernel_rfl) (by kernel_rfl) rfl
          have f83 := eval_getD e83
          refine J_step rfl (wanted_none rfl _) (fun K hK => ?_)
          go_simp
          exact hK.out _ _ (hJ.isV hok HN hp hr rfl rfl (Tch.refl [] _))
        refine lt_cases (n := 45) (fun listed a w' hp hJ hr => ?_) ?_
        · have F := Lib.hid (F.out.drew.keep hJ.t)
          have e79 := hJ.val hr 41 79 (v := .bool true) (by kernel_rfl) (by kernel_rfl) rfl
          have f79 := eval_getD e79
          have e82 := hJ.val hr 44 82 (v := .bool true) (by kernel_rfl) (by kernel_rfl) rfl
          have f82 := eval_getD e82
          refine J_step rfl (wanted_none rfl _) (fun K hK => ?_)
          go_simp
          exact hK.out _ _ (hJ.isV hok HN hp hr rfl rfl (Tch.refl [] _))
        refine lt_cases (n := 44) (fun listed a w' hp hJ hr => ?_) ?_
        · have F := Lib.hid (F.out.drew.keep hJ.t)
          have hm := HM.out
          have e81 := hJ.val hr 43 81 (v := .bool (sgz m)) (by kernel_rfl) (by kernel_rfl) rfl
          have f81 := eval_getD e81
          refine J_step rfl (hJ.guard hr 41 79 rfl (by kernel_rfl) (by kernel_rfl) rfl) (fun K hK => ?_)
          go_simp
          exact hK.out _ _ (hJ.isV hok HN hp hr rfl rfl (Tch.refl [] _))
        refine lt_cases (n := 43) (fun listed a w' hp hJ hr => ?_) ?_
        · have F := Lib.hid (F.out.drew.keep hJ.t)
          have e80 := hJ.val hr 42 80 (v := .pointer (some ⟨g12, 0, none⟩)) (by kernel_rfl) (by kernel_rfl) rfl
          have f80 := eval_getD e80
          have n0 := F.out.cell 7 0 rfl rfl
          have n1 := F.out.cell 7 1 rfl rfl
          refine J_step rfl (hJ.guard hr 41 79 rfl (by kernel_rfl) (by kernel_rfl) rfl) (fun K hK => ?_)
          go_simp
          exact hK.out _ _ (hJ.isV hok HN hp hr rfl rfl (Tch.refl [] _))
        refine lt_cases (n := 42) (fun listed a w' hp hJ hr => ?_) ?_
        · have F := Lib.hid (F.out.drew.keep hJ.t)
          have e12 := hJ.old 12 (v := .pointer (some ⟨g12, 0, none⟩)) (by kernel_rfl) (hold (12, .pointer (some ⟨g12, 0, none⟩)) (by simp))
          have f12 := eval_getD e12
          refine J_step rfl (hJ.guard hr 41 79 rfl (by kernel_rfl) (by kernel_rfl) rfl) (fun K hK => ?_)
          go_simp
          exact hK.out _ _ (hJ.isV hok HN hp hr rfl rfl (Tch.refl [] _))
        refine lt_cases (n := 41) (fun listed a w' hp hJ hr => ?_) ?_
        · have F := Lib.hid (F.out.drew.keep hJ.t)
          have e78 := hJ.val hr 40 78 (v := .bool true) (by kernel_rfl) (by kernel_rfl) rfl
          have f78 := eval_getD e78
          refine J_step rfl (wanted_none rfl _) (fun K hK => ?_)
          go_simp
          exact hK.out _ _ (hJ.isV hok HN hp hr rfl rfl (Tch.refl [] _))
        refine lt_cases (n := 40) (fun listed a w' hp hJ hr => ?_) ?_
        · have F := Lib.hid (F.out.drew.keep hJ.t)
          have e71 := hJ.val hr 33 71 (v := .bool true) (by kernel_rfl) (by kernel_rfl) rfl
          have f71 := eval_getD e71
          have e77 := hJ.val hr 39 77 (v := .bool true) (by kernel_rfl) (by kernel_rfl) rfl
          have f77 := eval_getD e77
          refine J_step rfl (wanted_none rfl _) (fun K hK => ?_)
          go_simp
          exact hK.out _ _ (hJ.isV hok HN hp hr rfl rfl (Tch.refl [] _))
        refine lt_cases (n := 39) (fun listed a w' hp hJ hr => ?_) ?_
        · have F := Lib.hid (F.out.drew.keep hJ.t)
          have e75 := hJ.val hr 37 75 (v := .agg #[.bool (sgz m), .string (moz m)]) (by kernel_rfl) (by kernel_rfl) rfl
          have f75 := eval_getD e75
          have e76 := hJ.val hr 38 76 (v := .agg #[.bool (sgz m), .string (moz m)]) (by kernel_rfl) (by kernel_rfl) rfl
          have f76 := eval_getD e76
          refine J_step rfl (hJ.guard hr 33 71 rfl (by kernel_rfl) (by kernel_rfl) rfl) (fun K hK => ?_)
          go_simp
          exact hK.out _ _ (hJ.isV hok HN hp hr rfl rfl (Tch.refl [] _))
        refine lt_cases (n := 38) (fun listed a w' hp hJ hr => ?_) ?_
        · have F := Lib.hid (F.out.drew.keep hJ.t)
          have e12 := hJ.old 12 (v := .pointer (some ⟨g12, 0, none⟩)) (by kernel_rfl) (hold (12, .pointer (some ⟨g12, 0, none⟩)) (by simp))
          have f12 := eval_getD e12
          have n0 := F.out.cell 7 0 rfl rfl
          have n1 := F.out.cell 7 1 rfl rfl
          refine J_step rfl (hJ.guard hr 33 71 rfl (by kernel_rfl) (by kernel_rfl) rfl) (fun K hK => ?_)
          go_simp
          exact hK.out _ _ (hJ.isV hok HN hp hr rfl rfl (Tch.refl [] _))
        refine lt_cases (n := 37) (fun listed a w' hp hJ hr => ?_) ?_
        · have F := Lib.hid (F.out.drew.keep hJ.t)
          have e72 := hJ.val hr 34 72 (v := .agg (QV s)) (by kernel_rfl) (by kernel_rfl) rfl
          have f72 := eval_getD e72
          have e74 := hJ.val hr 36 74 (v := .agg #[.int .i64 v.x, .int .i64 v.y, .int .i64 v.z]) (by kernel_rfl) (by kernel_rfl) rfl
          have f74 := eval_getD e74
          refine J_step rfl (hJ.guard hr 33 71 rfl (by kernel_rfl) (by kernel_rfl) rfl) (fun K hK => ?_)
          go_simp
          refine (AS.out _ (HF.out.tch F.out.t)).mono ?_
          rintro e w6 ⟨rfl, hT⟩
          exact hK.out _ _ (hJ.isV hok HN hp hr rfl rfl hT)
        refine lt_cases (n := 36) (fun listed a w' hp hJ hr => ?_) ?_
        · have F := Lib.hid (F.out.drew.keep hJ.t)
          have e73 := hJ.val hr 35 73 (v := .pointer (some ⟨w.heap.size + 1 + 1, 9, none⟩)) (by kernel_rfl) (by kernel_rfl) rfl
          have f73 := eval_getD e73
          have n0 := F.out.cell 2 9 rfl rfl
          have n1 := F.out.cell 2 10 rfl rfl
          have n2 := F.out.cell 2 11 rfl rfl
          refine J_step rfl (hJ.guard hr 33 71 rfl (by kernel_rfl) (by kernel_rfl) rfl) (fun K hK => ?_)
          go_simp
          exact hK.out _ _ (hJ.isV hok HN hp hr rfl rfl (Tch.refl [] _))
        refine lt_cases (n := 35) (fun listed a w' hp hJ hr => ?_) ?_
        · have F := Lib.hid (F.out.drew.keep hJ.t)
          have e5 := hJ.old 5 (v := .pointer (some ⟨w.heap.size + 1 + 1, 0, none⟩)) (by kernel_rfl) (hold (5, .pointer (some ⟨w.heap.size + 1 + 1, 0, none⟩)) (by simp))
          have f5 := eval_getD e5
          refine J_step rfl (hJ.guard hr 33 71 rfl (by kernel_rfl) (by kernel_rfl) rfl) (fun K hK => ?_)
          go_simp
          exact hK.out _ _ (hJ.isV hok HN hp hr rfl rfl (Tch.refl [] _))
        refine lt_cases (n := 34) (fun listed a w' hp hJ hr => ?_) ?_
        · have F := Lib.hid (F.out.drew.keep hJ.t)
          have e11 := hJ.old 11 (v := .pointer (some ⟨w3.heap.size, 0, none⟩)) (by kernel_rfl) (hold (11, .pointer (some ⟨w3.heap.size, 0, none⟩)) (by simp))
          have f11 := eval_getD e11
          refine J_step rfl (hJ.guard hr 33 71 rfl (by kernel_rfl) (by kernel_rfl) rfl) (fun K hK => ?_)
          refine up_load_row 28 (.tmp 11) rfl w3.heap.size e11 (QV s) 28 20 (F.out.at 6 rfl) (QV_size s) Tryd.underlying28 rfl infoQ ?_
          exact hK.out _ _ (hJ.isV hok HN hp hr rfl rfl (Tch.refl [] _))
        refine lt_cases (n := 33) (fun listed a w' hp hJ hr => ?_) ?_
        · have F := Lib.hid (F.out.drew.keep hJ.t)
          have e70 := hJ.val hr 32 70 (v := .bool true) (by kernel_rfl) (by kernel_rfl) rfl
          have f70 := eval_getD e70
          refine J_step rfl (wanted_none rfl _) (fun K hK => ?_)
          go_simp
          exact hK.out _ _ (hJ.isV hok HN hp hr rfl rfl (Tch.refl [] _))
        refine lt_cases (n := 32) (fun listed a w' hp hJ hr => ?_) ?_
        · have F := Lib.hid (F.out.drew.keep hJ.t)
          have e64 := hJ.val hr 26 64 (v := .bool true) (by kernel_rfl) (by kernel_rfl) rfl
          have f64 := eval_getD e64
          have e69 := hJ.val hr 31 69 (v := .bool true) (by kernel_rfl) (by kernel_rfl) rfl
          have f69 := eval_getD e69
          refine J_step rfl (wanted_none rfl _) (fun K hK => ?_)
          go_simp
          exact hK.out _ _ (hJ.isV hok HN hp hr rfl rfl (Tch.refl [] _))
        refine lt_cases (n := 31) (fun listed a w' hp hJ hr => ?_) ?_
        · have F := Lib.hid (F.out.drew.keep hJ.t)
          have e67 := hJ.val hr 29 67 (v := .agg (QV s5)) (by kernel_rfl) (by kernel_rfl) rfl
          have f67 := eval_getD e67
          have e68 := hJ.val hr 30 68 (v := .agg (QV x)) (by kernel_rfl) (by kernel_rfl) rfl
          have f68 := eval_getD e68
          refine J_step rfl (hJ.guard hr 26 64 rfl (by kernel_rfl) (by kernel_rfl) rfl) (fun K hK => ?_)
          go_simp
          exact hK.out _ _ (hJ.isV hok HN hp hr rfl rfl (Tch.refl [] _))
        refine lt_cases (n := 30) (fun listed a w' hp hJ hr => ?_) ?_
        · have F := Lib.hid (F.out.drew.keep hJ.t)
          have e8 := hJ.old 8 (v := .pointer (some ⟨g8, 0, none⟩)) (by kernel_rfl) (hold (8, .pointer (some ⟨g8, 0, none⟩)) (by simp))
          have f8 := eval_getD e8
          refine J_step rfl (hJ.guard hr 26 64 rfl (by kernel_rfl) (by kernel_rfl) rfl) (fun K hK => ?_)
          refine up_load_row 28 (.tmp 8) rfl g8 e8 (QV x) 28 20 (F.out.at 3 rfl) (QV_size x) Tryd.underlying28 rfl infoQ ?_
          exact hK.out _ _ (hJ.isV hok HN hp hr rfl rfl (Tch.refl [] _))
        refine lt_cases (n := 29) (fun listed a w' hp hJ hr => ?_) ?_
        · have F := Lib.hid (F.out.drew.keep hJ.t)
          have e65 := hJ.val hr 27 65 (v := .agg (QV x)) (by kernel_rfl) (by kernel_rfl) rfl
          have f65 := eval_getD e65
          have e66 := hJ.val hr 28 66 (v := .agg #[.bool false, .string ⟨#[]⟩, .bool false, .string ⟨#[]⟩, .bool false, .string ⟨#[]⟩, .bool false, .string ⟨#[]⟩, .bool false, .string ⟨#[]⟩, .bool false, .string ⟨#[]⟩, .bool false, .string ⟨#[]⟩, .bool false, .string ⟨#[]⟩, .bool false, .string ⟨#[]⟩, .bool false, .string ⟨#[]⟩]) (by kernel_rfl) (by kernel_rfl) rfl
          have f66 := eval_getD e66
          refine J_step rfl (hJ.guard hr 26 64 rfl (by kernel_rfl) (by kernel_rfl) rfl) (fun K hK => ?_)
          go_simp
          refine (S5.out _).mono ?_
          rintro e w6 ⟨rfl, hT⟩
          exact hK.out _ _ (hJ.isV hok HN hp hr rfl rfl hT)
        refine lt_cases (n := 28) (fun listed a w' hp hJ hr => ?_) ?_
        · have F := Lib.hid (F.out.drew.keep hJ.t)
          refine J_step rfl (hJ.guard hr 26 64 rfl (by kernel_rfl) (by kernel_rfl) rfl) (fun K hK => ?_)
          go_simp
          exact hK.out _ _ (hJ.isV hok HN hp hr rfl rfl (Tch.refl [] _))
        refine lt_cases (n := 27) (fun listed a w' hp hJ hr => ?_) ?_
        · have F := Lib.hid (F.out.drew.keep hJ.t)
          have e8 := hJ.old 8 (v := .pointer (some ⟨g8, 0, none⟩)) (by kernel_rfl) (hold (8, .pointer (some ⟨g8, 0, none⟩)) (by simp))
          have f8 := eval_getD e8
          refine J_step rfl (hJ.guard hr 26 64 rfl (by kernel_rfl) (by kernel_rfl) rfl) (fun K hK => ?_)
          refine up_load_row 28 (.tmp 8) rfl g8 e8 (QV x) 28 20 (F.out.at 3 rfl) (QV_size x) Tryd.underlying28 rfl infoQ ?_
          exact hK.out _ _ (hJ.isV hok HN hp hr rfl rfl (Tch.refl [] _))
        refine lt_cases (n := 26) (fun listed a w' hp hJ hr => ?_) ?_
        · have F := Lib.hid (F.out.drew.keep hJ.t)
          have e63 := hJ.val hr 25 63 (v := .bool true) (by kernel_rfl) (by kernel_rfl) rfl
          have f63 := eval_getD e63
          refine J_step rfl (wanted_none rfl _) (fun K hK => ?_)
          go_simp
          exact hK.out _ _ (hJ.isV hok HN hp hr rfl rfl (Tch.refl [] _))
        refine lt_cases (n := 25) (fun listed a w' hp hJ hr => ?_) ?_
        · have F := Lib.hid (F.out.drew.keep hJ.t)
          have e53 := hJ.val hr 15 53 (v := .bool true) (by kernel_rfl) (by kernel_rfl) rfl
          have f53 := eval_getD e53
          have e62 := hJ.val hr 24 62 (v := .bool true) (by kernel_rfl) (by kernel_rfl) rfl
          have f62 := eval_getD e62
          refine J_step rfl (wanted_none rfl _) (fun K hK => ?_)
          go_simp
          exact hK.out _ _ (hJ.isV hok HN hp hr rfl rfl (Tch.refl [] _))
        refine lt_cases (n := 24) (fun listed a w' hp hJ hr => ?_) ?_
        · have F := Lib.hid (F.out.drew.keep hJ.t)
          have e56 := hJ.val hr 18 56 (v := .agg (QV s2)) (by kernel_rfl) (by kernel_rfl) rfl
          have f56 := eval_getD e56
          have e61 := hJ.val hr 23 61 (v := .agg (QV s4)) (by kernel_rfl) (by kernel_rfl) rfl
          have f61 := eval_getD e61
          refine J_step rfl (hJ.guard hr 15 53 rfl (by kernel_rfl) (by kernel_rfl) rfl) (fun K hK => ?_)
          go_simp
          exact hK.out _ _ (hJ.isV hok HN hp hr rfl rfl (Tch.refl [] _))
        refine lt_cases (n := 23) (fun listed a w' hp hJ hr => ?_) ?_
        · have F := Lib.hid (F.out.drew.keep hJ.t)
          have e57 := hJ.val hr 19 57 (v := .agg (QV x)) (by kernel_rfl) (by kernel_rfl) rfl
          have f57 := eval_getD e57
          have e60 := hJ.val hr 22 60 (v := .agg (QV s3)) (by kernel_rfl) (by kernel_rfl) rfl
          have f60 := eval_getD e60
          refine J_step rfl (hJ.guard hr 15 53 rfl (by kernel_rfl) (by kernel_rfl) rfl) (fun K hK => ?_)
          go_simp
          refine (S4.out _).mono ?_
          rintro e w6 ⟨rfl, hT⟩
          exact hK.out _ _ (hJ.isV hok HN hp hr rfl rfl hT)
        refine lt_cases (n := 22) (fun listed a w' hp hJ hr => ?_) ?_
        · have F := Lib.hid (F.out.drew.keep hJ.t)
          have e58 := hJ.val hr 20 58 (v := .agg (QV y)) (by kernel_rfl) (by kernel_rfl) rfl
          have f58 := eval_getD e58
          have e59 := hJ.val hr 21 59 (v := .agg (QV z)) (by kernel_rfl) (by kernel_rfl) rfl
          have f59 := eval_getD e59
          refine J_step rfl (hJ.guard hr 15 53 rfl (by kernel_rfl) (by kernel_rfl) rfl) (fun K hK => ?_)
          go_simp
          refine (S3.out _).mono ?_
          rintro e w6 ⟨rfl, hT⟩
          exact hK.out _ _ (hJ.isV hok HN hp hr rfl rfl hT)
        refine lt_cases (n := 21) (fun listed a w' hp hJ hr => ?_) ?_
        · have F := Lib.hid (F.out.drew.keep hJ.t)
          have e10 := hJ.old 10 (v := .pointer (some ⟨g10, 0, none⟩)) (by kernel_rfl) (hold (10, .pointer (some ⟨g10, 0, none⟩)) (by simp))
          have f10 := eval_getD e10
          refine J_step rfl (hJ.guard hr 15 53 rfl (by kernel_rfl) (by kernel_rfl) rfl) (fun K hK => ?_)
          refine up_load_row 28 (.tmp 10) rfl g10 e10 (QV z) 28 20 (F.out.at 5 rfl) (QV_size z) Tryd.underlying28 rfl infoQ ?_
          exact hK.out _ _ (hJ.isV hok HN hp hr rfl rfl (Tch.refl [] _))
        refine lt_cases (n := 20) (fun listed a w' hp hJ hr => ?_) ?_
        · have F := Lib.hid (F.out.drew.keep hJ.t)
          have e9 := hJ.old 9 (v := .pointer (some ⟨g9, 0, none⟩)) (by kernel_rfl) (hold (9, .pointer (some ⟨g9, 0, none⟩)) (by simp))
          have f9 := eval_getD e9
          refine J_step rfl (hJ.guard hr 15 53 rfl (by kernel_rfl) (by kernel_rfl) rfl) (fun K hK => ?_)
          refine up_load_row 28 (.tmp 9) rfl g9 e9 (QV y) 28 20 (F.out.at 4 rfl) (QV_size y) Tryd.underlying28 rfl infoQ ?_
          exact hK.out _ _ (hJ.isV hok HN hp hr rfl rfl (Tch.refl [] _))
        refine lt_cases (n := 19) (fun listed a w' hp hJ hr => ?_) ?_
        · have F := Lib.hid (F.out.drew.keep hJ.t)
          have e8 := hJ.old 8 (v := .pointer (some ⟨g8, 0, none⟩)) (by kernel_rfl) (hold (8, .pointer (some ⟨g8, 0, none⟩)) (by simp))
          have f8 := eval_getD e8
          refine J_step rfl (hJ.guard hr 15 53 rfl (by kernel_rfl) (by kernel_rfl) rfl) (fun K hK => ?_)
          refine up_load_row 28 (.tmp 8) rfl g8 e8 (QV x) 28 20 (F.out.at 3 rfl) (QV_size x) Tryd.underlying28 rfl infoQ ?_
          exact hK.out _ _ (hJ.isV hok HN hp hr rfl rfl (Tch.refl [] _))
        refine lt_cases (n := 18) (fun listed a w' hp hJ hr => ?_) ?_
        · have F := Lib.hid (F.out.drew.keep hJ.t)
          have e54 := hJ.val hr 16 54 (v := .agg (QV s)) (by kernel_rfl) (by kernel_rfl) rfl
          have f54 := eval_getD e54
          have e55 := hJ.val hr 17 55 (v := .agg (QV z)) (by kernel_rfl) (by kernel_rfl) rfl
          have f55 := eval_getD e55
          refine J_step rfl (hJ.guard hr 15 53 rfl (by kernel_rfl) (by kernel_rfl) rfl) (fun K hK => ?_)
          go_simp
          refine (S2.out _).mono ?_
          rintro e w6 ⟨rfl, hT⟩
          exact hK.out _ _ (hJ.isV hok HN hp hr rfl rfl hT)
        refine lt_cases (n := 17) (fun listed a w' hp hJ hr => ?_) ?_
        · have F := Lib.hid (F.out.drew.keep hJ.t)
          have e10 := hJ.old 10 (v := .pointer (some ⟨g10, 0, none⟩)) (by kernel_rfl) (hold (10, .pointer (some ⟨g10, 0, none⟩)) (by simp))
          have f10 := eval_getD e10
          refine J_step rfl (hJ.guard hr 15 53 rfl (by kernel_rfl) (by kernel_rfl) rfl) (fun K hK => ?_)
          refine up_load_row 28 (.tmp 10) rfl g10 e10 (QV z) 28 20 (F.out.at 5 rfl) (QV_size z) Tryd.underlying28 rfl infoQ ?_
          exact hK.out _ _ (hJ.isV hok HN hp hr rfl rfl (Tch.refl [] _))
        refine lt_cases (n := 16) (fun listed a w' hp hJ hr => ?_) ?_
        · have F := Lib.hid (F.out.drew.keep hJ.t)
          have e11 := hJ.old 11 (v := .pointer (some ⟨w3.heap.size, 0, none⟩)) (by kernel_rfl) (hold (11, .pointer (some ⟨w3.heap.size, 0, none⟩)) (by simp))
          have f11 := eval_getD e11
          refine J_step rfl (hJ.guard hr 15 53 rfl (by kernel_rfl) (by kernel_rfl) rfl) (fun K hK => ?_)
          refine up_load_row 28 (.tmp 11) rfl w3.heap.size e11 (QV s) 28 20 (F.out.at 6 rfl) (QV_size s) Tryd.underlying28 rfl infoQ ?_
          exact hK.out _ _ (hJ.isV hok HN hp hr rfl rfl (Tch.refl [] _))
        refine lt_cases (n := 15) (fun listed a w' hp hJ hr => ?_) ?_
        · have F := Lib.hid (F.out.drew.keep hJ.t)
          have e52 := hJ.val hr 14 52 (v := .bool true) (by kernel_rfl) (by kernel_rfl) rfl
          have f52 := eval_getD e52
          refine J_step rfl (wanted_none rfl _) (fun K hK => ?_)
          go_simp
          exact hK.out _ _ (hJ.isV hok HN hp hr rfl rfl (Tch.refl [] _))
        refine lt_cases (n := 14) (fun listed a w' hp hJ hr => ?_) ?_
        · have F := Lib.hid (F.out.drew.keep hJ.t)
          have e46 := hJ.val hr 8 46 (v := .bool true) (by kernel_rfl) (by kernel_rfl) rfl
          have f46 := eval_getD e46
          have e51 := hJ.val hr 13 51 (v := .bool true) (by kernel_rfl) (by kernel_rfl) rfl
          have f51 := eval_getD e51
          refine J_step rfl (wanted_none rfl _) (fun K hK => ?_)
          go_simp
          exact hK.out _ _ (hJ.isV hok HN hp hr rfl rfl (Tch.refl [] _))
        refine lt_cases (n := 13) (fun listed a w' hp hJ hr => ?_) ?_
        · have F := Lib.hid (F.out.drew.keep hJ.t)
          have e47 := hJ.val hr 9 47 (v := .agg (QV s)) (by kernel_rfl) (by kernel_rfl) rfl
          have f47 := eval_getD e47
          have e50 := hJ.val hr 12 50 (v := .agg (QV s1)) (by kernel_rfl) (by kernel_rfl) rfl
          have f50 := eval_getD e50
          refine J_step rfl (hJ.guard hr 8 46 rfl (by kernel_rfl) (by kernel_rfl) rfl) (fun K hK => ?_)
          go_simp
          exact hK.out _ _ (hJ.isV hok HN hp hr rfl rfl (Tch.refl [] _))
        refine lt_cases (n := 12) (fun listed a w' hp hJ hr => ?_) ?_
        · have F := Lib.hid (F.out.drew.keep hJ.t)
          have e48 := hJ.val hr 10 48 (v := .agg (QV y)) (by kernel_rfl) (by kernel_rfl) rfl
          have f48 := eval_getD e48
          have e49 := hJ.val hr 11 49 (v := .agg (QV x)) (by kernel_rfl) (by kernel_rfl) rfl
          have f49 := eval_getD e49
          refine J_step rfl (hJ.guard hr 8 46 rfl (by kernel_rfl) (by kernel_rfl) rfl) (fun K hK => ?_)
          go_simp
          refine (S1.out _).mono ?_
          rintro e w6 ⟨rfl, hT⟩
          exact hK.out _ _ (hJ.isV hok HN hp hr rfl rfl hT)
        refine lt_cases (n := 11) (fun listed a w' hp hJ hr => ?_) ?_
        · have F := Lib.hid (F.out.drew.keep hJ.t)
          have e8 := hJ.old 8 (v := .pointer (some ⟨g8, 0, none⟩)) (by kernel_rfl) (hold (8, .pointer (some ⟨g8, 0, none⟩)) (by simp))
          have f8 := eval_getD e8
          refine J_step rfl (hJ.guard hr 8 46 rfl (by kernel_rfl) (by kernel_rfl) rfl) (fun K hK => ?_)
          refine up_load_row 28 (.tmp 8) rfl g8 e8 (QV x) 28 20 (F.out.at 3 rfl) (QV_size x) Tryd.underlying28 rfl infoQ ?_
          exact hK.out _ _ (hJ.isV hok HN hp hr rfl rfl (Tch.refl [] _))
        refine lt_cases (n := 10) (fun listed a w' hp hJ hr => ?_) ?_
        · have F := Lib.hid (F.out.drew.keep hJ.t)
          have e9 := hJ.old 9 (v := .pointer (some ⟨g9, 0, none⟩)) (by kernel_rfl) (hold (9, .pointer (some ⟨g9, 0, none⟩)) (by simp))
          have f9 := eval_getD e9
          refine J_step rfl (hJ.guard hr 8 46 rfl (by kernel_rfl) (by kernel_rfl) rfl) (fun K hK => ?_)
          refine up_load_row 28 (.tmp 9) rfl g9 e9 (QV y) 28 20 (F.out.at 4 rfl) (QV_size y) Tryd.underlying28 rfl infoQ ?_
          exact hK.out _ _ (hJ.isV hok HN hp hr rfl rfl (Tch.refl [] _))
        refine lt_cases (n := 9) (fun listed a w' hp hJ hr => ?_) ?_
        · have F := Lib.hid (F.out.drew.keep hJ.t)
          have e11 := hJ.old 11 (v := .pointer (some ⟨w3.heap.size, 0, none⟩)) (by kernel_rfl) (hold (11, .pointer (some ⟨w3.heap.size, 0, none⟩)) (by simp))
          have f11 := eval_getD e11
          refine J_step rfl (hJ.guard hr 8 46 rfl (by kernel_rfl) (by kernel_rfl) rfl) (fun K hK => ?_)
          refine up_load_row 28 (.tmp 11) rfl w3.heap.size e11 (QV s) 28 20 (F.out.at 6 rfl) (QV_size s) Tryd.underlying28 rfl infoQ ?_
          exact hK.out _ _ (hJ.isV hok HN hp hr rfl rfl (Tch.refl [] _))
        refine lt_cases (n := 8) (fun listed a w' hp hJ hr => ?_) ?_
        · have F := Lib.hid (F.out.drew.keep hJ.t)
          have e45 := hJ.val hr 7 45 (v := .bool true) (by kernel_rfl) (by kernel_rfl) rfl
          have f45 := eval_getD e45
          refine J_step rfl (wanted_none rfl _) (fun K hK => ?_)
          go_simp
          exact hK.out _ _ (hJ.isV hok HN hp hr rfl rfl (Tch.refl [] _))
        refine lt_cases (n := 7) (fun listed a w' hp hJ hr => ?_) ?_
        · have F := Lib.hid (F.out.drew.keep hJ.t)
          have e39 := hJ.val hr 1 39 (v := .bool true) (by kernel_rfl) (by kernel_rfl) rfl
          have f39 := eval_getD e39
          have e44 := hJ.val hr 6 44 (v := .bool true) (by kernel_rfl) (by kernel_rfl) rfl
          have f44 := eval_getD e44
          refine J_step rfl (wanted_none rfl _) (fun K hK => ?_)
          go_simp
          exact hK.out _ _ (hJ.isV hok HN hp hr rfl rfl (Tch.refl [] _))
        refine lt_cases (n := 6) (fun listed a w' hp hJ hr => ?_) ?_
        · have F := Lib.hid (F.out.drew.keep hJ.t)
          have e40 := hJ.val hr 2 40 (v := .agg (QV s)) (by kernel_rfl) (by kernel_rfl) rfl
          have f40 := eval_getD e40
          have e43 := hJ.val hr 5 43 (v := .agg (QV s)) (by kernel_rfl) (by kernel_rfl) rfl
          have f43 := eval_getD e43
          refine J_step rfl (hJ.guard hr 1 39 rfl (by kernel_rfl) (by kernel_rfl) rfl) (fun K hK => ?_)
          go_simp
          exact hK.out _ _ (hJ.isV hok HN hp hr rfl rfl (Tch.refl [] _))
        refine lt_cases (n := 5) (fun listed a w' hp hJ hr => ?_) ?_
        · have F := Lib.hid (F.out.drew.keep hJ.t)
          have e41 := hJ.val hr 3 41 (v := .agg (QV x)) (by kernel_rfl) (by kernel_rfl) rfl
          have f41 := eval_getD e41
          have e42 := hJ.val hr 4 42 (v := .agg (QV y)) (by kernel_rfl) (by kernel_rfl) rfl
          have f42 := eval_getD e42
          refine J_step rfl (hJ.guard hr 1 39 rfl (by kernel_rfl) (by kernel_rfl) rfl) (fun K hK => ?_)
          go_simp
          refine (CR.out _).mono ?_
          rintro e w6 ⟨rfl, hT⟩
          exact hK.out _ _ (hJ.isV hok HN hp hr rfl rfl hT)
        refine lt_cases (n := 4) (fun listed a w' hp hJ hr => ?_) ?_
        · have F := Lib.hid (F.out.drew.keep hJ.t)
          have e9 := hJ.old 9 (v := .pointer (some ⟨g9, 0, none⟩)) (by kernel_rfl) (hold (9, .pointer (some ⟨g9, 0, none⟩)) (by simp))
          have f9 := eval_getD e9
          refine J_step rfl (hJ.guard hr 1 39 rfl (by kernel_rfl) (by kernel_rfl) rfl) (fun K hK => ?_)
          refine up_load_row 28 (.tmp 9) rfl g9 e9 (QV y) 28 20 (F.out.at 4 rfl) (QV_size y) Tryd.underlying28 rfl infoQ ?_
          exact hK.out _ _ (hJ.isV hok HN hp hr rfl rfl (Tch.refl [] _))
        refine lt_cases (n := 3) (fun listed a w' hp hJ hr => ?_) ?_
        · have F := Lib.hid (F.out.drew.keep hJ.t)
          have e8 := hJ.old 8 (v := .pointer (some ⟨g8, 0, none⟩)) (by kernel_rfl) (hold (8, .pointer (some ⟨g8, 0, none⟩)) (by simp))
          have f8 := eval_getD e8
          refine J_step rfl (hJ.guard hr 1 39 rfl (by kernel_rfl) (by kernel_rfl) rfl) (fun K hK => ?_)
          refine up_load_row 28 (.tmp 8) rfl g8 e8 (QV x) 28 20 (F.out.at 3 rfl) (QV_size x) Tryd.underlying28 rfl infoQ ?_
          exact hK.out _ _ (hJ.isV hok HN hp hr rfl rfl (Tch.refl [] _))
        refine lt_cases (n := 2) (fun listed a w' hp hJ hr => ?_) ?_
        · have F := Lib.hid (F.out.drew.keep hJ.t)
          have e11 := hJ.old 11 (v := .pointer (some ⟨w3.heap.size, 0, none⟩)) (by kernel_rfl) (hold (11, .pointer (some ⟨w3.heap.size, 0, none⟩)) (by simp))
          have f11 := eval_getD e11
          refine J_step rfl (hJ.guard hr 1 39 rfl (by kernel_rfl) (by kernel_rfl) rfl) (fun K hK => ?_)
          refine up_load_row 28 (.tmp 11) rfl w3.heap.size e11 (QV s) 28 20 (F.out.at 6 rfl) (QV_size s) Tryd.underlying28 rfl infoQ ?_
          exact hK.out _ _ (hJ.isV hok HN hp hr rfl rfl (Tch.refl [] _))
        refine lt_cases (n := 1) (fun listed a w' hp hJ hr => ?_) ?_
        · have F := Lib.hid (F.out.drew.keep hJ.t)
          have e38 := hJ.val hr 0 38 (v := .bool true) (by kernel_rfl) (by kernel_rfl) rfl
          have f38 := eval_getD e38
          refine J_step rfl (wanted_none rfl _) (fun K hK => ?_)
          go_simp
          exact hK.out _ _ (hJ.isV hok HN hp hr rfl rfl (Tch.refl [] _))
        refine lt_cases (n := 0) (fun listed a w' hp hJ hr => ?_) ?_
        · have F := Lib.hid (F.out.drew.keep hJ.t)
          have e7 := hJ.old 7 (v := .bool true) (by kernel_rfl) (hold (7, .bool true) (by simp))
          have f7 := eval_getD e7
          refine J_step rfl (wanted_none rfl _) (fun K hK => ?_)
          go_simp
          exact hK.out _ _ (hJ.isV hok HN hp hr rfl rfl (Tch.refl [] _))
        exact lt_none
      case rest =>
        have F := Lib.hid (F.out.drew.keep hT)
        simp only [putAll, List.foldl, Act.put, List.setIfInBounds_toArray, List.set_cons_zero, List.set_cons_succ]
        clear hB hT
        refine wpAny_end (by kernel_rfl) ?_
        go_wp2
        go_ret
        exact ⟨rfl, F.out.t⟩

end Go.Proofs.YtmpfgkpimjiecaaDoor
