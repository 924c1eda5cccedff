/- quadric.Sum: the closure; quadric.combine, quadric.Of, quadric.Sum. -/
import Derived.Test.YtmpfgkpimjiecaaDoorQr
namespace Go.Proofs.YtmpfgkpimjiecaaDoor
open Go Go.RowKit Dg

set_option maxHeartbeats 2000000 in
set_option maxRecDepth 100000 in
theorem sumK (k ga gb : Nat) (hk : k < 10) (u v : Int) (hu : Sm 2900 u) (hv : Sm 2900 v) (w : World)
    (u0 : w.cell? ⟨ga, k * 2, none⟩ = some (.bool (sgz u))) (u1 : w.cell? ⟨ga, k * 2 + 1, none⟩ = some (.string (moz u))) (v0 : w.cell? ⟨gb, k * 2, none⟩ = some (.bool (sgz v))) (v1 : w.cell? ⟨gb, k * 2 + 1, none⟩ = some (.string (moz v))) :
    Calls Tryd.prog 41 #[.int .i64 (k : Int), .pointer (some ⟨ga, 0, none⟩), .pointer (some ⟨gb, 0, none⟩)] w fun e w' => e = .returned (.agg #[.bool (sgz (u + v)), .string (moz (u + v))]) ∧ Tch [] w w' := by
  have c1 := fun w1 => KAdd (hu.mono (l := 3000) (by omega)) (hv.mono (l := 3000) (by omega)) w1
  obtain ⟨m, em⟩ : ∃ m, m = u + v := ⟨_, rfl⟩
  rw [← em] at c1 ⊢
  have C1 := Lib.hid c1
  clear c1 em hu hv
  have ik : (0 : Int) ≤ k := by omega
  have ik2 : (k : Int) < 10 := by omega
  have F : Hid (Fr w (w.alloc (.cells #[.bool false, .string ⟨#[]⟩] 26)) [(w.heap.size, .cells #[.bool false, .string ⟨#[]⟩] 26 (0, 0))]) := Lib.hid ((Fr.nil w).add _ w.heap.size rfl)
  have SA := Lib.hid (fun (w' : World) (h : Tch [] w w') => And.intro (cell_kept0 u0 h) (And.intro (cell_kept0 u1 h) (And.intro (cell_kept0 v0 h) (cell_kept0 v1 h))))
  clear u0 u1 v0 v1
  go_enter Tryd.func41, Tryd.ntmps41
  go_upto_region 1 with (fail)
  go_region_held3 (fun w' => w'.cell? ⟨ga, k * 2, none⟩ = some (.bool (sgz u)) ∧ w'.cell? ⟨ga, k * 2 + 1, none⟩ = some (.string (moz u)) ∧ w'.cell? ⟨gb, k * 2, none⟩ = some (.bool (sgz v)) ∧ w'.cell? ⟨gb, k * 2 + 1, none⟩ = some (.string (moz v))) (first | with_reducible exact SA.out _ F.out.t | with_reducible exact SA.out _ F.out.t.drew | with_reducible exact SA.out _ (F.out.fin2 0 rfl _ _)) (first
    | (go_at_call 30; (with_reducible refine (C1.out _).mono ?_); rintro e w5 ⟨rfl, hT⟩; have F := Lib.hid (F.out.drew.keep hT); obtain ⟨r0, r1⟩ := F.out.two 0 rfl; obtain ⟨g0, g1⟩ := F.out.fro2 0 rfl; clear hT))
  go_wp2
  refine bodyPost_ret (v := .agg #[.bool (sgz m), .string (moz m)]) (by simp [results, Tryd.results41, go_sem, r0, r1]) rfl ⟨rfl, F.out.fin2 0 rfl _ _⟩

set_option maxHeartbeats 2000000 in
set_option maxRecDepth 100000 in
theorem combOf (q : Nat → Int) (g : Nat) (w : World)
    (hC : ∀ k : Nat, k < 10 → ∀ w1, Tch [] w w1 → Calls Tryd.prog 28 #[.int .i64 (k : Int), .pointer (some ⟨g, 0, none⟩)] w1 fun e w' => e = .returned (.agg #[.bool (sgz (q k)), .string (moz (q k))]) ∧ Tch [] w1 w') :
    Calls Tryd.prog 27 #[.func (.func 28) #[] #[.pointer (some ⟨g, 0, none⟩)]] w fun e w' => e = .returned (.agg (QV q)) ∧ Tch [] w w' := by
  have C := Lib.hid hC
  clear hC
  have F0 : Hid (Fr w ((w.alloc (.cells QZ 28)).alloc (.cells QZ 28)) [(w.heap.size, .cells QZ 28 (0, 0)), (w.heap.size + 1, .cells (qst q 0) 28 (0, 0))]) := Lib.hid (((Fr.nil w).add (.cells QZ 28) w.heap.size rfl).add (.cells QZ 28) (w.heap.size + 1) (by simp))
  go_enter Tryd.func27, Tryd.ntmps27
  go_wp2
  go_loopw [5] (fun i wr => ∃ k : Nat, k ≤ 10 ∧ i = .int .i64 (k : Int) ∧ Hid (Fr w wr [(w.heap.size, .cells QZ 28 (0, 0)), (w.heap.size + 1, .cells (qst q k) 28 (0, 0))]))
    (fun i _ => 10 - (intOf i).toNat)
  case atStart => exact ⟨0, by omega, rfl, F0⟩
  case round =>
    obtain ⟨k, hk, rfl, F⟩ := hrel
    rcases (show k = 10 ∨ k < 10 by omega) with rfl | hk
    · have F : Hid (Fr w wr [(w.heap.size, .cells QZ 28 (0, 0)), (w.heap.size + 1, .cells (QV q) 28 (0, 0))]) := F
      have h0 := Lib.hid (F.out.at 0 rfl)
      have h1 := Lib.hid (F.out.at 1 rfl)
      go_wp2_with (first | (refine wpList_load_row rfl 28 _ rfl (w.heap.size + 1) rfl _ _ _ 20 h1.out (QV_size q) Tryd.underlying28 rfl infoQ ?_; simp only [Act.put, List.setIfInBounds_toArray, List.set_cons_zero, List.set_cons_succ]) | (refine wpList_store_row rfl 28 _ _ rfl w.heap.size rfl _ _ rfl _ 20 h0.out QZ_size (QV_size q) infoQ (QV_one q) ?_; simp only [Act.put]))
      have F := Lib.hid (Fr.setR (l1 := []) F.out (by simp) (QV q))
      have h0 := F.out.at 0 rfl
      refine bodyPost_ret (v := .agg (QV q)) (results_row Tryd.results27 rfl h0 (QV_size q) Tryd.underlying28 rfl infoQ) rfl ⟨rfl, F.out.t⟩
    · have ik : (0 : Int) ≤ k := by omega
      have ik2 : (k : Int) < 10 := by omega
      go_wp2_with fail
      refine (C.out k hk _ F.out.t).mono ?_
      rintro e w1 ⟨rfl, hT⟩
      have F := Lib.hid (F.out.keep hT)
      clear hT
      have c0 := F.out.cell 1 (k * 2) rfl (qst_old q k hk).1
      have c1 := F.out.cell 1 (k * 2 + 1) rfl (qst_old q k hk).2
      have g0 := F.out.frozen 1 (k * 2) rfl
      have g1 := F.out.frozen 1 (k * 2 + 1) rfl
      go_wp2
      go_roundw
      case rel =>
        have h := ((Fr.setC (l1 := [(w.heap.size, .cells QZ 28 (0, 0))]) (l2 := []) F.out (by simp) (k * 2) (.bool (sgz (q k)))).setC (l1 := [(w.heap.size, .cells QZ 28 (0, 0))]) (l2 := []) (by simp) (k * 2 + 1) (.string (moz (q k))))
        rw [qst_step q k hk] at h
        exact ⟨k + 1, by omega, by go_num, Lib.hid h⟩
      case measure => simp [intOf]; omega

set_option maxHeartbeats 2000000 in
set_option maxRecDepth 100000 in
theorem combSum (q : Nat → Int) (ga gb : Nat) (w : World)
    (hC : ∀ k : Nat, k < 10 → ∀ w1, Tch [] w w1 → Calls Tryd.prog 41 #[.int .i64 (k : Int), .pointer (some ⟨ga, 0, none⟩), .pointer (some ⟨gb, 0, none⟩)] w1 fun e w' => e = .returned (.agg #[.bool (sgz (q k)), .string (moz (q k))]) ∧ Tch [] w1 w') :
    Calls Tryd.prog 27 #[.func (.func 41) #[] #[.pointer (some ⟨ga, 0, none⟩), .pointer (some ⟨gb, 0, none⟩)]] w fun e w' => e = .returned (.agg (QV q)) ∧ Tch [] w w' := by
  have C := Lib.hid hC
  clear hC
  have F0 : Hid (Fr w ((w.alloc (.cells QZ 28)).alloc (.cells QZ 28)) [(w.heap.size, .cells QZ 28 (0, 0)), (w.heap.size + 1, .cells (qst q 0) 28 (0, 0))]) := Lib.hid (((Fr.nil w).add (.cells QZ 28) w.heap.size rfl).add (.cells QZ 28) (w.heap.size + 1) (by simp))
  go_enter Tryd.func27, Tryd.ntmps27
  go_wp2
  go_loopw [5] (fun i wr => ∃ k : Nat, k ≤ 10 ∧ i = .int .i64 (k : Int) ∧ Hid (Fr w wr [(w.heap.size, .cells QZ 28 (0, 0)), (w.heap.size + 1, .cells (qst q k) 28 (0, 0))]))
    (fun i _ => 10 - (intOf i).toNat)
  case atStart => exact ⟨0, by omega, rfl, F0⟩
  case round =>
    obtain ⟨k, hk, rfl, F⟩ := hrel
    rcases (show k = 10 ∨ k < 10 by omega) with rfl | hk
    · have F : Hid (Fr w wr [(w.heap.size, .cells QZ 28 (0, 0)), (w.heap.size + 1, .cells (QV q) 28 (0, 0))]) := F
      have h0 := Lib.hid (F.out.at 0 rfl)
      have h1 := Lib.hid (F.out.at 1 rfl)
      go_wp2_with (first | (refine wpList_load_row rfl 28 _ rfl (w.heap.size + 1) rfl _ _ _ 20 h1.out (QV_size q) Tryd.underlying28 rfl infoQ ?_; simp only [Act.put, List.setIfInBounds_toArray, List.set_cons_zero, List.set_cons_succ]) | (refine wpList_store_row rfl 28 _ _ rfl w.heap.size rfl _ _ rfl _ 20 h0.out QZ_size (QV_size q) infoQ (QV_one q) ?_; simp only [Act.put]))
      have F := Lib.hid (Fr.setR (l1 := []) F.out (by simp) (QV q))
      have h0 := F.out.at 0 rfl
      refine bodyPost_ret (v := .agg (QV q)) (results_row Tryd.results27 rfl h0 (QV_size q) Tryd.underlying28 rfl infoQ) rfl ⟨rfl, F.out.t⟩
    · have ik : (0 : Int) ≤ k := by omega
      have ik2 : (k : Int) < 10 := by omega
      go_wp2_with fail
      refine (C.out k hk _ F.out.t).mono ?_
      rintro e w1 ⟨rfl, hT⟩
      have F := Lib.hid (F.out.keep hT)
      clear hT
      have c0 := F.out.cell 1 (k * 2) rfl (qst_old q k hk).1
      have c1 := F.out.cell 1 (k * 2 + 1) rfl (qst_old q k hk).2
      have g0 := F.out.frozen 1 (k * 2) rfl
      have g1 := F.out.frozen 1 (k * 2 + 1) rfl
      go_wp2
      go_roundw
      case rel =>
        have h := ((Fr.setC (l1 := [(w.heap.size, .cells QZ 28 (0, 0))]) (l2 := []) F.out (by simp) (k * 2) (.bool (sgz (q k)))).setC (l1 := [(w.heap.size, .cells QZ 28 (0, 0))]) (l2 := []) (by simp) (k * 2 + 1) (.string (moz (q k))))
        rw [qst_step q k hk] at h
        exact ⟨k + 1, by omega, by go_num, Lib.hid h⟩
      case measure => simp [intOf]; omega

/-- The indices of the two factors of a coefficient. -/
def facI (k : Nat) : Nat := match k with | 0 => 0 | 1 => 0 | 2 => 0 | 3 => 0 | 4 => 1 | 5 => 1 | 6 => 1 | 7 => 2 | 8 => 2 | _ => 3
def facJ (k : Nat) : Nat := match k with | 0 => 0 | 1 => 1 | 2 => 2 | 3 => 3 | 4 => 1 | 5 => 2 | 6 => 3 | 7 => 2 | 8 => 3 | _ => 3
theorem fac_lt (k : Nat) (hk : k < 10) : facI k < 4 ∧ facJ k < 4 := by
  rcases (show k = 0 ∨ k = 1 ∨ k = 2 ∨ k = 3 ∨ k = 4 ∨ k = 5 ∨ k = 6 ∨ k = 7 ∨ k = 8 ∨ k = 9 by omega) with rfl | rfl | rfl | rfl | rfl | rfl | rfl | rfl | rfl | rfl <;> exact ⟨by decide, by decide⟩
/-- The package's table of factors lies in its block. -/
def FacOk (w : World) : Prop := ∀ k, k < 10 → w.cell? ⟨0, k * 2, none⟩ = some (.int .i64 (facI k : Int)) ∧ w.cell? ⟨0, k * 2 + 1, none⟩ = some (.int .i64 (facJ k : Int))
theorem FacOk.tch {w w' : World} (h : FacOk w) (t : Tch [] w w') : FacOk w' := fun k hk => ⟨cell_kept0 (h k hk).1 t, cell_kept0 (h k hk).2 t⟩
/-- The four numbers of a plane. -/
def plI (a b c : P3) (i : Nat) : Int := match i with | 0 => (nrmI a b c).x | 1 => (nrmI a b c).y | 2 => (nrmI a b c).z | _ => dI (nrmI a b c) a
/-- The coefficients of the square of a linear function. -/
def sqI (p : Nat → Int) (k : Nat) : Int := if facI k = facJ k then p (facI k) * p (facJ k) else p (facI k) * p (facJ k) + p (facI k) * p (facJ k)
/-- The quadric of a triangle. -/
def ofI (a b c : P3) : Nat → Int := sqI (plI a b c)
theorem plI_sm {a b c : P3} (ha : a.Ok) (hb : b.Ok) (hc : c.Ok) (i : Nat) (hi : i < 4) : Sm 198 (plI a b c i) := by
  have hn := nrmI_sm ha hb hc
  rcases (show i = 0 ∨ i = 1 ∨ i = 2 ∨ i = 3 by omega) with rfl | rfl | rfl | rfl
  · exact hn.x.mono (by omega)
  · exact hn.y.mono (by omega)
  · exact hn.z.mono (by omega)
  · have h1 := hn.x.mul (Sm.i64 ha.x.1 ha.x.2)
    have h2 := hn.y.mul (Sm.i64 ha.y.1 ha.y.2)
    have h3 := hn.z.mul (Sm.i64 ha.z.1 ha.z.2)
    exact ((((Sm.nul 195).add h1).add (h2.mono (l := 196) (by omega))).add (h3.mono (l := 197) (by omega))).neg
theorem sqI_sm {p : Nat → Int} {m : Nat} (h : ∀ i, i < 4 → Sm m (p i)) (k : Nat) (hk : k < 10) : Sm (m + m + 1) (sqI p k) := by
  have h1 := (h _ (fac_lt k hk).1).mul (h _ (fac_lt k hk).2)
  unfold sqI
  split
  · exact h1.mono (by omega)
  · exact h1.add h1
theorem ofI_sm {a b c : P3} (ha : a.Ok) (hb : b.Ok) (hc : c.Ok) (k : Nat) (hk : k < 10) : Sm 397 (ofI a b c k) := sqI_sm (plI_sm ha hb hc) k hk
/-- The cells of a linear function. -/
def LV (p : Nat → Int) : Array Value := #[.bool (sgz (p 0)), .string (moz (p 0)), .bool (sgz (p 1)), .string (moz (p 1)), .bool (sgz (p 2)), .string (moz (p 2)), .bool (sgz (p 3)), .string (moz (p 3))]
theorem LV_cell (p : Nat → Int) (k : Nat) (hk : k < 4) : (LV p)[k * 2]? = some (.bool (sgz (p k))) ∧ (LV p)[k * 2 + 1]? = some (.string (moz (p k))) := by
  rcases (show k = 0 ∨ k = 1 ∨ k = 2 ∨ k = 3 by omega) with rfl | rfl | rfl | rfl <;> exact ⟨rfl, rfl⟩

set_option maxHeartbeats 4000000 in
set_option maxRecDepth 100000 in
theorem Of (a b c : P3) (ha : a.Ok) (hb : b.Ok) (hc : c.Ok) (w : World) (hF : FacOk w) :
    Calls Tryd.prog 11 #[.agg #[.int .i64 a.x, .int .i64 a.y, .int .i64 a.z, .int .i64 b.x, .int .i64 b.y, .int .i64 b.z, .int .i64 c.x, .int .i64 c.y, .int .i64 c.z]] w fun e w' => e = .returned (.agg (QV (ofI a b c))) ∧ Tch [] w w' := by
  have hmf : ∀ (fn : Fn) (first cap : Array Value) (w : World), (Instr.makeFunc fn first cap).run Tryd.prog w = .ok (.func fn first cap) w := fun _ _ _ _ => rfl
  have c1 := fun w1 => planeOf a b c ha hb hc w1
  have hp := plI_sm ha hb hc
  obtain ⟨p, ep⟩ : ∃ p, p = plI a b c := ⟨_, rfl⟩
  have c1' : ∀ w1, Calls Tryd.prog 26 #[.agg #[.int .i64 a.x, .int .i64 a.y, .int .i64 a.z, .int .i64 b.x, .int .i64 b.y, .int .i64 b.z, .int .i64 c.x, .int .i64 c.y, .int .i64 c.z]] w1 fun e w' => e = .returned (.agg #[.bool (sgz (p 0)), .string (moz (p 0)), .bool (sgz (p 1)), .string (moz (p 1)), .bool (sgz (p 2)), .string (moz (p 2)), .bool (sgz (p 3)), .string (moz (p 3))]) ∧ Tch [] w1 w' := by rw [ep]; exact c1
  rw [← ep] at hp
  have hq : ofI a b c = sqI p := by rw [ep]; rfl
  rw [hq]
  have C1 := Lib.hid c1'
  have HP := Lib.hid hp
  have HF := Lib.hid hF
  clear c1 c1' hp hF ep hq ha hb hc
  have F0 : Hid (Fr w ((w.alloc (.cells #[.int .i64 a.x, .int .i64 a.y, .int .i64 a.z, .int .i64 b.x, .int .i64 b.y, .int .i64 b.z, .int .i64 c.x, .int .i64 c.y, .int .i64 c.z] 31)).alloc (.cells QZ 28)) [(w.heap.size, .cells #[.int .i64 a.x, .int .i64 a.y, .int .i64 a.z, .int .i64 b.x, .int .i64 b.y, .int .i64 b.z, .int .i64 c.x, .int .i64 c.y, .int .i64 c.z] 31 (0, 0)), (w.heap.size + 1, .cells QZ 28 (0, 0))]) := Lib.hid (((Fr.nil w).add (.cells #[.int .i64 a.x, .int .i64 a.y, .int .i64 a.z, .int .i64 b.x, .int .i64 b.y, .int .i64 b.z, .int .i64 c.x, .int .i64 c.y, .int .i64 c.z] 31) w.heap.size rfl).add (.cells QZ 28) (w.heap.size + 1) (by simp))
  go_enter Tryd.func11, Tryd.ntmps11
  go_wp2_with fail
  refine (C1.out _).mono ?_
  rintro e w1 ⟨rfl, hT⟩
  have F : Hid (Fr w (w1.alloc (.cells #[.bool (sgz (p 0)), .string (moz (p 0)), .bool (sgz (p 1)), .string (moz (p 1)), .bool (sgz (p 2)), .string (moz (p 2)), .bool (sgz (p 3)), .string (moz (p 3))] 57)) [(w.heap.size, .cells #[.int .i64 a.x, .int .i64 a.y, .int .i64 a.z, .int .i64 b.x, .int .i64 b.y, .int .i64 b.z, .int .i64 c.x, .int .i64 c.y, .int .i64 c.z] 31 (0, 0)), (w.heap.size + 1, .cells QZ 28 (0, 0)), (w1.heap.size, .cells (LV p) 57 (0, 0))]) := Lib.hid ((F0.out.keep hT).add (.cells (LV p) 57) w1.heap.size rfl)
  have hC : ∀ k : Nat, k < 10 → ∀ w2, Tch [] (w1.alloc (.cells #[.bool (sgz (p 0)), .string (moz (p 0)), .bool (sgz (p 1)), .string (moz (p 1)), .bool (sgz (p 2)), .string (moz (p 2)), .bool (sgz (p 3)), .string (moz (p 3))] 57)) w2 → Calls Tryd.prog 28 #[.int .i64 (k : Int), .pointer (some ⟨w1.heap.size, 0, none⟩)] w2 fun e w' => e = .returned (.agg #[.bool (sgz (sqI p k)), .string (moz (sqI p k))]) ∧ Tch [] w2 w' := by
    intro k hk w2 t2
    have f := fac_lt k hk
    have G := F.out.keep t2
    have hfo := HF.out.tch G.t
    exact ofK k (facI k) (facJ k) w1.heap.size hk f.1 f.2 (p (facI k)) (p (facJ k)) (sqI p k) rfl ((HP.out _ f.1).mono (by omega)) ((HP.out _ f.2).mono (by omega)) w2 (hfo k hk).1 (hfo k hk).2
      (G.cell 2 _ rfl (LV_cell p _ f.1).1) (G.cell 2 _ rfl (LV_cell p _ f.1).2) (G.cell 2 _ rfl (LV_cell p _ f.2).1) (G.cell 2 _ rfl (LV_cell p _ f.2).2)
  have c2 := combOf (sqI p) w1.heap.size _ hC
  have C2 := Lib.hid c2
  have HN : Hid (w.heap.size + 2 ≤ w1.heap.size) := Lib.hid (by have := hT.size; simp at this; omega)
  clear hT hC c2 F0 C1 HP HF
  go_wp2_with fail
  refine C2.out.mono ?_
  rintro e w3 ⟨rfl, hT⟩
  have F := Lib.hid (F.out.keep hT)
  have h0 := Lib.hid (F.out.at 1 rfl)
  clear hT C2
  go_wp2_with (first | (refine wpList_store_row rfl 28 _ _ rfl (w.heap.size + 1) rfl _ _ rfl _ 20 h0.out QZ_size (QV_size _) infoQ (QV_one _) ?_; simp only [Act.put]))
  have F := Lib.hid (Fr.setR (l1 := [(w.heap.size, .cells #[.int .i64 a.x, .int .i64 a.y, .int .i64 a.z, .int .i64 b.x, .int .i64 b.y, .int .i64 b.z, .int .i64 c.x, .int .i64 c.y, .int .i64 c.z] 31 (0, 0))]) (l2 := [(w1.heap.size, .cells (LV p) 57 (0, 0))]) F.out (by have := HN.out; simp; omega) (QV (sqI p)))
  have h0 := F.out.at 1 rfl
  refine bodyPost_ret (v := .agg (QV (sqI p))) (results_row Tryd.results11 rfl h0 (QV_size _) Tryd.underlying28 rfl infoQ) rfl ⟨rfl, F.out.t⟩

set_option maxHeartbeats 4000000 in
set_option maxRecDepth 100000 in
theorem Sum (p q : Nat → Int) (hp : ∀ k, k < 10 → Sm 2900 (p k)) (hq : ∀ k, k < 10 → Sm 2900 (q k)) (w : World) :
    Calls Tryd.prog 18 #[.agg (QV p), .agg (QV q)] w fun e w' => e = .returned (.agg (QV fun k => p k + q k)) ∧ Tch [] w w' := by
  have hmf : ∀ (fn : Fn) (first cap : Array Value) (w : World), (Instr.makeFunc fn first cap).run Tryd.prog w = .ok (.func fn first cap) w := fun _ _ _ _ => rfl
  have F : Hid (Fr w (((w.alloc (.cells (QV p) 28)).alloc (.cells (QV q) 28)).alloc (.cells QZ 28)) [(w.heap.size, .cells (QV p) 28 (0, 0)), (w.heap.size + 1, .cells (QV q) 28 (0, 0)), (w.heap.size + 1 + 1, .cells QZ 28 (0, 0))]) := Lib.hid ((((Fr.nil w).add (.cells (QV p) 28) w.heap.size rfl).add (.cells (QV q) 28) (w.heap.size + 1) (by simp)).add (.cells QZ 28) (w.heap.size + 1 + 1) (by simp))
  have hC : ∀ k : Nat, k < 10 → ∀ w2, Tch [] (((w.alloc (.cells (QV p) 28)).alloc (.cells (QV q) 28)).alloc (.cells QZ 28)) w2 → Calls Tryd.prog 41 #[.int .i64 (k : Int), .pointer (some ⟨w.heap.size, 0, none⟩), .pointer (some ⟨w.heap.size + 1, 0, none⟩)] w2 fun e w' => e = .returned (.agg #[.bool (sgz (p k + q k)), .string (moz (p k + q k))]) ∧ Tch [] w2 w' := by
    intro k hk w2 t2
    have G := F.out.keep t2
    exact sumK k w.heap.size (w.heap.size + 1) hk (p k) (q k) (hp k hk) (hq k hk) w2 (G.cell 0 _ rfl (QV_cell p k hk).1) (G.cell 0 _ rfl (QV_cell p k hk).2) (G.cell 1 _ rfl (QV_cell q k hk).1) (G.cell 1 _ rfl (QV_cell q k hk).2)
  have c2 := combSum (fun k => p k + q k) w.heap.size (w.heap.size + 1) _ hC
  obtain ⟨s, es⟩ : ∃ s, s = (fun k => p k + q k) := ⟨_, rfl⟩
  rw [← es] at c2 ⊢
  have C2 := Lib.hid c2
  clear hC c2 hp hq es
  go_enter Tryd.func18, Tryd.ntmps18
  go_wp2_with fail
  refine C2.out.mono ?_
  rintro e w3 ⟨rfl, hT⟩
  have F := Lib.hid (F.out.keep hT)
  have h0 := Lib.hid (F.out.at 2 rfl)
  clear hT C2
  go_wp2_with (first | (refine wpList_store_row rfl 28 _ _ rfl (w.heap.size + 1 + 1) rfl _ _ rfl _ 20 h0.out QZ_size (QV_size _) infoQ (QV_one _) ?_; simp only [Act.put]))
  have F := Lib.hid (Fr.setR (l1 := [(w.heap.size, .cells (QV p) 28 (0, 0)), (w.heap.size + 1, .cells (QV q) 28 (0, 0))]) (l2 := []) F.out (by simp <;> omega) (QV s))
  have h0 := F.out.at 2 rfl
  refine bodyPost_ret (v := .agg (QV s)) (results_row Tryd.results18 rfl h0 (QV_size _) Tryd.underlying28 rfl infoQ) rfl ⟨rfl, F.out.t⟩

end Go.Proofs.YtmpfgkpimjiecaaDoor
