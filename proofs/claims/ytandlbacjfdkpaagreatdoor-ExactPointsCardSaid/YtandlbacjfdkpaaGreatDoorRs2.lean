/- The reference's small functions: Less, sign, vector, product, Small. -/
import Derived.Test.YtandlbacjfdkpaaGreatDoorLess
import Derived.Test.YtandlbacjfdkpaaGreatDoorNrm
import Derived.Test.YtandlbacjfdkpaaGreatDoorVecC
import Derived.Test.YtandlbacjfdkpaaGreatDoorVecE
import Derived.Test.YtandlbacjfdkpaaGreatDoorTou
import Derived.Test.YtandlbacjfdkpaaGreatDoorGeo
namespace Go.Proofs.YtandlbacjfdkpaaGreatDoor
open Go Go.RowKit Dg

set_option maxHeartbeats 2000000 in
set_option maxRecDepth 100000 in
theorem rLess (a b : P3) (w : World) :
    Calls Tryz.prog 33 #[(.agg #[.int .i64 a.x, .int .i64 a.y, .int .i64 a.z]), (.agg #[.int .i64 b.x, .int .i64 b.y, .int .i64 b.z])] w fun e w' => e = .returned (.bool (lessI a b)) ∧ Tch [] w w' := by
  obtain ⟨a0, a1, a2⟩ := a
  obtain ⟨b0, b1, b2⟩ := b
  simp only
  have F : Hid (Fr w ((w.alloc (.cells #[.int .i64 a0, .int .i64 a1, .int .i64 a2] 27)).alloc (.cells #[.int .i64 b0, .int .i64 b1, .int .i64 b2] 27)) [(w.heap.size, .cells #[.int .i64 a0, .int .i64 a1, .int .i64 a2] 27 (0, 0)), (w.heap.size + 1, .cells #[.int .i64 b0, .int .i64 b1, .int .i64 b2] 27 (0, 0))]) := Lib.hid (((Fr.nil w).add (.cells #[.int .i64 a0, .int .i64 a1, .int .i64 a2] 27) w.heap.size rfl).add (.cells #[.int .i64 b0, .int .i64 b1, .int .i64 b2] 27) (w.heap.size + 1) (by simp))
  obtain ⟨o, ho⟩ : ∃ o, o = lessI ⟨a0, a1, a2⟩ ⟨b0, b1, b2⟩ := ⟨_, rfl⟩
  rw [← ho]
  have HO := Lib.hid ho
  clear ho
  obtain ⟨x0, x1, x2⟩ := F.out.three 0 rfl
  obtain ⟨y0, y1, y2⟩ := F.out.three 1 rfl
  by_cases h1 : a0 = b0
  · subst h1
    by_cases h2 : a1 = b1
    · subst h2
      go_enter Tryz.func33, Tryz.ntmps33
      go_wp2
      go_ret
      refine ⟨?_, F.out.t⟩
      rw [HO.out]
      by_cases h3 : a2 = b2
      · subst h3; simp [lessI, lst]
      · simp [lessI, lst, h3]
    · have e1 : (a1 == b1) = false := beq_eq_false_iff_ne.2 h2
      go_enter Tryz.func33, Tryz.ntmps33
      go_wp2
      go_ret
      refine ⟨?_, F.out.t⟩
      rw [HO.out]
      simp [lessI, lst, h2]
  · have e1 : (a0 == b0) = false := beq_eq_false_iff_ne.2 h1
    go_enter Tryz.func33, Tryz.ntmps33
    go_wp2
    go_ret
    refine ⟨?_, F.out.t⟩
    rw [HO.out]
    simp [lessI, lst, h1]

set_option maxHeartbeats 1000000 in
set_option maxRecDepth 100000 in
theorem rsign (n : Int) (w : World) :
    Calls Tryz.prog 62 #[.int .i64 n] w fun e w' => e = .returned (.int .i64 n.sign) ∧ Tch [] w w' := by
  obtain ⟨s, hs⟩ : ∃ s, s = n.sign := ⟨_, rfl⟩
  rw [← hs]
  have HS := Lib.hid hs
  clear hs
  rcases Int.lt_trichotomy n 0 with h | h | h
  · go_enter Tryz.func62, Tryz.ntmps62
    go_wp2
    go_ret
    exact ⟨by rw [HS.out, Int.sign_eq_neg_one_of_neg h]; rfl, Tch.refl [] w⟩
  · subst h
    go_enter Tryz.func62, Tryz.ntmps62
    go_wp2
    go_ret
    exact ⟨by rw [HS.out]; rfl, Tch.refl [] w⟩
  · have h2 : ¬ n < 0 := by omega
    go_enter Tryz.func62, Tryz.ntmps62
    go_wp2
    go_ret
    exact ⟨by rw [HS.out, Int.sign_eq_one_of_pos h]; rfl, Tch.refl [] w⟩

set_option maxHeartbeats 2000000 in
set_option maxRecDepth 100000 in
theorem rvector (a b : P3) (h : (difI a b).Ok) (w : World) :
    Calls Tryz.prog 61 #[(.agg #[.int .i64 a.x, .int .i64 a.y, .int .i64 a.z]), (.agg #[.int .i64 b.x, .int .i64 b.y, .int .i64 b.z])] w fun e w' => e = .returned (.agg #[.int .i64 (difI a b).x, .int .i64 (difI a b).y, .int .i64 (difI a b).z]) ∧ Tch [] w w' := by
  have e1 : wrap64 (b.x - a.x) = (difI a b).x := wrap64_in h.x
  have e2 : wrap64 (b.y - a.y) = (difI a b).y := wrap64_in h.y
  have e3 : wrap64 (b.z - a.z) = (difI a b).z := wrap64_in h.z
  obtain ⟨d, hd⟩ : ∃ d, d = difI a b := ⟨_, rfl⟩
  rw [← hd] at e1 e2 e3 ⊢
  clear h hd
  have F : Hid (Fr w (((w.alloc (.cells #[.int .i64 a.x, .int .i64 a.y, .int .i64 a.z] 27)).alloc (.cells #[.int .i64 b.x, .int .i64 b.y, .int .i64 b.z] 27)).alloc (.cells #[.int .i64 0, .int .i64 0, .int .i64 0] 22)) [(w.heap.size, .cells #[.int .i64 a.x, .int .i64 a.y, .int .i64 a.z] 27 (0, 0)), (w.heap.size + 1, .cells #[.int .i64 b.x, .int .i64 b.y, .int .i64 b.z] 27 (0, 0)), (w.heap.size + 1 + 1, .cells #[.int .i64 0, .int .i64 0, .int .i64 0] 22 (0, 0))]) := Lib.hid ((((Fr.nil w).add (.cells #[.int .i64 a.x, .int .i64 a.y, .int .i64 a.z] 27) (w.heap.size) rfl).add (.cells #[.int .i64 b.x, .int .i64 b.y, .int .i64 b.z] 27) (w.heap.size + 1) (by simp)).add (.cells #[.int .i64 0, .int .i64 0, .int .i64 0] 22) (w.heap.size + 1 + 1) (by simp))
  obtain ⟨p0, p1, p2⟩ := F.out.three 0 rfl
  obtain ⟨b0, b1, b2⟩ := F.out.three 1 rfl
  obtain ⟨r0, r1, r2⟩ := F.out.three 2 rfl
  obtain ⟨f0, f1, f2⟩ := F.out.fro3 2 rfl
  go_enter Tryz.func61, Tryz.ntmps61
  go_wp2
  refine bodyPost_ret (v := (.agg #[.int .i64 d.x, .int .i64 d.y, .int .i64 d.z])) (by simp [results, Tryz.results61, go_sem, e1, e2, e3]) rfl ⟨rfl, ?_⟩
  exact (((Tch.refl [] w).alloc _).alloc _).alloc _

/-- No product and no difference of a vector product is out of range. -/
structure CrsOk (v u : P3) : Prop where
  x : I64 (v.y * u.z) ∧ I64 (v.z * u.y) ∧ I64 (v.y * u.z - v.z * u.y)
  y : I64 (v.z * u.x) ∧ I64 (v.x * u.z) ∧ I64 (v.z * u.x - v.x * u.z)
  z : I64 (v.x * u.y) ∧ I64 (v.y * u.x) ∧ I64 (v.x * u.y - v.y * u.x)

set_option maxHeartbeats 2000000 in
set_option maxRecDepth 100000 in
theorem rproduct (v u : P3) (h : CrsOk v u) (w : World) :
    Calls Tryz.prog 60 #[(.agg #[.int .i64 v.x, .int .i64 v.y, .int .i64 v.z]), (.agg #[.int .i64 u.x, .int .i64 u.y, .int .i64 u.z])] w fun e w' => e = .returned (.agg #[.int .i64 (crsI v u).x, .int .i64 (crsI v u).y, .int .i64 (crsI v u).z]) ∧ Tch [] w w' := by
  obtain ⟨x1, hx1⟩ : ∃ k, k = v.y * u.z := ⟨_, rfl⟩
  obtain ⟨x2, hx2⟩ : ∃ k, k = v.z * u.y := ⟨_, rfl⟩
  have ex1 : wrap64 (v.y * u.z) = x1 := by rw [hx1]; exact wrap64_in h.x.1
  have ex2 : wrap64 (v.z * u.y) = x2 := by rw [hx2]; exact wrap64_in h.x.2.1
  have ex3 : wrap64 (x1 - x2) = (crsI v u).x := by rw [hx1, hx2]; exact wrap64_in h.x.2.2
  obtain ⟨y1, hy1⟩ : ∃ k, k = v.z * u.x := ⟨_, rfl⟩
  obtain ⟨y2, hy2⟩ : ∃ k, k = v.x * u.z := ⟨_, rfl⟩
  have ey1 : wrap64 (v.z * u.x) = y1 := by rw [hy1]; exact wrap64_in h.y.1
  have ey2 : wrap64 (v.x * u.z) = y2 := by rw [hy2]; exact wrap64_in h.y.2.1
  have ey3 : wrap64 (y1 - y2) = (crsI v u).y := by rw [hy1, hy2]; exact wrap64_in h.y.2.2
  obtain ⟨z1, hz1⟩ : ∃ k, k = v.x * u.y := ⟨_, rfl⟩
  obtain ⟨z2, hz2⟩ : ∃ k, k = v.y * u.x := ⟨_, rfl⟩
  have ez1 : wrap64 (v.x * u.y) = z1 := by rw [hz1]; exact wrap64_in h.z.1
  have ez2 : wrap64 (v.y * u.x) = z2 := by rw [hz2]; exact wrap64_in h.z.2.1
  have ez3 : wrap64 (z1 - z2) = (crsI v u).z := by rw [hz1, hz2]; exact wrap64_in h.z.2.2
  obtain ⟨d, hd⟩ : ∃ d, d = crsI v u := ⟨_, rfl⟩
  rw [← hd] at ex3 ey3 ez3 ⊢
  clear h hd hx1 hx2 hy1 hy2 hz1 hz2
  have F : Hid (Fr w (((w.alloc (.cells #[.int .i64 v.x, .int .i64 v.y, .int .i64 v.z] 22)).alloc (.cells #[.int .i64 u.x, .int .i64 u.y, .int .i64 u.z] 22)).alloc (.cells #[.int .i64 0, .int .i64 0, .int .i64 0] 22)) [(w.heap.size, .cells #[.int .i64 v.x, .int .i64 v.y, .int .i64 v.z] 22 (0, 0)), (w.heap.size + 1, .cells #[.int .i64 u.x, .int .i64 u.y, .int .i64 u.z] 22 (0, 0)), (w.heap.size + 1 + 1, .cells #[.int .i64 0, .int .i64 0, .int .i64 0] 22 (0, 0))]) := Lib.hid ((((Fr.nil w).add (.cells #[.int .i64 v.x, .int .i64 v.y, .int .i64 v.z] 22) (w.heap.size) rfl).add (.cells #[.int .i64 u.x, .int .i64 u.y, .int .i64 u.z] 22) (w.heap.size + 1) (by simp)).add (.cells #[.int .i64 0, .int .i64 0, .int .i64 0] 22) (w.heap.size + 1 + 1) (by simp))
  obtain ⟨p0, p1, p2⟩ := F.out.three 0 rfl
  obtain ⟨b0, b1, b2⟩ := F.out.three 1 rfl
  obtain ⟨r0, r1, r2⟩ := F.out.three 2 rfl
  obtain ⟨f0, f1, f2⟩ := F.out.fro3 2 rfl
  go_enter Tryz.func60, Tryz.ntmps60
  go_wp2
  refine bodyPost_ret (v := (.agg #[.int .i64 d.x, .int .i64 d.y, .int .i64 d.z])) (by simp [results, Tryz.results60, go_sem, ex1, ex2, ex3, ey1, ey2, ey3, ez1, ez2, ez3]) rfl ⟨rfl, ?_⟩
  exact (((Tch.refl [] w).alloc _).alloc _).alloc _

end Go.Proofs.YtandlbacjfdkpaaGreatDoor

/- The reference's Small and ends. -/
namespace Go.Proofs.YtandlbacjfdkpaaGreatDoor
open Go Go.RowKit Dg

/-- A point with small coordinates. -/
def In18 (p : P3) : Prop := (-262144 ≤ p.x ∧ p.x ≤ 262144) ∧ (-262144 ≤ p.y ∧ p.y ≤ 262144) ∧ (-262144 ≤ p.z ∧ p.z ≤ 262144)
instance (p : P3) : Decidable (In18 p) := by unfold In18; infer_instance
def smI (a b c d : P3) : Bool := decide (In18 a) && decide (In18 b) && decide (In18 c) && decide (In18 d)
theorem not_in18 {p : P3} (h : ¬ In18 p) : 262144 < p.x ∨ (¬ 262144 < p.x ∧ (p.x < -262144 ∨ (¬ p.x < -262144 ∧ (262144 < p.y ∨ (¬ 262144 < p.y ∧ (p.y < -262144 ∨ (¬ p.y < -262144 ∧ (262144 < p.z ∨ (¬ 262144 < p.z ∧ p.z < -262144))))))))) := by
  unfold In18 at h; omega
theorem in18 {p : P3} (h : In18 p) : ¬ 262144 < p.x ∧ ¬ p.x < -262144 ∧ ¬ 262144 < p.y ∧ ¬ p.y < -262144 ∧ ¬ 262144 < p.z ∧ ¬ p.z < -262144 := by
  unfold In18 at h; omega

set_option maxHeartbeats 8000000 in
set_option maxRecDepth 100000 in
theorem rSmall (g : Nat) (a b c d : P3) (T : TypeId) (w : World) (hg : w.heap[g]? = some (.cells #[.int .i64 a.x, .int .i64 a.y, .int .i64 a.z, .int .i64 b.x, .int .i64 b.y, .int .i64 b.z, .int .i64 c.x, .int .i64 c.y, .int .i64 c.z, .int .i64 d.x, .int .i64 d.y, .int .i64 d.z] T (0, 0))) :
    Calls Tryz.prog 59 #[.slice (some ⟨g, 0, none⟩) 4 4] w fun e w' => e = .returned (.bool (smI a b c d)) ∧ Tch [] w w' := by
  have hc : ∀ w1, Tch [] w w1 → (w1.cell? ⟨g, 0, none⟩ = some (.int .i64 a.x) ∧ w1.cell? ⟨g, 1, none⟩ = some (.int .i64 a.y) ∧ w1.cell? ⟨g, 2, none⟩ = some (.int .i64 a.z)) ∧ (w1.cell? ⟨g, 3, none⟩ = some (.int .i64 b.x) ∧ w1.cell? ⟨g, 4, none⟩ = some (.int .i64 b.y) ∧ w1.cell? ⟨g, 5, none⟩ = some (.int .i64 b.z)) ∧ (w1.cell? ⟨g, 6, none⟩ = some (.int .i64 c.x) ∧ w1.cell? ⟨g, 7, none⟩ = some (.int .i64 c.y) ∧ w1.cell? ⟨g, 8, none⟩ = some (.int .i64 c.z)) ∧ (w1.cell? ⟨g, 9, none⟩ = some (.int .i64 d.x) ∧ w1.cell? ⟨g, 10, none⟩ = some (.int .i64 d.y) ∧ w1.cell? ⟨g, 11, none⟩ = some (.int .i64 d.z)) := fun w1 hT => by
    have h := (hT.block g (Array.getElem?_eq_some_iff.1 hg).1 (by simp)).trans hg
    refine ⟨⟨?_, ?_, ?_⟩, ⟨?_, ?_, ?_⟩, ⟨?_, ?_, ?_⟩, ?_, ?_, ?_⟩ <;> (rw [cell_of_row _ _ _ _ _ _ h]; rfl)
  obtain ⟨o, ho⟩ : ∃ o, o = smI a b c d := ⟨_, rfl⟩
  rw [← ho]
  have HO := Lib.hid ho
  have HC := Lib.hid hc
  clear hg hc ho
  go_enter Tryz.func59, Tryz.ntmps59
  go_wp2
  go_loopw [3] (fun i wr => ∃ k : Nat, k ≤ 4 ∧ i = .int .i64 (k : Int) ∧ Hid ((0 < k → In18 a) ∧ (1 < k → In18 b) ∧ (2 < k → In18 c) ∧ (3 < k → In18 d)) ∧ Hid (Tch [] w wr)) (fun i _ => 4 - (intOf i).toNat)
  case atStart => exact ⟨0, by omega, rfl, Lib.hid ⟨fun h => absurd h (by omega), fun h => absurd h (by omega), fun h => absurd h (by omega), fun h => absurd h (by omega)⟩, Lib.hid (Tch.refl [] w)⟩
  case round =>
    obtain ⟨k, hk, rfl, hS, hT⟩ := hrel
    rcases (show k = 0 ∨ k = 1 ∨ k = 2 ∨ k = 3 ∨ k = 4 by omega) with rfl | rfl | rfl | rfl | rfl
    · obtain ⟨⟨x0, x1, x2⟩, _, _, _⟩ := HC.out _ hT.out
      by_cases hs : In18 a
      · have HI := Lib.hid hs
        obtain ⟨n0, n1, n2, n3, n4, n5⟩ := in18 hs
        clear hs
        go_wp2
        go_roundw
        case rel => exact ⟨1, by omega, by go_num, Lib.hid ⟨fun _ => HI.out, fun h => absurd h (by omega), fun h => absurd h (by omega), fun h => absurd h (by omega)⟩, Lib.hid (hT.out.alloc _)⟩
        case measure => simp [intOf]
      · have HN := Lib.hid hs
        rcases not_in18 hs with n0 | ⟨n0, n1 | ⟨n1, n2 | ⟨n2, n3 | ⟨n3, n4 | ⟨n4, n5⟩⟩⟩⟩⟩
        all_goals
          clear hs
          go_wp2
          go_ret
          refine ⟨?_, hT.out.alloc _⟩
          rw [HO.out]; unfold smI; rw [decide_eq_false HN.out]; simp
    · obtain ⟨_, ⟨x0, x1, x2⟩, _, _⟩ := HC.out _ hT.out
      by_cases hs : In18 b
      · have HI := Lib.hid hs
        obtain ⟨n0, n1, n2, n3, n4, n5⟩ := in18 hs
        clear hs
        go_wp2
        go_roundw
        case rel => exact ⟨2, by omega, by go_num, Lib.hid ⟨fun _ => hS.out.1 (by omega), fun _ => HI.out, fun h => absurd h (by omega), fun h => absurd h (by omega)⟩, Lib.hid (hT.out.alloc _)⟩
        case measure => simp [intOf]
      · have HN := Lib.hid hs
        rcases not_in18 hs with n0 | ⟨n0, n1 | ⟨n1, n2 | ⟨n2, n3 | ⟨n3, n4 | ⟨n4, n5⟩⟩⟩⟩⟩
        all_goals
          clear hs
          go_wp2
          go_ret
          refine ⟨?_, hT.out.alloc _⟩
          rw [HO.out]; unfold smI; rw [decide_eq_false HN.out]; simp
    · obtain ⟨_, _, ⟨x0, x1, x2⟩, _⟩ := HC.out _ hT.out
      by_cases hs : In18 c
      · have HI := Lib.hid hs
        obtain ⟨n0, n1, n2, n3, n4, n5⟩ := in18 hs
        clear hs
        go_wp2
        go_roundw
        case rel => exact ⟨3, by omega, by go_num, Lib.hid ⟨fun _ => hS.out.1 (by omega), fun _ => hS.out.2.1 (by omega), fun _ => HI.out, fun h => absurd h (by omega)⟩, Lib.hid (hT.out.alloc _)⟩
        case measure => simp [intOf]
      · have HN := Lib.hid hs
        rcases not_in18 hs with n0 | ⟨n0, n1 | ⟨n1, n2 | ⟨n2, n3 | ⟨n3, n4 | ⟨n4, n5⟩⟩⟩⟩⟩
        all_goals
          clear hs
          go_wp2
          go_ret
          refine ⟨?_, hT.out.alloc _⟩
          rw [HO.out]; unfold smI; rw [decide_eq_false HN.out]; simp
    · obtain ⟨_, _, _, x0, x1, x2⟩ := HC.out _ hT.out
      by_cases hs : In18 d
      · have HI := Lib.hid hs
        obtain ⟨n0, n1, n2, n3, n4, n5⟩ := in18 hs
        clear hs
        go_wp2
        go_roundw
        case rel => exact ⟨4, by omega, by go_num, Lib.hid ⟨fun _ => hS.out.1 (by omega), fun _ => hS.out.2.1 (by omega), fun _ => hS.out.2.2.1 (by omega), fun _ => HI.out⟩, Lib.hid (hT.out.alloc _)⟩
        case measure => simp [intOf]
      · have HN := Lib.hid hs
        rcases not_in18 hs with n0 | ⟨n0, n1 | ⟨n1, n2 | ⟨n2, n3 | ⟨n3, n4 | ⟨n4, n5⟩⟩⟩⟩⟩
        all_goals
          clear hs
          go_wp2
          go_ret
          refine ⟨?_, hT.out.alloc _⟩
          rw [HO.out]; unfold smI; rw [decide_eq_false HN.out]; simp
    · go_wp2
      go_ret
      refine ⟨?_, hT.out⟩
      obtain ⟨h0, h1, h2, h3⟩ := hS.out
      rw [HO.out]; unfold smI
      rw [decide_eq_true (h0 (by omega)), decide_eq_true (h1 (by omega)), decide_eq_true (h2 (by omega)), decide_eq_true (h3 (by omega))]; rfl

/-- The least and the greatest of the first k points. -/
def eLo (a b c : P3) : Nat → P3
  | 0 => a
  | 1 => a
  | 2 => lo2 a b
  | _ => lo2 (lo2 a b) c
def eHi (a b c : P3) : Nat → P3
  | 0 => a
  | 1 => a
  | 2 => hi2 a b
  | _ => hi2 (hi2 a b) c

set_option maxHeartbeats 8000000 in
set_option maxRecDepth 100000 in
theorem rEnds2 (g : Nat) (a b : P3) (T : TypeId) (w : World) (hg : w.heap[g]? = some (.cells #[.int .i64 a.x, .int .i64 a.y, .int .i64 a.z, .int .i64 b.x, .int .i64 b.y, .int .i64 b.z] T (0, 0))) :
    Calls Tryz.prog 36 #[.slice (some ⟨g, 0, none⟩) 2 2] w fun e w' => e = .returned (.tuple #[.agg #[.int .i64 (eLo a b b 2).x, .int .i64 (eLo a b b 2).y, .int .i64 (eLo a b b 2).z], .agg #[.int .i64 (eHi a b b 2).x, .int .i64 (eHi a b b 2).y, .int .i64 (eHi a b b 2).z]]) ∧ Tch [] w w' := by
  have hc : ∀ w1, Tch [] w w1 → (w1.cell? ⟨g, 0, none⟩ = some (.int .i64 a.x) ∧ w1.cell? ⟨g, 1, none⟩ = some (.int .i64 a.y) ∧ w1.cell? ⟨g, 2, none⟩ = some (.int .i64 a.z)) ∧ (w1.cell? ⟨g, 3, none⟩ = some (.int .i64 b.x) ∧ w1.cell? ⟨g, 4, none⟩ = some (.int .i64 b.y) ∧ w1.cell? ⟨g, 5, none⟩ = some (.int .i64 b.z)) := fun w1 hT => by
    have h := (hT.block g (Array.getElem?_eq_some_iff.1 hg).1 (by simp)).trans hg
    refine ⟨⟨?_, ?_, ?_⟩, ?_, ?_, ?_⟩ <;> (rw [cell_of_row _ _ _ _ _ _ h]; rfl)
  have HC := Lib.hid hc
  clear hg hc
  obtain ⟨LO, hLO⟩ : ∃ u, u = eLo a b b 2 := ⟨_, rfl⟩
  obtain ⟨HI, hHI⟩ : ∃ u, u = eHi a b b 2 := ⟨_, rfl⟩
  rw [← hLO, ← hHI]
  have HLO := Lib.hid hLO
  have HHI := Lib.hid hHI
  clear hLO hHI
  have F0 : Hid (Fr w ((((w.alloc (.cells #[.int .i64 0, .int .i64 0, .int .i64 0] 27)).alloc (.cells #[.int .i64 0, .int .i64 0, .int .i64 0] 27)).alloc (.cells #[.int .i64 a.x, .int .i64 a.y, .int .i64 a.z] 27)).alloc (.cells #[.int .i64 a.x, .int .i64 a.y, .int .i64 a.z] 27)) [(w.heap.size, .cells #[.int .i64 0, .int .i64 0, .int .i64 0] 27 (0, 0)), (w.heap.size + 1, .cells #[.int .i64 0, .int .i64 0, .int .i64 0] 27 (0, 0)), (w.heap.size + 1 + 1, .cells #[.int .i64 (eLo a b b 1).x, .int .i64 (eLo a b b 1).y, .int .i64 (eLo a b b 1).z] 27 (0, 0)), (w.heap.size + 1 + 1 + 1, .cells #[.int .i64 (eHi a b b 1).x, .int .i64 (eHi a b b 1).y, .int .i64 (eHi a b b 1).z] 27 (0, 0))]) := Lib.hid (((((Fr.nil w).add (.cells #[.int .i64 0, .int .i64 0, .int .i64 0] 27) (w.heap.size) rfl).add (.cells #[.int .i64 0, .int .i64 0, .int .i64 0] 27) (w.heap.size + 1) (by simp)).add (.cells #[.int .i64 a.x, .int .i64 a.y, .int .i64 a.z] 27) (w.heap.size + 1 + 1) (by simp)).add (.cells #[.int .i64 a.x, .int .i64 a.y, .int .i64 a.z] 27) (w.heap.size + 1 + 1 + 1) (by simp))
  obtain ⟨⟨x0, x1, x2⟩, _⟩ := HC.out w (Tch.refl [] w)
  obtain ⟨⟨y0, y1, y2⟩, _⟩ := HC.out _ ((Tch.refl [] w).alloc (.cells #[.int .i64 0, .int .i64 0, .int .i64 0] 27))
  obtain ⟨⟨z0, z1, z2⟩, _⟩ := HC.out _ (((Tch.refl [] w).alloc (.cells #[.int .i64 0, .int .i64 0, .int .i64 0] 27)).alloc (.cells #[.int .i64 0, .int .i64 0, .int .i64 0] 27))
  obtain ⟨⟨u0, u1, u2⟩, _⟩ := HC.out _ ((((Tch.refl [] w).alloc (.cells #[.int .i64 0, .int .i64 0, .int .i64 0] 27)).alloc (.cells #[.int .i64 0, .int .i64 0, .int .i64 0] 27)).alloc (.cells #[.int .i64 a.x, .int .i64 a.y, .int .i64 a.z] 27))
  go_enter Tryz.func36, Tryz.ntmps36
  go_wp2
  clear x0 x1 x2 y0 y1 y2 z0 z1 z2 u0 u1 u2
  go_loopw [6] (fun i wr => ∃ k : Nat, 1 ≤ k ∧ k ≤ 2 ∧ i = .int .i64 (k : Int) ∧ Hid (Fr w wr [(w.heap.size, .cells #[.int .i64 0, .int .i64 0, .int .i64 0] 27 (0, 0)), (w.heap.size + 1, .cells #[.int .i64 0, .int .i64 0, .int .i64 0] 27 (0, 0)), (w.heap.size + 1 + 1, .cells #[.int .i64 (eLo a b b k).x, .int .i64 (eLo a b b k).y, .int .i64 (eLo a b b k).z] 27 (0, 0)), (w.heap.size + 1 + 1 + 1, .cells #[.int .i64 (eHi a b b k).x, .int .i64 (eHi a b b k).y, .int .i64 (eHi a b b k).z] 27 (0, 0))])) (fun i _ => 2 - (intOf i).toNat)
  case atStart => exact ⟨1, by omega, by omega, rfl, F0⟩
  case round =>
    clear F0
    obtain ⟨k, hk1, hk, rfl, hB⟩ := hrel
    rcases (show k = 1 ∨ k = 2 by omega) with rfl | rfl
    · obtain ⟨P, hP⟩ : ∃ P, P = eLo a b b 1 := ⟨_, rfl⟩
      obtain ⟨H, hH⟩ : ∃ H, H = eHi a b b 1 := ⟨_, rfl⟩
      have hP2 : eLo a b b 2 = lo2 P b := by rw [hP]; rfl
      have hH2 : eHi a b b 2 = hi2 H b := by rw [hH]; rfl
      rw [← hP, ← hH] at hB
      have F := hB
      have c1 := fun w1 => rLess b P w1
      have c2 := fun w1 => rLess H b w1
      unfold lo2 at hP2
      unfold hi2 at hH2
      obtain ⟨l1, h1⟩ : ∃ l, l = lessI b P := ⟨_, rfl⟩
      obtain ⟨l2, h2⟩ : ∃ l, l = lessI H b := ⟨_, rfl⟩
      rw [← h1] at c1 hP2
      rw [← h2] at c2 hH2
      have C1 := Lib.hid c1
      have C2 := Lib.hid c2
      have HP := Lib.hid hP2
      have HH := Lib.hid hH2
      clear c1 c2 hP2 hH2 h1 h2 hP hH hB
      have SL := Lib.hid (fun (w4 : World) (h : Fr w w4 [(w.heap.size, .cells #[.int .i64 0, .int .i64 0, .int .i64 0] 27 (0, 0)), (w.heap.size + 1, .cells #[.int .i64 0, .int .i64 0, .int .i64 0] 27 (0, 0)), (w.heap.size + 1 + 1, .cells #[.int .i64 P.x, .int .i64 P.y, .int .i64 P.z] 27 (0, 0)), (w.heap.size + 1 + 1 + 1, .cells #[.int .i64 H.x, .int .i64 H.y, .int .i64 H.z] 27 (0, 0))]) => And.intro (h.three 2 rfl) (HC.out w4 h.t).2)
      have SH := Lib.hid (fun (w4 : World) (h : Fr w w4 [(w.heap.size, .cells #[.int .i64 0, .int .i64 0, .int .i64 0] 27 (0, 0)), (w.heap.size + 1, .cells #[.int .i64 0, .int .i64 0, .int .i64 0] 27 (0, 0)), (w.heap.size + 1 + 1, .cells #[.int .i64 P.x, .int .i64 P.y, .int .i64 P.z] 27 (0, 0)), (w.heap.size + 1 + 1 + 1, .cells #[.int .i64 H.x, .int .i64 H.y, .int .i64 H.z] 27 (0, 0))]) => And.intro (h.three 3 rfl) (HC.out w4 h.t).2)
      go_wp2_with fail
      go_region_held3 (fun w4 => (w4.cell? ⟨w.heap.size + 1 + 1, 0, none⟩ = some (.int .i64 P.x) ∧ w4.cell? ⟨w.heap.size + 1 + 1, 1, none⟩ = some (.int .i64 P.y) ∧ w4.cell? ⟨w.heap.size + 1 + 1, 2, none⟩ = some (.int .i64 P.z)) ∧ (w4.cell? ⟨g, 3, none⟩ = some (.int .i64 b.x) ∧ w4.cell? ⟨g, 4, none⟩ = some (.int .i64 b.y) ∧ w4.cell? ⟨g, 5, none⟩ = some (.int .i64 b.z))) (first | with_reducible exact SL.out _ F.out | with_reducible exact SL.out _ F.out.drew) (first
        | (go_at_call 33; (first | (with_reducible refine (C1.out _).mono ?_)); rintro e w6 ⟨rfl, hT⟩; (first | (with_reducible have F := Lib.hid (F.out.keep hT)) | (have F := Lib.hid (F.out.drew.keep hT))); clear hT)
        | fail)
      go_wp2_with fail
      go_region_held3 (fun w4 => (w4.cell? ⟨w.heap.size + 1 + 1 + 1, 0, none⟩ = some (.int .i64 H.x) ∧ w4.cell? ⟨w.heap.size + 1 + 1 + 1, 1, none⟩ = some (.int .i64 H.y) ∧ w4.cell? ⟨w.heap.size + 1 + 1 + 1, 2, none⟩ = some (.int .i64 H.z)) ∧ (w4.cell? ⟨g, 3, none⟩ = some (.int .i64 b.x) ∧ w4.cell? ⟨g, 4, none⟩ = some (.int .i64 b.y) ∧ w4.cell? ⟨g, 5, none⟩ = some (.int .i64 b.z))) (first | with_reducible exact SH.out _ F.out | with_reducible exact SH.out _ F.out.drew) (first
        | (go_at_call 33; (first | (with_reducible refine (C2.out _).mono ?_)); rintro e w6 ⟨rfl, hT⟩; (first | (with_reducible have F := Lib.hid (F.out.keep hT)) | (have F := Lib.hid (F.out.drew.keep hT))); clear hT)
        | fail)
      clear C1 C2 SH
      obtain ⟨x0, x1, x2⟩ := (SL.out _ F.out).2
      clear SL
      obtain ⟨f0, f1, f2⟩ := F.out.fro3 2 rfl
      obtain ⟨e0, e1, e2⟩ := F.out.fro3 3 rfl
      obtain ⟨p0, p1, p2⟩ := F.out.three 2 rfl
      obtain ⟨h0, h1, h2⟩ := F.out.three 3 rfl
      cases l1
      · have F1 := F
        cases l2
        · have F2 := F1
          go_wp2
          go_roundw
          case rel => exact ⟨2, by omega, by omega, by go_num, Lib.hid (by have h := F2.out; rw [HP.out, HH.out]; exact h)⟩
          case measure => simp [intOf]
        · have G2 := Fr.set3 (l1 := [(w.heap.size, .cells #[.int .i64 0, .int .i64 0, .int .i64 0] 27 (0, 0)), (w.heap.size + 1, .cells #[.int .i64 0, .int .i64 0, .int .i64 0] 27 (0, 0)), (w.heap.size + 1 + 1, .cells #[.int .i64 P.x, .int .i64 P.y, .int .i64 P.z] 27 (0, 0))]) (l2 := []) F1.out (by intro q hq; simp only [List.cons_append, List.nil_append, List.mem_cons, List.not_mem_nil, or_false] at hq; rcases hq with rfl | rfl | rfl <;> simp <;> omega) (.int .i64 b.x) (.int .i64 b.y) (.int .i64 b.z)
          have F2 : Hid (Fr w _ [(w.heap.size, .cells #[.int .i64 0, .int .i64 0, .int .i64 0] 27 (0, 0)), (w.heap.size + 1, .cells #[.int .i64 0, .int .i64 0, .int .i64 0] 27 (0, 0)), (w.heap.size + 1 + 1, .cells #[.int .i64 P.x, .int .i64 P.y, .int .i64 P.z] 27 (0, 0)), (w.heap.size + 1 + 1 + 1, .cells #[.int .i64 b.x, .int .i64 b.y, .int .i64 b.z] 27 (0, 0))]) := Lib.hid G2
          clear G2
          go_wp2
          go_roundw
          case rel => exact ⟨2, by omega, by omega, by go_num, Lib.hid (by have h := F2.out; rw [HP.out, HH.out]; exact h)⟩
          case measure => simp [intOf]
      · have G1 := Fr.set3 (l1 := [(w.heap.size, .cells #[.int .i64 0, .int .i64 0, .int .i64 0] 27 (0, 0)), (w.heap.size + 1, .cells #[.int .i64 0, .int .i64 0, .int .i64 0] 27 (0, 0))]) (l2 := [(w.heap.size + 1 + 1 + 1, .cells #[.int .i64 H.x, .int .i64 H.y, .int .i64 H.z] 27 (0, 0))]) F.out (by intro q hq; simp only [List.cons_append, List.nil_append, List.mem_cons, List.not_mem_nil, or_false] at hq; rcases hq with rfl | rfl | rfl <;> simp <;> omega) (.int .i64 b.x) (.int .i64 b.y) (.int .i64 b.z)
        have F1 : Hid (Fr w _ [(w.heap.size, .cells #[.int .i64 0, .int .i64 0, .int .i64 0] 27 (0, 0)), (w.heap.size + 1, .cells #[.int .i64 0, .int .i64 0, .int .i64 0] 27 (0, 0)), (w.heap.size + 1 + 1, .cells #[.int .i64 b.x, .int .i64 b.y, .int .i64 b.z] 27 (0, 0)), (w.heap.size + 1 + 1 + 1, .cells #[.int .i64 H.x, .int .i64 H.y, .int .i64 H.z] 27 (0, 0))]) := Lib.hid G1
        clear G1
        obtain ⟨z0, z1, z2⟩ := (HC.out _ F1.out.t).2
        obtain ⟨d0, d1, d2⟩ := F1.out.fro3 3 rfl
        obtain ⟨k0, k1, k2⟩ := F1.out.three 3 rfl
        cases l2
        · have F2 := F1
          go_wp2
          go_roundw
          case rel => exact ⟨2, by omega, by omega, by go_num, Lib.hid (by have h := F2.out; rw [HP.out, HH.out]; exact h)⟩
          case measure => simp [intOf]
        · have G2 := Fr.set3 (l1 := [(w.heap.size, .cells #[.int .i64 0, .int .i64 0, .int .i64 0] 27 (0, 0)), (w.heap.size + 1, .cells #[.int .i64 0, .int .i64 0, .int .i64 0] 27 (0, 0)), (w.heap.size + 1 + 1, .cells #[.int .i64 b.x, .int .i64 b.y, .int .i64 b.z] 27 (0, 0))]) (l2 := []) F1.out (by intro q hq; simp only [List.cons_append, List.nil_append, List.mem_cons, List.not_mem_nil, or_false] at hq; rcases hq with rfl | rfl | rfl <;> simp <;> omega) (.int .i64 b.x) (.int .i64 b.y) (.int .i64 b.z)
          have F2 : Hid (Fr w _ [(w.heap.size, .cells #[.int .i64 0, .int .i64 0, .int .i64 0] 27 (0, 0)), (w.heap.size + 1, .cells #[.int .i64 0, .int .i64 0, .int .i64 0] 27 (0, 0)), (w.heap.size + 1 + 1, .cells #[.int .i64 b.x, .int .i64 b.y, .int .i64 b.z] 27 (0, 0)), (w.heap.size + 1 + 1 + 1, .cells #[.int .i64 b.x, .int .i64 b.y, .int .i64 b.z] 27 (0, 0))]) := Lib.hid G2
          clear G2
          go_wp2
          go_roundw
          case rel => exact ⟨2, by omega, by omega, by go_num, Lib.hid (by have h := F2.out; rw [HP.out, HH.out]; exact h)⟩
          case measure => simp [intOf]
    · rw [← HLO.out, ← HHI.out] at hB
      clear HC HLO HHI
      obtain ⟨c0, c1, c2⟩ := hB.out.three 0 rfl
      obtain ⟨c3, c4, c5⟩ := hB.out.three 1 rfl
      obtain ⟨c6, c7, c8⟩ := hB.out.fro3 0 rfl
      obtain ⟨d0, d1, d2⟩ := hB.out.fro3 1 rfl
      obtain ⟨r0, r1, r2⟩ := hB.out.drew.three 0 rfl
      obtain ⟨s0, s1, s2⟩ := hB.out.drew.three 1 rfl
      obtain ⟨f0, f1, f2⟩ := hB.out.drew.fro3 0 rfl
      obtain ⟨e0, e1, e2⟩ := hB.out.drew.fro3 1 rfl
      have F : Hid (Fr w wr [(w.heap.size + 1 + 1, .cells #[.int .i64 LO.x, .int .i64 LO.y, .int .i64 LO.z] 27 (0, 0)), (w.heap.size + 1 + 1 + 1, .cells #[.int .i64 HI.x, .int .i64 HI.y, .int .i64 HI.z] 27 (0, 0))]) := Lib.hid (hB.out.sub (by intro q hq; simp only [List.mem_cons, List.not_mem_nil, or_false] at hq ⊢; rcases hq with rfl | rfl <;> simp))
      have SF := Lib.hid (fun (w4 : World) (h : Fr w w4 [(w.heap.size + 1 + 1, .cells #[.int .i64 LO.x, .int .i64 LO.y, .int .i64 LO.z] 27 (0, 0)), (w.heap.size + 1 + 1 + 1, .cells #[.int .i64 HI.x, .int .i64 HI.y, .int .i64 HI.z] 27 (0, 0))]) => And.intro (h.three 0 rfl) (h.three 1 rfl))
      have A0 := fun (w4 : World) (h : Fr w w4 [(w.heap.size + 1 + 1, .cells #[.int .i64 LO.x, .int .i64 LO.y, .int .i64 LO.z] 27 (0, 0)), (w.heap.size + 1 + 1 + 1, .cells #[.int .i64 HI.x, .int .i64 HI.y, .int .i64 HI.z] 27 (0, 0))]) (x y z : Value) => (((h.away (p := ⟨w.heap.size, 0, none⟩) (by intro q hq; simp only [List.mem_cons, List.not_mem_nil, or_false] at hq; rcases hq with rfl | rfl <;> simp <;> omega) (by simp) x).away (p := ⟨w.heap.size, 1, none⟩) (by intro q hq; simp only [List.mem_cons, List.not_mem_nil, or_false] at hq; rcases hq with rfl | rfl <;> simp <;> omega) (by simp) y).away (p := ⟨w.heap.size, 2, none⟩) (by intro q hq; simp only [List.mem_cons, List.not_mem_nil, or_false] at hq; rcases hq with rfl | rfl <;> simp <;> omega) (by simp) z)
      have A1 := fun (w4 : World) (h : Fr w w4 [(w.heap.size + 1 + 1, .cells #[.int .i64 LO.x, .int .i64 LO.y, .int .i64 LO.z] 27 (0, 0)), (w.heap.size + 1 + 1 + 1, .cells #[.int .i64 HI.x, .int .i64 HI.y, .int .i64 HI.z] 27 (0, 0))]) (x y z : Value) => (((h.away (p := ⟨w.heap.size + 1, 0, none⟩) (by intro q hq; simp only [List.mem_cons, List.not_mem_nil, or_false] at hq; rcases hq with rfl | rfl <;> simp <;> omega) (by simp) x).away (p := ⟨w.heap.size + 1, 1, none⟩) (by intro q hq; simp only [List.mem_cons, List.not_mem_nil, or_false] at hq; rcases hq with rfl | rfl <;> simp <;> omega) (by simp) y).away (p := ⟨w.heap.size + 1, 2, none⟩) (by intro q hq; simp only [List.mem_cons, List.not_mem_nil, or_false] at hq; rcases hq with rfl | rfl <;> simp <;> omega) (by simp) z)
      have S0 := Lib.hid (fun (w4 : World) (x y z : Value) (h : Fr w w4 [(w.heap.size + 1 + 1, .cells #[.int .i64 LO.x, .int .i64 LO.y, .int .i64 LO.z] 27 (0, 0)), (w.heap.size + 1 + 1 + 1, .cells #[.int .i64 HI.x, .int .i64 HI.y, .int .i64 HI.z] 27 (0, 0))]) => SF.out _ (A0 w4 h x y z).drew)
      have S1 := Lib.hid (fun (w4 : World) (x y z x' y' z' : Value) (h : Fr w w4 [(w.heap.size + 1 + 1, .cells #[.int .i64 LO.x, .int .i64 LO.y, .int .i64 LO.z] 27 (0, 0)), (w.heap.size + 1 + 1 + 1, .cells #[.int .i64 HI.x, .int .i64 HI.y, .int .i64 HI.z] 27 (0, 0))]) => SF.out _ (A1 _ (A0 w4 h x y z) x' y' z').drew)
      have T1 := Lib.hid (fun (x y z x' y' z' : Value) => (A1 _ (A0 _ F.out x y z) x' y' z').drew.t)
      clear A0 A1
      have FN : Fr w wr [(w.heap.size + 1, .cells #[.int .i64 0, .int .i64 0, .int .i64 0] 27 (0, 0))] := hB.out.only 1 rfl
      have FM := (((FN.away (p := ⟨w.heap.size, 0, none⟩) (by intro q hq; simp only [List.mem_cons, List.not_mem_nil, or_false] at hq; subst hq; simp) (by simp) (.int .i64 LO.x)).away (p := ⟨w.heap.size, 1, none⟩) (by intro q hq; simp only [List.mem_cons, List.not_mem_nil, or_false] at hq; subst hq; simp) (by simp) (.int .i64 LO.y)).away (p := ⟨w.heap.size, 2, none⟩) (by intro q hq; simp only [List.mem_cons, List.not_mem_nil, or_false] at hq; subst hq; simp) (by simp) (.int .i64 LO.z))
      obtain ⟨k0, k1, k2⟩ := FM.three 0 rfl
      obtain ⟨g0, g1, g2⟩ := FM.fro3 0 rfl
      clear FN FM
      go_wp2_with fail
      go_region_held3 (fun w4 => (w4.cell? ⟨w.heap.size + 1 + 1, 0, none⟩ = some (.int .i64 LO.x) ∧ w4.cell? ⟨w.heap.size + 1 + 1, 1, none⟩ = some (.int .i64 LO.y) ∧ w4.cell? ⟨w.heap.size + 1 + 1, 2, none⟩ = some (.int .i64 LO.z)) ∧ (w4.cell? ⟨w.heap.size + 1 + 1 + 1, 0, none⟩ = some (.int .i64 HI.x) ∧ w4.cell? ⟨w.heap.size + 1 + 1 + 1, 1, none⟩ = some (.int .i64 HI.y) ∧ w4.cell? ⟨w.heap.size + 1 + 1 + 1, 2, none⟩ = some (.int .i64 HI.z))) (first | with_reducible exact SF.out _ F.out | with_reducible exact SF.out _ F.out.drew | with_reducible exact S0.out _ _ _ _ F.out | with_reducible exact S1.out _ _ _ _ _ _ _ F.out) (fail)
      all_goals
        go_wp2
        refine bodyPost_ret (v := .tuple #[.agg #[.int .i64 LO.x, .int .i64 LO.y, .int .i64 LO.z], .agg #[.int .i64 HI.x, .int .i64 HI.y, .int .i64 HI.z]]) (by simp [results, Tryz.results36, go_sem, c0, c1, c2, c3, c4, c5]) rfl ⟨rfl, ?_⟩
        exact T1.out _ _ _ _ _ _

set_option maxHeartbeats 8000000 in
set_option maxRecDepth 100000 in
theorem rEnds3 (g : Nat) (a b c : P3) (T : TypeId) (w : World) (hg : w.heap[g]? = some (.cells #[.int .i64 a.x, .int .i64 a.y, .int .i64 a.z, .int .i64 b.x, .int .i64 b.y, .int .i64 b.z, .int .i64 c.x, .int .i64 c.y, .int .i64 c.z] T (0, 0))) :
    Calls Tryz.prog 36 #[.slice (some ⟨g, 0, none⟩) 3 3] w fun e w' => e = .returned (.tuple #[.agg #[.int .i64 (eLo a b c 3).x, .int .i64 (eLo a b c 3).y, .int .i64 (eLo a b c 3).z], .agg #[.int .i64 (eHi a b c 3).x, .int .i64 (eHi a b c 3).y, .int .i64 (eHi a b c 3).z]]) ∧ Tch [] w w' := by
  have hc : ∀ w1, Tch [] w w1 → (w1.cell? ⟨g, 0, none⟩ = some (.int .i64 a.x) ∧ w1.cell? ⟨g, 1, none⟩ = some (.int .i64 a.y) ∧ w1.cell? ⟨g, 2, none⟩ = some (.int .i64 a.z)) ∧ (w1.cell? ⟨g, 3, none⟩ = some (.int .i64 b.x) ∧ w1.cell? ⟨g, 4, none⟩ = some (.int .i64 b.y) ∧ w1.cell? ⟨g, 5, none⟩ = some (.int .i64 b.z)) ∧ (w1.cell? ⟨g, 6, none⟩ = some (.int .i64 c.x) ∧ w1.cell? ⟨g, 7, none⟩ = some (.int .i64 c.y) ∧ w1.cell? ⟨g, 8, none⟩ = some (.int .i64 c.z)) := fun w1 hT => by
    have h := (hT.block g (Array.getElem?_eq_some_iff.1 hg).1 (by simp)).trans hg
    refine ⟨⟨?_, ?_, ?_⟩, ⟨?_, ?_, ?_⟩, ?_, ?_, ?_⟩ <;> (rw [cell_of_row _ _ _ _ _ _ h]; rfl)
  have HC := Lib.hid hc
  clear hg hc
  obtain ⟨LO, hLO⟩ : ∃ u, u = eLo a b c 3 := ⟨_, rfl⟩
  obtain ⟨HI, hHI⟩ : ∃ u, u = eHi a b c 3 := ⟨_, rfl⟩
  rw [← hLO, ← hHI]
  have HLO := Lib.hid hLO
  have HHI := Lib.hid hHI
  clear hLO hHI
  have F0 : Hid (Fr w ((((w.alloc (.cells #[.int .i64 0, .int .i64 0, .int .i64 0] 27)).alloc (.cells #[.int .i64 0, .int .i64 0, .int .i64 0] 27)).alloc (.cells #[.int .i64 a.x, .int .i64 a.y, .int .i64 a.z] 27)).alloc (.cells #[.int .i64 a.x, .int .i64 a.y, .int .i64 a.z] 27)) [(w.heap.size, .cells #[.int .i64 0, .int .i64 0, .int .i64 0] 27 (0, 0)), (w.heap.size + 1, .cells #[.int .i64 0, .int .i64 0, .int .i64 0] 27 (0, 0)), (w.heap.size + 1 + 1, .cells #[.int .i64 (eLo a b c 1).x, .int .i64 (eLo a b c 1).y, .int .i64 (eLo a b c 1).z] 27 (0, 0)), (w.heap.size + 1 + 1 + 1, .cells #[.int .i64 (eHi a b c 1).x, .int .i64 (eHi a b c 1).y, .int .i64 (eHi a b c 1).z] 27 (0, 0))]) := Lib.hid (((((Fr.nil w).add (.cells #[.int .i64 0, .int .i64 0, .int .i64 0] 27) (w.heap.size) rfl).add (.cells #[.int .i64 0, .int .i64 0, .int .i64 0] 27) (w.heap.size + 1) (by simp)).add (.cells #[.int .i64 a.x, .int .i64 a.y, .int .i64 a.z] 27) (w.heap.size + 1 + 1) (by simp)).add (.cells #[.int .i64 a.x, .int .i64 a.y, .int .i64 a.z] 27) (w.heap.size + 1 + 1 + 1) (by simp))
  obtain ⟨⟨x0, x1, x2⟩, _, _⟩ := HC.out w (Tch.refl [] w)
  obtain ⟨⟨y0, y1, y2⟩, _, _⟩ := HC.out _ ((Tch.refl [] w).alloc (.cells #[.int .i64 0, .int .i64 0, .int .i64 0] 27))
  obtain ⟨⟨z0, z1, z2⟩, _, _⟩ := HC.out _ (((Tch.refl [] w).alloc (.cells #[.int .i64 0, .int .i64 0, .int .i64 0] 27)).alloc (.cells #[.int .i64 0, .int .i64 0, .int .i64 0] 27))
  obtain ⟨⟨u0, u1, u2⟩, _, _⟩ := HC.out _ ((((Tch.refl [] w).alloc (.cells #[.int .i64 0, .int .i64 0, .int .i64 0] 27)).alloc (.cells #[.int .i64 0, .int .i64 0, .int .i64 0] 27)).alloc (.cells #[.int .i64 a.x, .int .i64 a.y, .int .i64 a.z] 27))
  go_enter Tryz.func36, Tryz.ntmps36
  go_wp2
  clear x0 x1 x2 y0 y1 y2 z0 z1 z2 u0 u1 u2
  go_loopw [6] (fun i wr => ∃ k : Nat, 1 ≤ k ∧ k ≤ 3 ∧ i = .int .i64 (k : Int) ∧ Hid (Fr w wr [(w.heap.size, .cells #[.int .i64 0, .int .i64 0, .int .i64 0] 27 (0, 0)), (w.heap.size + 1, .cells #[.int .i64 0, .int .i64 0, .int .i64 0] 27 (0, 0)), (w.heap.size + 1 + 1, .cells #[.int .i64 (eLo a b c k).x, .int .i64 (eLo a b c k).y, .int .i64 (eLo a b c k).z] 27 (0, 0)), (w.heap.size + 1 + 1 + 1, .cells #[.int .i64 (eHi a b c k).x, .int .i64 (eHi a b c k).y, .int .i64 (eHi a b c k).z] 27 (0, 0))])) (fun i _ => 3 - (intOf i).toNat)
  case atStart => exact ⟨1, by omega, by omega, rfl, F0⟩
  case round =>
    clear F0
    obtain ⟨k, hk1, hk, rfl, hB⟩ := hrel
    rcases (show k = 1 ∨ k = 2 ∨ k = 3 by omega) with rfl | rfl | rfl
    · obtain ⟨P, hP⟩ : ∃ P, P = eLo a b c 1 := ⟨_, rfl⟩
      obtain ⟨H, hH⟩ : ∃ H, H = eHi a b c 1 := ⟨_, rfl⟩
      have hP2 : eLo a b c 2 = lo2 P b := by rw [hP]; rfl
      have hH2 : eHi a b c 2 = hi2 H b := by rw [hH]; rfl
      rw [← hP, ← hH] at hB
      have F := hB
      have c1 := fun w1 => rLess b P w1
      have c2 := fun w1 => rLess H b w1
      unfold lo2 at hP2
      unfold hi2 at hH2
      obtain ⟨l1, h1⟩ : ∃ l, l = lessI b P := ⟨_, rfl⟩
      obtain ⟨l2, h2⟩ : ∃ l, l = lessI H b := ⟨_, rfl⟩
      rw [← h1] at c1 hP2
      rw [← h2] at c2 hH2
      have C1 := Lib.hid c1
      have C2 := Lib.hid c2
      have HP := Lib.hid hP2
      have HH := Lib.hid hH2
      clear c1 c2 hP2 hH2 h1 h2 hP hH hB
      have SL := Lib.hid (fun (w4 : World) (h : Fr w w4 [(w.heap.size, .cells #[.int .i64 0, .int .i64 0, .int .i64 0] 27 (0, 0)), (w.heap.size + 1, .cells #[.int .i64 0, .int .i64 0, .int .i64 0] 27 (0, 0)), (w.heap.size + 1 + 1, .cells #[.int .i64 P.x, .int .i64 P.y, .int .i64 P.z] 27 (0, 0)), (w.heap.size + 1 + 1 + 1, .cells #[.int .i64 H.x, .int .i64 H.y, .int .i64 H.z] 27 (0, 0))]) => And.intro (h.three 2 rfl) (HC.out w4 h.t).2.1)
      have SH := Lib.hid (fun (w4 : World) (h : Fr w w4 [(w.heap.size, .cells #[.int .i64 0, .int .i64 0, .int .i64 0] 27 (0, 0)), (w.heap.size + 1, .cells #[.int .i64 0, .int .i64 0, .int .i64 0] 27 (0, 0)), (w.heap.size + 1 + 1, .cells #[.int .i64 P.x, .int .i64 P.y, .int .i64 P.z] 27 (0, 0)), (w.heap.size + 1 + 1 + 1, .cells #[.int .i64 H.x, .int .i64 H.y, .int .i64 H.z] 27 (0, 0))]) => And.intro (h.three 3 rfl) (HC.out w4 h.t).2.1)
      go_wp2_with fail
      go_region_held3 (fun w4 => (w4.cell? ⟨w.heap.size + 1 + 1, 0, none⟩ = some (.int .i64 P.x) ∧ w4.cell? ⟨w.heap.size + 1 + 1, 1, none⟩ = some (.int .i64 P.y) ∧ w4.cell? ⟨w.heap.size + 1 + 1, 2, none⟩ = some (.int .i64 P.z)) ∧ (w4.cell? ⟨g, 3, none⟩ = some (.int .i64 b.x) ∧ w4.cell? ⟨g, 4, none⟩ = some (.int .i64 b.y) ∧ w4.cell? ⟨g, 5, none⟩ = some (.int .i64 b.z))) (first | with_reducible exact SL.out _ F.out | with_reducible exact SL.out _ F.out.drew) (first
        | (go_at_call 33; (first | (with_reducible refine (C1.out _).mono ?_)); rintro e w6 ⟨rfl, hT⟩; (first | (with_reducible have F := Lib.hid (F.out.keep hT)) | (have F := Lib.hid (F.out.drew.keep hT))); clear hT)
        | fail)
      go_wp2_with fail
      go_region_held3 (fun w4 => (w4.cell? ⟨w.heap.size + 1 + 1 + 1, 0, none⟩ = some (.int .i64 H.x) ∧ w4.cell? ⟨w.heap.size + 1 + 1 + 1, 1, none⟩ = some (.int .i64 H.y) ∧ w4.cell? ⟨w.heap.size + 1 + 1 + 1, 2, none⟩ = some (.int .i64 H.z)) ∧ (w4.cell? ⟨g, 3, none⟩ = some (.int .i64 b.x) ∧ w4.cell? ⟨g, 4, none⟩ = some (.int .i64 b.y) ∧ w4.cell? ⟨g, 5, none⟩ = some (.int .i64 b.z))) (first | with_reducible exact SH.out _ F.out | with_reducible exact SH.out _ F.out.drew) (first
        | (go_at_call 33; (first | (with_reducible refine (C2.out _).mono ?_)); rintro e w6 ⟨rfl, hT⟩; (first | (with_reducible have F := Lib.hid (F.out.keep hT)) | (have F := Lib.hid (F.out.drew.keep hT))); clear hT)
        | fail)
      clear C1 C2 SH
      obtain ⟨x0, x1, x2⟩ := (SL.out _ F.out).2
      clear SL
      obtain ⟨f0, f1, f2⟩ := F.out.fro3 2 rfl
      obtain ⟨e0, e1, e2⟩ := F.out.fro3 3 rfl
      obtain ⟨p0, p1, p2⟩ := F.out.three 2 rfl
      obtain ⟨h0, h1, h2⟩ := F.out.three 3 rfl
      cases l1
      · have F1 := F
        cases l2
        · have F2 := F1
          go_wp2
          go_roundw
          case rel => exact ⟨2, by omega, by omega, by go_num, Lib.hid (by have h := F2.out; rw [HP.out, HH.out]; exact h)⟩
          case measure => simp [intOf]
        · have G2 := Fr.set3 (l1 := [(w.heap.size, .cells #[.int .i64 0, .int .i64 0, .int .i64 0] 27 (0, 0)), (w.heap.size + 1, .cells #[.int .i64 0, .int .i64 0, .int .i64 0] 27 (0, 0)), (w.heap.size + 1 + 1, .cells #[.int .i64 P.x, .int .i64 P.y, .int .i64 P.z] 27 (0, 0))]) (l2 := []) F1.out (by intro q hq; simp only [List.cons_append, List.nil_append, List.mem_cons, List.not_mem_nil, or_false] at hq; rcases hq with rfl | rfl | rfl <;> simp <;> omega) (.int .i64 b.x) (.int .i64 b.y) (.int .i64 b.z)
          have F2 : Hid (Fr w _ [(w.heap.size, .cells #[.int .i64 0, .int .i64 0, .int .i64 0] 27 (0, 0)), (w.heap.size + 1, .cells #[.int .i64 0, .int .i64 0, .int .i64 0] 27 (0, 0)), (w.heap.size + 1 + 1, .cells #[.int .i64 P.x, .int .i64 P.y, .int .i64 P.z] 27 (0, 0)), (w.heap.size + 1 + 1 + 1, .cells #[.int .i64 b.x, .int .i64 b.y, .int .i64 b.z] 27 (0, 0))]) := Lib.hid G2
          clear G2
          go_wp2
          go_roundw
          case rel => exact ⟨2, by omega, by omega, by go_num, Lib.hid (by have h := F2.out; rw [HP.out, HH.out]; exact h)⟩
          case measure => simp [intOf]
      · have G1 := Fr.set3 (l1 := [(w.heap.size, .cells #[.int .i64 0, .int .i64 0, .int .i64 0] 27 (0, 0)), (w.heap.size + 1, .cells #[.int .i64 0, .int .i64 0, .int .i64 0] 27 (0, 0))]) (l2 := [(w.heap.size + 1 + 1 + 1, .cells #[.int .i64 H.x, .int .i64 H.y, .int .i64 H.z] 27 (0, 0))]) F.out (by intro q hq; simp only [List.cons_append, List.nil_append, List.mem_cons, List.not_mem_nil, or_false] at hq; rcases hq with rfl | rfl | rfl <;> simp <;> omega) (.int .i64 b.x) (.int .i64 b.y) (.int .i64 b.z)
        have F1 : Hid (Fr w _ [(w.heap.size, .cells #[.int .i64 0, .int .i64 0, .int .i64 0] 27 (0, 0)), (w.heap.size + 1, .cells #[.int .i64 0, .int .i64 0, .int .i64 0] 27 (0, 0)), (w.heap.size + 1 + 1, .cells #[.int .i64 b.x, .int .i64 b.y, .int .i64 b.z] 27 (0, 0)), (w.heap.size + 1 + 1 + 1, .cells #[.int .i64 H.x, .int .i64 H.y, .int .i64 H.z] 27 (0, 0))]) := Lib.hid G1
        clear G1
        obtain ⟨z0, z1, z2⟩ := (HC.out _ F1.out.t).2.1
        obtain ⟨d0, d1, d2⟩ := F1.out.fro3 3 rfl
        obtain ⟨k0, k1, k2⟩ := F1.out.three 3 rfl
        cases l2
        · have F2 := F1
          go_wp2
          go_roundw
          case rel => exact ⟨2, by omega, by omega, by go_num, Lib.hid (by have h := F2.out; rw [HP.out, HH.out]; exact h)⟩
          case measure => simp [intOf]
        · have G2 := Fr.set3 (l1 := [(w.heap.size, .cells #[.int .i64 0, .int .i64 0, .int .i64 0] 27 (0, 0)), (w.heap.size + 1, .cells #[.int .i64 0, .int .i64 0, .int .i64 0] 27 (0, 0)), (w.heap.size + 1 + 1, .cells #[.int .i64 b.x, .int .i64 b.y, .int .i64 b.z] 27 (0, 0))]) (l2 := []) F1.out (by intro q hq; simp only [List.cons_append, List.nil_append, List.mem_cons, List.not_mem_nil, or_false] at hq; rcases hq with rfl | rfl | rfl <;> simp <;> omega) (.int .i64 b.x) (.int .i64 b.y) (.int .i64 b.z)
          have F2 : Hid (Fr w _ [(w.heap.size, .cells #[.int .i64 0, .int .i64 0, .int .i64 0] 27 (0, 0)), (w.heap.size + 1, .cells #[.int .i64 0, .int .i64 0, .int .i64 0] 27 (0, 0)), (w.heap.size + 1 + 1, .cells #[.int .i64 b.x, .int .i64 b.y, .int .i64 b.z] 27 (0, 0)), (w.heap.size + 1 + 1 + 1, .cells #[.int .i64 b.x, .int .i64 b.y, .int .i64 b.z] 27 (0, 0))]) := Lib.hid G2
          clear G2
          go_wp2
          go_roundw
          case rel => exact ⟨2, by omega, by omega, by go_num, Lib.hid (by have h := F2.out; rw [HP.out, HH.out]; exact h)⟩
          case measure => simp [intOf]
    · obtain ⟨P, hP⟩ : ∃ P, P = eLo a b c 2 := ⟨_, rfl⟩
      obtain ⟨H, hH⟩ : ∃ H, H = eHi a b c 2 := ⟨_, rfl⟩
      have hP2 : eLo a b c 3 = lo2 P c := by rw [hP]; rfl
      have hH2 : eHi a b c 3 = hi2 H c := by rw [hH]; rfl
      rw [← hP, ← hH] at hB
      have F := hB
      have c1 := fun w1 => rLess c P w1
      have c2 := fun w1 => rLess H c w1
      unfold lo2 at hP2
      unfold hi2 at hH2
      obtain ⟨l1, h1⟩ : ∃ l, l = lessI c P := ⟨_, rfl⟩
      obtain ⟨l2, h2⟩ : ∃ l, l = lessI H c := ⟨_, rfl⟩
      rw [← h1] at c1 hP2
      rw [← h2] at c2 hH2
      have C1 := Lib.hid c1
      have C2 := Lib.hid c2
      have HP := Lib.hid hP2
      have HH := Lib.hid hH2
      clear c1 c2 hP2 hH2 h1 h2 hP hH hB
      have SL := Lib.hid (fun (w4 : World) (h : Fr w w4 [(w.heap.size, .cells #[.int .i64 0, .int .i64 0, .int .i64 0] 27 (0, 0)), (w.heap.size + 1, .cells #[.int .i64 0, .int .i64 0, .int .i64 0] 27 (0, 0)), (w.heap.size + 1 + 1, .cells #[.int .i64 P.x, .int .i64 P.y, .int .i64 P.z] 27 (0, 0)), (w.heap.size + 1 + 1 + 1, .cells #[.int .i64 H.x, .int .i64 H.y, .int .i64 H.z] 27 (0, 0))]) => And.intro (h.three 2 rfl) (HC.out w4 h.t).2.2)
      have SH := Lib.hid (fun (w4 : World) (h : Fr w w4 [(w.heap.size, .cells #[.int .i64 0, .int .i64 0, .int .i64 0] 27 (0, 0)), (w.heap.size + 1, .cells #[.int .i64 0, .int .i64 0, .int .i64 0] 27 (0, 0)), (w.heap.size + 1 + 1, .cells #[.int .i64 P.x, .int .i64 P.y, .int .i64 P.z] 27 (0, 0)), (w.heap.size + 1 + 1 + 1, .cells #[.int .i64 H.x, .int .i64 H.y, .int .i64 H.z] 27 (0, 0))]) => And.intro (h.three 3 rfl) (HC.out w4 h.t).2.2)
      go_wp2_with fail
      go_region_held3 (fun w4 => (w4.cell? ⟨w.heap.size + 1 + 1, 0, none⟩ = some (.int .i64 P.x) ∧ w4.cell? ⟨w.heap.size + 1 + 1, 1, none⟩ = some (.int .i64 P.y) ∧ w4.cell? ⟨w.heap.size + 1 + 1, 2, none⟩ = some (.int .i64 P.z)) ∧ (w4.cell? ⟨g, 6, none⟩ = some (.int .i64 c.x) ∧ w4.cell? ⟨g, 7, none⟩ = some (.int .i64 c.y) ∧ w4.cell? ⟨g, 8, none⟩ = some (.int .i64 c.z))) (first | with_reducible exact SL.out _ F.out | with_reducible exact SL.out _ F.out.drew) (first
        | (go_at_call 33; (first | (with_reducible refine (C1.out _).mono ?_)); rintro e w6 ⟨rfl, hT⟩; (first | (with_reducible have F := Lib.hid (F.out.keep hT)) | (have F := Lib.hid (F.out.drew.keep hT))); clear hT)
        | fail)
      go_wp2_with fail
      go_region_held3 (fun w4 => (w4.cell? ⟨w.heap.size + 1 + 1 + 1, 0, none⟩ = some (.int .i64 H.x) ∧ w4.cell? ⟨w.heap.size + 1 + 1 + 1, 1, none⟩ = some (.int .i64 H.y) ∧ w4.cell? ⟨w.heap.size + 1 + 1 + 1, 2, none⟩ = some (.int .i64 H.z)) ∧ (w4.cell? ⟨g, 6, none⟩ = some (.int .i64 c.x) ∧ w4.cell? ⟨g, 7, none⟩ = some (.int .i64 c.y) ∧ w4.cell? ⟨g, 8, none⟩ = some (.int .i64 c.z))) (first | with_reducible exact SH.out _ F.out | with_reducible exact SH.out _ F.out.drew) (first
        | (go_at_call 33; (first | (with_reducible refine (C2.out _).mono ?_)); rintro e w6 ⟨rfl, hT⟩; (first | (with_reducible have F := Lib.hid (F.out.keep hT)) | (have F := Lib.hid (F.out.drew.keep hT))); clear hT)
        | fail)
      clear C1 C2 SH
      obtain ⟨x0, x1, x2⟩ := (SL.out _ F.out).2
      clear SL
      obtain ⟨f0, f1, f2⟩ := F.out.fro3 2 rfl
      obtain ⟨e0, e1, e2⟩ := F.out.fro3 3 rfl
      obtain ⟨p0, p1, p2⟩ := F.out.three 2 rfl
      obtain ⟨h0, h1, h2⟩ := F.out.three 3 rfl
      cases l1
      · have F1 := F
        cases l2
        · have F2 := F1
          go_wp2
          go_roundw
          case rel => exact ⟨3, by omega, by omega, by go_num, Lib.hid (by have h := F2.out; rw [HP.out, HH.out]; exact h)⟩
          case measure => simp [intOf]
        · have G2 := Fr.set3 (l1 := [(w.heap.size, .cells #[.int .i64 0, .int .i64 0, .int .i64 0] 27 (0, 0)), (w.heap.size + 1, .cells #[.int .i64 0, .int .i64 0, .int .i64 0] 27 (0, 0)), (w.heap.size + 1 + 1, .cells #[.int .i64 P.x, .int .i64 P.y, .int .i64 P.z] 27 (0, 0))]) (l2 := []) F1.out (by intro q hq; simp only [List.cons_append, List.nil_append, List.mem_cons, List.not_mem_nil, or_false] at hq; rcases hq with rfl | rfl | rfl <;> simp <;> omega) (.int .i64 c.x) (.int .i64 c.y) (.int .i64 c.z)
          have F2 : Hid (Fr w _ [(w.heap.size, .cells #[.int .i64 0, .int .i64 0, .int .i64 0] 27 (0, 0)), (w.heap.size + 1, .cells #[.int .i64 0, .int .i64 0, .int .i64 0] 27 (0, 0)), (w.heap.size + 1 + 1, .cells #[.int .i64 P.x, .int .i64 P.y, .int .i64 P.z] 27 (0, 0)), (w.heap.size + 1 + 1 + 1, .cells #[.int .i64 c.x, .int .i64 c.y, .int .i64 c.z] 27 (0, 0))]) := Lib.hid G2
          clear G2
          go_wp2
          go_roundw
          case rel => exact ⟨3, by omega, by omega, by go_num, Lib.hid (by have h := F2.out; rw [HP.out, HH.out]; exact h)⟩
          case measure => simp [intOf]
      · have G1 := Fr.set3 (l1 := [(w.heap.size, .cells #[.int .i64 0, .int .i64 0, .int .i64 0] 27 (0, 0)), (w.heap.size + 1, .cells #[.int .i64 0, .int .i64 0, .int .i64 0] 27 (0, 0))]) (l2 := [(w.heap.size + 1 + 1 + 1, .cells #[.int .i64 H.x, .int .i64 H.y, .int .i64 H.z] 27 (0, 0))]) F.out (by intro q hq; simp only [List.cons_append, List.nil_append, List.mem_cons, List.not_mem_nil, or_false] at hq; rcases hq with rfl | rfl | rfl <;> simp <;> omega) (.int .i64 c.x) (.int .i64 c.y) (.int .i64 c.z)
        have F1 : Hid (Fr w _ [(w.heap.size, .cells #[.int .i64 0, .int .i64 0, .int .i64 0] 27 (0, 0)), (w.heap.size + 1, .cells #[.int .i64 0, .int .i64 0, .int .i64 0] 27 (0, 0)), (w.heap.size + 1 + 1, .cells #[.int .i64 c.x, .int .i64 c.y, .int .i64 c.z] 27 (0, 0)), (w.heap.size + 1 + 1 + 1, .cells #[.int .i64 H.x, .int .i64 H.y, .int .i64 H.z] 27 (0, 0))]) := Lib.hid G1
        clear G1
        obtain ⟨z0, z1, z2⟩ := (HC.out _ F1.out.t).2.2
        obtain ⟨d0, d1, d2⟩ := F1.out.fro3 3 rfl
        obtain ⟨k0, k1, k2⟩ := F1.out.three 3 rfl
        cases l2
        · have F2 := F1
          go_wp2
          go_roundw
          case rel => exact ⟨3, by omega, by omega, by go_num, Lib.hid (by have h := F2.out; rw [HP.out, HH.out]; exact h)⟩
          case measure => simp [intOf]
        · have G2 := Fr.set3 (l1 := [(w.heap.size, .cells #[.int .i64 0, .int .i64 0, .int .i64 0] 27 (0, 0)), (w.heap.size + 1, .cells #[.int .i64 0, .int .i64 0, .int .i64 0] 27 (0, 0)), (w.heap.size + 1 + 1, .cells #[.int .i64 c.x, .int .i64 c.y, .int .i64 c.z] 27 (0, 0))]) (l2 := []) F1.out (by intro q hq; simp only [List.cons_append, List.nil_append, List.mem_cons, List.not_mem_nil, or_false] at hq; rcases hq with rfl | rfl | rfl <;> simp <;> omega) (.int .i64 c.x) (.int .i64 c.y) (.int .i64 c.z)
          have F2 : Hid (Fr w _ [(w.heap.size, .cells #[.int .i64 0, .int .i64 0, .int .i64 0] 27 (0, 0)), (w.heap.size + 1, .cells #[.int .i64 0, .int .i64 0, .int .i64 0] 27 (0, 0)), (w.heap.size + 1 + 1, .cells #[.int .i64 c.x, .int .i64 c.y, .int .i64 c.z] 27 (0, 0)), (w.heap.size + 1 + 1 + 1, .cells #[.int .i64 c.x, .int .i64 c.y, .int .i64 c.z] 27 (0, 0))]) := Lib.hid G2
          clear G2
          go_wp2
          go_roundw
          case rel => exact ⟨3, by omega, by omega, by go_num, Lib.hid (by have h := F2.out; rw [HP.out, HH.out]; exact h)⟩
          case measure => simp [intOf]
    · rw [← HLO.out, ← HHI.out] at hB
      clear HC HLO HHI
      obtain ⟨c0, c1, c2⟩ := hB.out.three 0 rfl
      obtain ⟨c3, c4, c5⟩ := hB.out.three 1 rfl
      obtain ⟨c6, c7, c8⟩ := hB.out.fro3 0 rfl
      obtain ⟨d0, d1, d2⟩ := hB.out.fro3 1 rfl
      obtain ⟨r0, r1, r2⟩ := hB.out.drew.three 0 rfl
      obtain ⟨s0, s1, s2⟩ := hB.out.drew.three 1 rfl
      obtain ⟨f0, f1, f2⟩ := hB.out.drew.fro3 0 rfl
      obtain ⟨e0, e1, e2⟩ := hB.out.drew.fro3 1 rfl
      have F : Hid (Fr w wr [(w.heap.size + 1 + 1, .cells #[.int .i64 LO.x, .int .i64 LO.y, .int .i64 LO.z] 27 (0, 0)), (w.heap.size + 1 + 1 + 1, .cells #[.int .i64 HI.x, .int .i64 HI.y, .int .i64 HI.z] 27 (0, 0))]) := Lib.hid (hB.out.sub (by intro q hq; simp only [List.mem_cons, List.not_mem_nil, or_false] at hq ⊢; rcases hq with rfl | rfl <;> simp))
      have SF := Lib.hid (fun (w4 : World) (h : Fr w w4 [(w.heap.size + 1 + 1, .cells #[.int .i64 LO.x, .int .i64 LO.y, .int .i64 LO.z] 27 (0, 0)), (w.heap.size + 1 + 1 + 1, .cells #[.int .i64 HI.x, .int .i64 HI.y, .int .i64 HI.z] 27 (0, 0))]) => And.intro (h.three 0 rfl) (h.three 1 rfl))
      have A0 := fun (w4 : World) (h : Fr w w4 [(w.heap.size + 1 + 1, .cells #[.int .i64 LO.x, .int .i64 LO.y, .int .i64 LO.z] 27 (0, 0)), (w.heap.size + 1 + 1 + 1, .cells #[.int .i64 HI.x, .int .i64 HI.y, .int .i64 HI.z] 27 (0, 0))]) (x y z : Value) => (((h.away (p := ⟨w.heap.size, 0, none⟩) (by intro q hq; simp only [List.mem_cons, List.not_mem_nil, or_false] at hq; rcases hq with rfl | rfl <;> simp <;> omega) (by simp) x).away (p := ⟨w.heap.size, 1, none⟩) (by intro q hq; simp only [List.mem_cons, List.not_mem_nil, or_false] at hq; rcases hq with rfl | rfl <;> simp <;> omega) (by simp) y).away (p := ⟨w.heap.size, 2, none⟩) (by intro q hq; simp only [List.mem_cons, List.not_mem_nil, or_false] at hq; rcases hq with rfl | rfl <;> simp <;> omega) (by simp) z)
      have A1 := fun (w4 : World) (h : Fr w w4 [(w.heap.size + 1 + 1, .cells #[.int .i64 LO.x, .int .i64 LO.y, .int .i64 LO.z] 27 (0, 0)), (w.heap.size + 1 + 1 + 1, .cells #[.int .i64 HI.x, .int .i64 HI.y, .int .i64 HI.z] 27 (0, 0))]) (x y z : Value) => (((h.away (p := ⟨w.heap.size + 1, 0, none⟩) (by intro q hq; simp only [List.mem_cons, List.not_mem_nil, or_false] at hq; rcases hq with rfl | rfl <;> simp <;> omega) (by simp) x).away (p := ⟨w.heap.size + 1, 1, none⟩) (by intro q hq; simp only [List.mem_cons, List.not_mem_nil, or_false] at hq; rcases hq with rfl | rfl <;> simp <;> omega) (by simp) y).away (p := ⟨w.heap.size + 1, 2, none⟩) (by intro q hq; simp only [List.mem_cons, List.not_mem_nil, or_false] at hq; rcases hq with rfl | rfl <;> simp <;> omega) (by simp) z)
      have S0 := Lib.hid (fun (w4 : World) (x y z : Value) (h : Fr w w4 [(w.heap.size + 1 + 1, .cells #[.int .i64 LO.x, .int .i64 LO.y, .int .i64 LO.z] 27 (0, 0)), (w.heap.size + 1 + 1 + 1, .cells #[.int .i64 HI.x, .int .i64 HI.y, .int .i64 HI.z] 27 (0, 0))]) => SF.out _ (A0 w4 h x y z).drew)
      have S1 := Lib.hid (fun (w4 : World) (x y z x' y' z' : Value) (h : Fr w w4 [(w.heap.size + 1 + 1, .cells #[.int .i64 LO.x, .int .i64 LO.y, .int .i64 LO.z] 27 (0, 0)), (w.heap.size + 1 + 1 + 1, .cells #[.int .i64 HI.x, .int .i64 HI.y, .int .i64 HI.z] 27 (0, 0))]) => SF.out _ (A1 _ (A0 w4 h x y z) x' y' z').drew)
      have T1 := Lib.hid (fun (x y z x' y' z' : Value) => (A1 _ (A0 _ F.out x y z) x' y' z').drew.t)
      clear A0 A1
      have FN : Fr w wr [(w.heap.size + 1, .cells #[.int .i64 0, .int .i64 0, .int .i64 0] 27 (0, 0))] := hB.out.only 1 rfl
      have FM := (((FN.away (p := ⟨w.heap.size, 0, none⟩) (by intro q hq; simp only [List.mem_cons, List.not_mem_nil, or_false] at hq; subst hq; simp) (by simp) (.int .i64 LO.x)).away (p := ⟨w.heap.size, 1, none⟩) (by intro q hq; simp only [List.mem_cons, List.not_mem_nil, or_false] at hq; subst hq; simp) (by simp) (.int .i64 LO.y)).away (p := ⟨w.heap.size, 2, none⟩) (by intro q hq; simp only [List.mem_cons, List.not_mem_nil, or_false] at hq; subst hq; simp) (by simp) (.int .i64 LO.z))
      obtain ⟨k0, k1, k2⟩ := FM.three 0 rfl
      obtain ⟨g0, g1, g2⟩ := FM.fro3 0 rfl
      clear FN FM
      go_wp2_with fail
      go_region_held3 (fun w4 => (w4.cell? ⟨w.heap.size + 1 + 1, 0, none⟩ = some (.int .i64 LO.x) ∧ w4.cell? ⟨w.heap.size + 1 + 1, 1, none⟩ = some (.int .i64 LO.y) ∧ w4.cell? ⟨w.heap.size + 1 + 1, 2, none⟩ = some (.int .i64 LO.z)) ∧ (w4.cell? ⟨w.heap.size + 1 + 1 + 1, 0, none⟩ = some (.int .i64 HI.x) ∧ w4.cell? ⟨w.heap.size + 1 + 1 + 1, 1, none⟩ = some (.int .i64 HI.y) ∧ w4.cell? ⟨w.heap.size + 1 + 1 + 1, 2, none⟩ = some (.int .i64 HI.z))) (first | with_reducible exact SF.out _ F.out | with_reducible exact SF.out _ F.out.drew | with_reducible exact S0.out _ _ _ _ F.out | with_reducible exact S1.out _ _ _ _ _ _ _ F.out) (fail)
      all_goals
        go_wp2
        refine bodyPost_ret (v := .tuple #[.agg #[.int .i64 LO.x, .int .i64 LO.y, .int .i64 LO.z], .agg #[.int .i64 HI.x, .int .i64 HI.y, .int .i64 HI.z]]) (by simp [results, Tryz.results36, go_sem, c0, c1, c2, c3, c4, c5]) rfl ⟨rfl, ?_⟩
        exact T1.out _ _ _ _ _ _

end Go.Proofs.YtandlbacjfdkpaaGreatDoor
