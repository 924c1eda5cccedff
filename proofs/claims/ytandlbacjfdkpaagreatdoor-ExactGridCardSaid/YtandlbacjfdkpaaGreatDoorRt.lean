/- The reference's Cross. -/
import Derived.Test.YtandlbacjfdkpaaGreatDoorRs5
namespace Go.Proofs.YtandlbacjfdkpaaGreatDoor
open Go Go.RowKit Dg

theorem idx3_0 (x y z : Value) (w : World) : (Instr.index 22 (.agg #[x, y, z]) (.int .i64 0)).run Tryz.prog w = .ok x w := by kernel_rfl
theorem idx3_1 (x y z : Value) (w : World) : (Instr.index 22 (.agg #[x, y, z]) (.int .i64 1)).run Tryz.prog w = .ok y w := by kernel_rfl
theorem idx3_2 (x y z : Value) (w : World) : (Instr.index 22 (.agg #[x, y, z]) (.int .i64 2)).run Tryz.prog w = .ok z w := by kernel_rfl
theorem sgn_one (x : Int) : -1 ≤ x.sign ∧ x.sign ≤ 1 := by
  rcases Int.lt_trichotomy x 0 with q | q | q
  · rw [Int.sign_eq_neg_one_of_neg q]; decide
  · rw [q]; decide
  · rw [Int.sign_eq_one_of_pos q]; decide
theorem sgn_mul (x y : Int) : wrap64 (x.sign * y.sign) = x.sign * y.sign := by
  have h1 := sgn_one x
  have h2 := sgn_one y
  have h : (x.sign * y.sign).natAbs ≤ 1 * 1 := by
    rw [Int.natAbs_mul]; exact Nat.mul_le_mul (by omega) (by omega)
  exact wrap64_in ⟨by omega, by omega⟩
theorem axI_four (v : P3) : axI v = 0 ∨ axI v = 1 ∨ axI v = 2 ∨ axI v = 3 := by
  unfold axI; split
  · exact .inl rfl
  · split
    · exact .inr (.inl rfl)
    · split
      · exact .inr (.inr (.inl rfl))
      · exact .inr (.inr (.inr rfl))
theorem lo2_ok {p q : P3} (hp : p.Ok) (hq : q.Ok) : (lo2 p q).Ok := by unfold lo2; split <;> assumption
theorem hi2_ok {p q : P3} (hp : p.Ok) (hq : q.Ok) : (hi2 p q).Ok := by unfold hi2; split <;> assumption

attribute [local go_sem ↓] eqlPt
set_option maxHeartbeats 16000000 in
set_option maxRecDepth 100000 in
theorem rCross (p q r s : P3) (hp : p.Ok) (hq : q.Ok) (hr : r.Ok) (hs : s.Ok) (w : World) :
    Calls Tryz.prog 37 #[(.agg #[.int .i64 p.x, .int .i64 p.y, .int .i64 p.z]), (.agg #[.int .i64 q.x, .int .i64 q.y, .int .i64 q.z]), (.agg #[.int .i64 r.x, .int .i64 r.y, .int .i64 r.z]), (.agg #[.int .i64 s.x, .int .i64 s.y, .int .i64 s.z])] w fun e w' => e = .returned (.bool (crossI p q r s)) ∧ Tch [] w w' := by
  obtain ⟨o, ho⟩ : ∃ u, u = crossI p q r s := ⟨_, rfl⟩
  rw [← ho]
  obtain ⟨n, hn⟩ : ∃ u, u = sgnsI p q r s := ⟨_, rfl⟩
  obtain ⟨K, hK⟩ : ∃ u, u = axI n := ⟨_, rfl⟩
  obtain ⟨n1, hn1⟩ : ∃ u, u = nmsI p q r := ⟨_, rfl⟩
  obtain ⟨n2, hn2⟩ : ∃ u, u = nmsI p q s := ⟨_, rfl⟩
  obtain ⟨n3, hn3⟩ : ∃ u, u = nmsI r s p := ⟨_, rfl⟩
  obtain ⟨n4, hn4⟩ : ∃ u, u = nmsI r s q := ⟨_, rfl⟩
  obtain ⟨d, hd⟩ : ∃ u, u = (detI p q r s).sign := ⟨_, rfl⟩
  obtain ⟨l1, hl1⟩ : ∃ u, u = lo2 p q := ⟨_, rfl⟩
  obtain ⟨h1, hh1⟩ : ∃ u, u = hi2 p q := ⟨_, rfl⟩
  obtain ⟨l2, hl2⟩ : ∃ u, u = lo2 r s := ⟨_, rfl⟩
  obtain ⟨h2, hh2⟩ : ∃ u, u = hi2 r s := ⟨_, rfl⟩
  obtain ⟨f1, hf1⟩ : ∃ u, u = flatI l1 h1 l2 := ⟨_, rfl⟩
  obtain ⟨f2, hf2⟩ : ∃ u, u = flatI l2 h2 l1 := ⟨_, rfl⟩
  obtain ⟨b1, hb1⟩ : ∃ u, u = lessI h1 l2 := ⟨_, rfl⟩
  obtain ⟨b2, hb2⟩ : ∃ u, u = lessI h2 l1 := ⟨_, rfl⟩
  obtain ⟨eb, heb⟩ : ∃ u, u = ptE l1 h1 := ⟨_, rfl⟩
  obtain ⟨m1x, e1x⟩ : ∃ u, IntKind.i64.wrap (n1.x * n2.x) = u := ⟨_, rfl⟩
  obtain ⟨m2x, e2x⟩ : ∃ u, IntKind.i64.wrap (n3.x * n4.x) = u := ⟨_, rfl⟩
  have v1x : n1.x * n2.x = m1x := by rw [← e1x, IntWalk.i64_left, hn1, hn2]; exact (sgn_mul _ _).symm
  have v2x : n3.x * n4.x = m2x := by rw [← e2x, IntWalk.i64_left, hn3, hn4]; exact (sgn_mul _ _).symm
  obtain ⟨m1y, e1y⟩ : ∃ u, IntKind.i64.wrap (n1.y * n2.y) = u := ⟨_, rfl⟩
  obtain ⟨m2y, e2y⟩ : ∃ u, IntKind.i64.wrap (n3.y * n4.y) = u := ⟨_, rfl⟩
  have v1y : n1.y * n2.y = m1y := by rw [← e1y, IntWalk.i64_left, hn1, hn2]; exact (sgn_mul _ _).symm
  have v2y : n3.y * n4.y = m2y := by rw [← e2y, IntWalk.i64_left, hn3, hn4]; exact (sgn_mul _ _).symm
  obtain ⟨m1z, e1z⟩ : ∃ u, IntKind.i64.wrap (n1.z * n2.z) = u := ⟨_, rfl⟩
  obtain ⟨m2z, e2z⟩ : ∃ u, IntKind.i64.wrap (n3.z * n4.z) = u := ⟨_, rfl⟩
  have v1z : n1.z * n2.z = m1z := by rw [← e1z, IntWalk.i64_left, hn1, hn2]; exact (sgn_mul _ _).symm
  have v2z : n3.z * n4.z = m2z := by rw [← e2z, IntWalk.i64_left, hn3, hn4]; exact (sgn_mul _ _).symm
  have O0 : Hid (K = 0 → o = decide (d = 0 ∧ m1x ≤ 0 ∧ m2x ≤ 0)) := Lib.hid (fun h => by
    rw [ho]; unfold crossI
    rw [← hn, ← hK, h, if_pos (by decide), ← hd, ← hn1, ← hn2, ← hn3, ← hn4, ← v1x, ← v2x]; rfl)
  have O1 : Hid (K = 1 → o = decide (d = 0 ∧ m1y ≤ 0 ∧ m2y ≤ 0)) := Lib.hid (fun h => by
    rw [ho]; unfold crossI
    rw [← hn, ← hK, h, if_pos (by decide), ← hd, ← hn1, ← hn2, ← hn3, ← hn4, ← v1y, ← v2y]; rfl)
  have O2 : Hid (K = 2 → o = decide (d = 0 ∧ m1z ≤ 0 ∧ m2z ≤ 0)) := Lib.hid (fun h => by
    rw [ho]; unfold crossI
    rw [← hn, ← hK, h, if_pos (by decide), ← hd, ← hn1, ← hn2, ← hn3, ← hn4, ← v1z, ← v2z]; rfl)
  have O3 : Hid (K = 3 → o = ((if eb then f2 else f1) && !b1 && !b2)) := Lib.hid (fun h => by
    rw [ho]; unfold crossI lineI
    rw [← hn, ← hK, h, if_neg (by decide), ← hl1, ← hh1, ← hl2, ← hh2, ← heb, ← hf1, ← hf2, ← hb1, ← hb2])
  have K4 : K = 0 ∨ K = 1 ∨ K = 2 ∨ K = 3 := by rw [hK]; exact axI_four n
  have ol1 : l1.Ok := by rw [hl1]; exact lo2_ok hp hq
  have oh1 : h1.Ok := by rw [hh1]; exact hi2_ok hp hq
  have ol2 : l2.Ok := by rw [hl2]; exact lo2_ok hr hs
  have oh2 : h2.Ok := by rw [hh2]; exact hi2_ok hr hs
  have CS : Hid (∀ w1, Calls Tryz.prog 69 #[(.agg #[.int .i64 p.x, .int .i64 p.y, .int .i64 p.z]), (.agg #[.int .i64 q.x, .int .i64 q.y, .int .i64 q.z]), (.agg #[.int .i64 r.x, .int .i64 r.y, .int .i64 r.z]), (.agg #[.int .i64 s.x, .int .i64 s.y, .int .i64 s.z])] w1 fun e w' => e = .returned (.agg #[.int .i64 n.x, .int .i64 n.y, .int .i64 n.z]) ∧ Tch [] w1 w') := Lib.hid (fun w1 => by rw [hn]; exact rSigns p q r s hp hq hr hs w1)
  have CA : Hid (∀ w1, Calls Tryz.prog 68 #[(.agg #[.int .i64 n.x, .int .i64 n.y, .int .i64 n.z])] w1 fun e w' => e = .returned (.int .i64 K) ∧ Tch [] w1 w') := Lib.hid (fun w1 => by rw [hK]; exact raxis n w1)
  have C1 : Hid (∀ w1, Calls Tryz.prog 43 #[(.agg #[.int .i64 p.x, .int .i64 p.y, .int .i64 p.z]), (.agg #[.int .i64 q.x, .int .i64 q.y, .int .i64 q.z]), (.agg #[.int .i64 r.x, .int .i64 r.y, .int .i64 r.z])] w1 fun e w' => e = .returned (.agg #[.int .i64 n1.x, .int .i64 n1.y, .int .i64 n1.z]) ∧ Tch [] w1 w') := Lib.hid (fun w1 => by rw [hn1]; exact rNormals p q r hp hq hr w1)
  have C2 : Hid (∀ w1, Calls Tryz.prog 43 #[(.agg #[.int .i64 p.x, .int .i64 p.y, .int .i64 p.z]), (.agg #[.int .i64 q.x, .int .i64 q.y, .int .i64 q.z]), (.agg #[.int .i64 s.x, .int .i64 s.y, .int .i64 s.z])] w1 fun e w' => e = .returned (.agg #[.int .i64 n2.x, .int .i64 n2.y, .int .i64 n2.z]) ∧ Tch [] w1 w') := Lib.hid (fun w1 => by rw [hn2]; exact rNormals p q s hp hq hs w1)
  have C3 : Hid (∀ w1, Calls Tryz.prog 43 #[(.agg #[.int .i64 r.x, .int .i64 r.y, .int .i64 r.z]), (.agg #[.int .i64 s.x, .int .i64 s.y, .int .i64 s.z]), (.agg #[.int .i64 p.x, .int .i64 p.y, .int .i64 p.z])] w1 fun e w' => e = .returned (.agg #[.int .i64 n3.x, .int .i64 n3.y, .int .i64 n3.z]) ∧ Tch [] w1 w') := Lib.hid (fun w1 => by rw [hn3]; exact rNormals r s p hr hs hp w1)
  have C4 : Hid (∀ w1, Calls Tryz.prog 43 #[(.agg #[.int .i64 r.x, .int .i64 r.y, .int .i64 r.z]), (.agg #[.int .i64 s.x, .int .i64 s.y, .int .i64 s.z]), (.agg #[.int .i64 q.x, .int .i64 q.y, .int .i64 q.z])] w1 fun e w' => e = .returned (.agg #[.int .i64 n4.x, .int .i64 n4.y, .int .i64 n4.z]) ∧ Tch [] w1 w') := Lib.hid (fun w1 => by rw [hn4]; exact rNormals r s q hr hs hq w1)
  have CO : Hid (∀ w1, Calls Tryz.prog 23 #[(.agg #[.int .i64 p.x, .int .i64 p.y, .int .i64 p.z]), (.agg #[.int .i64 q.x, .int .i64 q.y, .int .i64 q.z]), (.agg #[.int .i64 r.x, .int .i64 r.y, .int .i64 r.z]), (.agg #[.int .i64 s.x, .int .i64 s.y, .int .i64 s.z])] w1 fun e w' => e = .returned (.int .i64 d) ∧ Tch [] w1 w') := Lib.hid (fun w1 => by rw [hd]; exact rOrient p q r s hp hq hr hs w1)
  have CE1 : Hid (∀ (g : Nat) (T : TypeId) (w1 : World), w1.heap[g]? = some (.cells #[.int .i64 p.x, .int .i64 p.y, .int .i64 p.z, .int .i64 q.x, .int .i64 q.y, .int .i64 q.z] T (0, 0)) → Calls Tryz.prog 36 #[.slice (some ⟨g, 0, none⟩) 2 2] w1 fun e w' => e = .returned (.tuple #[.agg #[.int .i64 l1.x, .int .i64 l1.y, .int .i64 l1.z], .agg #[.int .i64 h1.x, .int .i64 h1.y, .int .i64 h1.z]]) ∧ Tch [] w1 w') := Lib.hid (fun g T w1 hg => by rw [hl1, hh1]; exact rEnds2 g p q T w1 hg)
  have CE2 : Hid (∀ (g : Nat) (T : TypeId) (w1 : World), w1.heap[g]? = some (.cells #[.int .i64 r.x, .int .i64 r.y, .int .i64 r.z, .int .i64 s.x, .int .i64 s.y, .int .i64 s.z] T (0, 0)) → Calls Tryz.prog 36 #[.slice (some ⟨g, 0, none⟩) 2 2] w1 fun e w' => e = .returned (.tuple #[.agg #[.int .i64 l2.x, .int .i64 l2.y, .int .i64 l2.z], .agg #[.int .i64 h2.x, .int .i64 h2.y, .int .i64 h2.z]]) ∧ Tch [] w1 w') := Lib.hid (fun g T w1 hg => by rw [hl2, hh2]; exact rEnds2 g r s T w1 hg)
  have CF1 : Hid (∀ w1, Calls Tryz.prog 26 #[(.agg #[.int .i64 l1.x, .int .i64 l1.y, .int .i64 l1.z, .int .i64 h1.x, .int .i64 h1.y, .int .i64 h1.z, .int .i64 l2.x, .int .i64 l2.y, .int .i64 l2.z])] w1 fun e w' => e = .returned (.bool f1) ∧ Tch [] w1 w') := Lib.hid (fun w1 => by rw [hf1]; exact rFlat l1 h1 l2 ol1 oh1 ol2 w1)
  have CF2 : Hid (∀ w1, Calls Tryz.prog 26 #[(.agg #[.int .i64 l2.x, .int .i64 l2.y, .int .i64 l2.z, .int .i64 h2.x, .int .i64 h2.y, .int .i64 h2.z, .int .i64 l1.x, .int .i64 l1.y, .int .i64 l1.z])] w1 fun e w' => e = .returned (.bool f2) ∧ Tch [] w1 w') := Lib.hid (fun w1 => by rw [hf2]; exact rFlat l2 h2 l1 ol2 oh2 ol1 w1)
  have CB1 : Hid (∀ w1, Calls Tryz.prog 33 #[(.agg #[.int .i64 h1.x, .int .i64 h1.y, .int .i64 h1.z]), (.agg #[.int .i64 l2.x, .int .i64 l2.y, .int .i64 l2.z])] w1 fun e w' => e = .returned (.bool b1) ∧ Tch [] w1 w') := Lib.hid (fun w1 => by rw [hb1]; exact rLess h1 l2 w1)
  have CB2 : Hid (∀ w1, Calls Tryz.prog 33 #[(.agg #[.int .i64 h2.x, .int .i64 h2.y, .int .i64 h2.z]), (.agg #[.int .i64 l1.x, .int .i64 l1.y, .int .i64 l1.z])] w1 fun e w' => e = .returned (.bool b2) ∧ Tch [] w1 w') := Lib.hid (fun w1 => by rw [hb2]; exact rLess h2 l1 w1)
  have EB := Lib.hid heb
  have Ex := Lib.hid (And.intro e1x e2x)
  have Ey := Lib.hid (And.intro e1y e2y)
  have Ez := Lib.hid (And.intro e1z e2z)
  clear ho hn hK hn1 hn2 hn3 hn4 hd hl1 hh1 hl2 hh2 hf1 hf2 hb1 hb2 heb ol1 oh1 ol2 oh2 hp hq hr hs v1x v2x e1x e2x v1y v2y e1y e2y v1z v2z e1z e2z
  have F : Hid (Fr w ((((w.alloc (.cells #[.int .i64 p.x, .int .i64 p.y, .int .i64 p.z] 27)).alloc (.cells #[.int .i64 q.x, .int .i64 q.y, .int .i64 q.z] 27)).alloc (.cells #[.int .i64 r.x, .int .i64 r.y, .int .i64 r.z] 27)).alloc (.cells #[.int .i64 s.x, .int .i64 s.y, .int .i64 s.z] 27)) [(w.heap.size, .cells #[.int .i64 p.x, .int .i64 p.y, .int .i64 p.z] 27 (0, 0)), (w.heap.size + 1, .cells #[.int .i64 q.x, .int .i64 q.y, .int .i64 q.z] 27 (0, 0)), (w.heap.size + 1 + 1, .cells #[.int .i64 r.x, .int .i64 r.y, .int .i64 r.z] 27 (0, 0)), (w.heap.size + 1 + 1 + 1, .cells #[.int .i64 s.x, .int .i64 s.y, .int .i64 s.z] 27 (0, 0))]) := Lib.hid (((((Fr.nil w).add (.cells #[.int .i64 p.x, .int .i64 p.y, .int .i64 p.z] 27) (w.heap.size) rfl).add (.cells #[.int .i64 q.x, .int .i64 q.y, .int .i64 q.z] 27) (w.heap.size + 1) (by simp)).add (.cells #[.int .i64 r.x, .int .i64 r.y, .int .i64 r.z] 27) (w.heap.size + 1 + 1) (by simp)).add (.cells #[.int .i64 s.x, .int .i64 s.y, .int .i64 s.z] 27) (w.heap.size + 1 + 1 + 1) (by simp))
  have SF := Lib.hid (fun (w4 : World) (h : Fr w w4 [(w.heap.size, .cells #[.int .i64 p.x, .int .i64 p.y, .int .i64 p.z] 27 (0, 0)), (w.heap.size + 1, .cells #[.int .i64 q.x, .int .i64 q.y, .int .i64 q.z] 27 (0, 0)), (w.heap.size + 1 + 1, .cells #[.int .i64 r.x, .int .i64 r.y, .int .i64 r.z] 27 (0, 0)), (w.heap.size + 1 + 1 + 1, .cells #[.int .i64 s.x, .int .i64 s.y, .int .i64 s.z] 27 (0, 0))]) => And.intro (h.three 0 rfl) (And.intro (h.three 1 rfl) (And.intro (h.three 2 rfl) (h.three 3 rfl))))
  obtain ⟨p0, p1, p2⟩ := F.out.three 0 rfl; obtain ⟨q0, q1, q2⟩ := F.out.three 1 rfl; obtain ⟨r0, r1, r2⟩ := F.out.three 2 rfl; obtain ⟨s0, s1, s2⟩ := F.out.three 3 rfl
  go_enter Tryz.func37, Tryz.ntmps37
  go_wp2_with fail
  refine (CS.out _).mono ?_
  rintro e w1 ⟨rfl, hT⟩
  have F := Lib.hid (F.out.keep hT)
  clear hT CS p0 p1 p2 q0 q1 q2 r0 r1 r2 s0 s1 s2
  go_wp2_with fail
  refine (CA.out _).mono ?_
  rintro e w2 ⟨rfl, hT⟩
  have F := Lib.hid (F.out.keep hT)
  clear hT CA
  rcases K4 with rfl | rfl | rfl | rfl
  · have HV : Hid (o = decide (d = 0 ∧ m1x ≤ 0 ∧ m2x ≤ 0)) := Lib.hid (O0.out rfl)
    obtain ⟨e1, e2⟩ := Ex.out
    have X := idx3_0
    clear O0 O1 O2 O3 CE1 CE2 CF1 CF2 CB1 CB2 EB
    go_upto_region 3 with (fail)
    go_region_held3 (fun w' => (w'.cell? ⟨w.heap.size, 0, none⟩ = some (.int .i64 p.x) ∧ w'.cell? ⟨w.heap.size, 1, none⟩ = some (.int .i64 p.y) ∧ w'.cell? ⟨w.heap.size, 2, none⟩ = some (.int .i64 p.z)) ∧ (w'.cell? ⟨w.heap.size + 1, 0, none⟩ = some (.int .i64 q.x) ∧ w'.cell? ⟨w.heap.size + 1, 1, none⟩ = some (.int .i64 q.y) ∧ w'.cell? ⟨w.heap.size + 1, 2, none⟩ = some (.int .i64 q.z)) ∧ (w'.cell? ⟨w.heap.size + 1 + 1, 0, none⟩ = some (.int .i64 r.x) ∧ w'.cell? ⟨w.heap.size + 1 + 1, 1, none⟩ = some (.int .i64 r.y) ∧ w'.cell? ⟨w.heap.size + 1 + 1, 2, none⟩ = some (.int .i64 r.z)) ∧ (w'.cell? ⟨w.heap.size + 1 + 1 + 1, 0, none⟩ = some (.int .i64 s.x) ∧ w'.cell? ⟨w.heap.size + 1 + 1 + 1, 1, none⟩ = some (.int .i64 s.y) ∧ w'.cell? ⟨w.heap.size + 1 + 1 + 1, 2, none⟩ = some (.int .i64 s.z))) (first | with_reducible exact SF.out _ F.out | with_reducible exact SF.out _ F.out.drew) (first
      | (go_at_call 43; (first | (with_reducible refine (C1.out _).mono ?_) | (with_reducible refine (C2.out _).mono ?_)); rintro e w5 ⟨rfl, hT⟩; (first | (with_reducible have F := Lib.hid (F.out.keep hT)) | (have F := Lib.hid (F.out.drew.keep hT))); clear hT)
      | fail)
    all_goals
    go_upto_region 4 with (fail)
    go_region_held3 (fun w' => (w'.cell? ⟨w.heap.size, 0, none⟩ = some (.int .i64 p.x) ∧ w'.cell? ⟨w.heap.size, 1, none⟩ = some (.int .i64 p.y) ∧ w'.cell? ⟨w.heap.size, 2, none⟩ = some (.int .i64 p.z)) ∧ (w'.cell? ⟨w.heap.size + 1, 0, none⟩ = some (.int .i64 q.x) ∧ w'.cell? ⟨w.heap.size + 1, 1, none⟩ = some (.int .i64 q.y) ∧ w'.cell? ⟨w.heap.size + 1, 2, none⟩ = some (.int .i64 q.z)) ∧ (w'.cell? ⟨w.heap.size + 1 + 1, 0, none⟩ = some (.int .i64 r.x) ∧ w'.cell? ⟨w.heap.size + 1 + 1, 1, none⟩ = some (.int .i64 r.y) ∧ w'.cell? ⟨w.heap.size + 1 + 1, 2, none⟩ = some (.int .i64 r.z)) ∧ (w'.cell? ⟨w.heap.size + 1 + 1 + 1, 0, none⟩ = some (.int .i64 s.x) ∧ w'.cell? ⟨w.heap.size + 1 + 1 + 1, 1, none⟩ = some (.int .i64 s.y) ∧ w'.cell? ⟨w.heap.size + 1 + 1 + 1, 2, none⟩ = some (.int .i64 s.z))) (first | with_reducible exact SF.out _ F.out | with_reducible exact SF.out _ F.out.drew) (first
      | (go_at_call 43; (first | (with_reducible refine (C3.out _).mono ?_) | (with_reducible refine (C4.out _).mono ?_)); rintro e w5 ⟨rfl, hT⟩; (first | (with_reducible have F := Lib.hid (F.out.keep hT)) | (have F := Lib.hid (F.out.drew.keep hT))); clear hT)
      | fail)
    all_goals
    clear X C1 C2 C3 C4
    obtain ⟨p0, p1, p2⟩ := F.out.three 0 rfl; obtain ⟨q0, q1, q2⟩ := F.out.three 1 rfl; obtain ⟨r0, r1, r2⟩ := F.out.three 2 rfl; obtain ⟨s0, s1, s2⟩ := F.out.three 3 rfl
    go_wp2_with fail
    refine (CO.out _).mono ?_
    rintro e w6 ⟨rfl, hT⟩
    have F := Lib.hid (F.out.keep hT)
    clear hT CO p0 p1 p2 q0 q1 q2 r0 r1 r2 s0 s1 s2
    clear e1 e2
    by_cases hd : d = 0
    · subst hd
      by_cases g1 : m1x ≤ 0
      · by_cases g2 : m2x ≤ 0
        · have HW : Hid (o = true) := Lib.hid (by rw [HV.out]; exact decide_eq_true ⟨rfl, g1, g2⟩)
          go_wp2
          go_ret
          exact ⟨by rw [HW.out]; rfl, F.out.t⟩
        · have HW : Hid (o = false) := Lib.hid (by rw [HV.out]; exact decide_eq_false (fun g => g2 g.2.2))
          have G2 := Lib.hid g2
          go_wp2
          go_ret
          exact ⟨by rw [HW.out]; first | rfl | (show Ending.returned (.bool (decide (m2x ≤ 0))) = _; rw [decide_eq_false (by have := G2.out; omega)]), F.out.t⟩
      · have HW : Hid (o = false) := Lib.hid (by rw [HV.out]; exact decide_eq_false (fun g => g1 g.2.1))
        go_wp2
        go_ret
        exact ⟨by rw [HW.out]; rfl, F.out.t⟩
    · have hb : (d == 0) = false := beq_eq_false_iff_ne.2 hd
      have HW : Hid (o = false) := Lib.hid (by rw [HV.out]; exact decide_eq_false (fun g => hd g.1))
      clear hd
      go_wp2
      go_ret
      exact ⟨by rw [HW.out]; rfl, F.out.t⟩
  · have HV : Hid (o = decide (d = 0 ∧ m1y ≤ 0 ∧ m2y ≤ 0)) := Lib.hid (O1.out rfl)
    obtain ⟨e1, e2⟩ := Ey.out
    have X := idx3_1
    clear O0 O1 O2 O3 CE1 CE2 CF1 CF2 CB1 CB2 EB
    go_upto_region 3 with (fail)
    go_region_held3 (fun w' => (w'.cell? ⟨w.heap.size, 0, none⟩ = some (.int .i64 p.x) ∧ w'.cell? ⟨w.heap.size, 1, none⟩ = some (.int .i64 p.y) ∧ w'.cell? ⟨w.heap.size, 2, none⟩ = some (.int .i64 p.z)) ∧ (w'.cell? ⟨w.heap.size + 1, 0, none⟩ = some (.int .i64 q.x) ∧ w'.cell? ⟨w.heap.size + 1, 1, none⟩ = some (.int .i64 q.y) ∧ w'.cell? ⟨w.heap.size + 1, 2, none⟩ = some (.int .i64 q.z)) ∧ (w'.cell? ⟨w.heap.size + 1 + 1, 0, none⟩ = some (.int .i64 r.x) ∧ w'.cell? ⟨w.heap.size + 1 + 1, 1, none⟩ = some (.int .i64 r.y) ∧ w'.cell? ⟨w.heap.size + 1 + 1, 2, none⟩ = some (.int .i64 r.z)) ∧ (w'.cell? ⟨w.heap.size + 1 + 1 + 1, 0, none⟩ = some (.int .i64 s.x) ∧ w'.cell? ⟨w.heap.size + 1 + 1 + 1, 1, none⟩ = some (.int .i64 s.y) ∧ w'.cell? ⟨w.heap.size + 1 + 1 + 1, 2, none⟩ = some (.int .i64 s.z))) (first | with_reducible exact SF.out _ F.out | with_reducible exact SF.out _ F.out.drew) (first
      | (go_at_call 43; (first | (with_reducible refine (C1.out _).mono ?_) | (with_reducible refine (C2.out _).mono ?_)); rintro e w5 ⟨rfl, hT⟩; (first | (with_reducible have F := Lib.hid (F.out.keep hT)) | (have F := Lib.hid (F.out.drew.keep hT))); clear hT)
      | fail)
    all_goals
    go_upto_region 4 with (fail)
    go_region_held3 (fun w' => (w'.cell? ⟨w.heap.size, 0, none⟩ = some (.int .i64 p.x) ∧ w'.cell? ⟨w.heap.size, 1, none⟩ = some (.int .i64 p.y) ∧ w'.cell? ⟨w.heap.size, 2, none⟩ = some (.int .i64 p.z)) ∧ (w'.cell? ⟨w.heap.size + 1, 0, none⟩ = some (.int .i64 q.x) ∧ w'.cell? ⟨w.heap.size + 1, 1, none⟩ = some (.int .i64 q.y) ∧ w'.cell? ⟨w.heap.size + 1, 2, none⟩ = some (.int .i64 q.z)) ∧ (w'.cell? ⟨w.heap.size + 1 + 1, 0, none⟩ = some (.int .i64 r.x) ∧ w'.cell? ⟨w.heap.size + 1 + 1, 1, none⟩ = some (.int .i64 r.y) ∧ w'.cell? ⟨w.heap.size + 1 + 1, 2, none⟩ = some (.int .i64 r.z)) ∧ (w'.cell? ⟨w.heap.size + 1 + 1 + 1, 0, none⟩ = some (.int .i64 s.x) ∧ w'.cell? ⟨w.heap.size + 1 + 1 + 1, 1, none⟩ = some (.int .i64 s.y) ∧ w'.cell? ⟨w.heap.size + 1 + 1 + 1, 2, none⟩ = some (.int .i64 s.z))) (first | with_reducible exact SF.out _ F.out | with_reducible exact SF.out _ F.out.drew) (first
      | (go_at_call 43; (first | (with_reducible refine (C3.out _).mono ?_) | (with_reducible refine (C4.out _).mono ?_)); rintro e w5 ⟨rfl, hT⟩; (first | (with_reducible have F := Lib.hid (F.out.keep hT)) | (have F := Lib.hid (F.out.drew.keep hT))); clear hT)
      | fail)
    all_goals
    clear X C1 C2 C3 C4
    obtain ⟨p0, p1, p2⟩ := F.out.three 0 rfl; obtain ⟨q0, q1, q2⟩ := F.out.three 1 rfl; obtain ⟨r0, r1, r2⟩ := F.out.three 2 rfl; obtain ⟨s0, s1, s2⟩ := F.out.three 3 rfl
    go_wp2_with fail
    refine (CO.out _).mono ?_
    rintro e w6 ⟨rfl, hT⟩
    have F := Lib.hid (F.out.keep hT)
    clear hT CO p0 p1 p2 q0 q1 q2 r0 r1 r2 s0 s1 s2
    clear e1 e2
    by_cases hd : d = 0
    · subst hd
      by_cases g1 : m1y ≤ 0
      · by_cases g2 : m2y ≤ 0
        · have HW : Hid (o = true) := Lib.hid (by rw [HV.out]; exact decide_eq_true ⟨rfl, g1, g2⟩)
          go_wp2
          go_ret
          exact ⟨by rw [HW.out]; rfl, F.out.t⟩
        · have HW : Hid (o = false) := Lib.hid (by rw [HV.out]; exact decide_eq_false (fun g => g2 g.2.2))
          have G2 := Lib.hid g2
          go_wp2
          go_ret
          exact ⟨by rw [HW.out]; first | rfl | (show Ending.returned (.bool (decide (m2y ≤ 0))) = _; rw [decide_eq_false (by have := G2.out; omega)]), F.out.t⟩
      · have HW : Hid (o = false) := Lib.hid (by rw [HV.out]; exact decide_eq_false (fun g => g1 g.2.1))
        go_wp2
        go_ret
        exact ⟨by rw [HW.out]; rfl, F.out.t⟩
    · have hb : (d == 0) = false := beq_eq_false_iff_ne.2 hd
      have HW : Hid (o = false) := Lib.hid (by rw [HV.out]; exact decide_eq_false (fun g => hd g.1))
      clear hd
      go_wp2
      go_ret
      exact ⟨by rw [HW.out]; rfl, F.out.t⟩
  · have HV : Hid (o = decide (d = 0 ∧ m1z ≤ 0 ∧ m2z ≤ 0)) := Lib.hid (O2.out rfl)
    obtain ⟨e1, e2⟩ := Ez.out
    have X := idx3_2
    clear O0 O1 O2 O3 CE1 CE2 CF1 CF2 CB1 CB2 EB
    go_upto_region 3 with (fail)
    go_region_held3 (fun w' => (w'.cell? ⟨w.heap.size, 0, none⟩ = some (.int .i64 p.x) ∧ w'.cell? ⟨w.heap.size, 1, none⟩ = some (.int .i64 p.y) ∧ w'.cell? ⟨w.heap.size, 2, none⟩ = some (.int .i64 p.z)) ∧ (w'.cell? ⟨w.heap.size + 1, 0, none⟩ = some (.int .i64 q.x) ∧ w'.cell? ⟨w.heap.size + 1, 1, none⟩ = some (.int .i64 q.y) ∧ w'.cell? ⟨w.heap.size + 1, 2, none⟩ = some (.int .i64 q.z)) ∧ (w'.cell? ⟨w.heap.size + 1 + 1, 0, none⟩ = some (.int .i64 r.x) ∧ w'.cell? ⟨w.heap.size + 1 + 1, 1, none⟩ = some (.int .i64 r.y) ∧ w'.cell? ⟨w.heap.size + 1 + 1, 2, none⟩ = some (.int .i64 r.z)) ∧ (w'.cell? ⟨w.heap.size + 1 + 1 + 1, 0, none⟩ = some (.int .i64 s.x) ∧ w'.cell? ⟨w.heap.size + 1 + 1 + 1, 1, none⟩ = some (.int .i64 s.y) ∧ w'.cell? ⟨w.heap.size + 1 + 1 + 1, 2, none⟩ = some (.int .i64 s.z))) (first | with_reducible exact SF.out _ F.out | with_reducible exact SF.out _ F.out.drew) (first
      | (go_at_call 43; (first | (with_reducible refine (C1.out _).mono ?_) | (with_reducible refine (C2.out _).mono ?_)); rintro e w5 ⟨rfl, hT⟩; (first | (with_reducible have F := Lib.hid (F.out.keep hT)) | (have F := Lib.hid (F.out.drew.keep hT))); clear hT)
      | fail)
    all_goals
    go_upto_region 4 with (fail)
    go_region_held3 (fun w' => (w'.cell? ⟨w.heap.size, 0, none⟩ = some (.int .i64 p.x) ∧ w'.cell? ⟨w.heap.size, 1, none⟩ = some (.int .i64 p.y) ∧ w'.cell? ⟨w.heap.size, 2, none⟩ = some (.int .i64 p.z)) ∧ (w'.cell? ⟨w.heap.size + 1, 0, none⟩ = some (.int .i64 q.x) ∧ w'.cell? ⟨w.heap.size + 1, 1, none⟩ = some (.int .i64 q.y) ∧ w'.cell? ⟨w.heap.size + 1, 2, none⟩ = some (.int .i64 q.z)) ∧ (w'.cell? ⟨w.heap.size + 1 + 1, 0, none⟩ = some (.int .i64 r.x) ∧ w'.cell? ⟨w.heap.size + 1 + 1, 1, none⟩ = some (.int .i64 r.y) ∧ w'.cell? ⟨w.heap.size + 1 + 1, 2, none⟩ = some (.int .i64 r.z)) ∧ (w'.cell? ⟨w.heap.size + 1 + 1 + 1, 0, none⟩ = some (.int .i64 s.x) ∧ w'.cell? ⟨w.heap.size + 1 + 1 + 1, 1, none⟩ = some (.int .i64 s.y) ∧ w'.cell? ⟨w.heap.size + 1 + 1 + 1, 2, none⟩ = some (.int .i64 s.z))) (first | with_reducible exact SF.out _ F.out | with_reducible exact SF.out _ F.out.drew) (first
      | (go_at_call 43; (first | (with_reducible refine (C3.out _).mono ?_) | (with_reducible refine (C4.out _).mono ?_)); rintro e w5 ⟨rfl, hT⟩; (first | (with_reducible have F := Lib.hid (F.out.keep hT)) | (have F := Lib.hid (F.out.drew.keep hT))); clear hT)
      | fail)
    all_goals
    clear X C1 C2 C3 C4
    obtain ⟨p0, p1, p2⟩ := F.out.three 0 rfl; obtain ⟨q0, q1, q2⟩ := F.out.three 1 rfl; obtain ⟨r0, r1, r2⟩ := F.out.three 2 rfl; obtain ⟨s0, s1, s2⟩ := F.out.three 3 rfl
    go_wp2_with fail
    refine (CO.out _).mono ?_
    rintro e w6 ⟨rfl, hT⟩
    have F := Lib.hid (F.out.keep hT)
    clear hT CO p0 p1 p2 q0 q1 q2 r0 r1 r2 s0 s1 s2
    clear e1 e2
    by_cases hd : d = 0
    · subst hd
      by_cases g1 : m1z ≤ 0
      · by_cases g2 : m2z ≤ 0
        · have HW : Hid (o = true) := Lib.hid (by rw [HV.out]; exact decide_eq_true ⟨rfl, g1, g2⟩)
          go_wp2
          go_ret
          exact ⟨by rw [HW.out]; rfl, F.out.t⟩
        · have HW : Hid (o = false) := Lib.hid (by rw [HV.out]; exact decide_eq_false (fun g => g2 g.2.2))
          have G2 := Lib.hid g2
          go_wp2
          go_ret
          exact ⟨by rw [HW.out]; first | rfl | (show Ending.returned (.bool (decide (m2z ≤ 0))) = _; rw [decide_eq_false (by have := G2.out; omega)]), F.out.t⟩
      · have HW : Hid (o = false) := Lib.hid (by rw [HV.out]; exact decide_eq_false (fun g => g1 g.2.1))
        go_wp2
        go_ret
        exact ⟨by rw [HW.out]; rfl, F.out.t⟩
    · have hb : (d == 0) = false := beq_eq_false_iff_ne.2 hd
      have HW : Hid (o = false) := Lib.hid (by rw [HV.out]; exact decide_eq_false (fun g => hd g.1))
      clear hd
      go_wp2
      go_ret
      exact ⟨by rw [HW.out]; rfl, F.out.t⟩
  · have HV : Hid (o = ((if eb then f2 else f1) && !b1 && !b2)) := Lib.hid (O3.out rfl)
    clear O0 O1 O2 O3 C1 C2 C3 C4 CO Ex Ey Ez SF
    obtain ⟨p0, p1, p2⟩ := F.out.three 0 rfl; obtain ⟨q0, q1, q2⟩ := F.out.three 1 rfl; obtain ⟨r0, r1, r2⟩ := F.out.three 2 rfl; obtain ⟨s0, s1, s2⟩ := F.out.three 3 rfl
    go_wp2_with fail
    have F2 := F.out.add (.cells #[.int .i64 p.x, .int .i64 p.y, .int .i64 p.z, .int .i64 q.x, .int .i64 q.y, .int .i64 q.z] 27) w2.heap.size rfl
    have hg := F2.row (w2.heap.size, .cells #[.int .i64 p.x, .int .i64 p.y, .int .i64 p.z, .int .i64 q.x, .int .i64 q.y, .int .i64 q.z] 27 (0, 0)) (by simp)
    clear F2
    refine (CE1.out _ 27 _ hg).mono ?_
    clear hg
    rintro e w3 ⟨rfl, hT⟩
    have F := Lib.hid ((((F.out.beside _).keep hT).add (.cells #[.int .i64 l1.x, .int .i64 l1.y, .int .i64 l1.z] 27) w3.heap.size rfl).add (.cells #[.int .i64 h1.x, .int .i64 h1.y, .int .i64 h1.z] 27) (w3.heap.size + 1) (by simp))
    clear hT CE1 p0 p1 p2 q0 q1 q2 r0 r1 r2 s0 s1 s2
    obtain ⟨r0, r1, r2⟩ := F.out.three 2 rfl
    obtain ⟨s0, s1, s2⟩ := F.out.three 3 rfl
    go_wp2_with fail
    obtain ⟨V, hV⟩ : ∃ V, V = (w3.alloc (.cells #[.int .i64 l1.x, .int .i64 l1.y, .int .i64 l1.z] 27)).alloc (.cells #[.int .i64 h1.x, .int .i64 h1.y, .int .i64 h1.z] 27) := ⟨_, rfl⟩
    have hsz : V.heap.size = w3.heap.size + 1 + 1 := by rw [hV]; simp
    rw [← hV] at F ⊢
    clear hV
    have F2 := F.out.add (.cells #[.int .i64 r.x, .int .i64 r.y, .int .i64 r.z, .int .i64 s.x, .int .i64 s.y, .int .i64 s.z] 27) (w3.heap.size + 1 + 1) hsz
    have hg := F2.row (w3.heap.size + 1 + 1, .cells #[.int .i64 r.x, .int .i64 r.y, .int .i64 r.z, .int .i64 s.x, .int .i64 s.y, .int .i64 s.z] 27 (0, 0)) (by simp)
    clear F2 hsz
    refine (CE2.out _ 27 _ hg).mono ?_
    clear hg
    rintro e w4 ⟨rfl, hT⟩
    have F := Lib.hid ((((F.out.beside _).keep hT).add (.cells #[.int .i64 l2.x, .int .i64 l2.y, .int .i64 l2.z] 27) w4.heap.size rfl).add (.cells #[.int .i64 h2.x, .int .i64 h2.y, .int .i64 h2.z] 27) (w4.heap.size + 1) (by simp))
    clear hT CE2 r0 r1 r2 s0 s1 s2
    obtain ⟨p0, p1, p2⟩ := F.out.three 4 rfl; obtain ⟨q0, q1, q2⟩ := F.out.three 5 rfl; obtain ⟨r0, r1, r2⟩ := F.out.three 6 rfl; obtain ⟨s0, s1, s2⟩ := F.out.three 7 rfl
    go_upto_region 9 with (fail)
    have FB := Lib.hid (F.out.boxedAt (.cells #[.int .i64 l1.x, .int .i64 l1.y, .int .i64 l1.z, .int .i64 h1.x, .int .i64 h1.y, .int .i64 h1.z, .int .i64 l2.x, .int .i64 l2.y, .int .i64 l2.z] 33) (w4.heap.size + 1 + 1) (by simp) (Tch.refl [] _))
    obtain ⟨V, hV⟩ : ∃ V, V = ((w4.alloc (.cells #[.int .i64 l2.x, .int .i64 l2.y, .int .i64 l2.z] 27)).alloc (.cells #[.int .i64 h2.x, .int .i64 h2.y, .int .i64 h2.z] 27)).alloc (.cells #[.int .i64 l1.x, .int .i64 l1.y, .int .i64 l1.z, .int .i64 h1.x, .int .i64 h1.y, .int .i64 h1.z, .int .i64 l2.x, .int .i64 l2.y, .int .i64 l2.z] 33) := ⟨_, rfl⟩
    rw [← hV] at FB ⊢
    clear hV F p0 p1 p2 q0 q1 q2 r0 r1 r2 s0 s1 s2
    obtain ⟨l, G, SF0⟩ : ∃ l, FrB w V l (w4.heap.size + 1 + 1) (.cells #[.int .i64 l1.x, .int .i64 l1.y, .int .i64 l1.z, .int .i64 h1.x, .int .i64 h1.y, .int .i64 h1.z, .int .i64 l2.x, .int .i64 l2.y, .int .i64 l2.z] 33) ∧ (∀ w', Fr w w' l → (w'.cell? ⟨w3.heap.size, 0, none⟩ = some (.int .i64 l1.x) ∧ w'.cell? ⟨w3.heap.size, 1, none⟩ = some (.int .i64 l1.y) ∧ w'.cell? ⟨w3.heap.size, 2, none⟩ = some (.int .i64 l1.z)) ∧ (w'.cell? ⟨w3.heap.size + 1, 0, none⟩ = some (.int .i64 h1.x) ∧ w'.cell? ⟨w3.heap.size + 1, 1, none⟩ = some (.int .i64 h1.y) ∧ w'.cell? ⟨w3.heap.size + 1, 2, none⟩ = some (.int .i64 h1.z)) ∧ (w'.cell? ⟨w4.heap.size, 0, none⟩ = some (.int .i64 l2.x) ∧ w'.cell? ⟨w4.heap.size, 1, none⟩ = some (.int .i64 l2.y) ∧ w'.cell? ⟨w4.heap.size, 2, none⟩ = some (.int .i64 l2.z)) ∧ (w'.cell? ⟨w4.heap.size + 1, 0, none⟩ = some (.int .i64 h2.x) ∧ w'.cell? ⟨w4.heap.size + 1, 1, none⟩ = some (.int .i64 h2.y) ∧ w'.cell? ⟨w4.heap.size + 1, 2, none⟩ = some (.int .i64 h2.z))) :=
      ⟨_, FB.out, fun w' h => ⟨h.three 4 rfl, h.three 5 rfl, h.three 6 rfl, h.three 7 rfl⟩⟩
    clear FB
    have FB := Lib.hid G
    have SF := Lib.hid SF0
    clear G SF0
    obtain ⟨⟨p0, p1, p2⟩, ⟨q0, q1, q2⟩, ⟨r0, r1, r2⟩, s0, s1, s2⟩ := SF.out _ FB.out.f
    obtain ⟨⟨x0, x1, x2, x3, x4, x5, x6, x7, x8⟩, ⟨f_0, f_1, f_2, f_3, f_4, f_5, f_6, f_7, f_8⟩⟩ := FB.out.nine
    cases eb
    · have eb1 : ptE l1 h1 = false := EB.out.symm
      clear EB
      go_wp2_with fail
      refine (CF1.out _).mono ?_
      rintro e w5 ⟨rfl, hT⟩
      have FB := Lib.hid (FB.out.keep hT)
      clear hT CF1 CF2 eb1 p0 p1 p2 q0 q1 q2 r0 r1 r2 s0 s1 s2 x0 f_0 x1 f_1 x2 f_2 x3 f_3 x4 f_4 x5 f_5 x6 f_6 x7 f_7 x8 f_8
      obtain ⟨⟨p0, p1, p2⟩, ⟨q0, q1, q2⟩, ⟨r0, r1, r2⟩, s0, s1, s2⟩ := SF.out _ FB.out.f
      go_wp2_with fail
      refine (CB1.out _).mono ?_
      rintro e w6 ⟨rfl, hT⟩
      have FB := Lib.hid (FB.out.keep hT)
      clear hT CB1 p0 p1 p2 q0 q1 q2 r0 r1 r2 s0 s1 s2
      obtain ⟨⟨p0, p1, p2⟩, ⟨q0, q1, q2⟩, ⟨r0, r1, r2⟩, s0, s1, s2⟩ := SF.out _ FB.out.f
      go_wp2_with fail
      refine (CB2.out _).mono ?_
      rintro e w7 ⟨rfl, hT⟩
      have FB := Lib.hid (FB.out.keep hT)
      clear hT CB2 p0 p1 p2 q0 q1 q2 r0 r1 r2 s0 s1 s2
      cases f1 <;> cases b1 <;> cases b2
      all_goals
        go_wp2
        go_ret
        exact ⟨by rw [HV.out]; rfl, FB.out.f.t⟩
    · have eb1 : ptE l1 h1 = true := EB.out.symm
      clear EB
      go_wp2_with fail
      have FB := Lib.hid (FB.out.put9 (.int .i64 l2.x) (.int .i64 l2.y) (.int .i64 l2.z) (.int .i64 h2.x) (.int .i64 h2.y) (.int .i64 h2.z) (.int .i64 l1.x) (.int .i64 l1.y) (.int .i64 l1.z))
      refine (CF2.out _).mono ?_
      rintro e w5 ⟨rfl, hT⟩
      have FB := Lib.hid (FB.out.keep hT)
      clear hT CF1 CF2 eb1 p0 p1 p2 q0 q1 q2 r0 r1 r2 s0 s1 s2 x0 f_0 x1 f_1 x2 f_2 x3 f_3 x4 f_4 x5 f_5 x6 f_6 x7 f_7 x8 f_8
      obtain ⟨⟨p0, p1, p2⟩, ⟨q0, q1, q2⟩, ⟨r0, r1, r2⟩, s0, s1, s2⟩ := SF.out _ FB.out.f
      go_wp2_with fail
      refine (CB1.out _).mono ?_
      rintro e w6 ⟨rfl, hT⟩
      have FB := Lib.hid (FB.out.keep hT)
      clear hT CB1 p0 p1 p2 q0 q1 q2 r0 r1 r2 s0 s1 s2
      obtain ⟨⟨p0, p1, p2⟩, ⟨q0, q1, q2⟩, ⟨r0, r1, r2⟩, s0, s1, s2⟩ := SF.out _ FB.out.f
      go_wp2_with fail
      refine (CB2.out _).mono ?_
      rintro e w7 ⟨rfl, hT⟩
      have FB := Lib.hid (FB.out.keep hT)
      clear hT CB2 p0 p1 p2 q0 q1 q2 r0 r1 r2 s0 s1 s2
      cases f2 <;> cases b1 <;> cases b2
      all_goals
        go_wp2
        go_ret
        exact ⟨by rw [HV.out]; rfl, FB.out.f.t⟩

end Go.Proofs.YtandlbacjfdkpaaGreatDoor
namespace Go.Proofs.YtandlbacjfdkpaaGreatDoor
open Go Go.RowKit Dg

set_option maxHeartbeats 16000000 in
set_option maxRecDepth 100000 in
theorem rWithin (p a b c : P3) (hp : p.Ok) (ha : a.Ok) (hb : b.Ok) (hc : c.Ok) (hf : flatI a b c = false) (w : World) :
    Calls Tryz.prog 38 #[(.agg #[.int .i64 p.x, .int .i64 p.y, .int .i64 p.z]), (.agg #[.int .i64 a.x, .int .i64 a.y, .int .i64 a.z, .int .i64 b.x, .int .i64 b.y, .int .i64 b.z, .int .i64 c.x, .int .i64 c.y, .int .i64 c.z])] w fun e w' => e = .returned (.bool (withinI p a b c)) ∧ Tch [] w w' := by
  obtain ⟨o, ho⟩ : ∃ u, u = withinI p a b c := ⟨_, rfl⟩
  rw [← ho]
  obtain ⟨n, hn⟩ : ∃ u, u = nmsI a b c := ⟨_, rfl⟩
  obtain ⟨K, hK⟩ : ∃ u, u = axI n := ⟨_, rfl⟩
  obtain ⟨n1, hn1⟩ : ∃ u, u = nmsI a b p := ⟨_, rfl⟩
  obtain ⟨n2, hn2⟩ : ∃ u, u = nmsI b c p := ⟨_, rfl⟩
  obtain ⟨n3, hn3⟩ : ∃ u, u = nmsI c a p := ⟨_, rfl⟩
  have O0 : Hid (K = 0 → o = decide ((0 ≤ n1.x ∧ 0 ≤ n2.x ∧ 0 ≤ n3.x) ∨ (n1.x ≤ 0 ∧ n2.x ≤ 0 ∧ n3.x ≤ 0))) := Lib.hid (fun h => by
    rw [ho]; unfold withinI
    rw [← hn, ← hK, h, ← hn1, ← hn2, ← hn3]; rfl)
  have O1 : Hid (K = 1 → o = decide ((0 ≤ n1.y ∧ 0 ≤ n2.y ∧ 0 ≤ n3.y) ∨ (n1.y ≤ 0 ∧ n2.y ≤ 0 ∧ n3.y ≤ 0))) := Lib.hid (fun h => by
    rw [ho]; unfold withinI
    rw [← hn, ← hK, h, ← hn1, ← hn2, ← hn3]; rfl)
  have O2 : Hid (K = 2 → o = decide ((0 ≤ n1.z ∧ 0 ≤ n2.z ∧ 0 ≤ n3.z) ∨ (n1.z ≤ 0 ∧ n2.z ≤ 0 ∧ n3.z ≤ 0))) := Lib.hid (fun h => by
    rw [ho]; unfold withinI
    rw [← hn, ← hK, h, ← hn1, ← hn2, ← hn3]; rfl)
  have K4 : K = 0 ∨ K = 1 ∨ K = 2 := by
    rcases axI_four n with h | h | h | h
    · exact .inl (hK.trans h)
    · exact .inr (.inl (hK.trans h))
    · exact .inr (.inr (hK.trans h))
    · exfalso
      rcases axI_lt n with ⟨g, _⟩ | ⟨_, g⟩
      · omega
      · have q := flat_sgn a b c
        rw [hf, ← hn, g] at q
        simp at q
  have CA : Hid (∀ w1, Calls Tryz.prog 68 #[(.agg #[.int .i64 n.x, .int .i64 n.y, .int .i64 n.z])] w1 fun e w' => e = .returned (.int .i64 K) ∧ Tch [] w1 w') := Lib.hid (fun w1 => by rw [hK]; exact raxis n w1)
  have C0 : Hid (∀ w1, Calls Tryz.prog 43 #[(.agg #[.int .i64 a.x, .int .i64 a.y, .int .i64 a.z]), (.agg #[.int .i64 b.x, .int .i64 b.y, .int .i64 b.z]), (.agg #[.int .i64 c.x, .int .i64 c.y, .int .i64 c.z])] w1 fun e w' => e = .returned (.agg #[.int .i64 n.x, .int .i64 n.y, .int .i64 n.z]) ∧ Tch [] w1 w') := Lib.hid (fun w1 => by rw [hn]; exact rNormals a b c ha hb hc w1)
  have C1 : Hid (∀ w1, Calls Tryz.prog 43 #[(.agg #[.int .i64 a.x, .int .i64 a.y, .int .i64 a.z]), (.agg #[.int .i64 b.x, .int .i64 b.y, .int .i64 b.z]), (.agg #[.int .i64 p.x, .int .i64 p.y, .int .i64 p.z])] w1 fun e w' => e = .returned (.agg #[.int .i64 n1.x, .int .i64 n1.y, .int .i64 n1.z]) ∧ Tch [] w1 w') := Lib.hid (fun w1 => by rw [hn1]; exact rNormals a b p ha hb hp w1)
  have C2 : Hid (∀ w1, Calls Tryz.prog 43 #[(.agg #[.int .i64 b.x, .int .i64 b.y, .int .i64 b.z]), (.agg #[.int .i64 c.x, .int .i64 c.y, .int .i64 c.z]), (.agg #[.int .i64 p.x, .int .i64 p.y, .int .i64 p.z])] w1 fun e w' => e = .returned (.agg #[.int .i64 n2.x, .int .i64 n2.y, .int .i64 n2.z]) ∧ Tch [] w1 w') := Lib.hid (fun w1 => by rw [hn2]; exact rNormals b c p hb hc hp w1)
  have C3 : Hid (∀ w1, Calls Tryz.prog 43 #[(.agg #[.int .i64 c.x, .int .i64 c.y, .int .i64 c.z]), (.agg #[.int .i64 a.x, .int .i64 a.y, .int .i64 a.z]), (.agg #[.int .i64 p.x, .int .i64 p.y, .int .i64 p.z])] w1 fun e w' => e = .returned (.agg #[.int .i64 n3.x, .int .i64 n3.y, .int .i64 n3.z]) ∧ Tch [] w1 w') := Lib.hid (fun w1 => by rw [hn3]; exact rNormals c a p hc ha hp w1)
  clear ho hn hK hn1 hn2 hn3 hp ha hb hc hf
  have F : Hid (Fr w ((w.alloc (.cells #[.int .i64 p.x, .int .i64 p.y, .int .i64 p.z] 27)).alloc (.cells #[.int .i64 a.x, .int .i64 a.y, .int .i64 a.z, .int .i64 b.x, .int .i64 b.y, .int .i64 b.z, .int .i64 c.x, .int .i64 c.y, .int .i64 c.z] 33)) [(w.heap.size, .cells #[.int .i64 p.x, .int .i64 p.y, .int .i64 p.z] 27 (0, 0)), (w.heap.size + 1, .cells #[.int .i64 a.x, .int .i64 a.y, .int .i64 a.z, .int .i64 b.x, .int .i64 b.y, .int .i64 b.z, .int .i64 c.x, .int .i64 c.y, .int .i64 c.z] 33 (0, 0))]) := Lib.hid (((Fr.nil w).add (.cells #[.int .i64 p.x, .int .i64 p.y, .int .i64 p.z] 27) (w.heap.size) rfl).add (.cells #[.int .i64 a.x, .int .i64 a.y, .int .i64 a.z, .int .i64 b.x, .int .i64 b.y, .int .i64 b.z, .int .i64 c.x, .int .i64 c.y, .int .i64 c.z] 33) (w.heap.size + 1) (by simp))
  obtain ⟨p0, p1, p2⟩ := F.out.three 0 rfl; obtain ⟨⟨x0, x1, x2⟩, ⟨x3, x4, x5⟩, x6, x7, x8⟩ := F.out.nine 1 rfl
  go_enter Tryz.func38, Tryz.ntmps38
  go_wp2_with fail
  refine (C0.out _).mono ?_
  rintro e w1 ⟨rfl, hT⟩
  have F := Lib.hid (F.out.keep hT)
  clear hT C0 p0 p1 p2 x0 x1 x2 x3 x4 x5 x6 x7 x8
  go_wp2_with fail
  refine (CA.out _).mono ?_
  rintro e w2 ⟨rfl, hT⟩
  have F := Lib.hid (F.out.keep hT)
  clear hT CA
  obtain ⟨p0, p1, p2⟩ := F.out.three 0 rfl; obtain ⟨⟨x0, x1, x2⟩, ⟨x3, x4, x5⟩, x6, x7, x8⟩ := F.out.nine 1 rfl
  rcases K4 with rfl | rfl | rfl
  · have HV := Lib.hid (O0.out rfl)
    have X := idx3_0
    clear O0 O1 O2
    go_wp2_with fail
    refine (C1.out _).mono ?_
    rintro e w3 ⟨rfl, hT⟩
    have F := Lib.hid (F.out.keep hT)
    clear hT C1 p0 p1 p2 x0 x1 x2 x3 x4 x5 x6 x7 x8
    obtain ⟨p0, p1, p2⟩ := F.out.three 0 rfl; obtain ⟨⟨x0, x1, x2⟩, ⟨x3, x4, x5⟩, x6, x7, x8⟩ := F.out.nine 1 rfl
    go_wp2_with fail
    refine (C2.out _).mono ?_
    rintro e w4 ⟨rfl, hT⟩
    have F := Lib.hid (F.out.keep hT)
    clear hT C2 p0 p1 p2 x0 x1 x2 x3 x4 x5 x6 x7 x8
    obtain ⟨p0, p1, p2⟩ := F.out.three 0 rfl; obtain ⟨⟨x0, x1, x2⟩, ⟨x3, x4, x5⟩, x6, x7, x8⟩ := F.out.nine 1 rfl
    go_wp2_with fail
    refine (C3.out _).mono ?_
    rintro e w5 ⟨rfl, hT⟩
    have F := Lib.hid (F.out.keep hT)
    clear hT C3 p0 p1 p2 x0 x1 x2 x3 x4 x5 x6 x7 x8
    obtain ⟨u1, hu1⟩ : ∃ u, u = n1.x := ⟨_, rfl⟩
    obtain ⟨u2, hu2⟩ : ∃ u, u = n2.x := ⟨_, rfl⟩
    obtain ⟨u3, hu3⟩ : ∃ u, u = n3.x := ⟨_, rfl⟩
    go_upto_region 5 with (fail)
    rw [← hu1, ← hu2, ← hu3] at HV ⊢
    clear hu1 hu2 hu3 X
    by_cases ge0 : 0 ≤ u1
    · skip
      by_cases ge1 : 0 ≤ u2
      · skip
        by_cases ge2 : 0 ≤ u3
        · skip
          have HW : Hid (o = true) := Lib.hid (by rw [HV.out]; exact decide_eq_true (by omega))
          have HL := Lib.hid (And.intro ge0 (And.intro ge1 ge2))
          go_wp2
          go_ret
          exact ⟨by rw [HW.out]; first | rfl | (show Ending.returned (.bool (decide (0 ≤ u3))) = _; rw [decide_eq_true (by have := HL.out; omega)]), F.out.t⟩
        · have le2 : u3 ≤ 0 := by omega
          by_cases le0 : u1 ≤ 0
          · skip
            by_cases le1 : u2 ≤ 0
            · skip
              have HW : Hid (o = true) := Lib.hid (by rw [HV.out]; exact decide_eq_true (by omega))
              have HL := Lib.hid (And.intro ge0 (And.intro ge1 (And.intro ge2 (And.intro le2 (And.intro le0 le1)))))
              go_wp2
              go_ret
              exact ⟨by rw [HW.out]; first | rfl | (show Ending.returned (.bool (decide (u3 ≤ 0))) = _; rw [decide_eq_true (by have := HL.out; omega)]) | (show Ending.returned (.bool (decide (0 ≤ u3))) = _; rw [decide_eq_true (by have := HL.out; omega)]), F.out.t⟩
            · skip
              have HW : Hid (o = false) := Lib.hid (by rw [HV.out]; exact decide_eq_false (by omega))
              have HL := Lib.hid (And.intro ge0 (And.intro ge1 (And.intro ge2 (And.intro le2 (And.intro le0 le1)))))
              go_wp2
              go_ret
              exact ⟨by rw [HW.out]; first | rfl | (show Ending.returned (.bool (decide (u2 ≤ 0))) = _; rw [decide_eq_false (by have := HL.out; omega)]) | (show Ending.returned (.bool (decide (0 ≤ u3))) = _; rw [decide_eq_false (by have := HL.out; omega)]), F.out.t⟩
          · skip
            have HW : Hid (o = false) := Lib.hid (by rw [HV.out]; exact decide_eq_false (by omega))
            have HL := Lib.hid (And.intro ge0 (And.intro ge1 (And.intro ge2 (And.intro le2 le0))))
            go_wp2
            go_ret
            exact ⟨by rw [HW.out]; first | rfl | (show Ending.returned (.bool (decide (u1 ≤ 0))) = _; rw [decide_eq_false (by have := HL.out; omega)]) | (show Ending.returned (.bool (decide (0 ≤ u3))) = _; rw [decide_eq_false (by have := HL.out; omega)]), F.out.t⟩
      · have le1 : u2 ≤ 0 := by omega
        by_cases le0 : u1 ≤ 0
        · skip
          by_cases le2 : u3 ≤ 0
          · skip
            have HW : Hid (o = true) := Lib.hid (by rw [HV.out]; exact decide_eq_true (by omega))
            have HL := Lib.hid (And.intro ge0 (And.intro ge1 (And.intro le1 (And.intro le0 le2))))
            go_wp2
            go_ret
            exact ⟨by rw [HW.out]; first | rfl | (show Ending.returned (.bool (decide (u3 ≤ 0))) = _; rw [decide_eq_true (by have := HL.out; omega)]) | (show Ending.returned (.bool (decide (0 ≤ u3))) = _; rw [decide_eq_true (by have := HL.out; omega)]), F.out.t⟩
          · skip
            have HW : Hid (o = false) := Lib.hid (by rw [HV.out]; exact decide_eq_false (by omega))
            have HL := Lib.hid (And.intro ge0 (And.intro ge1 (And.intro le1 (And.intro le0 le2))))
            go_wp2
            go_ret
            exact ⟨by rw [HW.out]; first | rfl | (show Ending.returned (.bool (decide (u3 ≤ 0))) = _; rw [decide_eq_false (by have := HL.out; omega)]) | (show Ending.returned (.bool (decide (0 ≤ u3))) = _; rw [decide_eq_false (by have := HL.out; omega)]), F.out.t⟩
        · skip
          have HW : Hid (o = false) := Lib.hid (by rw [HV.out]; exact decide_eq_false (by omega))
          have HL := Lib.hid (And.intro ge0 (And.intro ge1 (And.intro le1 le0)))
          go_wp2
          go_ret
          exact ⟨by rw [HW.out]; first | rfl | (show Ending.returned (.bool (decide (u1 ≤ 0))) = _; rw [decide_eq_false (by have := HL.out; omega)]) | (show Ending.returned (.bool (decide (0 ≤ u3))) = _; rw [decide_eq_false (by have := HL.out; omega)]), F.out.t⟩
    · have le0 : u1 ≤ 0 := by omega
      by_cases le1 : u2 ≤ 0
      · skip
        by_cases le2 : u3 ≤ 0
        · skip
          have HW : Hid (o = true) := Lib.hid (by rw [HV.out]; exact decide_eq_true (by omega))
          have HL := Lib.hid (And.intro ge0 (And.intro le0 (And.intro le1 le2)))
          go_wp2
          go_ret
          exact ⟨by rw [HW.out]; first | rfl | (show Ending.returned (.bool (decide (u3 ≤ 0))) = _; rw [decide_eq_true (by have := HL.out; omega)]) | (show Ending.returned (.bool (decide (0 ≤ u3))) = _; rw [decide_eq_true (by have := HL.out; omega)]), F.out.t⟩
        · skip
          have HW : Hid (o = false) := Lib.hid (by rw [HV.out]; exact decide_eq_false (by omega))
          have HL := Lib.hid (And.intro ge0 (And.intro le0 (And.intro le1 le2)))
          go_wp2
          go_ret
          exact ⟨by rw [HW.out]; first | rfl | (show Ending.returned (.bool (decide (u3 ≤ 0))) = _; rw [decide_eq_false (by have := HL.out; omega)]) | (show Ending.returned (.bool (decide (0 ≤ u3))) = _; rw [decide_eq_false (by have := HL.out; omega)]), F.out.t⟩
      · skip
        have HW : Hid (o = false) := Lib.hid (by rw [HV.out]; exact decide_eq_false (by omega))
        have HL := Lib.hid (And.intro ge0 (And.intro le0 le1))
        go_wp2
        go_ret
        exact ⟨by rw [HW.out]; first | rfl | (show Ending.returned (.bool (decide (u2 ≤ 0))) = _; rw [decide_eq_false (by have := HL.out; omega)]) | (show Ending.returned (.bool (decide (0 ≤ u3))) = _; rw [decide_eq_false (by have := HL.out; omega)]), F.out.t⟩
  · have HV := Lib.hid (O1.out rfl)
    have X := idx3_1
    clear O0 O1 O2
    go_wp2_with fail
    refine (C1.out _).mono ?_
    rintro e w3 ⟨rfl, hT⟩
    have F := Lib.hid (F.out.keep hT)
    clear hT C1 p0 p1 p2 x0 x1 x2 x3 x4 x5 x6 x7 x8
    obtain ⟨p0, p1, p2⟩ := F.out.three 0 rfl; obtain ⟨⟨x0, x1, x2⟩, ⟨x3, x4, x5⟩, x6, x7, x8⟩ := F.out.nine 1 rfl
    go_wp2_with fail
    refine (C2.out _).mono ?_
    rintro e w4 ⟨rfl, hT⟩
    have F := Lib.hid (F.out.keep hT)
    clear hT C2 p0 p1 p2 x0 x1 x2 x3 x4 x5 x6 x7 x8
    obtain ⟨p0, p1, p2⟩ := F.out.three 0 rfl; obtain ⟨⟨x0, x1, x2⟩, ⟨x3, x4, x5⟩, x6, x7, x8⟩ := F.out.nine 1 rfl
    go_wp2_with fail
    refine (C3.out _).mono ?_
    rintro e w5 ⟨rfl, hT⟩
    have F := Lib.hid (F.out.keep hT)
    clear hT C3 p0 p1 p2 x0 x1 x2 x3 x4 x5 x6 x7 x8
    obtain ⟨u1, hu1⟩ : ∃ u, u = n1.y := ⟨_, rfl⟩
    obtain ⟨u2, hu2⟩ : ∃ u, u = n2.y := ⟨_, rfl⟩
    obtain ⟨u3, hu3⟩ : ∃ u, u = n3.y := ⟨_, rfl⟩
    go_upto_region 5 with (fail)
    rw [← hu1, ← hu2, ← hu3] at HV ⊢
    clear hu1 hu2 hu3 X
    by_cases ge0 : 0 ≤ u1
    · skip
      by_cases ge1 : 0 ≤ u2
      · skip
        by_cases ge2 : 0 ≤ u3
        · skip
          have HW : Hid (o = true) := Lib.hid (by rw [HV.out]; exact decide_eq_true (by omega))
          have HL := Lib.hid (And.intro ge0 (And.intro ge1 ge2))
          go_wp2
          go_ret
          exact ⟨by rw [HW.out]; first | rfl | (show Ending.returned (.bool (decide (0 ≤ u3))) = _; rw [decide_eq_true (by have := HL.out; omega)]), F.out.t⟩
        · have le2 : u3 ≤ 0 := by omega
          by_cases le0 : u1 ≤ 0
          · skip
            by_cases le1 : u2 ≤ 0
            · skip
              have HW : Hid (o = true) := Lib.hid (by rw [HV.out]; exact decide_eq_true (by omega))
              have HL := Lib.hid (And.intro ge0 (And.intro ge1 (And.intro ge2 (And.intro le2 (And.intro le0 le1)))))
              go_wp2
              go_ret
              exact ⟨by rw [HW.out]; first | rfl | (show Ending.returned (.bool (decide (u3 ≤ 0))) = _; rw [decide_eq_true (by have := HL.out; omega)]) | (show Ending.returned (.bool (decide (0 ≤ u3))) = _; rw [decide_eq_true (by have := HL.out; omega)]), F.out.t⟩
            · skip
              have HW : Hid (o = false) := Lib.hid (by rw [HV.out]; exact decide_eq_false (by omega))
              have HL := Lib.hid (And.intro ge0 (And.intro ge1 (And.intro ge2 (And.intro le2 (And.intro le0 le1)))))
              go_wp2
              go_ret
              exact ⟨by rw [HW.out]; first | rfl | (show Ending.returned (.bool (decide (u2 ≤ 0))) = _; rw [decide_eq_false (by have := HL.out; omega)]) | (show Ending.returned (.bool (decide (0 ≤ u3))) = _; rw [decide_eq_false (by have := HL.out; omega)]), F.out.t⟩
          · skip
            have HW : Hid (o = false) := Lib.hid (by rw [HV.out]; exact decide_eq_false (by omega))
            have HL := Lib.hid (And.intro ge0 (And.intro ge1 (And.intro ge2 (And.intro le2 le0))))
            go_wp2
            go_ret
            exact ⟨by rw [HW.out]; first | rfl | (show Ending.returned (.bool (decide (u1 ≤ 0))) = _; rw [decide_eq_false (by have := HL.out; omega)]) | (show Ending.returned (.bool (decide (0 ≤ u3))) = _; rw [decide_eq_false (by have := HL.out; omega)]), F.out.t⟩
      · have le1 : u2 ≤ 0 := by omega
        by_cases le0 : u1 ≤ 0
        · skip
          by_cases le2 : u3 ≤ 0
          · skip
            have HW : Hid (o = true) := Lib.hid (by rw [HV.out]; exact decide_eq_true (by omega))
            have HL := Lib.hid (And.intro ge0 (And.intro ge1 (And.intro le1 (And.intro le0 le2))))
            go_wp2
            go_ret
            exact ⟨by rw [HW.out]; first | rfl | (show Ending.returned (.bool (decide (u3 ≤ 0))) = _; rw [decide_eq_true (by have := HL.out; omega)]) | (show Ending.returned (.bool (decide (0 ≤ u3))) = _; rw [decide_eq_true (by have := HL.out; omega)]), F.out.t⟩
          · skip
            have HW : Hid (o = false) := Lib.hid (by rw [HV.out]; exact decide_eq_false (by omega))
            have HL := Lib.hid (And.intro ge0 (And.intro ge1 (And.intro le1 (And.intro le0 le2))))
            go_wp2
            go_ret
            exact ⟨by rw [HW.out]; first | rfl | (show Ending.returned (.bool (decide (u3 ≤ 0))) = _; rw [decide_eq_false (by have := HL.out; omega)]) | (show Ending.returned (.bool (decide (0 ≤ u3))) = _; rw [decide_eq_false (by have := HL.out; omega)]), F.out.t⟩
        · skip
          have HW : Hid (o = false) := Lib.hid (by rw [HV.out]; exact decide_eq_false (by omega))
          have HL := Lib.hid (And.intro ge0 (And.intro ge1 (And.intro le1 le0)))
          go_wp2
          go_ret
          exact ⟨by rw [HW.out]; first | rfl | (show Ending.returned (.bool (decide (u1 ≤ 0))) = _; rw [decide_eq_false (by have := HL.out; omega)]) | (show Ending.returned (.bool (decide (0 ≤ u3))) = _; rw [decide_eq_false (by have := HL.out; omega)]), F.out.t⟩
    · have le0 : u1 ≤ 0 := by omega
      by_cases le1 : u2 ≤ 0
      · skip
        by_cases le2 : u3 ≤ 0
        · skip
          have HW : Hid (o = true) := Lib.hid (by rw [HV.out]; exact decide_eq_true (by omega))
          have HL := Lib.hid (And.intro ge0 (And.intro le0 (And.intro le1 le2)))
          go_wp2
          go_ret
          exact ⟨by rw [HW.out]; first | rfl | (show Ending.returned (.bool (decide (u3 ≤ 0))) = _; rw [decide_eq_true (by have := HL.out; omega)]) | (show Ending.returned (.bool (decide (0 ≤ u3))) = _; rw [decide_eq_true (by have := HL.out; omega)]), F.out.t⟩
        · skip
          have HW : Hid (o = false) := Lib.hid (by rw [HV.out]; exact decide_eq_false (by omega))
          have HL := Lib.hid (And.intro ge0 (And.intro le0 (And.intro le1 le2)))
          go_wp2
          go_ret
          exact ⟨by rw [HW.out]; first | rfl | (show Ending.returned (.bool (decide (u3 ≤ 0))) = _; rw [decide_eq_false (by have := HL.out; omega)]) | (show Ending.returned (.bool (decide (0 ≤ u3))) = _; rw [decide_eq_false (by have := HL.out; omega)]), F.out.t⟩
      · skip
        have HW : Hid (o = false) := Lib.hid (by rw [HV.out]; exact decide_eq_false (by omega))
        have HL := Lib.hid (And.intro ge0 (And.intro le0 le1))
        go_wp2
        go_ret
        exact ⟨by rw [HW.out]; first | rfl | (show Ending.returned (.bool (decide (u2 ≤ 0))) = _; rw [decide_eq_false (by have := HL.out; omega)]) | (show Ending.returned (.bool (decide (0 ≤ u3))) = _; rw [decide_eq_false (by have := HL.out; omega)]), F.out.t⟩
  · have HV := Lib.hid (O2.out rfl)
    have X := idx3_2
    clear O0 O1 O2
    go_wp2_with fail
    refine (C1.out _).mono ?_
    rintro e w3 ⟨rfl, hT⟩
    have F := Lib.hid (F.out.keep hT)
    clear hT C1 p0 p1 p2 x0 x1 x2 x3 x4 x5 x6 x7 x8
    obtain ⟨p0, p1, p2⟩ := F.out.three 0 rfl; obtain ⟨⟨x0, x1, x2⟩, ⟨x3, x4, x5⟩, x6, x7, x8⟩ := F.out.nine 1 rfl
    go_wp2_with fail
    refine (C2.out _).mono ?_
    rintro e w4 ⟨rfl, hT⟩
    have F := Lib.hid (F.out.keep hT)
    clear hT C2 p0 p1 p2 x0 x1 x2 x3 x4 x5 x6 x7 x8
    obtain ⟨p0, p1, p2⟩ := F.out.three 0 rfl; obtain ⟨⟨x0, x1, x2⟩, ⟨x3, x4, x5⟩, x6, x7, x8⟩ := F.out.nine 1 rfl
    go_wp2_with fail
    refine (C3.out _).mono ?_
    rintro e w5 ⟨rfl, hT⟩
    have F := Lib.hid (F.out.keep hT)
    clear hT C3 p0 p1 p2 x0 x1 x2 x3 x4 x5 x6 x7 x8
    obtain ⟨u1, hu1⟩ : ∃ u, u = n1.z := ⟨_, rfl⟩
    obtain ⟨u2, hu2⟩ : ∃ u, u = n2.z := ⟨_, rfl⟩
    obtain ⟨u3, hu3⟩ : ∃ u, u = n3.z := ⟨_, rfl⟩
    go_upto_region 5 with (fail)
    rw [← hu1, ← hu2, ← hu3] at HV ⊢
    clear hu1 hu2 hu3 X
    by_cases ge0 : 0 ≤ u1
    · skip
      by_cases ge1 : 0 ≤ u2
      · skip
        by_cases ge2 : 0 ≤ u3
        · skip
          have HW : Hid (o = true) := Lib.hid (by rw [HV.out]; exact decide_eq_true (by omega))
          have HL := Lib.hid (And.intro ge0 (And.intro ge1 ge2))
          go_wp2
          go_ret
          exact ⟨by rw [HW.out]; first | rfl | (show Ending.returned (.bool (decide (0 ≤ u3))) = _; rw [decide_eq_true (by have := HL.out; omega)]), F.out.t⟩
        · have le2 : u3 ≤ 0 := by omega
          by_cases le0 : u1 ≤ 0
          · skip
            by_cases le1 : u2 ≤ 0
            · skip
              have HW : Hid (o = true) := Lib.hid (by rw [HV.out]; exact decide_eq_true (by omega))
              have HL := Lib.hid (And.intro ge0 (And.intro ge1 (And.intro ge2 (And.intro le2 (And.intro le0 le1)))))
              go_wp2
              go_ret
              exact ⟨by rw [HW.out]; first | rfl | (show Ending.returned (.bool (decide (u3 ≤ 0))) = _; rw [decide_eq_true (by have := HL.out; omega)]) | (show Ending.returned (.bool (decide (0 ≤ u3))) = _; rw [decide_eq_true (by have := HL.out; omega)]), F.out.t⟩
            · skip
              have HW : Hid (o = false) := Lib.hid (by rw [HV.out]; exact decide_eq_false (by omega))
              have HL := Lib.hid (And.intro ge0 (And.intro ge1 (And.intro ge2 (And.intro le2 (And.intro le0 le1)))))
              go_wp2
              go_ret
              exact ⟨by rw [HW.out]; first | rfl | (show Ending.returned (.bool (decide (u2 ≤ 0))) = _; rw [decide_eq_false (by have := HL.out; omega)]) | (show Ending.returned (.bool (decide (0 ≤ u3))) = _; rw [decide_eq_false (by have := HL.out; omega)]), F.out.t⟩
          · skip
            have HW : Hid (o = false) := Lib.hid (by rw [HV.out]; exact decide_eq_false (by omega))
            have HL := Lib.hid (And.intro ge0 (And.intro ge1 (And.intro ge2 (And.intro le2 le0))))
            go_wp2
            go_ret
            exact ⟨by rw [HW.out]; first | rfl | (show Ending.returned (.bool (decide (u1 ≤ 0))) = _; rw [decide_eq_false (by have := HL.out; omega)]) | (show Ending.returned (.bool (decide (0 ≤ u3))) = _; rw [decide_eq_false (by have := HL.out; omega)]), F.out.t⟩
      · have le1 : u2 ≤ 0 := by omega
        by_cases le0 : u1 ≤ 0
        · skip
          by_cases le2 : u3 ≤ 0
          · skip
            have HW : Hid (o = true) := Lib.hid (by rw [HV.out]; exact decide_eq_true (by omega))
            have HL := Lib.hid (And.intro ge0 (And.intro ge1 (And.intro le1 (And.intro le0 le2))))
            go_wp2
            go_ret
            exact ⟨by rw [HW.out]; first | rfl | (show Ending.returned (.bool (decide (u3 ≤ 0))) = _; rw [decide_eq_true (by have := HL.out; omega)]) | (show Ending.returned (.bool (decide (0 ≤ u3))) = _; rw [decide_eq_true (by have := HL.out; omega)]), F.out.t⟩
          · skip
            have HW : Hid (o = false) := Lib.hid (by rw [HV.out]; exact decide_eq_false (by omega))
            have HL := Lib.hid (And.intro ge0 (And.intro ge1 (And.intro le1 (And.intro le0 le2))))
            go_wp2
            go_ret
            exact ⟨by rw [HW.out]; first | rfl | (show Ending.returned (.bool (decide (u3 ≤ 0))) = _; rw [decide_eq_false (by have := HL.out; omega)]) | (show Ending.returned (.bool (decide (0 ≤ u3))) = _; rw [decide_eq_false (by have := HL.out; omega)]), F.out.t⟩
        · skip
          have HW : Hid (o = false) := Lib.hid (by rw [HV.out]; exact decide_eq_false (by omega))
          have HL := Lib.hid (And.intro ge0 (And.intro ge1 (And.intro le1 le0)))
          go_wp2
          go_ret
          exact ⟨by rw [HW.out]; first | rfl | (show Ending.returned (.bool (decide (u1 ≤ 0))) = _; rw [decide_eq_false (by have := HL.out; omega)]) | (show Ending.returned (.bool (decide (0 ≤ u3))) = _; rw [decide_eq_false (by have := HL.out; omega)]), F.out.t⟩
    · have le0 : u1 ≤ 0 := by omega
      by_cases le1 : u2 ≤ 0
      · skip
        by_cases le2 : u3 ≤ 0
        · skip
          have HW : Hid (o = true) := Lib.hid (by rw [HV.out]; exact decide_eq_true (by omega))
          have HL := Lib.hid (And.intro ge0 (And.intro le0 (And.intro le1 le2)))
          go_wp2
          go_ret
          exact ⟨by rw [HW.out]; first | rfl | (show Ending.returned (.bool (decide (u3 ≤ 0))) = _; rw [decide_eq_true (by have := HL.out; omega)]) | (show Ending.returned (.bool (decide (0 ≤ u3))) = _; rw [decide_eq_true (by have := HL.out; omega)]), F.out.t⟩
        · skip
          have HW : Hid (o = false) := Lib.hid (by rw [HV.out]; exact decide_eq_false (by omega))
          have HL := Lib.hid (And.intro ge0 (And.intro le0 (And.intro le1 le2)))
          go_wp2
          go_ret
          exact ⟨by rw [HW.out]; first | rfl | (show Ending.returned (.bool (decide (u3 ≤ 0))) = _; rw [decide_eq_false (by have := HL.out; omega)]) | (show Ending.returned (.bool (decide (0 ≤ u3))) = _; rw [decide_eq_false (by have := HL.out; omega)]), F.out.t⟩
      · skip
        have HW : Hid (o = false) := Lib.hid (by rw [HV.out]; exact decide_eq_false (by omega))
        have HL := Lib.hid (And.intro ge0 (And.intro le0 le1))
        go_wp2
        go_ret
        exact ⟨by rw [HW.out]; first | rfl | (show Ending.returned (.bool (decide (u2 ≤ 0))) = _; rw [decide_eq_false (by have := HL.out; omega)]) | (show Ending.returned (.bool (decide (0 ≤ u3))) = _; rw [decide_eq_false (by have := HL.out; omega)]), F.out.t⟩

set_option maxHeartbeats 16000000 in
set_option maxRecDepth 100000 in
theorem rTouch (p q a b c : P3) (hp : p.Ok) (hq : q.Ok) (ha : a.Ok) (hb : b.Ok) (hc : c.Ok) (w : World) :
    Calls Tryz.prog 13 #[(.agg #[.int .i64 p.x, .int .i64 p.y, .int .i64 p.z]), (.agg #[.int .i64 q.x, .int .i64 q.y, .int .i64 q.z]), (.agg #[.int .i64 a.x, .int .i64 a.y, .int .i64 a.z, .int .i64 b.x, .int .i64 b.y, .int .i64 b.z, .int .i64 c.x, .int .i64 c.y, .int .i64 c.z])] w fun e w' => e = .returned (.bool (rTouchI p q a b c)) ∧ Tch [] w w' := by
  obtain ⟨o, ho⟩ : ∃ u, u = rTouchI p q a b c := ⟨_, rfl⟩
  rw [← ho]
  obtain ⟨l1, hl1⟩ : ∃ u, u = lo2 (lo2 a b) c := ⟨_, rfl⟩
  obtain ⟨h1, hh1⟩ : ∃ u, u = hi2 (hi2 a b) c := ⟨_, rfl⟩
  obtain ⟨f, hf⟩ : ∃ u, u = flatI a b c := ⟨_, rfl⟩
  obtain ⟨x, hx⟩ : ∃ u, u = (detI a b c p).sign := ⟨_, rfl⟩
  obtain ⟨y, hy⟩ : ∃ u, u = (detI a b c q).sign := ⟨_, rfl⟩
  obtain ⟨z1, hz1⟩ : ∃ u, u = (detI p q a b).sign := ⟨_, rfl⟩
  obtain ⟨z2, hz2⟩ : ∃ u, u = (detI p q b c).sign := ⟨_, rfl⟩
  obtain ⟨z3, hz3⟩ : ∃ u, u = (detI p q c a).sign := ⟨_, rfl⟩
  obtain ⟨v, hv⟩ : ∃ u, u = crossI p q l1 h1 := ⟨_, rfl⟩
  obtain ⟨v1, hv1⟩ : ∃ u, u = crossI p q a b := ⟨_, rfl⟩
  obtain ⟨v2, hv2⟩ : ∃ u, u = crossI p q b c := ⟨_, rfl⟩
  obtain ⟨v3, hv3⟩ : ∃ u, u = crossI p q c a := ⟨_, rfl⟩
  obtain ⟨v4, hv4⟩ : ∃ u, u = withinI p a b c := ⟨_, rfl⟩
  obtain ⟨m, em⟩ : ∃ u, IntKind.i64.wrap (x * y) = u := ⟨_, rfl⟩
  have vm : x * y = m := by rw [← em, IntWalk.i64_left, hx, hy]; exact (sgn_mul _ _).symm
  have HV : Hid (o = if f = true then v else if 0 < m then false else if x = 0 ∧ y = 0 then (v1 || v2 || v3 || v4) else decide ((0 ≤ z1 ∧ 0 ≤ z2 ∧ 0 ≤ z3) ∨ (z1 ≤ 0 ∧ z2 ≤ 0 ∧ z3 ≤ 0))) := Lib.hid (by
    rw [ho]; unfold rTouchI
    rw [← hf, ← hl1, ← hh1, ← hx, ← hy, ← hz1, ← hz2, ← hz3, ← hv, ← hv1, ← hv2, ← hv3, ← hv4, vm])
  have ol1 : l1.Ok := by rw [hl1]; exact lo2_ok (lo2_ok ha hb) hc
  have oh1 : h1.Ok := by rw [hh1]; exact hi2_ok (hi2_ok ha hb) hc
  have CF : Hid (∀ w1, Calls Tryz.prog 26 #[(.agg #[.int .i64 a.x, .int .i64 a.y, .int .i64 a.z, .int .i64 b.x, .int .i64 b.y, .int .i64 b.z, .int .i64 c.x, .int .i64 c.y, .int .i64 c.z])] w1 fun e w' => e = .returned (.bool f) ∧ Tch [] w1 w') := Lib.hid (fun w1 => by rw [hf]; exact rFlat a b c ha hb hc w1)
  have CE : Hid (∀ (g : Nat) (T : TypeId) (w1 : World), w1.heap[g]? = some (.cells #[.int .i64 a.x, .int .i64 a.y, .int .i64 a.z, .int .i64 b.x, .int .i64 b.y, .int .i64 b.z, .int .i64 c.x, .int .i64 c.y, .int .i64 c.z] T (0, 0)) → Calls Tryz.prog 36 #[.slice (some ⟨g, 0, none⟩) 3 3] w1 fun e w' => e = .returned (.tuple #[.agg #[.int .i64 l1.x, .int .i64 l1.y, .int .i64 l1.z], .agg #[.int .i64 h1.x, .int .i64 h1.y, .int .i64 h1.z]]) ∧ Tch [] w1 w') := Lib.hid (fun g T w1 hg => by rw [hl1, hh1]; exact rEnds3 g a b c T w1 hg)
  have CC : Hid (∀ w1, Calls Tryz.prog 37 #[(.agg #[.int .i64 p.x, .int .i64 p.y, .int .i64 p.z]), (.agg #[.int .i64 q.x, .int .i64 q.y, .int .i64 q.z]), (.agg #[.int .i64 l1.x, .int .i64 l1.y, .int .i64 l1.z]), (.agg #[.int .i64 h1.x, .int .i64 h1.y, .int .i64 h1.z])] w1 fun e w' => e = .returned (.bool v) ∧ Tch [] w1 w') := Lib.hid (fun w1 => by rw [hv]; exact rCross p q l1 h1 hp hq ol1 oh1 w1)
  have CX : Hid (∀ w1, Calls Tryz.prog 23 #[(.agg #[.int .i64 a.x, .int .i64 a.y, .int .i64 a.z]), (.agg #[.int .i64 b.x, .int .i64 b.y, .int .i64 b.z]), (.agg #[.int .i64 c.x, .int .i64 c.y, .int .i64 c.z]), (.agg #[.int .i64 p.x, .int .i64 p.y, .int .i64 p.z])] w1 fun e w' => e = .returned (.int .i64 x) ∧ Tch [] w1 w') := Lib.hid (fun w1 => by rw [hx]; exact rOrient a b c p ha hb hc hp w1)
  have CY : Hid (∀ w1, Calls Tryz.prog 23 #[(.agg #[.int .i64 a.x, .int .i64 a.y, .int .i64 a.z]), (.agg #[.int .i64 b.x, .int .i64 b.y, .int .i64 b.z]), (.agg #[.int .i64 c.x, .int .i64 c.y, .int .i64 c.z]), (.agg #[.int .i64 q.x, .int .i64 q.y, .int .i64 q.z])] w1 fun e w' => e = .returned (.int .i64 y) ∧ Tch [] w1 w') := Lib.hid (fun w1 => by rw [hy]; exact rOrient a b c q ha hb hc hq w1)
  have D1 : Hid (∀ w1, Calls Tryz.prog 23 #[(.agg #[.int .i64 p.x, .int .i64 p.y, .int .i64 p.z]), (.agg #[.int .i64 q.x, .int .i64 q.y, .int .i64 q.z]), (.agg #[.int .i64 a.x, .int .i64 a.y, .int .i64 a.z]), (.agg #[.int .i64 b.x, .int .i64 b.y, .int .i64 b.z])] w1 fun e w' => e = .returned (.int .i64 z1) ∧ Tch [] w1 w') := Lib.hid (fun w1 => by rw [hz1]; exact rOrient p q a b hp hq ha hb w1)
  have E1 : Hid (∀ w1, Calls Tryz.prog 37 #[(.agg #[.int .i64 p.x, .int .i64 p.y, .int .i64 p.z]), (.agg #[.int .i64 q.x, .int .i64 q.y, .int .i64 q.z]), (.agg #[.int .i64 a.x, .int .i64 a.y, .int .i64 a.z]), (.agg #[.int .i64 b.x, .int .i64 b.y, .int .i64 b.z])] w1 fun e w' => e = .returned (.bool v1) ∧ Tch [] w1 w') := Lib.hid (fun w1 => by rw [hv1]; exact rCross p q a b hp hq ha hb w1)
  have D2 : Hid (∀ w1, Calls Tryz.prog 23 #[(.agg #[.int .i64 p.x, .int .i64 p.y, .int .i64 p.z]), (.agg #[.int .i64 q.x, .int .i64 q.y, .int .i64 q.z]), (.agg #[.int .i64 b.x, .int .i64 b.y, .int .i64 b.z]), (.agg #[.int .i64 c.x, .int .i64 c.y, .int .i64 c.z])] w1 fun e w' => e = .returned (.int .i64 z2) ∧ Tch [] w1 w') := Lib.hid (fun w1 => by rw [hz2]; exact rOrient p q b c hp hq hb hc w1)
  have E2 : Hid (∀ w1, Calls Tryz.prog 37 #[(.agg #[.int .i64 p.x, .int .i64 p.y, .int .i64 p.z]), (.agg #[.int .i64 q.x, .int .i64 q.y, .int .i64 q.z]), (.agg #[.int .i64 b.x, .int .i64 b.y, .int .i64 b.z]), (.agg #[.int .i64 c.x, .int .i64 c.y, .int .i64 c.z])] w1 fun e w' => e = .returned (.bool v2) ∧ Tch [] w1 w') := Lib.hid (fun w1 => by rw [hv2]; exact rCross p q b c hp hq hb hc w1)
  have D3 : Hid (∀ w1, Calls Tryz.prog 23 #[(.agg #[.int .i64 p.x, .int .i64 p.y, .int .i64 p.z]), (.agg #[.int .i64 q.x, .int .i64 q.y, .int .i64 q.z]), (.agg #[.int .i64 c.x, .int .i64 c.y, .int .i64 c.z]), (.agg #[.int .i64 a.x, .int .i64 a.y, .int .i64 a.z])] w1 fun e w' => e = .returned (.int .i64 z3) ∧ Tch [] w1 w') := Lib.hid (fun w1 => by rw [hz3]; exact rOrient p q c a hp hq hc ha w1)
  have E3 : Hid (∀ w1, Calls Tryz.prog 37 #[(.agg #[.int .i64 p.x, .int .i64 p.y, .int .i64 p.z]), (.agg #[.int .i64 q.x, .int .i64 q.y, .int .i64 q.z]), (.agg #[.int .i64 c.x, .int .i64 c.y, .int .i64 c.z]), (.agg #[.int .i64 a.x, .int .i64 a.y, .int .i64 a.z])] w1 fun e w' => e = .returned (.bool v3) ∧ Tch [] w1 w') := Lib.hid (fun w1 => by rw [hv3]; exact rCross p q c a hp hq hc ha w1)
  have E4 : Hid (f = false → ∀ w1, Calls Tryz.prog 38 #[(.agg #[.int .i64 p.x, .int .i64 p.y, .int .i64 p.z]), (.agg #[.int .i64 a.x, .int .i64 a.y, .int .i64 a.z, .int .i64 b.x, .int .i64 b.y, .int .i64 b.z, .int .i64 c.x, .int .i64 c.y, .int .i64 c.z])] w1 fun e w' => e = .returned (.bool v4) ∧ Tch [] w1 w') := Lib.hid (fun g w1 => by rw [hv4]; exact rWithin p a b c hp ha hb hc (hf.symm.trans g) w1)
  have EM := Lib.hid em
  clear em vm ho hl1 hh1 hf hx hy hz1 hz2 hz3 hv hv1 hv2 hv3 hv4 ol1 oh1 hp hq ha hb hc
  have F : Hid (Fr w (((w.alloc (.cells #[.int .i64 p.x, .int .i64 p.y, .int .i64 p.z] 27)).alloc (.cells #[.int .i64 q.x, .int .i64 q.y, .int .i64 q.z] 27)).alloc (.cells #[.int .i64 a.x, .int .i64 a.y, .int .i64 a.z, .int .i64 b.x, .int .i64 b.y, .int .i64 b.z, .int .i64 c.x, .int .i64 c.y, .int .i64 c.z] 33)) [(w.heap.size, .cells #[.int .i64 p.x, .int .i64 p.y, .int .i64 p.z] 27 (0, 0)), (w.heap.size + 1, .cells #[.int .i64 q.x, .int .i64 q.y, .int .i64 q.z] 27 (0, 0)), (w.heap.size + 1 + 1, .cells #[.int .i64 a.x, .int .i64 a.y, .int .i64 a.z, .int .i64 b.x, .int .i64 b.y, .int .i64 b.z, .int .i64 c.x, .int .i64 c.y, .int .i64 c.z] 33 (0, 0))]) := Lib.hid ((((Fr.nil w).add (.cells #[.int .i64 p.x, .int .i64 p.y, .int .i64 p.z] 27) (w.heap.size) rfl).add (.cells #[.int .i64 q.x, .int .i64 q.y, .int .i64 q.z] 27) (w.heap.size + 1) (by simp)).add (.cells #[.int .i64 a.x, .int .i64 a.y, .int .i64 a.z, .int .i64 b.x, .int .i64 b.y, .int .i64 b.z, .int .i64 c.x, .int .i64 c.y, .int .i64 c.z] 33) (w.heap.size + 1 + 1) (by simp))
  have SF := Lib.hid (fun (w4 : World) (h : Fr w w4 [(w.heap.size, .cells #[.int .i64 p.x, .int .i64 p.y, .int .i64 p.z] 27 (0, 0)), (w.heap.size + 1, .cells #[.int .i64 q.x, .int .i64 q.y, .int .i64 q.z] 27 (0, 0)), (w.heap.size + 1 + 1, .cells #[.int .i64 a.x, .int .i64 a.y, .int .i64 a.z, .int .i64 b.x, .int .i64 b.y, .int .i64 b.z, .int .i64 c.x, .int .i64 c.y, .int .i64 c.z] 33 (0, 0))]) => And.intro (h.three 0 rfl) (And.intro (h.three 1 rfl) (h.nine 2 rfl)))
  obtain ⟨p0, p1, p2⟩ := F.out.three 0 rfl; obtain ⟨q0, q1, q2⟩ := F.out.three 1 rfl; obtain ⟨⟨x0, x1, x2⟩, ⟨x3, x4, x5⟩, x6, x7, x8⟩ := F.out.nine 2 rfl
  go_enter Tryz.func13, Tryz.ntmps13
  go_wp2_with fail
  refine (CF.out _).mono ?_
  rintro e w1 ⟨rfl, hT⟩
  have F := Lib.hid (F.out.keep hT)
  clear hT CF p0 p1 p2 q0 q1 q2 x0 x1 x2 x3 x4 x5 x6 x7 x8
  obtain ⟨p0, p1, p2⟩ := F.out.three 0 rfl; obtain ⟨q0, q1, q2⟩ := F.out.three 1 rfl; obtain ⟨⟨x0, x1, x2⟩, ⟨x3, x4, x5⟩, x6, x7, x8⟩ := F.out.nine 2 rfl
  cases f
  case true =>
    have HW : Hid (o = v) := Lib.hid (by rw [HV.out, if_pos rfl])
    clear HV CX CY D1 D2 D3 E1 E2 E3 E4 EM
    go_wp2_with fail
    have F2 := F.out.add (.cells #[.int .i64 a.x, .int .i64 a.y, .int .i64 a.z, .int .i64 b.x, .int .i64 b.y, .int .i64 b.z, .int .i64 c.x, .int .i64 c.y, .int .i64 c.z] 27) w1.heap.size rfl
    have hg := F2.row (w1.heap.size, .cells #[.int .i64 a.x, .int .i64 a.y, .int .i64 a.z, .int .i64 b.x, .int .i64 b.y, .int .i64 b.z, .int .i64 c.x, .int .i64 c.y, .int .i64 c.z] 27 (0, 0)) (by simp)
    clear F2
    refine (CE.out _ 27 _ hg).mono ?_
    clear hg
    rintro e w2 ⟨rfl, hT⟩
    have F := Lib.hid ((((F.out.beside _).keep hT).add (.cells #[.int .i64 l1.x, .int .i64 l1.y, .int .i64 l1.z] 27) w2.heap.size rfl).add (.cells #[.int .i64 h1.x, .int .i64 h1.y, .int .i64 h1.z] 27) (w2.heap.size + 1) (by simp))
    clear hT CE p0 p1 p2 q0 q1 q2 x0 x1 x2 x3 x4 x5 x6 x7 x8
    obtain ⟨p0, p1, p2⟩ := F.out.three 0 rfl; obtain ⟨q0, q1, q2⟩ := F.out.three 1 rfl; obtain ⟨r0, r1, r2⟩ := F.out.three 3 rfl; obtain ⟨s0, s1, s2⟩ := F.out.three 4 rfl
    go_wp2_with fail
    refine (CC.out _).mono ?_
    rintro e w3 ⟨rfl, hT⟩
    have F := Lib.hid (F.out.keep hT)
    clear hT CC p0 p1 p2 q0 q1 q2 r0 r1 r2 s0 s1 s2
    go_wp2
    go_ret
    exact ⟨by rw [HW.out]; rfl, F.out.t⟩
  case false =>
    have HV1 : Hid (o = if 0 < m then false else if x = 0 ∧ y = 0 then (v1 || v2 || v3 || v4) else decide ((0 ≤ z1 ∧ 0 ≤ z2 ∧ 0 ≤ z3) ∨ (z1 ≤ 0 ∧ z2 ≤ 0 ∧ z3 ≤ 0))) := Lib.hid (by rw [HV.out, if_neg (by decide)])
    have E5 := Lib.hid (E4.out rfl)
    clear CE CC HV E4
    go_wp2_with fail
    refine (CX.out _).mono ?_
    rintro e w2 ⟨rfl, hT⟩
    have F := Lib.hid (F.out.keep hT)
    clear hT CX p0 p1 p2 q0 q1 q2 x0 x1 x2 x3 x4 x5 x6 x7 x8
    obtain ⟨p0, p1, p2⟩ := F.out.three 0 rfl; obtain ⟨q0, q1, q2⟩ := F.out.three 1 rfl; obtain ⟨⟨x0, x1, x2⟩, ⟨x3, x4, x5⟩, x6, x7, x8⟩ := F.out.nine 2 rfl
    go_wp2_with fail
    refine (CY.out _).mono ?_
    rintro e w3 ⟨rfl, hT⟩
    have F := Lib.hid (F.out.keep hT)
    clear hT CY p0 p1 p2 q0 q1 q2 x0 x1 x2 x3 x4 x5 x6 x7 x8
    obtain ⟨p0, p1, p2⟩ := F.out.three 0 rfl; obtain ⟨q0, q1, q2⟩ := F.out.three 1 rfl; obtain ⟨⟨x0, x1, x2⟩, ⟨x3, x4, x5⟩, x6, x7, x8⟩ := F.out.nine 2 rfl
    have em := EM.out
    by_cases hm : 0 < m
    · have HW : Hid (o = false) := Lib.hid (by rw [HV1.out, if_pos hm])
      clear HV1
      go_wp2
      go_ret
      exact ⟨by rw [HW.out]; rfl, F.out.t⟩
    have HV2 : Hid (o = if x = 0 ∧ y = 0 then (v1 || v2 || v3 || v4) else decide ((0 ≤ z1 ∧ 0 ≤ z2 ∧ 0 ≤ z3) ∨ (z1 ≤ 0 ∧ z2 ≤ 0 ∧ z3 ≤ 0))) := Lib.hid (by rw [HV1.out, if_neg hm])
    go_upto_region 9 with (fail)
    clear em EM hm HV1
    by_cases hz : x = 0 ∧ y = 0
    · obtain ⟨h1, h2⟩ := hz
      subst h1
      subst h2
      have HV : Hid (o = (v1 || v2 || v3 || v4)) := Lib.hid (by rw [HV2.out, if_pos ⟨rfl, rfl⟩])
      clear D1 D2 D3 HV2
      go_wp2
      clear p0 p1 p2 q0 q1 q2 x0 x1 x2 x3 x4 x5 x6 x7 x8
      go_loopw [12, 13] (fun i g wr => ∃ (k : Nat) (hit : Value), k ≤ 3 ∧ i = .int .i64 (k : Int) ∧ g = hit ∧ Hid ((0 < k → v1 = false) ∧ (1 < k → v2 = false) ∧ (2 < k → v3 = false)) ∧ Hid (Fr w wr [(w.heap.size, .cells #[.int .i64 p.x, .int .i64 p.y, .int .i64 p.z] 27 (0, 0)), (w.heap.size + 1, .cells #[.int .i64 q.x, .int .i64 q.y, .int .i64 q.z] 27 (0, 0)), (w.heap.size + 1 + 1, .cells #[.int .i64 a.x, .int .i64 a.y, .int .i64 a.z, .int .i64 b.x, .int .i64 b.y, .int .i64 b.z, .int .i64 c.x, .int .i64 c.y, .int .i64 c.z] 33 (0, 0))])) (fun i _ _ => 3 - (intOf i).toNat)
      case atStart => exact ⟨0, _, by omega, rfl, rfl, Lib.hid ⟨fun h => absurd h (by omega), fun h => absurd h (by omega), fun h => absurd h (by omega)⟩, F⟩
      case round =>
        clear F
        obtain ⟨k, hit, hk, rfl, rfl, hS, F⟩ := hrel
        rcases (show k = 0 ∨ k = 1 ∨ k = 2 ∨ k = 3 by omega) with rfl | rfl | rfl | rfl
        · have A1 : IntKind.i64.wrap 1 = 1 := by decide
          have A2 : Int.tmod 1 3 = 1 := by decide
          go_upto_region 13 with (fail)
          cases v1
          · have HI : Hid (false = false) := Lib.hid rfl
            go_region_held3 (fun w' => (w'.cell? ⟨w.heap.size, 0, none⟩ = some (.int .i64 p.x) ∧ w'.cell? ⟨w.heap.size, 1, none⟩ = some (.int .i64 p.y) ∧ w'.cell? ⟨w.heap.size, 2, none⟩ = some (.int .i64 p.z)) ∧ (w'.cell? ⟨w.heap.size + 1, 0, none⟩ = some (.int .i64 q.x) ∧ w'.cell? ⟨w.heap.size + 1, 1, none⟩ = some (.int .i64 q.y) ∧ w'.cell? ⟨w.heap.size + 1, 2, none⟩ = some (.int .i64 q.z)) ∧ ((w'.cell? ⟨w.heap.size + 1 + 1, 0, none⟩ = some (.int .i64 a.x) ∧ w'.cell? ⟨w.heap.size + 1 + 1, 1, none⟩ = some (.int .i64 a.y) ∧ w'.cell? ⟨w.heap.size + 1 + 1, 2, none⟩ = some (.int .i64 a.z)) ∧ (w'.cell? ⟨w.heap.size + 1 + 1, 3, none⟩ = some (.int .i64 b.x) ∧ w'.cell? ⟨w.heap.size + 1 + 1, 4, none⟩ = some (.int .i64 b.y) ∧ w'.cell? ⟨w.heap.size + 1 + 1, 5, none⟩ = some (.int .i64 b.z)) ∧ w'.cell? ⟨w.heap.size + 1 + 1, 6, none⟩ = some (.int .i64 c.x) ∧ w'.cell? ⟨w.heap.size + 1 + 1, 7, none⟩ = some (.int .i64 c.y) ∧ w'.cell? ⟨w.heap.size + 1 + 1, 8, none⟩ = some (.int .i64 c.z))) (first | with_reducible exact SF.out _ F.out | with_reducible exact SF.out _ F.out.drew) (first
              | (go_at_call 37; (with_reducible refine (E1.out _).mono ?_); rintro e w5 ⟨rfl, hT⟩; (first | (with_reducible have F := Lib.hid (F.out.keep hT)) | (have F := Lib.hid (F.out.drew.keep hT))); clear hT)
              | fail)
            all_goals
              go_wp2
              go_roundw
              case rel => exact ⟨1, _, by omega, by go_num, rfl, Lib.hid ⟨fun _ => HI.out, fun h => absurd h (by omega), fun h => absurd h (by omega)⟩, F⟩
              case measure => simp [intOf]
          · have HW : Hid (o = true) := Lib.hid (by rw [HV.out]; simp)
            go_region_held3 (fun w' => (w'.cell? ⟨w.heap.size, 0, none⟩ = some (.int .i64 p.x) ∧ w'.cell? ⟨w.heap.size, 1, none⟩ = some (.int .i64 p.y) ∧ w'.cell? ⟨w.heap.size, 2, none⟩ = some (.int .i64 p.z)) ∧ (w'.cell? ⟨w.heap.size + 1, 0, none⟩ = some (.int .i64 q.x) ∧ w'.cell? ⟨w.heap.size + 1, 1, none⟩ = some (.int .i64 q.y) ∧ w'.cell? ⟨w.heap.size + 1, 2, none⟩ = some (.int .i64 q.z)) ∧ ((w'.cell? ⟨w.heap.size + 1 + 1, 0, none⟩ = some (.int .i64 a.x) ∧ w'.cell? ⟨w.heap.size + 1 + 1, 1, none⟩ = some (.int .i64 a.y) ∧ w'.cell? ⟨w.heap.size + 1 + 1, 2, none⟩ = some (.int .i64 a.z)) ∧ (w'.cell? ⟨w.heap.size + 1 + 1, 3, none⟩ = some (.int .i64 b.x) ∧ w'.cell? ⟨w.heap.size + 1 + 1, 4, none⟩ = some (.int .i64 b.y) ∧ w'.cell? ⟨w.heap.size + 1 + 1, 5, none⟩ = some (.int .i64 b.z)) ∧ w'.cell? ⟨w.heap.size + 1 + 1, 6, none⟩ = some (.int .i64 c.x) ∧ w'.cell? ⟨w.heap.size + 1 + 1, 7, none⟩ = some (.int .i64 c.y) ∧ w'.cell? ⟨w.heap.size + 1 + 1, 8, none⟩ = some (.int .i64 c.z))) (first | with_reducible exact SF.out _ F.out | with_reducible exact SF.out _ F.out.drew) (first
              | (go_at_call 37; (with_reducible refine (E1.out _).mono ?_); rintro e w5 ⟨rfl, hT⟩; (first | (with_reducible have F := Lib.hid (F.out.keep hT)) | (have F := Lib.hid (F.out.drew.keep hT))); clear hT)
              | fail)
            all_goals
              go_wp2
              go_ret
              exact ⟨by rw [HW.out]; rfl, F.out.t⟩
        · have A1 : IntKind.i64.wrap 2 = 2 := by decide
          have A2 : Int.tmod 2 3 = 2 := by decide
          go_upto_region 13 with (fail)
          cases v2
          · have HI : Hid (false = false) := Lib.hid rfl
            go_region_held3 (fun w' => (w'.cell? ⟨w.heap.size, 0, none⟩ = some (.int .i64 p.x) ∧ w'.cell? ⟨w.heap.size, 1, none⟩ = some (.int .i64 p.y) ∧ w'.cell? ⟨w.heap.size, 2, none⟩ = some (.int .i64 p.z)) ∧ (w'.cell? ⟨w.heap.size + 1, 0, none⟩ = some (.int .i64 q.x) ∧ w'.cell? ⟨w.heap.size + 1, 1, none⟩ = some (.int .i64 q.y) ∧ w'.cell? ⟨w.heap.size + 1, 2, none⟩ = some (.int .i64 q.z)) ∧ ((w'.cell? ⟨w.heap.size + 1 + 1, 0, none⟩ = some (.int .i64 a.x) ∧ w'.cell? ⟨w.heap.size + 1 + 1, 1, none⟩ = some (.int .i64 a.y) ∧ w'.cell? ⟨w.heap.size + 1 + 1, 2, none⟩ = some (.int .i64 a.z)) ∧ (w'.cell? ⟨w.heap.size + 1 + 1, 3, none⟩ = some (.int .i64 b.x) ∧ w'.cell? ⟨w.heap.size + 1 + 1, 4, none⟩ = some (.int .i64 b.y) ∧ w'.cell? ⟨w.heap.size + 1 + 1, 5, none⟩ = some (.int .i64 b.z)) ∧ w'.cell? ⟨w.heap.size + 1 + 1, 6, none⟩ = some (.int .i64 c.x) ∧ w'.cell? ⟨w.heap.size + 1 + 1, 7, none⟩ = some (.int .i64 c.y) ∧ w'.cell? ⟨w.heap.size + 1 + 1, 8, none⟩ = some (.int .i64 c.z))) (first | with_reducible exact SF.out _ F.out | with_reducible exact SF.out _ F.out.drew) (first
              | (go_at_call 37; (with_reducible refine (E2.out _).mono ?_); rintro e w5 ⟨rfl, hT⟩; (first | (with_reducible have F := Lib.hid (F.out.keep hT)) | (have F := Lib.hid (F.out.drew.keep hT))); clear hT)
              | fail)
            all_goals
              go_wp2
              go_roundw
              case rel => exact ⟨2, _, by omega, by go_num, rfl, Lib.hid ⟨fun _ => hS.out.1 (by omega), fun _ => HI.out, fun h => absurd h (by omega)⟩, F⟩
              case measure => simp [intOf]
          · have HW : Hid (o = true) := Lib.hid (by rw [HV.out]; simp)
            go_region_held3 (fun w' => (w'.cell? ⟨w.heap.size, 0, none⟩ = some (.int .i64 p.x) ∧ w'.cell? ⟨w.heap.size, 1, none⟩ = some (.int .i64 p.y) ∧ w'.cell? ⟨w.heap.size, 2, none⟩ = some (.int .i64 p.z)) ∧ (w'.cell? ⟨w.heap.size + 1, 0, none⟩ = some (.int .i64 q.x) ∧ w'.cell? ⟨w.heap.size + 1, 1, none⟩ = some (.int .i64 q.y) ∧ w'.cell? ⟨w.heap.size + 1, 2, none⟩ = some (.int .i64 q.z)) ∧ ((w'.cell? ⟨w.heap.size + 1 + 1, 0, none⟩ = some (.int .i64 a.x) ∧ w'.cell? ⟨w.heap.size + 1 + 1, 1, none⟩ = some (.int .i64 a.y) ∧ w'.cell? ⟨w.heap.size + 1 + 1, 2, none⟩ = some (.int .i64 a.z)) ∧ (w'.cell? ⟨w.heap.size + 1 + 1, 3, none⟩ = some (.int .i64 b.x) ∧ w'.cell? ⟨w.heap.size + 1 + 1, 4, none⟩ = some (.int .i64 b.y) ∧ w'.cell? ⟨w.heap.size + 1 + 1, 5, none⟩ = some (.int .i64 b.z)) ∧ w'.cell? ⟨w.heap.size + 1 + 1, 6, none⟩ = some (.int .i64 c.x) ∧ w'.cell? ⟨w.heap.size + 1 + 1, 7, none⟩ = some (.int .i64 c.y) ∧ w'.cell? ⟨w.heap.size + 1 + 1, 8, none⟩ = some (.int .i64 c.z))) (first | with_reducible exact SF.out _ F.out | with_reducible exact SF.out _ F.out.drew) (first
              | (go_at_call 37; (with_reducible refine (E2.out _).mono ?_); rintro e w5 ⟨rfl, hT⟩; (first | (with_reducible have F := Lib.hid (F.out.keep hT)) | (have F := Lib.hid (F.out.drew.keep hT))); clear hT)
              | fail)
            all_goals
              go_wp2
              go_ret
              exact ⟨by rw [HW.out]; rfl, F.out.t⟩
        · have A1 : IntKind.i64.wrap 3 = 3 := by decide
          have A2 : Int.tmod 3 3 = 0 := by decide
          go_upto_region 13 with (fail)
          cases v3
          · have HI : Hid (false = false) := Lib.hid rfl
            go_region_held3 (fun w' => (w'.cell? ⟨w.heap.size, 0, none⟩ = some (.int .i64 p.x) ∧ w'.cell? ⟨w.heap.size, 1, none⟩ = some (.int .i64 p.y) ∧ w'.cell? ⟨w.heap.size, 2, none⟩ = some (.int .i64 p.z)) ∧ (w'.cell? ⟨w.heap.size + 1, 0, none⟩ = some (.int .i64 q.x) ∧ w'.cell? ⟨w.heap.size + 1, 1, none⟩ = some (.int .i64 q.y) ∧ w'.cell? ⟨w.heap.size + 1, 2, none⟩ = some (.int .i64 q.z)) ∧ ((w'.cell? ⟨w.heap.size + 1 + 1, 0, none⟩ = some (.int .i64 a.x) ∧ w'.cell? ⟨w.heap.size + 1 + 1, 1, none⟩ = some (.int .i64 a.y) ∧ w'.cell? ⟨w.heap.size + 1 + 1, 2, none⟩ = some (.int .i64 a.z)) ∧ (w'.cell? ⟨w.heap.size + 1 + 1, 3, none⟩ = some (.int .i64 b.x) ∧ w'.cell? ⟨w.heap.size + 1 + 1, 4, none⟩ = some (.int .i64 b.y) ∧ w'.cell? ⟨w.heap.size + 1 + 1, 5, none⟩ = some (.int .i64 b.z)) ∧ w'.cell? ⟨w.heap.size + 1 + 1, 6, none⟩ = some (.int .i64 c.x) ∧ w'.cell? ⟨w.heap.size + 1 + 1, 7, none⟩ = some (.int .i64 c.y) ∧ w'.cell? ⟨w.heap.size + 1 + 1, 8, none⟩ = some (.int .i64 c.z))) (first | with_reducible exact SF.out _ F.out | with_reducible exact SF.out _ F.out.drew) (first
              | (go_at_call 37; (with_reducible refine (E3.out _).mono ?_); rintro e w5 ⟨rfl, hT⟩; (first | (with_reducible have F := Lib.hid (F.out.keep hT)) | (have F := Lib.hid (F.out.drew.keep hT))); clear hT)
              | fail)
            all_goals
              go_wp2
              go_roundw
              case rel => exact ⟨3, _, by omega, by go_num, rfl, Lib.hid ⟨fun _ => hS.out.1 (by omega), fun _ => hS.out.2.1 (by omega), fun _ => HI.out⟩, F⟩
              case measure => simp [intOf]
          · have HW : Hid (o = true) := Lib.hid (by rw [HV.out]; simp)
            go_region_held3 (fun w' => (w'.cell? ⟨w.heap.size, 0, none⟩ = some (.int .i64 p.x) ∧ w'.cell? ⟨w.heap.size, 1, none⟩ = some (.int .i64 p.y) ∧ w'.cell? ⟨w.heap.size, 2, none⟩ = some (.int .i64 p.z)) ∧ (w'.cell? ⟨w.heap.size + 1, 0, none⟩ = some (.int .i64 q.x) ∧ w'.cell? ⟨w.heap.size + 1, 1, none⟩ = some (.int .i64 q.y) ∧ w'.cell? ⟨w.heap.size + 1, 2, none⟩ = some (.int .i64 q.z)) ∧ ((w'.cell? ⟨w.heap.size + 1 + 1, 0, none⟩ = some (.int .i64 a.x) ∧ w'.cell? ⟨w.heap.size + 1 + 1, 1, none⟩ = some (.int .i64 a.y) ∧ w'.cell? ⟨w.heap.size + 1 + 1, 2, none⟩ = some (.int .i64 a.z)) ∧ (w'.cell? ⟨w.heap.size + 1 + 1, 3, none⟩ = some (.int .i64 b.x) ∧ w'.cell? ⟨w.heap.size + 1 + 1, 4, none⟩ = some (.int .i64 b.y) ∧ w'.cell? ⟨w.heap.size + 1 + 1, 5, none⟩ = some (.int .i64 b.z)) ∧ w'.cell? ⟨w.heap.size + 1 + 1, 6, none⟩ = some (.int .i64 c.x) ∧ w'.cell? ⟨w.heap.size + 1 + 1, 7, none⟩ = some (.int .i64 c.y) ∧ w'.cell? ⟨w.heap.size + 1 + 1, 8, none⟩ = some (.int .i64 c.z))) (first | with_reducible exact SF.out _ F.out | with_reducible exact SF.out _ F.out.drew) (first
              | (go_at_call 37; (with_reducible refine (E3.out _).mono ?_); rintro e w5 ⟨rfl, hT⟩; (first | (with_reducible have F := Lib.hid (F.out.keep hT)) | (have F := Lib.hid (F.out.drew.keep hT))); clear hT)
              | fail)
            all_goals
              go_wp2
              go_ret
              exact ⟨by rw [HW.out]; rfl, F.out.t⟩
        · have HW : Hid (o = v4) := Lib.hid (by rw [HV.out, hS.out.1 (by omega), hS.out.2.1 (by omega), hS.out.2.2 (by omega)]; rfl)
          obtain ⟨p0, p1, p2⟩ := F.out.three 0 rfl; obtain ⟨q0, q1, q2⟩ := F.out.three 1 rfl; obtain ⟨⟨x0, x1, x2⟩, ⟨x3, x4, x5⟩, x6, x7, x8⟩ := F.out.nine 2 rfl
          go_wp2_with fail
          refine (E5.out _).mono ?_
          rintro e w5 ⟨rfl, hT⟩
          have F := Lib.hid (F.out.keep hT)
          clear hT E5 p0 p1 p2 q0 q1 q2 x0 x1 x2 x3 x4 x5 x6 x7 x8
          go_wp2
          go_ret
          exact ⟨by rw [HW.out]; rfl, F.out.t⟩
    · have HV : Hid (o = decide ((0 ≤ z1 ∧ 0 ≤ z2 ∧ 0 ≤ z3) ∨ (z1 ≤ 0 ∧ z2 ≤ 0 ∧ z3 ≤ 0))) := Lib.hid (by rw [HV2.out, if_neg hz])
      clear E1 E2 E3 E5 HV2
      by_cases hx : x = 0
      · subst hx
        have hy : (y == 0) = false := beq_eq_false_iff_ne.2 (fun g => hz ⟨rfl, g⟩)
        clear hz
        go_upto_region 17 with (fail)
        clear hy
        go_wp2_with fail
        refine (D1.out _).mono ?_
        rintro e w5 ⟨rfl, hT⟩
        have F := Lib.hid (F.out.keep hT)
        clear hT D1 p0 p1 p2 q0 q1 q2 x0 x1 x2 x3 x4 x5 x6 x7 x8
        obtain ⟨p0, p1, p2⟩ := F.out.three 0 rfl; obtain ⟨q0, q1, q2⟩ := F.out.three 1 rfl; obtain ⟨⟨x0, x1, x2⟩, ⟨x3, x4, x5⟩, x6, x7, x8⟩ := F.out.nine 2 rfl
        go_wp2_with fail
        refine (D2.out _).mono ?_
        rintro e w6 ⟨rfl, hT⟩
        have F := Lib.hid (F.out.keep hT)
        clear hT D2 p0 p1 p2 q0 q1 q2 x0 x1 x2 x3 x4 x5 x6 x7 x8
        obtain ⟨p0, p1, p2⟩ := F.out.three 0 rfl; obtain ⟨q0, q1, q2⟩ := F.out.three 1 rfl; obtain ⟨⟨x0, x1, x2⟩, ⟨x3, x4, x5⟩, x6, x7, x8⟩ := F.out.nine 2 rfl
        go_wp2_with fail
        refine (D3.out _).mono ?_
        rintro e w7 ⟨rfl, hT⟩
        have F := Lib.hid (F.out.keep hT)
        clear hT D3 p0 p1 p2 q0 q1 q2 x0 x1 x2 x3 x4 x5 x6 x7 x8
        by_cases ge0 : 0 ≤ z1
        · skip
          by_cases ge1 : 0 ≤ z2
          · skip
            by_cases ge2 : 0 ≤ z3
            · skip
              have HW : Hid (o = true) := Lib.hid (by rw [HV.out]; exact decide_eq_true (by omega))
              have HL := Lib.hid (And.intro ge0 (And.intro ge1 ge2))
              go_wp2
              go_ret
              exact ⟨by rw [HW.out]; first | rfl | (show Ending.returned (.bool (decide (0 ≤ z3))) = _; rw [decide_eq_true (by have := HL.out; omega)]), F.out.t⟩
            · have le2 : z3 ≤ 0 := by omega
              by_cases le0 : z1 ≤ 0
              · skip
                by_cases le1 : z2 ≤ 0
                · skip
                  have HW : Hid (o = true) := Lib.hid (by rw [HV.out]; exact decide_eq_true (by omega))
                  have HL := Lib.hid (And.intro ge0 (And.intro ge1 (And.intro ge2 (And.intro le2 (And.intro le0 le1)))))
                  go_wp2
                  go_ret
                  exact ⟨by rw [HW.out]; first | rfl | (show Ending.returned (.bool (decide (z3 ≤ 0))) = _; rw [decide_eq_true (by have := HL.out; omega)]) | (show Ending.returned (.bool (decide (0 ≤ z3))) = _; rw [decide_eq_true (by have := HL.out; omega)]), F.out.t⟩
                · skip
                  have HW : Hid (o = false) := Lib.hid (by rw [HV.out]; exact decide_eq_false (by omega))
                  have HL := Lib.hid (And.intro ge0 (And.intro ge1 (And.intro ge2 (And.intro le2 (And.intro le0 le1)))))
                  go_wp2
                  go_ret
                  exact ⟨by rw [HW.out]; first | rfl | (show Ending.returned (.bool (decide (z2 ≤ 0))) = _; rw [decide_eq_false (by have := HL.out; omega)]) | (show Ending.returned (.bool (decide (0 ≤ z3))) = _; rw [decide_eq_false (by have := HL.out; omega)]), F.out.t⟩
              · skip
                have HW : Hid (o = false) := Lib.hid (by rw [HV.out]; exact decide_eq_false (by omega))
                have HL := Lib.hid (And.intro ge0 (And.intro ge1 (And.intro ge2 (And.intro le2 le0))))
                go_wp2
                go_ret
                exact ⟨by rw [HW.out]; first | rfl | (show Ending.returned (.bool (decide (z1 ≤ 0))) = _; rw [decide_eq_false (by have := HL.out; omega)]) | (show Ending.returned (.bool (decide (0 ≤ z3))) = _; rw [decide_eq_false (by have := HL.out; omega)]), F.out.t⟩
          · have le1 : z2 ≤ 0 := by omega
            by_cases le0 : z1 ≤ 0
            · skip
              by_cases le2 : z3 ≤ 0
              · skip
                have HW : Hid (o = true) := Lib.hid (by rw [HV.out]; exact decide_eq_true (by omega))
                have HL := Lib.hid (And.intro ge0 (And.intro ge1 (And.intro le1 (And.intro le0 le2))))
                go_wp2
                go_ret
                exact ⟨by rw [HW.out]; first | rfl | (show Ending.returned (.bool (decide (z3 ≤ 0))) = _; rw [decide_eq_true (by have := HL.out; omega)]) | (show Ending.returned (.bool (decide (0 ≤ z3))) = _; rw [decide_eq_true (by have := HL.out; omega)]), F.out.t⟩
              · skip
                have HW : Hid (o = false) := Lib.hid (by rw [HV.out]; exact decide_eq_false (by omega))
                have HL := Lib.hid (And.intro ge0 (And.intro ge1 (And.intro le1 (And.intro le0 le2))))
                go_wp2
                go_ret
                exact ⟨by rw [HW.out]; first | rfl | (show Ending.returned (.bool (decide (z3 ≤ 0))) = _; rw [decide_eq_false (by have := HL.out; omega)]) | (show Ending.returned (.bool (decide (0 ≤ z3))) = _; rw [decide_eq_false (by have := HL.out; omega)]), F.out.t⟩
            · skip
              have HW : Hid (o = false) := Lib.hid (by rw [HV.out]; exact decide_eq_false (by omega))
              have HL := Lib.hid (And.intro ge0 (And.intro ge1 (And.intro le1 le0)))
              go_wp2
              go_ret
              exact ⟨by rw [HW.out]; first | rfl | (show Ending.returned (.bool (decide (z1 ≤ 0))) = _; rw [decide_eq_false (by have := HL.out; omega)]) | (show Ending.returned (.bool (decide (0 ≤ z3))) = _; rw [decide_eq_false (by have := HL.out; omega)]), F.out.t⟩
        · have le0 : z1 ≤ 0 := by omega
          by_cases le1 : z2 ≤ 0
          · skip
            by_cases le2 : z3 ≤ 0
            · skip
              have HW : Hid (o = true) := Lib.hid (by rw [HV.out]; exact decide_eq_true (by omega))
              have HL := Lib.hid (And.intro ge0 (And.intro le0 (And.intro le1 le2)))
              go_wp2
              go_ret
              exact ⟨by rw [HW.out]; first | rfl | (show Ending.returned (.bool (decide (z3 ≤ 0))) = _; rw [decide_eq_true (by have := HL.out; omega)]) | (show Ending.returned (.bool (decide (0 ≤ z3))) = _; rw [decide_eq_true (by have := HL.out; omega)]), F.out.t⟩
            · skip
              have HW : Hid (o = false) := Lib.hid (by rw [HV.out]; exact decide_eq_false (by omega))
              have HL := Lib.hid (And.intro ge0 (And.intro le0 (And.intro le1 le2)))
              go_wp2
              go_ret
              exact ⟨by rw [HW.out]; first | rfl | (show Ending.returned (.bool (decide (z3 ≤ 0))) = _; rw [decide_eq_false (by have := HL.out; omega)]) | (show Ending.returned (.bool (decide (0 ≤ z3))) = _; rw [decide_eq_false (by have := HL.out; omega)]), F.out.t⟩
          · skip
            have HW : Hid (o = false) := Lib.hid (by rw [HV.out]; exact decide_eq_false (by omega))
            have HL := Lib.hid (And.intro ge0 (And.intro le0 le1))
            go_wp2
            go_ret
            exact ⟨by rw [HW.out]; first | rfl | (show Ending.returned (.bool (decide (z2 ≤ 0))) = _; rw [decide_eq_false (by have := HL.out; omega)]) | (show Ending.returned (.bool (decide (0 ≤ z3))) = _; rw [decide_eq_false (by have := HL.out; omega)]), F.out.t⟩
      · have hb : (x == 0) = false := beq_eq_false_iff_ne.2 hx
        clear hz hx
        go_upto_region 17 with (fail)
        clear hb
        go_wp2_with fail
        refine (D1.out _).mono ?_
        rintro e w5 ⟨rfl, hT⟩
        have F := Lib.hid (F.out.keep hT)
        clear hT D1 p0 p1 p2 q0 q1 q2 x0 x1 x2 x3 x4 x5 x6 x7 x8
        obtain ⟨p0, p1, p2⟩ := F.out.three 0 rfl; obtain ⟨q0, q1, q2⟩ := F.out.three 1 rfl; obtain ⟨⟨x0, x1, x2⟩, ⟨x3, x4, x5⟩, x6, x7, x8⟩ := F.out.nine 2 rfl
        go_wp2_with fail
        refine (D2.out _).mono ?_
        rintro e w6 ⟨rfl, hT⟩
        have F := Lib.hid (F.out.keep hT)
        clear hT D2 p0 p1 p2 q0 q1 q2 x0 x1 x2 x3 x4 x5 x6 x7 x8
        obtain ⟨p0, p1, p2⟩ := F.out.three 0 rfl; obtain ⟨q0, q1, q2⟩ := F.out.three 1 rfl; obtain ⟨⟨x0, x1, x2⟩, ⟨x3, x4, x5⟩, x6, x7, x8⟩ := F.out.nine 2 rfl
        go_wp2_with fail
        refine (D3.out _).mono ?_
        rintro e w7 ⟨rfl, hT⟩
        have F := Lib.hid (F.out.keep hT)
        clear hT D3 p0 p1 p2 q0 q1 q2 x0 x1 x2 x3 x4 x5 x6 x7 x8
        by_cases ge0 : 0 ≤ z1
        · skip
          by_cases ge1 : 0 ≤ z2
          · skip
            by_cases ge2 : 0 ≤ z3
            · skip
              have HW : Hid (o = true) := Lib.hid (by rw [HV.out]; exact decide_eq_true (by omega))
              have HL := Lib.hid (And.intro ge0 (And.intro ge1 ge2))
              go_wp2
              go_ret
              exact ⟨by rw [HW.out]; first | rfl | (show Ending.returned (.bool (decide (0 ≤ z3))) = _; rw [decide_eq_true (by have := HL.out; omega)]), F.out.t⟩
            · have le2 : z3 ≤ 0 := by omega
              by_cases le0 : z1 ≤ 0
              · skip
                by_cases le1 : z2 ≤ 0
                · skip
                  have HW : Hid (o = true) := Lib.hid (by rw [HV.out]; exact decide_eq_true (by omega))
                  have HL := Lib.hid (And.intro ge0 (And.intro ge1 (And.intro ge2 (And.intro le2 (And.intro le0 le1)))))
                  go_wp2
                  go_ret
                  exact ⟨by rw [HW.out]; first | rfl | (show Ending.returned (.bool (decide (z3 ≤ 0))) = _; rw [decide_eq_true (by have := HL.out; omega)]) | (show Ending.returned (.bool (decide (0 ≤ z3))) = _; rw [decide_eq_true (by have := HL.out; omega)]), F.out.t⟩
                · skip
                  have HW : Hid (o = false) := Lib.hid (by rw [HV.out]; exact decide_eq_false (by omega))
                  have HL := Lib.hid (And.intro ge0 (And.intro ge1 (And.intro ge2 (And.intro le2 (And.intro le0 le1)))))
                  go_wp2
                  go_ret
                  exact ⟨by rw [HW.out]; first | rfl | (show Ending.returned (.bool (decide (z2 ≤ 0))) = _; rw [decide_eq_false (by have := HL.out; omega)]) | (show Ending.returned (.bool (decide (0 ≤ z3))) = _; rw [decide_eq_false (by have := HL.out; omega)]), F.out.t⟩
              · skip
                have HW : Hid (o = false) := Lib.hid (by rw [HV.out]; exact decide_eq_false (by omega))
                have HL := Lib.hid (And.intro ge0 (And.intro ge1 (And.intro ge2 (And.intro le2 le0))))
                go_wp2
                go_ret
                exact ⟨by rw [HW.out]; first | rfl | (show Ending.returned (.bool (decide (z1 ≤ 0))) = _; rw [decide_eq_false (by have := HL.out; omega)]) | (show Ending.returned (.bool (decide (0 ≤ z3))) = _; rw [decide_eq_false (by have := HL.out; omega)]), F.out.t⟩
          · have le1 : z2 ≤ 0 := by omega
            by_cases le0 : z1 ≤ 0
            · skip
              by_cases le2 : z3 ≤ 0
              · skip
                have HW : Hid (o = true) := Lib.hid (by rw [HV.out]; exact decide_eq_true (by omega))
                have HL := Lib.hid (And.intro ge0 (And.intro ge1 (And.intro le1 (And.intro le0 le2))))
                go_wp2
                go_ret
                exact ⟨by rw [HW.out]; first | rfl | (show Ending.returned (.bool (decide (z3 ≤ 0))) = _; rw [decide_eq_true (by have := HL.out; omega)]) | (show Ending.returned (.bool (decide (0 ≤ z3))) = _; rw [decide_eq_true (by have := HL.out; omega)]), F.out.t⟩
              · skip
                have HW : Hid (o = false) := Lib.hid (by rw [HV.out]; exact decide_eq_false (by omega))
                have HL := Lib.hid (And.intro ge0 (And.intro ge1 (And.intro le1 (And.intro le0 le2))))
                go_wp2
                go_ret
                exact ⟨by rw [HW.out]; first | rfl | (show Ending.returned (.bool (decide (z3 ≤ 0))) = _; rw [decide_eq_false (by have := HL.out; omega)]) | (show Ending.returned (.bool (decide (0 ≤ z3))) = _; rw [decide_eq_false (by have := HL.out; omega)]), F.out.t⟩
            · skip
              have HW : Hid (o = false) := Lib.hid (by rw [HV.out]; exact decide_eq_false (by omega))
              have HL := Lib.hid (And.intro ge0 (And.intro ge1 (And.intro le1 le0)))
              go_wp2
              go_ret
              exact ⟨by rw [HW.out]; first | rfl | (show Ending.returned (.bool (decide (z1 ≤ 0))) = _; rw [decide_eq_false (by have := HL.out; omega)]) | (show Ending.returned (.bool (decide (0 ≤ z3))) = _; rw [decide_eq_false (by have := HL.out; omega)]), F.out.t⟩
        · have le0 : z1 ≤ 0 := by omega
          by_cases le1 : z2 ≤ 0
          · skip
            by_cases le2 : z3 ≤ 0
            · skip
              have HW : Hid (o = true) := Lib.hid (by rw [HV.out]; exact decide_eq_true (by omega))
              have HL := Lib.hid (And.intro ge0 (And.intro le0 (And.intro le1 le2)))
              go_wp2
              go_ret
              exact ⟨by rw [HW.out]; first | rfl | (show Ending.returned (.bool (decide (z3 ≤ 0))) = _; rw [decide_eq_true (by have := HL.out; omega)]) | (show Ending.returned (.bool (decide (0 ≤ z3))) = _; rw [decide_eq_true (by have := HL.out; omega)]), F.out.t⟩
            · skip
              have HW : Hid (o = false) := Lib.hid (by rw [HV.out]; exact decide_eq_false (by omega))
              have HL := Lib.hid (And.intro ge0 (And.intro le0 (And.intro le1 le2)))
              go_wp2
              go_ret
              exact ⟨by rw [HW.out]; first | rfl | (show Ending.returned (.bool (decide (z3 ≤ 0))) = _; rw [decide_eq_false (by have := HL.out; omega)]) | (show Ending.returned (.bool (decide (0 ≤ z3))) = _; rw [decide_eq_false (by have := HL.out; omega)]), F.out.t⟩
          · skip
            have HW : Hid (o = false) := Lib.hid (by rw [HV.out]; exact decide_eq_false (by omega))
            have HL := Lib.hid (And.intro ge0 (And.intro le0 le1))
            go_wp2
            go_ret
            exact ⟨by rw [HW.out]; first | rfl | (show Ending.returned (.bool (decide (z2 ≤ 0))) = _; rw [decide_eq_false (by have := HL.out; omega)]) | (show Ending.returned (.bool (decide (0 ≤ z3))) = _; rw [decide_eq_false (by have := HL.out; omega)]), F.out.t⟩

end Go.Proofs.YtandlbacjfdkpaaGreatDoor
