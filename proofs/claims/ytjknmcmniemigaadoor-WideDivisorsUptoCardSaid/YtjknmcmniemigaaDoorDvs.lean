/- The walk of WideDivisors. -/
import Derived.Test.YtjknmcmniemigaaDoorRGcd
import Derived.Test.YtjknmcmniemigaaDoorMid
import Derived.Test.YtjknmcmniemigaaDoorSan
import Derived.Test.YtjknmcmniemigaaDoorFraW
namespace Go.Proofs.YtjknmcmniemigaaDoor
open Go.RowKit Dg

/-- What the functions answer in WideDivisors. -/
structure DvC (a1 a2 a3 : Bool) (s1 s2 s3 : ByteArray) (G Q1 Q2 AC BC D : Bool × ByteArray) (o1 o2 : Bool) (sg : Int) : Prop where
  k1 : ∀ w, Calls Tryd.prog 30 #[.agg #[.bool a1, .string s1], .agg #[.bool a2, .string s2]] w fun e w' => e = .returned (.agg #[.bool G.1, .string G.2]) ∧ Tch [] w w'
  k2 : ∀ w, Calls Tryd.prog 31 #[.agg #[.bool a1, .string s1], .agg #[.bool a2, .string s2]] w fun e w' => e = .returned (.agg #[.bool G.1, .string G.2]) ∧ Tch [] w w'
  k3 : ∀ w, Calls Tryd.prog 26 #[.agg #[.bool a1, .string s1], .agg #[.bool G.1, .string G.2]] w fun e w' => e = .returned (.tuple #[.agg #[.bool Q1.1, .string Q1.2], .agg #[.bool false, .string ⟨#[]⟩], .bool o1]) ∧ Tch [] w w'
  k4 : ∀ w, Calls Tryd.prog 26 #[.agg #[.bool a2, .string s2], .agg #[.bool G.1, .string G.2]] w fun e w' => e = .returned (.tuple #[.agg #[.bool Q2.1, .string Q2.2], .agg #[.bool false, .string ⟨#[]⟩], .bool o2]) ∧ Tch [] w w'
  k5 : ∀ w, Calls Tryd.prog 20 #[.agg #[.bool G.1, .string G.2]] w fun e w' => e = .returned (.int .i64 sg) ∧ Tch [] w w'
  k6 : ∀ w, Calls Tryd.prog 27 #[.agg #[.bool a1, .string s1], .agg #[.bool a3, .string s3]] w fun e w' => e = .returned (.agg #[.bool AC.1, .string AC.2]) ∧ Tch [] w w'
  k7 : ∀ w, Calls Tryd.prog 27 #[.agg #[.bool a2, .string s2], .agg #[.bool a3, .string s3]] w fun e w' => e = .returned (.agg #[.bool BC.1, .string BC.2]) ∧ Tch [] w w'
  k8 : ∀ w, Calls Tryd.prog 30 #[.agg #[.bool AC.1, .string AC.2], .agg #[.bool BC.1, .string BC.2]] w fun e w' => e = .returned (.agg #[.bool D.1, .string D.2]) ∧ Tch [] w w'
  k9 : ∀ w, Calls Tryd.prog 27 #[.agg #[.bool G.1, .string G.2], .agg #[.bool false, .string s3]] w fun e w' => e = .returned (.agg #[.bool D.1, .string D.2]) ∧ Tch [] w w'
  nn : 0 ≤ sg

theorem wz_pair4 (z : Int) : ∃ p : Bool × ByteArray, wz z = .agg #[.bool p.1, .string p.2] := ⟨(_, _), wz_mo z⟩

/-- A quotient without a remainder. -/
theorem zquoV_dvd {x g : Int} (h : g ∣ x) : ∃ (p : Bool × ByteArray) (o : Bool), zquoV x g = .tuple #[.agg #[.bool p.1, .string p.2], .agg #[.bool false, .string ⟨#[]⟩], .bool o] := by
  unfold zquoV
  split
  · exact ⟨(false, ⟨#[]⟩), false, rfl⟩
  · rw [Int.tmod_eq_zero_of_dvd h, show wz 0 = .agg #[.bool false, .string ⟨#[]⟩] from by rw [wz_mo]; rw [show (0 : Int).natAbs = 0 from rfl, mo_zero]; rfl]
    obtain ⟨p, hp⟩ := wz_pair4 (x.tdiv g)
    exact ⟨p, true, by rw [hp]⟩

theorem DvC.mk' {a1 a2 a3 : Bool} {s1 s2 s3 : ByteArray} (h1 : s1.size ≤ 40) (h2 : s2.size ≤ 40) (h3 : s3.size ≤ 40) : ∃ G Q1 Q2 AC BC D o1 o2 sg, DvC a1 a2 a3 s1 s2 s3 G Q1 Q2 AC BC D o1 o2 sg := by
  obtain ⟨x, hx⟩ : ∃ x, zval a1 (bv (sb s1)) = x := ⟨_, rfl⟩
  obtain ⟨y, hy⟩ : ∃ y, zval a2 (bv (sb s2)) = y := ⟨_, rfl⟩
  obtain ⟨z, hz⟩ : ∃ z, zval a3 (bv (sb s3)) = z := ⟨_, rfl⟩
  have ra : Rep 1000 a1 s1 x := ⟨hx, by omega⟩
  have rb : Rep 1000 a2 s2 y := ⟨hy, by omega⟩
  have rc : Rep 400000 a3 s3 z := ⟨hz, by omega⟩
  have ra4 := ra.mono (L := 400000) (by omega)
  have rb4 := rb.mono (L := 400000) (by omega)
  have lx : x.natAbs < 256 ^ 40 := Rep.lt ⟨hx, h1⟩
  have ly : y.natAbs < 256 ^ 40 := Rep.lt ⟨hy, h2⟩
  have lz : z.natAbs < 256 ^ 40 := Rep.lt ⟨hz, h3⟩
  have rs : Rep 400000 false s3 (z.natAbs : Int) := ⟨by
    have h := natAbs_zval a3 (bv (sb s3))
    rw [hz] at h
    rw [h]; rfl, by omega⟩
  obtain ⟨g, hg⟩ : ∃ g : Int, (Int.gcd x y : Int) = g := ⟨_, rfl⟩
  have lg : g.natAbs < 256 ^ 40 := by
    rw [← hg]
    rcases Classical.em (x = 0) with h0 | h0
    · subst h0
      simpa using ly
    · have h4 : Int.gcd x y ≤ x.natAbs := Nat.le_of_dvd (by omega) (Nat.gcd_dvd_left _ _)
      exact Nat.lt_of_le_of_lt (by simpa using h4) lx
  obtain ⟨G, eG⟩ := wz_pair4 g
  obtain ⟨AC, eAC⟩ := wz_pair4 (x * z)
  obtain ⟨BC, eBC⟩ := wz_pair4 (y * z)
  obtain ⟨D, eD⟩ := wz_pair4 (g * (z.natAbs : Int))
  have rG : Rep 400000 G.1 G.2 g := (Rep.of_wz eG lg).mono (by omega)
  have rAC : Rep 400000 AC.1 AC.2 (x * z) := (Rep.of_wz eAC (mul_lt lx lz)).mono (by omega)
  have rBC : Rep 400000 BC.1 BC.2 (y * z) := (Rep.of_wz eBC (mul_lt ly lz)).mono (by omega)
  obtain ⟨Q1, o1, e1⟩ := zquoV_dvd (show g ∣ x by rw [← hg]; exact Int.gcd_dvd_left x y)
  obtain ⟨Q2, o2, e2⟩ := zquoV_dvd (show g ∣ y by rw [← hg]; exact Int.gcd_dvd_right x y)
  refine ⟨G, Q1, Q2, AC, BC, D, o1, o2, g.sign, ⟨?_, ?_, ?_, ?_, ?_, ?_, ?_, ?_, ?_, ?_⟩⟩
  · intro w; have h := ZGcd ra4 rb4 w; rwa [hg, eG] at h
  · intro w; have h := rGcd ra rb w; rwa [hg, eG] at h
  · intro w; have h := ZQuo ra4 rG w; rwa [e1] at h
  · intro w; have h := ZQuo rb4 rG w; rwa [e2] at h
  · intro w; exact ZSign rG.val w
  · intro w; have h := ZMul ra4 rc w; rwa [eAC] at h
  · intro w; have h := ZMul rb4 rc w; rwa [eBC] at h
  · intro w; have h := ZGcd rAC rBC w
    rwa [Int.gcd_mul_right, Int.natCast_mul, hg, eD] at h
  · intro w; have h := ZMul rG rs w; rwa [eD] at h
  · have : 0 ≤ g := by rw [← hg]; omega
    rcases Int.lt_or_eq_of_le this with h | h
    · rw [Int.sign_eq_one_of_pos h]; decide
    · rw [← h]; decide

/-- One more box beside them. -/
theorem FrB.add {w0 w : World} {l : List (Nat × Obj)} {b : Nat} {o : Obj} (h : FrB w0 w l b o) (o' : Obj) (c : Nat) (hc : w.heap.size = c) : FrB w0 (w.alloc o') (l ++ [(c, o')]) b o := by
  have hb := (Array.getElem?_eq_some_iff.1 h.box).1
  refine ⟨h.f.add o' c hc, (Below.heap_alloc w o' b hb).trans h.box, fun q hq => ?_, h.new⟩
  rcases List.mem_append.1 hq with hq | hq
  · exact h.ne q hq
  · rw [List.mem_singleton] at hq; subst hq; show c ≠ b; omega

/-- One of its cells is written. -/
theorem FrB.put {w0 w : World} {l : List (Nat × Obj)} {b : Nat} {vs : Array Value} {T : TypeId} (h : FrB w0 w l b (.cells vs T (0, 0))) (j : Nat) (u : Value) : FrB w0 (w.setCell ⟨b, j, none⟩ u) l b (.cells (vs.setIfInBounds j u) T (0, 0)) :=
  ⟨h.f.away h.ne h.new u, heap_setCell_same w b j _ T u h.box, h.ne, h.new⟩

set_option maxHeartbeats 8000000 in
set_option maxRecDepth 100000 in
theorem dv_walk (w : World) (a1 : Bool) (A1 : Option Addr) (len1 cap1 : Nat) (z1 : Int) (ys1 : List Nat) (hy1 : ys1.length = len1) (hl1 : len1 ≤ 1048576) (hA1 : Src w A1 ys1) (a2 : Bool) (A2 : Option Addr) (len2 cap2 : Nat) (z2 : Int) (ys2 : List Nat) (hy2 : ys2.length = len2) (hl2 : len2 ≤ 1048576) (hA2 : Src w A2 ys2) (a3 : Bool) (A3 : Option Addr) (len3 cap3 : Nat) (z3 : Int) (ys3 : List Nat) (hy3 : ys3.length = len3) (hl3 : len3 ≤ 1048576) (hA3 : Src w A3 ys3) (hc3 : len3 ≤ cap3) (hm3 : cap3 ≤ 9223372036854775807) :
    Calls Tryd.prog 7 #[.agg #[.bool a1, .slice A1 len1 cap1, .int .i64 z1], .agg #[.bool a2, .slice A2 len2 cap2, .int .i64 z2], .agg #[.bool a3, .slice A3 len3 cap3, .int .i64 z3]] w fun e w' => e = .returned (.bool true) ∧ Tch [] w w' := by
  have F := Lib.hid (Fr.nil w)
  have N1 : Hid (∀ w', Tch [] w w' → Calls Tryd.prog 13 #[.agg #[.bool a1, .slice A1 len1 cap1, .int .i64 z1]] w' fun e w2 => ∃ s, (s.size ≤ 40 ∧ e = .returned (.agg #[.bool a1, .string s])) ∧ Tch [] w' w2) := Lib.hid (fun w' h => NumW a1 z1 A1 len1 cap1 ys1 w' hy1 hl1 (hA1.kept h))
  have N2 : Hid (∀ w', Tch [] w w' → Calls Tryd.prog 13 #[.agg #[.bool a2, .slice A2 len2 cap2, .int .i64 z2]] w' fun e w2 => ∃ s, (s.size ≤ 40 ∧ e = .returned (.agg #[.bool a2, .string s])) ∧ Tch [] w' w2) := Lib.hid (fun w' h => NumW a2 z2 A2 len2 cap2 ys2 w' hy2 hl2 (hA2.kept h))
  have N3 := Lib.hid (fun w' (h : Tch [] w w') => NumW a3 z3 A3 (min (len3 : Int) 8).toNat cap3 (ys3.take (min (len3 : Int) 8).toNat) w' (by rw [List.length_take]; omega) (by omega) ((hA3.kept h).short _))
  have hb3 : (0 : Int) ≤ min (len3 : Int) 8 ∧ min (len3 : Int) 8 ≤ (cap3 : Int) := by omega
  clear hy1 hl1 hA1 hy2 hl2 hA2 hy3 hl3 hA3
  go_enter Tryd.func7, Tryd.ntmps7
  go_wp2_with fail
  refine (sanity _).mono ?_
  rintro e w1 ⟨rfl, h1⟩
  have B3 := Lib.hid (((F.out.add (.cells #[.bool a1, .slice A1 len1 cap1, .int .i64 z1] 24) w.heap.size rfl).add (.cells #[.bool a2, .slice A2 len2 cap2, .int .i64 z2] 24) (w.heap.size + 1) (by simp)).boxedAt (.cells #[.bool a3, .slice A3 len3 cap3, .int .i64 z3] 24) (w.heap.size + 1 + 1) (by simp) h1)
  clear h1 F
  have c0 := B3.out.f.cell 0 0 rfl rfl
  have c1 := B3.out.f.cell 0 1 rfl rfl
  have c2 := B3.out.f.cell 0 2 rfl rfl
  go_wp2_with fail
  refine (N1.out _ B3.out.f.t).mono ?_
  rintro e w2 ⟨s1, ⟨hs1, rfl⟩, h1⟩
  have B3 := Lib.hid ((B3.out.keep h1).add (.cells #[.bool a1, .string s1] 27) w2.heap.size rfl)
  clear h1 c0 c1 c2
  have c0 := B3.out.f.cell 1 0 rfl rfl
  have c1 := B3.out.f.cell 1 1 rfl rfl
  have c2 := B3.out.f.cell 1 2 rfl rfl
  go_wp2_with fail
  refine (N2.out _ B3.out.f.t).mono ?_
  rintro e w3 ⟨s2, ⟨hs2, rfl⟩, h1⟩
  have B3 := Lib.hid ((B3.out.keep h1).add (.cells #[.bool a2, .string s2] 27) w3.heap.size rfl)
  clear h1 c0 c1 c2
  have c0 := B3.out.cell 0 rfl
  have c1 := B3.out.cell 1 rfl
  have c2 := B3.out.cell 2 rfl
  have f1 := frozen_of_row _ (w.heap.size + 1 + 1) 1 _ _ B3.out.box
  go_wp2_with fail
  have B4 := Lib.hid (B3.out.put 1 (.slice A3 (min (len3 : Int) 8).toNat cap3))
  clear c0 c1 c2 f1 B3
  refine (N3.out _ B4.out.f.t).mono ?_
  rintro e w4 ⟨s3, ⟨hs3, rfl⟩, h1⟩
  have F := Lib.hid ((B4.out.f.keep h1).add (.cells #[.bool a3, .string s3] 27) w4.heap.size rfl)
  clear h1 N1 N2 N3 B4
  obtain ⟨G, Q1, Q2, AC, BC, D, o1, o2, sg, R⟩ := DvC.mk' (a1 := a1) (a2 := a2) (a3 := a3) hs1 hs2 hs3
  obtain ⟨bG, tG⟩ := G
  obtain ⟨bQ1, tQ1⟩ := Q1
  obtain ⟨bQ2, tQ2⟩ := Q2
  obtain ⟨bAC, tAC⟩ := AC
  obtain ⟨bBC, tBC⟩ := BC
  obtain ⟨bD, tD⟩ := D
  have K1 := Lib.hid R.k1
  have K2 := Lib.hid R.k2
  have K3 := Lib.hid R.k3
  have K4 := Lib.hid R.k4
  have K5 := Lib.hid R.k5
  have K6 := Lib.hid R.k6
  have K7 := Lib.hid R.k7
  have K8 := Lib.hid R.k8
  have K9 := Lib.hid R.k9
  have hsg := R.nn
  clear R hs1 hs2 hs3
  obtain ⟨x0, x1⟩ := F.out.two 2 rfl
  obtain ⟨y0, y1⟩ := F.out.two 3 rfl
  go_wp2_with fail
  refine (K1.out _).mono ?_
  rintro e w5 ⟨rfl, h1⟩
  have F := Lib.hid ((F.out.keep h1).add (.cells #[.bool bG, .string tG] 27) w5.heap.size rfl)
  clear h1 x0 x1 y0 y1
  obtain ⟨u0, u1⟩ := F.out.two 4 rfl
  have F := Lib.hid (F.out.add (.cells #[.bool false, .string s3] 27) (w5.heap.size + 1) (by simp))
  obtain ⟨x0, x1⟩ := F.out.two 2 rfl
  obtain ⟨y0, y1⟩ := F.out.two 5 rfl
  go_wp2_with fail
  refine (K3.out _).mono ?_
  rintro e w6 ⟨rfl, h1⟩
  have F := Lib.hid (((F.out.keep h1).add (.cells #[.bool bQ1, .string tQ1] 27) w6.heap.size rfl).add (.cells #[.bool false, .string ⟨#[]⟩] 27) (w6.heap.size + 1) (by simp))
  clear h1 x0 x1 y0 y1 u0 u1
  obtain ⟨x0, x1⟩ := F.out.two 3 rfl
  obtain ⟨y0, y1⟩ := F.out.two 5 rfl
  go_wp2_with fail
  refine (K4.out _).mono ?_
  rintro e w7 ⟨rfl, h1⟩
  have F := Lib.hid (((F.out.keep h1).add (.cells #[.bool bQ2, .string tQ2] 27) w7.heap.size rfl).add (.cells #[.bool false, .string ⟨#[]⟩] 27) (w7.heap.size + 1) (by simp))
  clear h1 x0 x1 y0 y1
  obtain ⟨l, G0, SA0⟩ : ∃ l, Fr w ((w7.alloc (.cells #[.bool bQ2, .string tQ2] 27)).alloc (.cells #[.bool false, .string ⟨#[]⟩] 27)) l ∧ (∀ w', Fr w w' l → w'.cell? ⟨w2.heap.size, 0, none⟩ = some (.bool a1) ∧ w'.cell? ⟨w2.heap.size, 1, none⟩ = some (.string s1) ∧ w'.cell? ⟨w3.heap.size, 0, none⟩ = some (.bool a2) ∧ w'.cell? ⟨w3.heap.size, 1, none⟩ = some (.string s2) ∧ w'.cell? ⟨w4.heap.size, 0, none⟩ = some (.bool a3) ∧ w'.cell? ⟨w4.heap.size, 1, none⟩ = some (.string s3) ∧ w'.cell? ⟨w5.heap.size, 0, none⟩ = some (.bool bG) ∧ w'.cell? ⟨w5.heap.size, 1, none⟩ = some (.string tG) ∧ w'.cell? ⟨w5.heap.size + 1, 0, none⟩ = some (.bool false) ∧ w'.cell? ⟨w5.heap.size + 1, 1, none⟩ = some (.string s3) ∧ w'.cell? ⟨w6.heap.size + 1, 0, none⟩ = some (.bool false) ∧ w'.cell? ⟨w6.heap.size + 1, 1, none⟩ = some (.string ⟨#[]⟩) ∧ w'.cell? ⟨w7.heap.size + 1, 0, none⟩ = some (.bool false) ∧ w'.cell? ⟨w7.heap.size + 1, 1, none⟩ = some (.string ⟨#[]⟩)) :=
    ⟨_, F.out, fun w' F => ⟨F.cell 2 0 rfl rfl, F.cell 2 1 rfl rfl, F.cell 3 0 rfl rfl, F.cell 3 1 rfl rfl, F.cell 4 0 rfl rfl, F.cell 4 1 rfl rfl, F.cell 5 0 rfl rfl, F.cell 5 1 rfl rfl, F.cell 6 0 rfl rfl, F.cell 6 1 rfl rfl, F.cell 8 0 rfl rfl, F.cell 8 1 rfl rfl, F.cell 10 0 rfl rfl, F.cell 10 1 rfl rfl⟩⟩
  have F := Lib.hid G0
  have SA := Lib.hid SA0
  clear G0 SA0
  go_wp2_with fail
  go_region_held3 (fun w' => w'.cell? ⟨w2.heap.size, 0, none⟩ = some (.bool a1) ∧ w'.cell? ⟨w2.heap.size, 1, none⟩ = some (.string s1) ∧ w'.cell? ⟨w3.heap.size, 0, none⟩ = some (.bool a2) ∧ w'.cell? ⟨w3.heap.size, 1, none⟩ = some (.string s2) ∧ w'.cell? ⟨w4.heap.size, 0, none⟩ = some (.bool a3) ∧ w'.cell? ⟨w4.heap.size, 1, none⟩ = some (.string s3) ∧ w'.cell? ⟨w5.heap.size, 0, none⟩ = some (.bool bG) ∧ w'.cell? ⟨w5.heap.size, 1, none⟩ = some (.string tG) ∧ w'.cell? ⟨w5.heap.size + 1, 0, none⟩ = some (.bool false) ∧ w'.cell? ⟨w5.heap.size + 1, 1, none⟩ = some (.string s3) ∧ w'.cell? ⟨w6.heap.size + 1, 0, none⟩ = some (.bool false) ∧ w'.cell? ⟨w6.heap.size + 1, 1, none⟩ = some (.string ⟨#[]⟩) ∧ w'.cell? ⟨w7.heap.size + 1, 0, none⟩ = some (.bool false) ∧ w'.cell? ⟨w7.heap.size + 1, 1, none⟩ = some (.string ⟨#[]⟩)) (first | with_reducible exact SA.out _ F.out | with_reducible exact SA.out _ F.out.drew) (first | (go_at_call 31; (first | (with_reducible refine (K2.out _).mono ?_)); rintro e w' ⟨rfl, h1⟩; (first | (with_reducible have F := Lib.hid (F.out.keep h1)) | (with_reducible have F := Lib.hid (F.out.drew.keep h1))); clear h1) | (go_at_call 20; (first | (with_reducible refine (K5.out _).mono ?_)); rintro e w' ⟨rfl, h1⟩; (first | (with_reducible have F := Lib.hid (F.out.keep h1)) | (with_reducible have F := Lib.hid (F.out.drew.keep h1))); clear h1) | (go_at_call 27; (first | (with_reducible refine (K6.out _).mono ?_) | (with_reducible refine (K7.out _).mono ?_) | (with_reducible refine (K9.out _).mono ?_)); rintro e w' ⟨rfl, h1⟩; (first | (with_reducible have F := Lib.hid (F.out.keep h1)) | (with_reducible have F := Lib.hid (F.out.drew.keep h1))); clear h1) | (go_at_call 30; (first | (with_reducible refine (K8.out _).mono ?_)); rintro e w' ⟨rfl, h1⟩; (first | (with_reducible have F := Lib.hid (F.out.keep h1)) | (with_reducible have F := Lib.hid (F.out.drew.keep h1))); clear h1))
  go_wp2
  go_ret
  exact ⟨rfl, F.out.t⟩

end Go.Proofs.YtjknmcmniemigaaDoor
