/- quadric.coordinatesOf, quadric.planeOf. -/
import Derived.Test.YtmpfgkpimjiecaaDoorQl
import Derived.Test.YtmpfgkpimjiecaaDoorNrm
import Derived.Deep.RegionHeld3
import Derived.Deep.DeepCutAuto
namespace Go.Proofs.YtmpfgkpimjiecaaDoor
open Go Go.RowKit Dg

theorem Sm.nul (k : Nat) : Sm k 0 := by unfold Sm; exact Nat.pow_pos (by omega)
theorem sgz_nul : sgz 0 = false := rfl
theorem moz_nul : moz 0 = ⟨#[]⟩ := mo_zero

theorem Fr.eight {w0 w : World} {l : List (Nat × Obj)} (h : Fr w0 w l) (i : Nat) {b : Nat} {x0 x1 x2 x3 x4 x5 x6 x7 : Value} {T : TypeId} (hi : l[i]? = some (b, .cells #[x0, x1, x2, x3, x4, x5, x6, x7] T (0, 0))) :
    (w.cell? ⟨b, 0, none⟩ = some x0 ∧ w.cell? ⟨b, 1, none⟩ = some x1 ∧ w.cell? ⟨b, 2, none⟩ = some x2 ∧ w.cell? ⟨b, 3, none⟩ = some x3) ∧ w.cell? ⟨b, 4, none⟩ = some x4 ∧ w.cell? ⟨b, 5, none⟩ = some x5 ∧ w.cell? ⟨b, 6, none⟩ = some x6 ∧ w.cell? ⟨b, 7, none⟩ = some x7 :=
  ⟨⟨h.cell i 0 hi rfl, h.cell i 1 hi rfl, h.cell i 2 hi rfl, h.cell i 3 hi rfl⟩, h.cell i 4 hi rfl, h.cell i 5 hi rfl, h.cell i 6 hi rfl, h.cell i 7 hi rfl⟩
theorem Fr.fro8 {w0 w : World} {l : List (Nat × Obj)} (h : Fr w0 w l) (i : Nat) {b : Nat} {vs : Array Value} {T : TypeId} (hi : l[i]? = some (b, .cells vs T (0, 0))) :
    (w.frozen? ⟨b, 0, none⟩ = false ∧ w.frozen? ⟨b, 1, none⟩ = false ∧ w.frozen? ⟨b, 2, none⟩ = false ∧ w.frozen? ⟨b, 3, none⟩ = false) ∧ w.frozen? ⟨b, 4, none⟩ = false ∧ w.frozen? ⟨b, 5, none⟩ = false ∧ w.frozen? ⟨b, 6, none⟩ = false ∧ w.frozen? ⟨b, 7, none⟩ = false :=
  ⟨⟨h.frozen i 0 hi, h.frozen i 1 hi, h.frozen i 2 hi, h.frozen i 3 hi⟩, h.frozen i 4 hi, h.frozen i 5 hi, h.frozen i 6 hi, h.frozen i 7 hi⟩
theorem Fr.fin8 {w0 w : World} {l : List (Nat × Obj)} (h : Fr w0 w l) (i : Nat) {b : Nat} {o : Obj} (hi : l[i]? = some (b, o)) (x0 x1 x2 x3 x4 x5 x6 x7 : Value) : Tch [] w0 ((((((((w.setCell ⟨b, 0, none⟩ x0).setCell ⟨b, 1, none⟩ x1).setCell ⟨b, 2, none⟩ x2).setCell ⟨b, 3, none⟩ x3).setCell ⟨b, 4, none⟩ x4).setCell ⟨b, 5, none⟩ x5).setCell ⟨b, 6, none⟩ x6).setCell ⟨b, 7, none⟩ x7) :=
  ((h.fin6 i hi x0 x1 x2 x3 x4 x5).setCell (.inr (h.new (b, o) (List.mem_of_getElem? hi))) x6).setCell (.inr (h.new (b, o) (List.mem_of_getElem? hi))) x7
/-- A cell of a box among others is written. -/
theorem Fr.setC {w0 w : World} {l1 l2 : List (Nat × Obj)} {b : Nat} {T : TypeId} {vs : Array Value} (h : Fr w0 w (l1 ++ (b, .cells vs T (0, 0)) :: l2)) (hd : ∀ q ∈ l1 ++ l2, q.1 ≠ b) (j : Nat) (u : Value) :
    Fr w0 (w.setCell ⟨b, j, none⟩ u) (l1 ++ (b, .cells (vs.setIfInBounds j u) T (0, 0)) :: l2) := by
  have hn : w0.heap.size ≤ b := h.new (b, .cells vs T (0, 0)) (by simp)
  refine ⟨fun q hq => ?_, fun q hq => ?_, h.t.setCell (.inr hn) u⟩
  · by_cases e : q = (b, .cells (vs.setIfInBounds j u) T (0, 0))
    · rw [e]; exact heap_setCell_same w b j _ T u (h.row (b, .cells vs T (0, 0)) (by simp))
    · have hq' : q ∈ l1 ++ l2 := by
        simp only [List.mem_append, List.mem_cons] at hq ⊢
        rcases hq with h | h | h
        · exact .inl h
        · exact absurd h e
        · exact .inr h
      have hm : q ∈ l1 ++ (b, .cells vs T (0, 0)) :: l2 := by
        simp only [List.mem_append, List.mem_cons] at hq' ⊢
        rcases hq' with h | h
        · exact .inl h
        · exact .inr (.inr h)
      exact (heap_setCell_other w ⟨b, j, none⟩ q.1 u (hd q hq')).trans (h.row q hm)
  · simp only [List.mem_append, List.mem_cons] at hq
    rcases hq with k | k | k
    · exact (h).new q (by simp [k])
    · rw [k]; exact hn
    · exact (h).new q (by simp [k])

set_option maxHeartbeats 2000000 in
set_option maxRecDepth 100000 in
theorem coordsOf (p : P3) (hp : p.Ok) (w : World) :
    Calls Tryd.prog 35 #[.agg #[.int .i64 p.x, .int .i64 p.y, .int .i64 p.z]] w fun e w' => e = .returned (.agg #[.bool (sgz p.x), .string (moz p.x), .bool (sgz p.y), .string (moz p.y), .bool (sgz p.z), .string (moz p.z)]) ∧ Tch [] w w' := by
  have C0 := Lib.hid (fun w1 => IFrom hp.x.1 hp.x.2 w1)
  have C1 := Lib.hid (fun w1 => IFrom hp.y.1 hp.y.2 w1)
  have C2 := Lib.hid (fun w1 => IFrom hp.z.1 hp.z.2 w1)
  have F : Hid (Fr w ((w.alloc (.cells #[.int .i64 p.x, .int .i64 p.y, .int .i64 p.z] 23)).alloc (.cells #[.bool false, .string ⟨#[]⟩, .bool false, .string ⟨#[]⟩, .bool false, .string ⟨#[]⟩] 65)) [(w.heap.size, .cells #[.int .i64 p.x, .int .i64 p.y, .int .i64 p.z] 23 (0, 0)), (w.heap.size + 1, .cells #[.bool false, .string ⟨#[]⟩, .bool false, .string ⟨#[]⟩, .bool false, .string ⟨#[]⟩] 65 (0, 0))]) := Lib.hid (((Fr.nil w).add (.cells #[.int .i64 p.x, .int .i64 p.y, .int .i64 p.z] 23) (w.heap.size) rfl).add (.cells #[.bool false, .string ⟨#[]⟩, .bool false, .string ⟨#[]⟩, .bool false, .string ⟨#[]⟩] 65) (w.heap.size + 1) (by simp))
  have SF := Lib.hid (fun (w3 : World) (h : Fr w w3 [(w.heap.size, .cells #[.int .i64 p.x, .int .i64 p.y, .int .i64 p.z] 23 (0, 0)), (w.heap.size + 1, .cells #[.bool false, .string ⟨#[]⟩, .bool false, .string ⟨#[]⟩, .bool false, .string ⟨#[]⟩] 65 (0, 0))]) => h.three 0 rfl)
  have ST := Lib.hid (fun (w3 : World) (x y z u v r : Value) (h : Fr w w3 [(w.heap.size, .cells #[.int .i64 p.x, .int .i64 p.y, .int .i64 p.z] 23 (0, 0)), (w.heap.size + 1, .cells #[.bool false, .string ⟨#[]⟩, .bool false, .string ⟨#[]⟩, .bool false, .string ⟨#[]⟩] 65 (0, 0))]) => ((h.only 0 rfl).away6 (b := w.heap.size + 1) (by simp) (by omega) x y z u v r).three 0 rfl)
  clear hp
  obtain ⟨a0, a1, a2⟩ := F.out.three 0 rfl
  go_enter Tryd.func35, Tryd.ntmps35
  go_wp2_with fail
  go_region_held3 (fun w3 => w3.cell? ⟨w.heap.size, 0, none⟩ = some (.int .i64 p.x) ∧ w3.cell? ⟨w.heap.size, 1, none⟩ = some (.int .i64 p.y) ∧ w3.cell? ⟨w.heap.size, 2, none⟩ = some (.int .i64 p.z)) (first | with_reducible exact SF.out _ F.out | with_reducible exact SF.out _ F.out.drew | with_reducible exact ST.out _ _ _ _ _ _ _ F.out) (first
    | (go_at_call 58; (first | (with_reducible refine (C0.out _).mono ?_) | (with_reducible refine (C1.out _).mono ?_) | (with_reducible refine (C2.out _).mono ?_)); rintro e w3 ⟨rfl, hT⟩; (first | (with_reducible have F := Lib.hid (F.out.keep hT)) | (have F := Lib.hid (F.out.drew.keep hT))); clear hT; obtain ⟨r0, r1, r2, r3, r4, r5⟩ := F.out.six 1 rfl; obtain ⟨f0, f1, f2, f3, f4, f5⟩ := F.out.fro6 1 rfl))
  go_wp2
  refine bodyPost_ret (v := .agg #[.bool (sgz p.x), .string (moz p.x), .bool (sgz p.y), .string (moz p.y), .bool (sgz p.z), .string (moz p.z)]) (by simp [results, Tryd.results35, go_sem, r0, r1, r2, r3, r4, r5]) rfl ⟨rfl, F.out.fin6 1 rfl _ _ _ _ _ _⟩

/-- The number D of a plane whose normal is n and that goes through a. -/
def dI (n a : P3) : Int := -(0 + n.x * a.x + n.y * a.y + n.z * a.z)

set_option maxHeartbeats 4000000 in
set_option maxRecDepth 100000 in
theorem planeOf (a b c : P3) (ha : a.Ok) (hb : b.Ok) (hc : c.Ok) (w : World) :
    Calls Tryd.prog 26 #[.agg #[.int .i64 a.x, .int .i64 a.y, .int .i64 a.z, .int .i64 b.x, .int .i64 b.y, .int .i64 b.z, .int .i64 c.x, .int .i64 c.y, .int .i64 c.z]] w fun e w' => e = .returned (.agg #[.bool (sgz ((nrmI a b c).x)), .string (moz ((nrmI a b c).x)), .bool (sgz ((nrmI a b c).y)), .string (moz ((nrmI a b c).y)), .bool (sgz ((nrmI a b c).z)), .string (moz ((nrmI a b c).z)), .bool (sgz (dI (nrmI a b c) a)), .string (moz (dI (nrmI a b c) a))]) ∧ Tch [] w w' := by
  have hn := nrmI_sm ha hb hc
  have c1 := fun w1 => Normal a b c ha hb hc w1
  obtain ⟨n, en⟩ : ∃ n, n = nrmI a b c := ⟨_, rfl⟩
  rw [← en] at c1 hn ⊢
  have c2 := fun w1 => coordsOf a ha w1
  have c3 := fun w1 => linAt n.x n.y n.z 0 a.x a.y a.z (hn.x.mono (by omega)) (hn.y.mono (by omega)) (hn.z.mono (by omega)) (Sm.nul 2000) ((Sm.i64 ha.x.1 ha.x.2).mono (by omega)) ((Sm.i64 ha.y.1 ha.y.2).mono (by omega)) ((Sm.i64 ha.z.1 ha.z.2).mono (by omega)) w1
  rw [sgz_nul, moz_nul] at c3
  have hd : Sm 3000 (0 + n.x * a.x + n.y * a.y + n.z * a.z) := by
    have h1 := hn.x.mul (Sm.i64 ha.x.1 ha.x.2)
    have h2 := hn.y.mul (Sm.i64 ha.y.1 ha.y.2)
    have h3 := hn.z.mul (Sm.i64 ha.z.1 ha.z.2)
    exact ((((Sm.nul 195).add h1).add (h2.mono (l := 196) (by omega))).add (h3.mono (l := 197) (by omega))).mono (by omega)
  have c4 := fun w1 => KNeg hd w1
  rw [show -(0 + n.x * a.x + n.y * a.y + n.z * a.z) = dI n a from rfl] at c4
  obtain ⟨e, he⟩ : ∃ e, e = 0 + n.x * a.x + n.y * a.y + n.z * a.z := ⟨_, rfl⟩
  obtain ⟨d, hd'⟩ : ∃ d, d = dI n a := ⟨_, rfl⟩
  rw [← he] at c3 c4
  rw [← hd'] at c4 ⊢
  have C1 := Lib.hid c1
  have C2 := Lib.hid c2
  have C3 := Lib.hid c3
  have C4 := Lib.hid c4
  clear c1 c2 c3 c4 hn en hd he hd' ha hb hc
  have F0 : Hid (Fr w ((w.alloc (.cells #[.int .i64 a.x, .int .i64 a.y, .int .i64 a.z, .int .i64 b.x, .int .i64 b.y, .int .i64 b.z, .int .i64 c.x, .int .i64 c.y, .int .i64 c.z] 31)).alloc (.cells #[.bool false, .string ⟨#[]⟩, .bool false, .string ⟨#[]⟩, .bool false, .string ⟨#[]⟩, .bool false, .string ⟨#[]⟩] 57)) [(w.heap.size, .cells #[.int .i64 a.x, .int .i64 a.y, .int .i64 a.z, .int .i64 b.x, .int .i64 b.y, .int .i64 b.z, .int .i64 c.x, .int .i64 c.y, .int .i64 c.z] 31 (0, 0)), (w.heap.size + 1, .cells #[.bool false, .string ⟨#[]⟩, .bool false, .string ⟨#[]⟩, .bool false, .string ⟨#[]⟩, .bool false, .string ⟨#[]⟩] 57 (0, 0))]) := Lib.hid (((Fr.nil w).add (.cells #[.int .i64 a.x, .int .i64 a.y, .int .i64 a.z, .int .i64 b.x, .int .i64 b.y, .int .i64 b.z, .int .i64 c.x, .int .i64 c.y, .int .i64 c.z] 31) (w.heap.size) rfl).add (.cells #[.bool false, .string ⟨#[]⟩, .bool false, .string ⟨#[]⟩, .bool false, .string ⟨#[]⟩, .bool false, .string ⟨#[]⟩] 57) (w.heap.size + 1) (by simp))
  go_enter Tryd.func26, Tryd.ntmps26
  go_wp2_with fail
  refine (C1.out _).mono ?_
  rintro e w1 ⟨rfl, hT⟩
  have F : Hid (Fr w (w1.alloc (.cells #[.bool (sgz n.x), .string (moz n.x), .bool (sgz n.y), .string (moz n.y), .bool (sgz n.z), .string (moz n.z)] 64)) [(w.heap.size, .cells #[.int .i64 a.x, .int .i64 a.y, .int .i64 a.z, .int .i64 b.x, .int .i64 b.y, .int .i64 b.z, .int .i64 c.x, .int .i64 c.y, .int .i64 c.z] 31 (0, 0)), (w.heap.size + 1, .cells #[.bool false, .string ⟨#[]⟩, .bool false, .string ⟨#[]⟩, .bool false, .string ⟨#[]⟩, .bool false, .string ⟨#[]⟩] 57 (0, 0)), (w1.heap.size, .cells #[.bool (sgz n.x), .string (moz n.x), .bool (sgz n.y), .string (moz n.y), .bool (sgz n.z), .string (moz n.z)] 64 (0, 0))]) := Lib.hid ((F0.out.keep hT).add (.cells #[.bool (sgz n.x), .string (moz n.x), .bool (sgz n.y), .string (moz n.y), .bool (sgz n.z), .string (moz n.z)] 64) w1.heap.size rfl)
  have hs : w.heap.size + 2 ≤ w1.heap.size := by have := hT.size; simp at this; omega
  have F2 : Hid (Fr w ((w1.alloc (.cells #[.bool (sgz n.x), .string (moz n.x), .bool (sgz n.y), .string (moz n.y), .bool (sgz n.z), .string (moz n.z)] 64)).alloc (.cells #[.bool (sgz n.x), .string (moz n.x), .bool (sgz n.y), .string (moz n.y), .bool (sgz n.z), .string (moz n.z), .bool false, .string ⟨#[]⟩] 57)) [(w.heap.size, .cells #[.int .i64 a.x, .int .i64 a.y, .int .i64 a.z, .int .i64 b.x, .int .i64 b.y, .int .i64 b.z, .int .i64 c.x, .int .i64 c.y, .int .i64 c.z] 31 (0, 0)), (w.heap.size + 1, .cells #[.bool false, .string ⟨#[]⟩, .bool false, .string ⟨#[]⟩, .bool false, .string ⟨#[]⟩, .bool false, .string ⟨#[]⟩] 57 (0, 0)), (w1.heap.size, .cells #[.bool (sgz n.x), .string (moz n.x), .bool (sgz n.y), .string (moz n.y), .bool (sgz n.z), .string (moz n.z)] 64 (0, 0)), (w1.heap.size + 1, .cells #[.bool (sgz n.x), .string (moz n.x), .bool (sgz n.y), .string (moz n.y), .bool (sgz n.z), .string (moz n.z), .bool false, .string ⟨#[]⟩] 57 (0, 0))]) := Lib.hid (F.out.add (.cells #[.bool (sgz n.x), .string (moz n.x), .bool (sgz n.y), .string (moz n.y), .bool (sgz n.z), .string (moz n.z), .bool false, .string ⟨#[]⟩] 57) (w1.heap.size + 1) (by simp))
  have HS := Lib.hid hs
  clear hT F0 C1 hs
  obtain ⟨n0, n1, n2, n3, n4, n5⟩ := F.out.six 2 rfl
  go_upto_region 3 with (fail)
  clear n0 n1 n2 n3 n4 n5 F
  obtain ⟨⟨v0, v1, v2, v3⟩, v4, v5, v6, v7⟩ := F2.out.eight 3 rfl
  have z0 := F2.out.cell 0 0 rfl rfl
  have z1 := F2.out.cell 0 1 rfl rfl
  have z2 := F2.out.cell 0 2 rfl rfl
  go_cut [] (fun wx => Fr w wx [(w.heap.size, .cells #[.int .i64 a.x, .int .i64 a.y, .int .i64 a.z, .int .i64 b.x, .int .i64 b.y, .int .i64 b.z, .int .i64 c.x, .int .i64 c.y, .int .i64 c.z] 31 (0, 0)), (w.heap.size + 1, .cells #[.bool false, .string ⟨#[]⟩, .bool false, .string ⟨#[]⟩, .bool false, .string ⟨#[]⟩, .bool false, .string ⟨#[]⟩] 57 (0, 0)), (w1.heap.size, .cells #[.bool (sgz n.x), .string (moz n.x), .bool (sgz n.y), .string (moz n.y), .bool (sgz n.z), .string (moz n.z)] 64 (0, 0)), (w1.heap.size + 1, .cells #[.bool (sgz n.x), .string (moz n.x), .bool (sgz n.y), .string (moz n.y), .bool (sgz n.z), .string (moz n.z), .bool (sgz d), .string (moz d)] 57 (0, 0))])
  case first =>
    go_region_with (first
      | (go_at_call 35; refine (C2.out _).mono ?_; rintro e w3 ⟨rfl, hT1⟩; have G := Lib.hid (F2.out.drew.keep hT1); obtain ⟨⟨t0, t1, t2, t3⟩, t4, t5, t6, t7⟩ := G.out.eight 3 rfl; clear hT1)
      | (go_at_call 36; refine (C3.out _).mono ?_; rintro e w4 ⟨rfl, hT2⟩; have G2 := Lib.hid (G.out.keep hT2); clear hT2)
      | (go_at_call 50; refine (C4.out _).mono ?_; rintro e w5 ⟨rfl, hT3⟩; have G3 := Lib.hid (G2.out.keep hT3); obtain ⟨⟨g0, g1, g2, g3⟩, g4, g5, g6, g7⟩ := G3.out.fro8 3 rfl; obtain ⟨⟨u0, u1, u2, u3⟩, u4, u5, u6, u7⟩ := G3.out.eight 3 rfl; clear hT3))
    all_goals (go_wp2_with fail; go_meet; exact ((Fr.setC (l1 := [(w.heap.size, .cells #[.int .i64 a.x, .int .i64 a.y, .int .i64 a.z, .int .i64 b.x, .int .i64 b.y, .int .i64 b.z, .int .i64 c.x, .int .i64 c.y, .int .i64 c.z] 31 (0, 0)), (w.heap.size + 1, .cells #[.bool false, .string ⟨#[]⟩, .bool false, .string ⟨#[]⟩, .bool false, .string ⟨#[]⟩, .bool false, .string ⟨#[]⟩] 57 (0, 0)), (w1.heap.size, .cells #[.bool (sgz n.x), .string (moz n.x), .bool (sgz n.y), .string (moz n.y), .bool (sgz n.z), .string (moz n.z)] 64 (0, 0))]) (l2 := []) G3.out (by have := HS.out; simp; omega) 6 _).setC (l1 := [(w.heap.size, .cells #[.int .i64 a.x, .int .i64 a.y, .int .i64 a.z, .int .i64 b.x, .int .i64 b.y, .int .i64 b.z, .int .i64 c.x, .int .i64 c.y, .int .i64 c.z] 31 (0, 0)), (w.heap.size + 1, .cells #[.bool false, .string ⟨#[]⟩, .bool false, .string ⟨#[]⟩, .bool false, .string ⟨#[]⟩, .bool false, .string ⟨#[]⟩] 57 (0, 0)), (w1.heap.size, .cells #[.bool (sgz n.x), .string (moz n.x), .bool (sgz n.y), .string (moz n.y), .bool (sgz n.z), .string (moz n.z)] 64 (0, 0))]) (l2 := []) (by have := HS.out; simp; omega) 7 _))
  case rest =>
    have F := Lib.hid hcut
    clear hcut
    obtain ⟨⟨t0, t1, t2, t3⟩, t4, t5, t6, t7⟩ := F.out.eight 3 rfl
    obtain ⟨⟨r0, r1, r2, r3⟩, r4, r5, r6, r7⟩ := F.out.eight 1 rfl
    obtain ⟨⟨g0, g1, g2, g3⟩, g4, g5, g6, g7⟩ := F.out.fro8 1 rfl
    go_wp2
    refine bodyPost_ret (v := .agg #[.bool (sgz n.x), .string (moz n.x), .bool (sgz n.y), .string (moz n.y), .bool (sgz n.z), .string (moz n.z), .bool (sgz d), .string (moz d)]) (by simp [results, Tryd.results26, go_sem, r0, r1, r2, r3, r4, r5, r6, r7]) rfl ⟨rfl, F.out.fin8 1 rfl _ _ _ _ _ _ _ _⟩

end Go.Proofs.YtmpfgkpimjiecaaDoor
