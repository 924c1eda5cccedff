/- The reference: num, mul, add, Plane. -/
import Derived.Test.YtmpfgkpimjiecaaDoorQs
import Derived.Test.YtmpfgkpimjiecaaDoorRn
namespace Go.Proofs.YtmpfgkpimjiecaaDoor
open Go Go.RowKit Dg

theorem Sm.repC {z : Int} (h : Sm 3000 z) : Rep 1000 (sgz z) (moz z) z := (Rep.mo (Sm.bytes (k := 375) (h.mono (by omega)))).mono (by omega)
section
variable {x y : Int}
theorem LMul (hx : Sm 3000 x) (hy : Sm 3000 y) (w : World) :
    Calls Tryd.prog 15 #[.agg #[.bool (sgz x), .string (moz x)], .agg #[.bool (sgz y), .string (moz y)]] w fun e w' => e = .returned (.agg #[.bool (sgz (x * y)), .string (moz (x * y))]) ∧ Tch [] w w' := by
  rw [← wz_sm (x * y)]; exact rMul hx.repC hy.repC w
theorem LAdd (hx : Sm 3000 x) (hy : Sm 3000 y) (w : World) :
    Calls Tryd.prog 19 #[.agg #[.bool (sgz x), .string (moz x)], .agg #[.bool (sgz y), .string (moz y)]] w fun e w' => e = .returned (.agg #[.bool (sgz (x + y)), .string (moz (x + y))]) ∧ Tch [] w w' := by
  rw [← wz_sm (x + y)]; exact rAdd hx.repC hy.repC w
theorem LSub (hx : Sm 3000 x) (hy : Sm 3000 y) (w : World) :
    Calls Tryd.prog 57 #[.agg #[.bool (sgz x), .string (moz x)], .agg #[.bool (sgz y), .string (moz y)]] w fun e w' => e = .returned (.agg #[.bool (sgz (x - y)), .string (moz (x - y))]) ∧ Tch [] w w' := by
  rw [← wz_sm (x - y)]; exact rSub hx.repC hy.repC w
end

theorem rNum (n : Int) (h1 : -9223372036854775808 ≤ n) (h2 : n ≤ 9223372036854775807) (w : World) :
    Calls Tryd.prog 32 #[.int .i64 n] w fun e w' => e = .returned (.agg #[.bool (sgz n), .string (moz n)]) ∧ Tch [] w w' := by
  have C := Lib.hid (fun w1 => JFrom h1 h2 w1)
  have F : Hid (Fr w (w.alloc (.cells #[.bool false, .string ⟨#[]⟩] 26)) [(w.heap.size, .cells #[.bool false, .string ⟨#[]⟩] 26 (0, 0))]) := Lib.hid ((Fr.nil w).add (.cells #[.bool false, .string ⟨#[]⟩] 26) w.heap.size rfl)
  clear h1 h2
  go_enter Tryd.func32, Tryd.ntmps32
  go_wp2_with fail
  refine (C.out _).mono ?_
  rintro e w1 ⟨rfl, hT⟩
  have F := Lib.hid (F.out.keep hT)
  clear hT
  obtain ⟨r0, r1⟩ := F.out.two 0 rfl
  obtain ⟨g0, g1⟩ := F.out.fro2 0 rfl
  go_wp2
  refine bodyPost_ret (v := .agg #[.bool (sgz n), .string (moz n)]) (by simp [results, Tryd.results32, go_sem, r0, r1]) rfl ⟨rfl, F.out.fin2 0 rfl _ _⟩

set_option maxHeartbeats 2000000 in
set_option maxRecDepth 100000 in
theorem rMul10 {x y : Int} (hx : Sm 3000 x) (hy : Sm 3000 y) (w : World) :
    Calls Tryd.prog 33 #[.agg #[.bool (sgz x), .string (moz x)], .agg #[.bool (sgz y), .string (moz y)]] w fun e w' => e = .returned (.agg #[.bool (sgz (x * y)), .string (moz (x * y))]) ∧ Tch [] w w' := by
  have c := fun w1 => LMul hx hy w1
  obtain ⟨z, ez⟩ : ∃ z, z = x * y := ⟨_, rfl⟩
  rw [← ez] at c ⊢
  have C := Lib.hid c
  clear c ez hx hy
  have F : Hid (Fr w (((w.alloc (.cells #[.bool (sgz x), .string (moz x)] 26)).alloc (.cells #[.bool (sgz y), .string (moz y)] 26)).alloc (.cells #[.bool false, .string ⟨#[]⟩] 26)) [(w.heap.size, .cells #[.bool (sgz x), .string (moz x)] 26 (0, 0)), (w.heap.size + 1, .cells #[.bool (sgz y), .string (moz y)] 26 (0, 0)), (w.heap.size + 1 + 1, .cells #[.bool false, .string ⟨#[]⟩] 26 (0, 0))]) := Lib.hid ((((Fr.nil w).add (.cells #[.bool (sgz x), .string (moz x)] 26) (w.heap.size) rfl).add (.cells #[.bool (sgz y), .string (moz y)] 26) (w.heap.size + 1) (by simp)).add (.cells #[.bool false, .string ⟨#[]⟩] 26) (w.heap.size + 1 + 1) (by simp))
  go_enter Tryd.func33, Tryd.ntmps33
  go_wp2_with fail
  refine (C.out _).mono ?_
  rintro e w1 ⟨rfl, hT⟩
  have F := Lib.hid (F.out.keep hT)
  clear hT
  obtain ⟨r0, r1⟩ := F.out.two 2 rfl
  obtain ⟨g0, g1⟩ := F.out.fro2 2 rfl
  go_wp2
  refine bodyPost_ret (v := .agg #[.bool (sgz z), .string (moz z)]) (by simp [results, Tryd.results33, go_sem, r0, r1]) rfl ⟨rfl, F.out.fin2 2 rfl _ _⟩

set_option maxHeartbeats 2000000 in
set_option maxRecDepth 100000 in
theorem rAdd10 {x y : Int} (hx : Sm 3000 x) (hy : Sm 3000 y) (w : World) :
    Calls Tryd.prog 34 #[.agg #[.bool (sgz x), .string (moz x)], .agg #[.bool (sgz y), .string (moz y)]] w fun e w' => e = .returned (.agg #[.bool (sgz (x + y)), .string (moz (x + y))]) ∧ Tch [] w w' := by
  have c := fun w1 => LAdd hx hy w1
  obtain ⟨z, ez⟩ : ∃ z, z = x + y := ⟨_, rfl⟩
  rw [← ez] at c ⊢
  have C := Lib.hid c
  clear c ez hx hy
  have F : Hid (Fr w (((w.alloc (.cells #[.bool (sgz x), .string (moz x)] 26)).alloc (.cells #[.bool (sgz y), .string (moz y)] 26)).alloc (.cells #[.bool false, .string ⟨#[]⟩] 26)) [(w.heap.size, .cells #[.bool (sgz x), .string (moz x)] 26 (0, 0)), (w.heap.size + 1, .cells #[.bool (sgz y), .string (moz y)] 26 (0, 0)), (w.heap.size + 1 + 1, .cells #[.bool false, .string ⟨#[]⟩] 26 (0, 0))]) := Lib.hid ((((Fr.nil w).add (.cells #[.bool (sgz x), .string (moz x)] 26) (w.heap.size) rfl).add (.cells #[.bool (sgz y), .string (moz y)] 26) (w.heap.size + 1) (by simp)).add (.cells #[.bool false, .string ⟨#[]⟩] 26) (w.heap.size + 1 + 1) (by simp))
  go_enter Tryd.func34, Tryd.ntmps34
  go_wp2_with fail
  refine (C.out _).mono ?_
  rintro e w1 ⟨rfl, hT⟩
  have F := Lib.hid (F.out.keep hT)
  clear hT
  obtain ⟨r0, r1⟩ := F.out.two 2 rfl
  obtain ⟨g0, g1⟩ := F.out.fro2 2 rfl
  go_wp2
  refine bodyPost_ret (v := .agg #[.bool (sgz z), .string (moz z)]) (by simp [results, Tryd.results34, go_sem, r0, r1]) rfl ⟨rfl, F.out.fin2 2 rfl _ _⟩

theorem Fr.away8 {w0 w : World} {l : List (Nat × Obj)} (h : Fr w0 w l) {b : Nat} (hp : ∀ q ∈ l, q.1 ≠ b) (hn : w0.heap.size ≤ b) (x y z u v r s t : Value) : Fr w0 ((((((((w.setCell ⟨b, 0, none⟩ x).setCell ⟨b, 1, none⟩ y).setCell ⟨b, 2, none⟩ z).setCell ⟨b, 3, none⟩ u).setCell ⟨b, 4, none⟩ v).setCell ⟨b, 5, none⟩ r).setCell ⟨b, 6, none⟩ s).setCell ⟨b, 7, none⟩ t) l :=
  ((h.away6 hp hn x y z u v r).away (p := ⟨b, 6, none⟩) hp hn s).away (p := ⟨b, 7, none⟩) hp hn t
/-- The reference's D: 0 minus the sum, in its order. -/
def rdI (n a : P3) : Int := 0 - (n.x * a.x + (n.y * a.y + n.z * a.z))
theorem rdI_eq (n a : P3) : rdI n a = dI n a := by unfold rdI dI; omega

set_option maxHeartbeats 8000000 in
set_option maxRecDepth 100000 in
theorem rPlane (a b c : P3) (ha : a.Ok) (hb : b.Ok) (hc : c.Ok) (w : World) :
    Calls Tryd.prog 31 #[.agg #[.int .i64 a.x, .int .i64 a.y, .int .i64 a.z, .int .i64 b.x, .int .i64 b.y, .int .i64 b.z, .int .i64 c.x, .int .i64 c.y, .int .i64 c.z]] w fun e w' => e = .returned (.agg (LV (plI a b c))) ∧ Tch [] w w' := by
  have hn := nrmI_sm ha hb hc
  have c1 := fun w1 => rNormal a b c ha hb hc w1
  have er : LV (plI a b c) = #[.bool (sgz ((nrmI a b c).x)), .string (moz ((nrmI a b c).x)), .bool (sgz ((nrmI a b c).y)), .string (moz ((nrmI a b c).y)), .bool (sgz ((nrmI a b c).z)), .string (moz ((nrmI a b c).z)), .bool (sgz (rdI (nrmI a b c) a)), .string (moz (rdI (nrmI a b c) a))] := by rw [rdI_eq]; rfl
  rw [er]
  clear er
  obtain ⟨n, en⟩ : ∃ n, n = nrmI a b c := ⟨_, rfl⟩
  rw [← en] at c1 hn ⊢
  have m0 := hn.x.mul (Sm.i64 ha.x.1 ha.x.2)
  have m1 := hn.y.mul (Sm.i64 ha.y.1 ha.y.2)
  have m2 := hn.z.mul (Sm.i64 ha.z.1 ha.z.2)
  have s1 := m1.add m2
  have s0 := (m0.mono (l := 196) (by omega)).add s1
  have d0 := fun w1 => rNum a.x ha.x.1 ha.x.2 w1
  have d1 := fun w1 => rNum a.y ha.y.1 ha.y.2 w1
  have d2 := fun w1 => rNum a.z ha.z.1 ha.z.2 w1
  have e0 := fun w1 => rMul10 (hn.x.mono (l := 3000) (by omega)) ((Sm.i64 ha.x.1 ha.x.2).mono (l := 3000) (by omega)) w1
  have e1 := fun w1 => rMul10 (hn.y.mono (l := 3000) (by omega)) ((Sm.i64 ha.y.1 ha.y.2).mono (l := 3000) (by omega)) w1
  have e2 := fun w1 => rMul10 (hn.z.mono (l := 3000) (by omega)) ((Sm.i64 ha.z.1 ha.z.2).mono (l := 3000) (by omega)) w1
  have f1 := fun w1 => rAdd10 (m1.mono (l := 3000) (by omega)) (m2.mono (l := 3000) (by omega)) w1
  have f0 := fun w1 => rAdd10 (m0.mono (l := 3000) (by omega)) (s1.mono (l := 3000) (by omega)) w1
  have k0 := fun w1 => rNum 0 (by decide) (by decide) w1
  have k1 := fun w1 => LSub (Sm.nul 3000) (s0.mono (l := 3000) (by omega)) w1
  have ed : rdI n a = 0 - (n.x * a.x + (n.y * a.y + n.z * a.z)) := rfl
  rw [← ed] at k1
  obtain ⟨x2, h2⟩ : ∃ x2, x2 = n.y * a.y + n.z * a.z := ⟨_, rfl⟩
  rw [← h2] at f1 f0 k1
  obtain ⟨x3, h3⟩ : ∃ x3, x3 = n.x * a.x + x2 := ⟨_, rfl⟩
  rw [← h3] at f0 k1
  obtain ⟨y0, g0⟩ : ∃ y0, y0 = n.x * a.x := ⟨_, rfl⟩
  obtain ⟨y1, g1⟩ : ∃ y1, y1 = n.y * a.y := ⟨_, rfl⟩
  obtain ⟨y2, g2⟩ : ∃ y2, y2 = n.z * a.z := ⟨_, rfl⟩
  rw [← g0] at e0 f0
  rw [← g1] at e1 f1
  rw [← g2] at e2 f1
  obtain ⟨d, hd⟩ : ∃ d, d = rdI n a := ⟨_, rfl⟩
  rw [← hd] at k1 ⊢
  have C1 := Lib.hid c1
  have D0 := Lib.hid d0
  have D1 := Lib.hid d1
  have D2 := Lib.hid d2
  have E0 := Lib.hid e0
  have E1 := Lib.hid e1
  have E2 := Lib.hid e2
  have F1 := Lib.hid f1
  have F0 := Lib.hid f0
  have K0 := Lib.hid k0
  have K1 := Lib.hid k1
  clear c1 d0 d1 d2 e0 e1 e2 f1 f0 k0 k1 m0 m1 m2 s0 s1 ed h2 h3 g0 g1 g2 hd hn en ha hb hc
  have F : Hid (Fr w ((w.alloc (.cells #[.int .i64 a.x, .int .i64 a.y, .int .i64 a.z, .int .i64 b.x, .int .i64 b.y, .int .i64 b.z, .int .i64 c.x, .int .i64 c.y, .int .i64 c.z] 31)).alloc (.cells #[.bool false, .string ⟨#[]⟩, .bool false, .string ⟨#[]⟩, .bool false, .string ⟨#[]⟩, .bool false, .string ⟨#[]⟩] 56)) [(w.heap.size, .cells #[.int .i64 a.x, .int .i64 a.y, .int .i64 a.z, .int .i64 b.x, .int .i64 b.y, .int .i64 b.z, .int .i64 c.x, .int .i64 c.y, .int .i64 c.z] 31 (0, 0)), (w.heap.size + 1, .cells #[.bool false, .string ⟨#[]⟩, .bool false, .string ⟨#[]⟩, .bool false, .string ⟨#[]⟩, .bool false, .string ⟨#[]⟩] 56 (0, 0))]) := Lib.hid (((Fr.nil w).add (.cells #[.int .i64 a.x, .int .i64 a.y, .int .i64 a.z, .int .i64 b.x, .int .i64 b.y, .int .i64 b.z, .int .i64 c.x, .int .i64 c.y, .int .i64 c.z] 31) (w.heap.size) rfl).add (.cells #[.bool false, .string ⟨#[]⟩, .bool false, .string ⟨#[]⟩, .bool false, .string ⟨#[]⟩, .bool false, .string ⟨#[]⟩] 56) (w.heap.size + 1) (by simp))
  go_enter Tryd.func31, Tryd.ntmps31
  go_wp2_with fail
  refine (C1.out _).mono ?_
  rintro e w1 ⟨rfl, hT⟩
  have HN : Hid (w.heap.size + 2 ≤ w1.heap.size) := Lib.hid (by have := hT.size; simp at this; omega)
  have F : Hid (Fr w (w1.alloc (.cells #[.bool (sgz n.x), .string (moz n.x), .bool (sgz n.y), .string (moz n.y), .bool (sgz n.z), .string (moz n.z)] 64)) [(w.heap.size, .cells #[.int .i64 a.x, .int .i64 a.y, .int .i64 a.z, .int .i64 b.x, .int .i64 b.y, .int .i64 b.z, .int .i64 c.x, .int .i64 c.y, .int .i64 c.z] 31 (0, 0)), (w.heap.size + 1, .cells #[.bool false, .string ⟨#[]⟩, .bool false, .string ⟨#[]⟩, .bool false, .string ⟨#[]⟩, .bool false, .string ⟨#[]⟩] 56 (0, 0)), (w1.heap.size, .cells #[.bool (sgz n.x), .string (moz n.x), .bool (sgz n.y), .string (moz n.y), .bool (sgz n.z), .string (moz n.z)] 64 (0, 0))]) := Lib.hid ((F.out.keep hT).add (.cells #[.bool (sgz n.x), .string (moz n.x), .bool (sgz n.y), .string (moz n.y), .bool (sgz n.z), .string (moz n.z)] 64) w1.heap.size rfl)
  clear hT C1
  have SA := Lib.hid (fun (w' : World) (h : Fr w w' [(w.heap.size, .cells #[.int .i64 a.x, .int .i64 a.y, .int .i64 a.z, .int .i64 b.x, .int .i64 b.y, .int .i64 b.z, .int .i64 c.x, .int .i64 c.y, .int .i64 c.z] 31 (0, 0)), (w.heap.size + 1, .cells #[.bool false, .string ⟨#[]⟩, .bool false, .string ⟨#[]⟩, .bool false, .string ⟨#[]⟩, .bool false, .string ⟨#[]⟩] 56 (0, 0)), (w1.heap.size, .cells #[.bool (sgz n.x), .string (moz n.x), .bool (sgz n.y), .string (moz n.y), .bool (sgz n.z), .string (moz n.z)] 64 (0, 0))]) => (show (w'.cell? ⟨w.heap.size, 0, none⟩ = some (.int .i64 a.x) ∧ w'.cell? ⟨w.heap.size, 1, none⟩ = some (.int .i64 a.y) ∧ w'.cell? ⟨w.heap.size, 2, none⟩ = some (.int .i64 a.z)) ∧ w'.cell? ⟨w1.heap.size, 0, none⟩ = some (.bool (sgz n.x)) ∧ w'.cell? ⟨w1.heap.size, 1, none⟩ = some (.string (moz n.x)) ∧ w'.cell? ⟨w1.heap.size, 2, none⟩ = some (.bool (sgz n.y)) ∧ w'.cell? ⟨w1.heap.size, 3, none⟩ = some (.string (moz n.y)) ∧ w'.cell? ⟨w1.heap.size, 4, none⟩ = some (.bool (sgz n.z)) ∧ w'.cell? ⟨w1.heap.size, 5, none⟩ = some (.string (moz n.z)) from ⟨⟨h.cell 0 0 rfl rfl, h.cell 0 1 rfl rfl, h.cell 0 2 rfl rfl⟩, h.six 2 rfl⟩))
  go_upto_region 2 with (fail)
  generalize w1.alloc (.cells #[.bool (sgz n.x), .string (moz n.x), .bool (sgz n.y), .string (moz n.y), .bool (sgz n.z), .string (moz n.z)] 64) = W at F ⊢
  go_cut [4] (fun s4 wx => MidB w [(w.heap.size, .cells #[.int .i64 a.x, .int .i64 a.y, .int .i64 a.z, .int .i64 b.x, .int .i64 b.y, .int .i64 b.z, .int .i64 c.x, .int .i64 c.y, .int .i64 c.z] 31 (0, 0)), (w.heap.size + 1, .cells #[.bool false, .string ⟨#[]⟩, .bool false, .string ⟨#[]⟩, .bool false, .string ⟨#[]⟩, .bool false, .string ⟨#[]⟩] 56 (0, 0)), (w1.heap.size, .cells #[.bool (sgz n.x), .string (moz n.x), .bool (sgz n.y), .string (moz n.y), .bool (sgz n.z), .string (moz n.z)] 64 (0, 0))] (.cells #[.bool (sgz x3), .string (moz x3)] 26 (0, 0)) s4 wx)
  case first =>
    go_region_held3 (fun w' => (w'.cell? ⟨w.heap.size, 0, none⟩ = some (.int .i64 a.x) ∧ w'.cell? ⟨w.heap.size, 1, none⟩ = some (.int .i64 a.y) ∧ w'.cell? ⟨w.heap.size, 2, none⟩ = some (.int .i64 a.z)) ∧ w'.cell? ⟨w1.heap.size, 0, none⟩ = some (.bool (sgz n.x)) ∧ w'.cell? ⟨w1.heap.size, 1, none⟩ = some (.string (moz n.x)) ∧ w'.cell? ⟨w1.heap.size, 2, none⟩ = some (.bool (sgz n.y)) ∧ w'.cell? ⟨w1.heap.size, 3, none⟩ = some (.string (moz n.y)) ∧ w'.cell? ⟨w1.heap.size, 4, none⟩ = some (.bool (sgz n.z)) ∧ w'.cell? ⟨w1.heap.size, 5, none⟩ = some (.string (moz n.z))) (first | with_reducible exact SA.out _ F3.out | with_reducible exact SA.out _ (F3.out.beside _) | with_reducible exact SA.out _ (F3.out.box2 _ _ _) | with_reducible exact SA.out _ (B3.out.set2 _ _) | with_reducible exact SA.out _ F.out | with_reducible exact SA.out _ F.out.drew | with_reducible exact SA.out _ (F.out.drew.beside _) | with_reducible exact SA.out _ (F.out.beside _).drew) (first
      | (go_at_call 32; (first | (with_reducible refine (D0.out _).mono ?_) | (with_reducible refine (D1.out _).mono ?_) | (with_reducible refine (D2.out _).mono ?_)); rintro e w5 ⟨rfl, hT⟩; (first | (with_reducible have B3 := Lib.hid (B3.out.keep hT); clear z0 z1' f0 f1; obtain ⟨⟨z0, z1'⟩, ⟨f0, f1⟩⟩ := B3.out.two; have F3 := Lib.hid B3.out.f) | (with_reducible have F3 := Lib.hid (F3.out.keep hT)) | (with_reducible have B3 := Lib.hid (F3.out.boxed _ hT); obtain ⟨⟨z0, z1'⟩, ⟨f0, f1⟩⟩ := B3.out.two; have F3 := Lib.hid B3.out.f) | (with_reducible have B3 := Lib.hid (F.out.boxedAt _ W.heap.size rfl (Tch.undrew hT)); obtain ⟨⟨z0, z1'⟩, ⟨f0, f1⟩⟩ := B3.out.two; have F3 := Lib.hid B3.out.f) | (with_reducible have F3 := Lib.hid (F.out.keep (Tch.undrew hT)))); clear hT)
      | (go_at_call 33; (first | (with_reducible refine (E0.out _).mono ?_) | (with_reducible refine (E1.out _).mono ?_) | (with_reducible refine (E2.out _).mono ?_)); rintro e w5 ⟨rfl, hT⟩; (first | (with_reducible have B3 := Lib.hid (B3.out.keep hT); clear z0 z1' f0 f1; obtain ⟨⟨z0, z1'⟩, ⟨f0, f1⟩⟩ := B3.out.two; have F3 := Lib.hid B3.out.f) | (with_reducible have F3 := Lib.hid (F3.out.keep hT)) | (with_reducible have B3 := Lib.hid (F3.out.boxed _ hT); obtain ⟨⟨z0, z1'⟩, ⟨f0, f1⟩⟩ := B3.out.two; have F3 := Lib.hid B3.out.f) | (with_reducible have B3 := Lib.hid (F.out.boxedAt _ W.heap.size rfl (Tch.undrew hT)); obtain ⟨⟨z0, z1'⟩, ⟨f0, f1⟩⟩ := B3.out.two; have F3 := Lib.hid B3.out.f) | (with_reducible have F3 := Lib.hid (F.out.keep (Tch.undrew hT)))); clear hT)
      | (go_at_call 34; (first | (with_reducible refine (F1.out _).mono ?_) | (with_reducible refine (F0.out _).mono ?_)); rintro e w5 ⟨rfl, hT⟩; (first | (with_reducible have B3 := Lib.hid (B3.out.keep hT); clear z0 z1' f0 f1; obtain ⟨⟨z0, z1'⟩, ⟨f0, f1⟩⟩ := B3.out.two; have F3 := Lib.hid B3.out.f) | (with_reducible have F3 := Lib.hid (F3.out.keep hT)) | (with_reducible have B3 := Lib.hid (F3.out.boxed _ hT); obtain ⟨⟨z0, z1'⟩, ⟨f0, f1⟩⟩ := B3.out.two; have F3 := Lib.hid B3.out.f) | (with_reducible have B3 := Lib.hid (F.out.boxedAt _ W.heap.size rfl (Tch.undrew hT)); obtain ⟨⟨z0, z1'⟩, ⟨f0, f1⟩⟩ := B3.out.two; have F3 := Lib.hid B3.out.f) | (with_reducible have F3 := Lib.hid (F.out.keep (Tch.undrew hT)))); clear hT))
    all_goals (go_wp2_with fail; go_meet; (first | with_reducible exact F3.out.mid _ | with_reducible exact B3.out.mid2 _ _))
  case rest =>
    obtain ⟨b4, rfl, FM, hb, hn⟩ := hcut
    clear F SA
    have F := Lib.hid (FM.take hb hn)
    clear FM hb hn
    have F2 : Hid (Fr w wc [(w1.heap.size, .cells #[.bool (sgz n.x), .string (moz n.x), .bool (sgz n.y), .string (moz n.y), .bool (sgz n.z), .string (moz n.z)] 64 (0, 0)), (b4, .cells #[.bool (sgz x3), .string (moz x3)] 26 (0, 0))]) := Lib.hid ⟨fun q hq => F.out.row q (by simp only [List.cons_append, List.nil_append, List.mem_cons, List.not_mem_nil, or_false] at hq ⊢; rcases hq with h | h <;> simp [h]), fun q hq => F.out.new q (by simp only [List.cons_append, List.nil_append, List.mem_cons, List.not_mem_nil, or_false] at hq ⊢; rcases hq with h | h <;> simp [h]), F.out.t⟩
    have HB : Hid (b4 ≠ w.heap.size + 1) := Lib.hid (by
      intro e
      have h1 := F.out.row (b4, .cells #[.bool (sgz x3), .string (moz x3)] 26 (0, 0)) (by simp)
      have h2 := F.out.at 1 rfl
      rw [← e] at h2
      have h3 := h1.symm.trans h2
      simp at h3)
    have SA := Lib.hid (fun (w' : World) (h : Fr w w' [(w1.heap.size, .cells #[.bool (sgz n.x), .string (moz n.x), .bool (sgz n.y), .string (moz n.y), .bool (sgz n.z), .string (moz n.z)] 64 (0, 0)), (b4, .cells #[.bool (sgz x3), .string (moz x3)] 26 (0, 0))]) => (show (w'.cell? ⟨w1.heap.size, 0, none⟩ = some (.bool (sgz n.x)) ∧ w'.cell? ⟨w1.heap.size, 1, none⟩ = some (.string (moz n.x)) ∧ w'.cell? ⟨w1.heap.size, 2, none⟩ = some (.bool (sgz n.y)) ∧ w'.cell? ⟨w1.heap.size, 3, none⟩ = some (.string (moz n.y)) ∧ w'.cell? ⟨w1.heap.size, 4, none⟩ = some (.bool (sgz n.z)) ∧ w'.cell? ⟨w1.heap.size, 5, none⟩ = some (.string (moz n.z))) ∧ w'.cell? ⟨b4, 0, none⟩ = some (.bool (sgz x3)) ∧ w'.cell? ⟨b4, 1, none⟩ = some (.string (moz x3)) from ⟨h.six 0 rfl, h.two 1 rfl⟩))
    go_upto_region 3 with (fail)
    go_region_held3 (fun w' => (w'.cell? ⟨w1.heap.size, 0, none⟩ = some (.bool (sgz n.x)) ∧ w'.cell? ⟨w1.heap.size, 1, none⟩ = some (.string (moz n.x)) ∧ w'.cell? ⟨w1.heap.size, 2, none⟩ = some (.bool (sgz n.y)) ∧ w'.cell? ⟨w1.heap.size, 3, none⟩ = some (.string (moz n.y)) ∧ w'.cell? ⟨w1.heap.size, 4, none⟩ = some (.bool (sgz n.z)) ∧ w'.cell? ⟨w1.heap.size, 5, none⟩ = some (.string (moz n.z))) ∧ w'.cell? ⟨b4, 0, none⟩ = some (.bool (sgz x3)) ∧ w'.cell? ⟨b4, 1, none⟩ = some (.string (moz x3))) (first | with_reducible exact SA.out _ F2.out | with_reducible exact SA.out _ F2.out.drew | exact SA.out _ (F2.out.away8 (b := w.heap.size + 1) (by have h1 := HN.out; have h2 := HB.out; simp; omega) (by omega) _ _ _ _ _ _ _ _)) (first
      | (go_at_call 32; (with_reducible refine (K0.out _).mono ?_); rintro e w5 ⟨rfl, hT⟩; (first | (with_reducible have F := Lib.hid (F.out.keep hT); have F2 := Lib.hid (F2.out.keep hT)) | (have F := Lib.hid (F.out.drew.keep hT); have F2 := Lib.hid (F2.out.drew.keep hT))); clear hT)
      | (go_at_call 57; (with_reducible refine (K1.out _).mono ?_); rintro e w5 ⟨rfl, hT⟩; have F := Lib.hid (F.out.keep hT); have F2 := Lib.hid (F2.out.keep hT); clear hT; obtain ⟨⟨r0, r1, r2, r3⟩, r4, r5, r6, r7⟩ := F.out.eight 1 rfl; obtain ⟨⟨g0, g1, g2, g3⟩, g4, g5, g6, g7⟩ := F.out.fro8 1 rfl))
    go_wp2
    refine bodyPost_ret (v := .agg #[.bool (sgz n.x), .string (moz n.x), .bool (sgz n.y), .string (moz n.y), .bool (sgz n.z), .string (moz n.z), .bool (sgz d), .string (moz d)]) (by simp [results, Tryd.results31, go_sem, r0, r1, r2, r3, r4, r5, r6, r7]) rfl ⟨rfl, F.out.fin8 1 rfl _ _ _ _ _ _ _ _⟩

end Go.Proofs.YtmpfgkpimjiecaaDoor
