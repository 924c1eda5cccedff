/- The walk of ExactDistances. -/
import Derived.Test.YtfcdggliongkkaaDoorSan2
import Derived.Test.YtfcdggliongkkaaDoorGeo
import Derived.Test.YtfcdggliongkkaaDoorPnt
import Derived.Test.YtfcdggliongkkaaDoorRWv
import Derived.Test.YtfcdggliongkkaaDoorMid
namespace Go.Proofs.YtfcdggliongkkaaDoor
open Go Go.RowKit Dg

theorem eqArr3 (a b c d e f : Int) (w : World) : (Op.equalIn 10000 22 (.agg #[.int .i64 a, .int .i64 b, .int .i64 c]) (.agg #[.int .i64 d, .int .i64 e, .int .i64 f])).run Tryd.prog w = .ok (a == d && b == e && c == f) w := by
  have u3 := Tryd.underlying3
  have a3 := Tryd.isAgg3
  have z3 := Tryd.sizeOf3
  rw [show (10000 : Nat) = 9999 + 1 from rfl, Op.equalIn]
  simp only [Sem.run_bind, run_underlying Tryd.underlying22, Result.andThen_ok]
  simp only [Std.Legacy.Range.forIn_eq_forIn_range', Std.Legacy.Range.size, Nat.sub_zero, Nat.add_sub_cancel, Nat.div_one, List.range'_succ, List.range'_zero, List.forIn_cons, List.forIn_nil]
  go_simp
  by_cases h1 : a = d <;> by_cases h2 : b = e <;> by_cases h3 : c = f <;> simp [h1, h2, h3]
theorem eqlArr3 (p q : P3) (w : World) : (binOp .eql 22 (.agg #[.int .i64 p.x, .int .i64 p.y, .int .i64 p.z]) (.agg #[.int .i64 q.x, .int .i64 q.y, .int .i64 q.z])).run Tryd.prog w = .ok (.bool (ptE p q)) w := by
  rw [run_eql_struct, eqArr3]; rfl
set_option maxRecDepth 100000 in
theorem eqW (a b : Bool) (s t : ByteArray) (w : World) : (Op.equalIn 10000 47 (.agg #[.bool a, .string s]) (.agg #[.bool b, .string t])).run Tryd.prog w = .ok (a == b && s.toList == t.toList) w := by
  have u3 := Tryd.underlying4
  have a3 := Tryd.isAgg4
  have z3 := Tryd.sizeOf4
  have u4 := Tryd.underlying9
  have a4 := Tryd.isAgg9
  have z4 := Tryd.sizeOf9
  have hS : Tryd.prog.underlying 47 = some (.struct (Tryd.prog.fieldsOf 47)) := by kernel_rfl
  have hp : Tryd.prog.stoodInHeld 47 = false := by kernel_rfl
  rw [show (10000 : Nat) = 9999 + 1 from rfl, run_equalIn_agg w 9999 47 _ _ hS hp]
  simp only [Program.fieldsOf, Tryd.underlying47]
  go_simp
  by_cases h1 : a = b <;> by_cases h2 : s.toList = t.toList <;> simp [h1, h2]
theorem eqlW (x y : Int) (w : World) : (binOp .eql 47 (.agg #[.bool (sgz x), .string (moz x)]) (.agg #[.bool (sgz y), .string (moz y)])).run Tryd.prog w = .ok (.bool (x == y)) w := by
  rw [run_eql_struct, eqW, wide_beq]; rfl
theorem eqlWZ (x : Int) (w : World) : (binOp .eql 47 (.agg #[.bool (sgz x), .string (moz x)]) (.agg #[.bool false, .string ⟨#[]⟩])).run Tryd.prog w = .ok (.bool (x == 0)) w := by
  rw [run_eql_struct, eqW, sgz_nil]; rfl

theorem cells_row2 {w : World} {b : Nat} {x y : Value} {T : TypeId} (h : w.heap[b]? = some (.cells #[x, y] T (0, 0))) : w.cell? ⟨b, 0, none⟩ = some x ∧ w.cell? ⟨b, 1, none⟩ = some y := by
  have F : Fr w w ([] ++ [(b, .cells #[x, y] T (0, 0))]) → True := fun _ => trivial
  constructor <;> (unfold World.cell?; simp only [h]; rfl)

/-- One of its cells is written. -/
theorem FrB.put1 {w0 w : World} {l : List (Nat × Obj)} {b : Nat} {vs : Array Value} {T : TypeId} (h : FrB w0 w l b (.cells vs T (0, 0))) (j : Nat) (u : Value) : FrB w0 (w.setCell ⟨b, j, none⟩ u) l b (.cells (vs.setIfInBounds j u) T (0, 0)) :=
  ⟨h.f.away h.ne h.new u, heap_setCell_same w b j _ T u h.box, h.ne, h.new⟩
theorem FrB.put2 {w0 w : World} {l : List (Nat × Obj)} {b : Nat} {x y : Value} {T : TypeId} (h : FrB w0 w l b (.cells #[x, y] T (0, 0))) (x' y' : Value) : FrB w0 ((w.setCell ⟨b, 0, none⟩ x').setCell ⟨b, 1, none⟩ y') l b (.cells #[x', y'] T (0, 0)) :=
  (h.put1 0 x').put1 1 y'
theorem Fr.toB {w0 w : World} {p q : Nat × Obj} {b : Nat} {o : Obj} (h : Fr w0 w [p, q, (b, o)]) (h1 : p.1 ≠ b) (h2 : q.1 ≠ b) : FrB w0 w [p, q] b o :=
  ⟨⟨fun x hx => h.row x (by simp only [List.mem_cons, List.not_mem_nil, or_false] at hx ⊢; rcases hx with e | e <;> simp [e]), fun x hx => h.new x (by simp only [List.mem_cons, List.not_mem_nil, or_false] at hx ⊢; rcases hx with e | e <;> simp [e]), h.t⟩,
    h.row (b, o) (by simp), fun x hx => by simp only [List.mem_cons, List.not_mem_nil, or_false] at hx; rcases hx with e | e <;> (rw [e]; assumption), h.new (b, o) (by simp)⟩

theorem sm_zero (k : Nat) : Sm k 0 := Nat.two_pow_pos k

/-- The sum's box behind k rounds. -/
def disO (x y z : Int) : Nat → Obj
  | 0 => .cells #[.bool false, .string ⟨#[]⟩] 47 (0, 0)
  | 1 => .cells #[.bool (sgz x), .string (moz x)] 47 (0, 0)
  | 2 => .cells #[.bool (sgz y), .string (moz y)] 47 (0, 0)
  | _ => .cells #[.bool (sgz z), .string (moz z)] 47 (0, 0)

set_option maxHeartbeats 8000000 in
set_option maxRecDepth 100000 in
theorem dis_walk (a b : P3) (ha : a.Ok) (hb : b.Ok) (w : World) :
    Calls Tryd.prog 7 #[.agg #[.int .i64 a.x, .int .i64 a.y, .int .i64 a.z], .agg #[.int .i64 b.x, .int .i64 b.y, .int .i64 b.z]] w fun e w' => e = .returned (.bool true) ∧ Tch [] w w' := by
  have xa0 : Sm 64 a.x := Sm.i64 ha.x.1 ha.x.2
  have xb0 : Sm 64 b.x := Sm.i64 hb.x.1 hb.x.2
  obtain ⟨d0, hd0⟩ : ∃ d, d = a.x - b.x := ⟨_, rfl⟩
  have xd0 : Sm 65 d0 := by rw [hd0]; exact xa0.sub xb0
  obtain ⟨m0, hm0⟩ : ∃ m, m = d0 * d0 := ⟨_, rfl⟩
  have xm0 : Sm 130 m0 := by rw [hm0]; exact xd0.mul xd0
  have xa1 : Sm 64 a.y := Sm.i64 ha.y.1 ha.y.2
  have xb1 : Sm 64 b.y := Sm.i64 hb.y.1 hb.y.2
  obtain ⟨d1, hd1⟩ : ∃ d, d = a.y - b.y := ⟨_, rfl⟩
  have xd1 : Sm 65 d1 := by rw [hd1]; exact xa1.sub xb1
  obtain ⟨m1, hm1⟩ : ∃ m, m = d1 * d1 := ⟨_, rfl⟩
  have xm1 : Sm 130 m1 := by rw [hm1]; exact xd1.mul xd1
  have xa2 : Sm 64 a.z := Sm.i64 ha.z.1 ha.z.2
  have xb2 : Sm 64 b.z := Sm.i64 hb.z.1 hb.z.2
  obtain ⟨d2, hd2⟩ : ∃ d, d = a.z - b.z := ⟨_, rfl⟩
  have xd2 : Sm 65 d2 := by rw [hd2]; exact xa2.sub xb2
  obtain ⟨m2, hm2⟩ : ∃ m, m = d2 * d2 := ⟨_, rfl⟩
  have xm2 : Sm 130 m2 := by rw [hm2]; exact xd2.mul xd2
  obtain ⟨s2, hs2⟩ : ∃ s, s = m0 + m1 := ⟨_, rfl⟩
  have xs2 : Sm 131 s2 := by rw [hs2]; exact xm0.add xm1
  obtain ⟨s3, hs3⟩ : ∃ s, s = s2 + m2 := ⟨_, rfl⟩
  have e3 : dst2I a b = s3 := by rw [dst2_eq, hs3, hs2, hm0, hm1, hm2, hd0, hd1, hd2]
  have A0 := Lib.hid (fun w1 => JFrom (x := a.x) ha.x.1 ha.x.2 w1)
  have B0 := Lib.hid (fun w1 => JFrom (x := b.x) hb.x.1 hb.x.2 w1)
  have c0 := fun w1 => JSub (xa0.mono (by omega)) (xb0.mono (by omega)) w1
  rw [← hd0] at c0
  have D0 := Lib.hid c0
  have k0 := fun w1 => JMul (xd0.mono (by omega)) (xd0.mono (by omega)) w1
  rw [← hm0] at k0
  have M0 := Lib.hid k0
  have A1 := Lib.hid (fun w1 => JFrom (x := a.y) ha.y.1 ha.y.2 w1)
  have B1 := Lib.hid (fun w1 => JFrom (x := b.y) hb.y.1 hb.y.2 w1)
  have c1 := fun w1 => JSub (xa1.mono (by omega)) (xb1.mono (by omega)) w1
  rw [← hd1] at c1
  have D1 := Lib.hid c1
  have k1 := fun w1 => JMul (xd1.mono (by omega)) (xd1.mono (by omega)) w1
  rw [← hm1] at k1
  have M1 := Lib.hid k1
  have A2 := Lib.hid (fun w1 => JFrom (x := a.z) ha.z.1 ha.z.2 w1)
  have B2 := Lib.hid (fun w1 => JFrom (x := b.z) hb.z.1 hb.z.2 w1)
  have c2 := fun w1 => JSub (xa2.mono (by omega)) (xb2.mono (by omega)) w1
  rw [← hd2] at c2
  have D2 := Lib.hid c2
  have k2 := fun w1 => JMul (xd2.mono (by omega)) (xd2.mono (by omega)) w1
  rw [← hm2] at k2
  have M2 := Lib.hid k2
  have p0 := fun w1 => JAdd (x := 0) (y := m0) (sm_zero 400) (xm0.mono (by omega)) w1
  rw [Int.zero_add, sgz_zero, moz_zero] at p0
  have P0 := Lib.hid p0
  have p1 := fun w1 => JAdd (xm0.mono (by omega)) (xm1.mono (by omega)) w1
  rw [← hs2] at p1
  have P1 := Lib.hid p1
  have p2 := fun w1 => JAdd (xs2.mono (by omega)) (xm2.mono (by omega)) w1
  rw [← hs3] at p2
  have P2 := Lib.hid p2
  have q1 := fun w1 => Dist2 a b ha hb w1
  have q2 := fun w1 => Dist2 b a hb ha w1
  rw [dst2_swap] at q2
  rw [e3] at q1 q2
  have Q1 := Lib.hid q1
  have Q2 := Lib.hid q2
  have ez := fun w1 => eqlWZ s3 w1
  obtain ⟨pe, hpe⟩ : ∃ l, l = ptE a b := ⟨_, rfl⟩
  have hz := dst2_zero a b
  rw [e3, ← hpe] at hz
  rw [hz] at ez
  have EZ := Lib.hid ez
  have ea := fun w1 => eqlArr3 a b w1
  rw [← hpe] at ea
  have EA := Lib.hid ea
  have es := fun w1 => eqlW s3 s3 w1
  rw [show (s3 == s3) = true from beq_self_eq_true s3] at es
  have ES := Lib.hid es
  have LA := Lib.hid (fun w1 => lPoint a w1)
  have LB := Lib.hid (fun w1 => lPoint b w1)
  have CS := Lib.hid (fun w1 => sanity w1)
  clear hd0 hd1 hd2 hm0 hm1 hm2 hs2 hs3 e3 hpe hz xa0 xa1 xa2 xb0 xb1 xb2 xd0 xd1 xd2 xm0 xm1 xm2 xs2 c0 c1 c2 k0 k1 k2 p0 p1 p2 q1 q2 ez ea es ha hb
  have F0 : Hid (Fr w ((w.alloc (.cells #[.int .i64 a.x, .int .i64 a.y, .int .i64 a.z] 22)).alloc (.cells #[.int .i64 b.x, .int .i64 b.y, .int .i64 b.z] 22)) [(w.heap.size, .cells #[.int .i64 a.x, .int .i64 a.y, .int .i64 a.z] 22 (0, 0)), (w.heap.size + 1, .cells #[.int .i64 b.x, .int .i64 b.y, .int .i64 b.z] 22 (0, 0))]) := Lib.hid (((Fr.nil w).add (.cells #[.int .i64 a.x, .int .i64 a.y, .int .i64 a.z] 22) w.heap.size rfl).add (.cells #[.int .i64 b.x, .int .i64 b.y, .int .i64 b.z] 22) (w.heap.size + 1) (by simp))
  go_enter Tryd.func7, Tryd.ntmps7
  go_wp2_with fail
  refine (CS.out _).mono ?_
  rintro e w1 ⟨rfl, hT⟩
  have F1 := Lib.hid (F0.out.keep hT)
  have hz1 : w.heap.size + 2 ≤ w1.heap.size := by have := hT.size; simp at this; omega
  clear hT F0 CS
  have BB : Hid (FrB w (w1.alloc (.cells #[.bool false, .string ⟨#[]⟩] 47)) [(w.heap.size, .cells #[.int .i64 a.x, .int .i64 a.y, .int .i64 a.z] 22 (0, 0)), (w.heap.size + 1, .cells #[.int .i64 b.x, .int .i64 b.y, .int .i64 b.z] 22 (0, 0))] w1.heap.size (disO m0 s2 s3 0)) := Lib.hid (F1.out.boxed _ (Tch.refl [] _))
  have HZ := Lib.hid hz1
  clear F1 hz1
  go_wp2_with fail
  go_loopw [7] (fun i wr => ∃ k : Nat, k ≤ 3 ∧ i = .int .i64 (k : Int) ∧ Hid (FrB w wr [(w.heap.size, .cells #[.int .i64 a.x, .int .i64 a.y, .int .i64 a.z] 22 (0, 0)), (w.heap.size + 1, .cells #[.int .i64 b.x, .int .i64 b.y, .int .i64 b.z] 22 (0, 0))] w1.heap.size (disO m0 s2 s3 k))) (fun i _ => 3 - (intOf i).toNat)
  case atStart => exact ⟨0, by omega, rfl, BB⟩
  case round =>
    clear BB
    obtain ⟨k, hk, rfl, hB⟩ := hrel
    rcases (show k = 0 ∨ k = 1 ∨ k = 2 ∨ k = 3 by omega) with rfl | rfl | rfl | rfl
    · obtain ⟨l, G, SA0, RB0⟩ : ∃ l, Fr w wr l ∧ (∀ w', Fr w w' l → w'.cell? ⟨w.heap.size, 0, none⟩ = some (.int .i64 a.x) ∧ w'.cell? ⟨w.heap.size + 1, 0, none⟩ = some (.int .i64 b.x)) ∧ (∀ w', Fr w w' l → FrB w w' [(w.heap.size, .cells #[.int .i64 a.x, .int .i64 a.y, .int .i64 a.z] 22 (0, 0)), (w.heap.size + 1, .cells #[.int .i64 b.x, .int .i64 b.y, .int .i64 b.z] 22 (0, 0))] w1.heap.size (.cells #[.bool false, .string ⟨#[]⟩] 47 (0, 0))) :=
        ⟨[(w.heap.size, .cells #[.int .i64 a.x, .int .i64 a.y, .int .i64 a.z] 22 (0, 0)), (w.heap.size + 1, .cells #[.int .i64 b.x, .int .i64 b.y, .int .i64 b.z] 22 (0, 0))] ++ [(w1.heap.size, .cells #[.bool false, .string ⟨#[]⟩] 47 (0, 0))], hB.out.f.take hB.out.box hB.out.new, fun w' F => ⟨F.cell 0 0 rfl rfl, F.cell 1 0 rfl rfl⟩, fun w' F => F.toB (by have := HZ.out; simp; omega) (by have := HZ.out; simp; omega)⟩
      have F := Lib.hid G
      have SA := Lib.hid SA0
      have RB := Lib.hid RB0
      clear G SA0 RB0 hB
      go_upto_region 6 with (fail)
      obtain ⟨W, rfl⟩ : ∃ W : World, W = wr := ⟨_, rfl⟩
      go_cut [8] (fun s8 wx => MidB w l (.cells #[.bool (sgz d0), .string (moz d0)] 47 (0, 0)) s8 wx)
      case first =>
        go_region_held3 (fun w' => w'.cell? ⟨w.heap.size, 0, none⟩ = some (.int .i64 a.x) ∧ w'.cell? ⟨w.heap.size + 1, 0, none⟩ = some (.int .i64 b.x)) (first | with_reducible exact SA.out _ F3.out | with_reducible exact SA.out _ (F3.out.beside _) | with_reducible exact SA.out _ (F3.out.box2 _ _ _) | with_reducible exact SA.out _ (B3.out.set2 _ _) | with_reducible exact SA.out _ F.out | with_reducible exact SA.out _ F.out.drew | with_reducible exact SA.out _ (F.out.drew.beside _) | with_reducible exact SA.out _ (F.out.beside _).drew) (first
          | (go_at_call 23; (first | (with_reducible refine (A0.out _).mono ?_) | (with_reducible refine (B0.out _).mono ?_)); rintro e w5 ⟨rfl, hT⟩; (first | (with_reducible have B3 := Lib.hid (B3.out.keep hT); clear z0 z1' f0 f1; obtain ⟨⟨z0, z1'⟩, ⟨f0, f1⟩⟩ := B3.out.two; have F3 := Lib.hid B3.out.f) | (with_reducible have F3 := Lib.hid (F3.out.keep hT)) | (with_reducible have B3 := Lib.hid (F3.out.boxed _ hT); obtain ⟨⟨z0, z1'⟩, ⟨f0, f1⟩⟩ := B3.out.two; have F3 := Lib.hid B3.out.f) | (with_reducible have B3 := Lib.hid (F.out.boxedAt _ W.heap.size rfl (Tch.undrew hT)); obtain ⟨⟨z0, z1'⟩, ⟨f0, f1⟩⟩ := B3.out.two; have F3 := Lib.hid B3.out.f) | (with_reducible have F3 := Lib.hid (F.out.keep (Tch.undrew hT)))); clear hT)
          | (go_at_call 22; (with_reducible refine (D0.out _).mono ?_); rintro e w5 ⟨rfl, hT⟩; (first | (with_reducible have B3 := Lib.hid (B3.out.keep hT); clear z0 z1' f0 f1; obtain ⟨⟨z0, z1'⟩, ⟨f0, f1⟩⟩ := B3.out.two; have F3 := Lib.hid B3.out.f) | (with_reducible have F3 := Lib.hid (F3.out.keep hT)) | (with_reducible have B3 := Lib.hid (F3.out.boxed _ hT); obtain ⟨⟨z0, z1'⟩, ⟨f0, f1⟩⟩ := B3.out.two; have F3 := Lib.hid B3.out.f) | (with_reducible have B3 := Lib.hid (F.out.boxedAt _ W.heap.size rfl (Tch.undrew hT)); obtain ⟨⟨z0, z1'⟩, ⟨f0, f1⟩⟩ := B3.out.two; have F3 := Lib.hid B3.out.f) | (with_reducible have F3 := Lib.hid (F.out.keep (Tch.undrew hT)))); clear hT))
        all_goals (go_wp2_with fail; go_meet; (first | with_reducible exact F3.out.mid _ | with_reducible exact B3.out.mid2 _ _))
      case rest =>
        obtain ⟨g, rfl, FM, hr, hn⟩ := hcut
        have hB := Lib.hid (RB.out _ FM)
        obtain ⟨t0, t1⟩ := cells_row2 hr
        obtain ⟨⟨s0, s1⟩, _⟩ := hB.out.two
        clear FM hr hn F SA RB
        go_wp2_with fail
        go_region_with (first
          | (go_at_call 21; refine (M0.out _).mono ?_; rintro e w3 ⟨rfl, hT1⟩; have G := Lib.hid (hB.out.keep (Tch.undrew hT1)); obtain ⟨⟨u0, u1⟩, _⟩ := G.out.two; clear hT1)
          | (go_at_call 24; refine (P0.out _).mono ?_; rintro e w4 ⟨rfl, hT2⟩; have G2 := Lib.hid (G.out.keep hT2); obtain ⟨⟨u2, u3⟩, ⟨f0, f1⟩⟩ := G2.out.two; clear hT2))
        all_goals go_wp2
        all_goals (go_roundw; (case rel => exact ⟨1, by omega, by go_num, Lib.hid (G2.out.put2 (.bool (sgz m0)) (.string (moz m0)))⟩); (case measure => simp [intOf]))
    · obtain ⟨l, G, SA0, RB0⟩ : ∃ l, Fr w wr l ∧ (∀ w', Fr w w' l → w'.cell? ⟨w.heap.size, 1, none⟩ = some (.int .i64 a.y) ∧ w'.cell? ⟨w.heap.size + 1, 1, none⟩ = some (.int .i64 b.y)) ∧ (∀ w', Fr w w' l → FrB w w' [(w.heap.size, .cells #[.int .i64 a.x, .int .i64 a.y, .int .i64 a.z] 22 (0, 0)), (w.heap.size + 1, .cells #[.int .i64 b.x, .int .i64 b.y, .int .i64 b.z] 22 (0, 0))] w1.heap.size (.cells #[.bool (sgz m0), .string (moz m0)] 47 (0, 0))) :=
        ⟨[(w.heap.size, .cells #[.int .i64 a.x, .int .i64 a.y, .int .i64 a.z] 22 (0, 0)), (w.heap.size + 1, .cells #[.int .i64 b.x, .int .i64 b.y, .int .i64 b.z] 22 (0, 0))] ++ [(w1.heap.size, .cells #[.bool (sgz m0), .string (moz m0)] 47 (0, 0))], hB.out.f.take hB.out.box hB.out.new, fun w' F => ⟨F.cell 0 1 rfl rfl, F.cell 1 1 rfl rfl⟩, fun w' F => F.toB (by have := HZ.out; simp; omega) (by have := HZ.out; simp; omega)⟩
      have F := Lib.hid G
      have SA := Lib.hid SA0
      have RB := Lib.hid RB0
      clear G SA0 RB0 hB
      go_upto_region 6 with (fail)
      obtain ⟨W, rfl⟩ : ∃ W : World, W = wr := ⟨_, rfl⟩
      go_cut [8] (fun s8 wx => MidB w l (.cells #[.bool (sgz d1), .string (moz d1)] 47 (0, 0)) s8 wx)
      case first =>
        go_region_held3 (fun w' => w'.cell? ⟨w.heap.size, 1, none⟩ = some (.int .i64 a.y) ∧ w'.cell? ⟨w.heap.size + 1, 1, none⟩ = some (.int .i64 b.y)) (first | with_reducible exact SA.out _ F3.out | with_reducible exact SA.out _ (F3.out.beside _) | with_reducible exact SA.out _ (F3.out.box2 _ _ _) | with_reducible exact SA.out _ (B3.out.set2 _ _) | with_reducible exact SA.out _ F.out | with_reducible exact SA.out _ F.out.drew | with_reducible exact SA.out _ (F.out.drew.beside _) | with_reducible exact SA.out _ (F.out.beside _).drew) (first
          | (go_at_call 23; (first | (with_reducible refine (A1.out _).mono ?_) | (with_reducible refine (B1.out _).mono ?_)); rintro e w5 ⟨rfl, hT⟩; (first | (with_reducible have B3 := Lib.hid (B3.out.keep hT); clear z0 z1' f0 f1; obtain ⟨⟨z0, z1'⟩, ⟨f0, f1⟩⟩ := B3.out.two; have F3 := Lib.hid B3.out.f) | (with_reducible have F3 := Lib.hid (F3.out.keep hT)) | (with_reducible have B3 := Lib.hid (F3.out.boxed _ hT); obtain ⟨⟨z0, z1'⟩, ⟨f0, f1⟩⟩ := B3.out.two; have F3 := Lib.hid B3.out.f) | (with_reducible have B3 := Lib.hid (F.out.boxedAt _ W.heap.size rfl (Tch.undrew hT)); obtain ⟨⟨z0, z1'⟩, ⟨f0, f1⟩⟩ := B3.out.two; have F3 := Lib.hid B3.out.f) | (with_reducible have F3 := Lib.hid (F.out.keep (Tch.undrew hT)))); clear hT)
          | (go_at_call 22; (with_reducible refine (D1.out _).mono ?_); rintro e w5 ⟨rfl, hT⟩; (first | (with_reducible have B3 := Lib.hid (B3.out.keep hT); clear z0 z1' f0 f1; obtain ⟨⟨z0, z1'⟩, ⟨f0, f1⟩⟩ := B3.out.two; have F3 := Lib.hid B3.out.f) | (with_reducible have F3 := Lib.hid (F3.out.keep hT)) | (with_reducible have B3 := Lib.hid (F3.out.boxed _ hT); obtain ⟨⟨z0, z1'⟩, ⟨f0, f1⟩⟩ := B3.out.two; have F3 := Lib.hid B3.out.f) | (with_reducible have B3 := Lib.hid (F.out.boxedAt _ W.heap.size rfl (Tch.undrew hT)); obtain ⟨⟨z0, z1'⟩, ⟨f0, f1⟩⟩ := B3.out.two; have F3 := Lib.hid B3.out.f) | (with_reducible have F3 := Lib.hid (F.out.keep (Tch.undrew hT)))); clear hT))
        all_goals (go_wp2_with fail; go_meet; (first | with_reducible exact F3.out.mid _ | with_reducible exact B3.out.mid2 _ _))
      case rest =>
        obtain ⟨g, rfl, FM, hr, hn⟩ := hcut
        have hB := Lib.hid (RB.out _ FM)
        obtain ⟨t0, t1⟩ := cells_row2 hr
        obtain ⟨⟨s0, s1⟩, _⟩ := hB.out.two
        clear FM hr hn F SA RB
        go_wp2_with fail
        go_region_with (first
          | (go_at_call 21; refine (M1.out _).mono ?_; rintro e w3 ⟨rfl, hT1⟩; have G := Lib.hid (hB.out.keep (Tch.undrew hT1)); obtain ⟨⟨u0, u1⟩, _⟩ := G.out.two; clear hT1)
          | (go_at_call 24; refine (P1.out _).mono ?_; rintro e w4 ⟨rfl, hT2⟩; have G2 := Lib.hid (G.out.keep hT2); obtain ⟨⟨u2, u3⟩, ⟨f0, f1⟩⟩ := G2.out.two; clear hT2))
        all_goals go_wp2
        all_goals (go_roundw; (case rel => exact ⟨2, by omega, by go_num, Lib.hid (G2.out.put2 (.bool (sgz s2)) (.string (moz s2)))⟩); (case measure => simp [intOf]))
    · obtain ⟨l, G, SA0, RB0⟩ : ∃ l, Fr w wr l ∧ (∀ w', Fr w w' l → w'.cell? ⟨w.heap.size, 2, none⟩ = some (.int .i64 a.z) ∧ w'.cell? ⟨w.heap.size + 1, 2, none⟩ = some (.int .i64 b.z)) ∧ (∀ w', Fr w w' l → FrB w w' [(w.heap.size, .cells #[.int .i64 a.x, .int .i64 a.y, .int .i64 a.z] 22 (0, 0)), (w.heap.size + 1, .cells #[.int .i64 b.x, .int .i64 b.y, .int .i64 b.z] 22 (0, 0))] w1.heap.size (.cells #[.bool (sgz s2), .string (moz s2)] 47 (0, 0))) :=
        ⟨[(w.heap.size, .cells #[.int .i64 a.x, .int .i64 a.y, .int .i64 a.z] 22 (0, 0)), (w.heap.size + 1, .cells #[.int .i64 b.x, .int .i64 b.y, .int .i64 b.z] 22 (0, 0))] ++ [(w1.heap.size, .cells #[.bool (sgz s2), .string (moz s2)] 47 (0, 0))], hB.out.f.take hB.out.box hB.out.new, fun w' F => ⟨F.cell 0 2 rfl rfl, F.cell 1 2 rfl rfl⟩, fun w' F => F.toB (by have := HZ.out; simp; omega) (by have := HZ.out; simp; omega)⟩
      have F := Lib.hid G
      have SA := Lib.hid SA0
      have RB := Lib.hid RB0
      clear G SA0 RB0 hB
      go_upto_region 6 with (fail)
      obtain ⟨W, rfl⟩ : ∃ W : World, W = wr := ⟨_, rfl⟩
      go_cut [8] (fun s8 wx => MidB w l (.cells #[.bool (sgz d2), .string (moz d2)] 47 (0, 0)) s8 wx)
      case first =>
        go_region_held3 (fun w' => w'.cell? ⟨w.heap.size, 2, none⟩ = some (.int .i64 a.z) ∧ w'.cell? ⟨w.heap.size + 1, 2, none⟩ = some (.int .i64 b.z)) (first | with_reducible exact SA.out _ F3.out | with_reducible exact SA.out _ (F3.out.beside _) | with_reducible exact SA.out _ (F3.out.box2 _ _ _) | with_reducible exact SA.out _ (B3.out.set2 _ _) | with_reducible exact SA.out _ F.out | with_reducible exact SA.out _ F.out.drew | with_reducible exact SA.out _ (F.out.drew.beside _) | with_reducible exact SA.out _ (F.out.beside _).drew) (first
          | (go_at_call 23; (first | (with_reducible refine (A2.out _).mono ?_) | (with_reducible refine (B2.out _).mono ?_)); rintro e w5 ⟨rfl, hT⟩; (first | (with_reducible have B3 := Lib.hid (B3.out.keep hT); clear z0 z1' f0 f1; obtain ⟨⟨z0, z1'⟩, ⟨f0, f1⟩⟩ := B3.out.two; have F3 := Lib.hid B3.out.f) | (with_reducible have F3 := Lib.hid (F3.out.keep hT)) | (with_reducible have B3 := Lib.hid (F3.out.boxed _ hT); obtain ⟨⟨z0, z1'⟩, ⟨f0, f1⟩⟩ := B3.out.two; have F3 := Lib.hid B3.out.f) | (with_reducible have B3 := Lib.hid (F.out.boxedAt _ W.heap.size rfl (Tch.undrew hT)); obtain ⟨⟨z0, z1'⟩, ⟨f0, f1⟩⟩ := B3.out.two; have F3 := Lib.hid B3.out.f) | (with_reducible have F3 := Lib.hid (F.out.keep (Tch.undrew hT)))); clear hT)
          | (go_at_call 22; (with_reducible refine (D2.out _).mono ?_); rintro e w5 ⟨rfl, hT⟩; (first | (with_reducible have B3 := Lib.hid (B3.out.keep hT); clear z0 z1' f0 f1; obtain ⟨⟨z0, z1'⟩, ⟨f0, f1⟩⟩ := B3.out.two; have F3 := Lib.hid B3.out.f) | (with_reducible have F3 := Lib.hid (F3.out.keep hT)) | (with_reducible have B3 := Lib.hid (F3.out.boxed _ hT); obtain ⟨⟨z0, z1'⟩, ⟨f0, f1⟩⟩ := B3.out.two; have F3 := Lib.hid B3.out.f) | (with_reducible have B3 := Lib.hid (F.out.boxedAt _ W.heap.size rfl (Tch.undrew hT)); obtain ⟨⟨z0, z1'⟩, ⟨f0, f1⟩⟩ := B3.out.two; have F3 := Lib.hid B3.out.f) | (with_reducible have F3 := Lib.hid (F.out.keep (Tch.undrew hT)))); clear hT))
        all_goals (go_wp2_with fail; go_meet; (first | with_reducible exact F3.out.mid _ | with_reducible exact B3.out.mid2 _ _))
      case rest =>
        obtain ⟨g, rfl, FM, hr, hn⟩ := hcut
        have hB := Lib.hid (RB.out _ FM)
        obtain ⟨t0, t1⟩ := cells_row2 hr
        obtain ⟨⟨s0, s1⟩, _⟩ := hB.out.two
        clear FM hr hn F SA RB
        go_wp2_with fail
        go_region_with (first
          | (go_at_call 21; refine (M2.out _).mono ?_; rintro e w3 ⟨rfl, hT1⟩; have G := Lib.hid (hB.out.keep (Tch.undrew hT1)); obtain ⟨⟨u0, u1⟩, _⟩ := G.out.two; clear hT1)
          | (go_at_call 24; refine (P2.out _).mono ?_; rintro e w4 ⟨rfl, hT2⟩; have G2 := Lib.hid (G.out.keep hT2); obtain ⟨⟨u2, u3⟩, ⟨f0, f1⟩⟩ := G2.out.two; clear hT2))
        all_goals go_wp2
        all_goals (go_roundw; (case rel => exact ⟨3, by omega, by go_num, Lib.hid (G2.out.put2 (.bool (sgz s3)) (.string (moz s3)))⟩); (case measure => simp [intOf]))
    · obtain ⟨l, G, SA0, SB0⟩ : ∃ l, Fr w wr l ∧ (∀ w', Fr w w' l → (w'.cell? ⟨w.heap.size, 0, none⟩ = some (.int .i64 a.x) ∧ w'.cell? ⟨w.heap.size, 1, none⟩ = some (.int .i64 a.y) ∧ w'.cell? ⟨w.heap.size, 2, none⟩ = some (.int .i64 a.z)) ∧ (w'.cell? ⟨w.heap.size + 1, 0, none⟩ = some (.int .i64 b.x) ∧ w'.cell? ⟨w.heap.size + 1, 1, none⟩ = some (.int .i64 b.y) ∧ w'.cell? ⟨w.heap.size + 1, 2, none⟩ = some (.int .i64 b.z))) ∧ (∀ w', Fr w w' l → w'.cell? ⟨w1.heap.size, 0, none⟩ = some (.bool (sgz s3)) ∧ w'.cell? ⟨w1.heap.size, 1, none⟩ = some (.string (moz s3))) :=
        ⟨[(w.heap.size, .cells #[.int .i64 a.x, .int .i64 a.y, .int .i64 a.z] 22 (0, 0)), (w.heap.size + 1, .cells #[.int .i64 b.x, .int .i64 b.y, .int .i64 b.z] 22 (0, 0))] ++ [(w1.heap.size, .cells #[.bool (sgz s3), .string (moz s3)] 47 (0, 0))], hB.out.f.take hB.out.box hB.out.new, fun w' F => ⟨F.three 0 rfl, F.three 1 rfl⟩, fun w' F => F.two 2 rfl⟩
      have F := Lib.hid G
      have SA := Lib.hid SA0
      have SB := Lib.hid SB0
      clear G SA0 SB0 hB HZ
      go_upto_region 8 with (fail)
      obtain ⟨W, rfl⟩ : ∃ W : World, W = wr := ⟨_, rfl⟩
      go_cut [9] (fun s9 wx => MidB w l (.cells #[.bool (sgz s3), .string (moz s3)] 47 (0, 0)) s9 wx)
      case first =>
        go_region_held3 (fun w' => (w'.cell? ⟨w.heap.size, 0, none⟩ = some (.int .i64 a.x) ∧ w'.cell? ⟨w.heap.size, 1, none⟩ = some (.int .i64 a.y) ∧ w'.cell? ⟨w.heap.size, 2, none⟩ = some (.int .i64 a.z)) ∧ (w'.cell? ⟨w.heap.size + 1, 0, none⟩ = some (.int .i64 b.x) ∧ w'.cell? ⟨w.heap.size + 1, 1, none⟩ = some (.int .i64 b.y) ∧ w'.cell? ⟨w.heap.size + 1, 2, none⟩ = some (.int .i64 b.z))) (first | with_reducible exact SA.out _ F3.out | with_reducible exact SA.out _ (F3.out.beside _) | with_reducible exact SA.out _ (F3.out.box2 _ _ _) | with_reducible exact SA.out _ (B3.out.set2 _ _) | with_reducible exact SA.out _ F.out | with_reducible exact SA.out _ F.out.drew | with_reducible exact SA.out _ (F.out.drew.beside _) | with_reducible exact SA.out _ (F.out.beside _).drew) (first
          | (go_at_call 17; (first | (with_reducible refine (LA.out _).mono ?_) | (with_reducible refine (LB.out _).mono ?_)); rintro e w5 ⟨rfl, hT⟩; (first | (with_reducible have B3 := Lib.hid (B3.out.keep hT); clear z0 z1' f0 f1; obtain ⟨⟨z0, z1'⟩, ⟨f0, f1⟩⟩ := B3.out.two; have F3 := Lib.hid B3.out.f) | (with_reducible have F3 := Lib.hid (F3.out.keep hT)) | (with_reducible have B3 := Lib.hid (F3.out.boxed _ hT); obtain ⟨⟨z0, z1'⟩, ⟨f0, f1⟩⟩ := B3.out.two; have F3 := Lib.hid B3.out.f) | (with_reducible have B3 := Lib.hid (F.out.boxedAt _ W.heap.size rfl (Tch.undrew hT)); obtain ⟨⟨z0, z1'⟩, ⟨f0, f1⟩⟩ := B3.out.two; have F3 := Lib.hid B3.out.f) | (with_reducible have F3 := Lib.hid (F.out.keep (Tch.undrew hT)))); clear hT)
          | (go_at_call 26; (with_reducible refine (Q1.out _).mono ?_); rintro e w5 ⟨rfl, hT⟩; (first | (with_reducible have B3 := Lib.hid (B3.out.keep hT); clear z0 z1' f0 f1; obtain ⟨⟨z0, z1'⟩, ⟨f0, f1⟩⟩ := B3.out.two; have F3 := Lib.hid B3.out.f) | (with_reducible have F3 := Lib.hid (F3.out.keep hT)) | (with_reducible have B3 := Lib.hid (F3.out.boxed _ hT); obtain ⟨⟨z0, z1'⟩, ⟨f0, f1⟩⟩ := B3.out.two; have F3 := Lib.hid B3.out.f) | (with_reducible have B3 := Lib.hid (F.out.boxedAt _ W.heap.size rfl (Tch.undrew hT)); obtain ⟨⟨z0, z1'⟩, ⟨f0, f1⟩⟩ := B3.out.two; have F3 := Lib.hid B3.out.f) | (with_reducible have F3 := Lib.hid (F.out.keep (Tch.undrew hT)))); clear hT))
        all_goals (go_wp2_with fail; go_meet; (first | with_reducible exact F3.out.mid _ | with_reducible exact B3.out.mid2 _ _))
      case rest =>
        obtain ⟨g, rfl, FM, hr, hn⟩ := hcut
        obtain ⟨l3, G, SC0⟩ : ∃ l3, Fr w wc l3 ∧ (∀ w', Fr w w' l3 → (w'.cell? ⟨w.heap.size, 0, none⟩ = some (.int .i64 a.x) ∧ w'.cell? ⟨w.heap.size, 1, none⟩ = some (.int .i64 a.y) ∧ w'.cell? ⟨w.heap.size, 2, none⟩ = some (.int .i64 a.z)) ∧ (w'.cell? ⟨w.heap.size + 1, 0, none⟩ = some (.int .i64 b.x) ∧ w'.cell? ⟨w.heap.size + 1, 1, none⟩ = some (.int .i64 b.y) ∧ w'.cell? ⟨w.heap.size + 1, 2, none⟩ = some (.int .i64 b.z)) ∧ (w'.cell? ⟨w1.heap.size, 0, none⟩ = some (.bool (sgz s3)) ∧ w'.cell? ⟨w1.heap.size, 1, none⟩ = some (.string (moz s3))) ∧ w'.cell? ⟨g, 0, none⟩ = some (.bool (sgz s3)) ∧ w'.cell? ⟨g, 1, none⟩ = some (.string (moz s3))) :=
          ⟨_, FM.take hr hn, fun w' F => ⟨(SA.out w' F.front).1, (SA.out w' F.front).2, SB.out w' F.front, F.last 0 rfl, F.last 1 rfl⟩⟩
        have F := Lib.hid G
        have SC := Lib.hid SC0
        clear G SC0 FM hr hn SA SB
        have ES' := ES.out
        have EZ' := EZ.out
        have EA' := EA.out
        clear ES EZ EA
        go_wp2_with fail
        go_region_held3 (fun w' => (w'.cell? ⟨w.heap.size, 0, none⟩ = some (.int .i64 a.x) ∧ w'.cell? ⟨w.heap.size, 1, none⟩ = some (.int .i64 a.y) ∧ w'.cell? ⟨w.heap.size, 2, none⟩ = some (.int .i64 a.z)) ∧ (w'.cell? ⟨w.heap.size + 1, 0, none⟩ = some (.int .i64 b.x) ∧ w'.cell? ⟨w.heap.size + 1, 1, none⟩ = some (.int .i64 b.y) ∧ w'.cell? ⟨w.heap.size + 1, 2, none⟩ = some (.int .i64 b.z)) ∧ (w'.cell? ⟨w1.heap.size, 0, none⟩ = some (.bool (sgz s3)) ∧ w'.cell? ⟨w1.heap.size, 1, none⟩ = some (.string (moz s3))) ∧ w'.cell? ⟨g, 0, none⟩ = some (.bool (sgz s3)) ∧ w'.cell? ⟨g, 1, none⟩ = some (.string (moz s3))) (first | with_reducible exact SC.out _ F.out | with_reducible exact SC.out _ F.out.drew) (first
          | (go_at_call 17; (first | (with_reducible refine (LA.out _).mono ?_) | (with_reducible refine (LB.out _).mono ?_)); rintro e w5 ⟨rfl, hT⟩; (first | (with_reducible have F := Lib.hid (F.out.keep hT)) | (have F := Lib.hid (F.out.drew.keep hT))); clear hT)
          | (go_at_call 26; (with_reducible refine (Q2.out _).mono ?_); rintro e w5 ⟨rfl, hT⟩; (first | (with_reducible have F := Lib.hid (F.out.keep hT)) | (have F := Lib.hid (F.out.drew.keep hT))); clear hT))
        all_goals
          go_wp2
          go_ret
          exact ⟨rfl, F.out.t⟩

end Go.Proofs.YtfcdggliongkkaaDoor
