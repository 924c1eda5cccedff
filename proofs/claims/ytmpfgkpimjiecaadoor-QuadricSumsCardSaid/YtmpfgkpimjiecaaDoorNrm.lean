/- exact.Normal, for all ints. -/
import Derived.BigQuiet
import Derived.Test.YtmpfgkpimjiecaaDoorVecE
namespace Go.Proofs.YtmpfgkpimjiecaaDoor
open Go Go.RowKit Dg
/-- The normal of a triangle. -/
def nrmI (a b c : P3) : P3 := crsI (difI a b) (difI a c)

theorem Fr.only {w0 w : World} {l : List (Nat × Obj)} {p : Nat × Obj} (h : Fr w0 w l) (i : Nat) (hi : l[i]? = some p) : Fr w0 w [p] :=
  ⟨fun q hq => h.row q (by rw [List.mem_singleton] at hq; subst hq; exact List.mem_of_getElem? hi), fun q hq => h.new q (by rw [List.mem_singleton] at hq; subst hq; exact List.mem_of_getElem? hi), h.t⟩

set_option maxHeartbeats 2000000 in
set_option maxRecDepth 100000 in
theorem Normal (a b c : P3) (ha : a.Ok) (hb : b.Ok) (hc : c.Ok) (w : World) :
    Calls Tryd.prog 49 #[.agg #[.int .i64 a.x, .int .i64 a.y, .int .i64 a.z, .int .i64 b.x, .int .i64 b.y, .int .i64 b.z, .int .i64 c.x, .int .i64 c.y, .int .i64 c.z]] w fun e w' => e = .returned (.agg #[.bool (sgz (nrmI a b c).x), .string (moz (nrmI a b c).x), .bool (sgz (nrmI a b c).y), .string (moz (nrmI a b c).y), .bool (sgz (nrmI a b c).z), .string (moz (nrmI a b c).z)]) ∧ Tch [] w w' := by
  have c1 := fun w1 => xnormal a b c w1
  have c2 := fun w1 => xwideNormal a b c ha hb hc w1
  rw [show crsI (difI a b) (difI a c) = nrmI a b c from rfl] at c2
  obtain ⟨u, hu⟩ : ∃ u, u = crs (dif a b) (dif a c) := ⟨_, rfl⟩
  obtain ⟨s, hs⟩ : ∃ s, s = (shrt a b && shrt a c) := ⟨_, rfl⟩
  rw [← hu, ← hs] at c1
  obtain ⟨n, hn⟩ : ∃ n, n = nrmI a b c := ⟨_, rfl⟩
  rw [← hn] at c2 ⊢
  have key : s = true → u = n ∧ n.Mid := by
    intro h
    rw [hs, Bool.and_eq_true] at h
    have e1 := shrt_dif ha hb h.1
    have e2 := shrt_dif ha hc h.2
    have k := crs_crsI e1.2 e2.2
    exact ⟨by rw [hu, e1.1, e2.1, k.1, hn]; rfl, by rw [hn]; exact k.2⟩
  have C1 := Lib.hid c1
  have C2 := Lib.hid c2
  have K := Lib.hid key
  clear c1 c2 hu hs hn key ha hb hc
  have F0 : Hid (Fr w ((w.alloc (.cells #[.int .i64 a.x, .int .i64 a.y, .int .i64 a.z, .int .i64 b.x, .int .i64 b.y, .int .i64 b.z, .int .i64 c.x, .int .i64 c.y, .int .i64 c.z] 31)).alloc (.cells #[.bool false, .string ⟨#[]⟩, .bool false, .string ⟨#[]⟩, .bool false, .string ⟨#[]⟩] 64)) [(w.heap.size, .cells #[.int .i64 a.x, .int .i64 a.y, .int .i64 a.z, .int .i64 b.x, .int .i64 b.y, .int .i64 b.z, .int .i64 c.x, .int .i64 c.y, .int .i64 c.z] 31 (0, 0)), (w.heap.size + 1, .cells #[.bool false, .string ⟨#[]⟩, .bool false, .string ⟨#[]⟩, .bool false, .string ⟨#[]⟩] 64 (0, 0))]) := Lib.hid (((Fr.nil w).add (.cells #[.int .i64 a.x, .int .i64 a.y, .int .i64 a.z, .int .i64 b.x, .int .i64 b.y, .int .i64 b.z, .int .i64 c.x, .int .i64 c.y, .int .i64 c.z] 31) w.heap.size rfl).add (.cells #[.bool false, .string ⟨#[]⟩, .bool false, .string ⟨#[]⟩, .bool false, .string ⟨#[]⟩] 64) (w.heap.size + 1) (by simp))
  go_enter Tryd.func49, Tryd.ntmps49
  go_wp2_with fail
  refine (C1.out _).mono ?_
  rintro e w1 ⟨rfl, hT⟩
  cases s
  · have F : Hid (Fr w (w1.alloc (.cells #[.int .i64 u.x, .int .i64 u.y, .int .i64 u.z] 96)) [(w.heap.size, .cells #[.int .i64 a.x, .int .i64 a.y, .int .i64 a.z, .int .i64 b.x, .int .i64 b.y, .int .i64 b.z, .int .i64 c.x, .int .i64 c.y, .int .i64 c.z] 31 (0, 0)), (w.heap.size + 1, .cells #[.bool false, .string ⟨#[]⟩, .bool false, .string ⟨#[]⟩, .bool false, .string ⟨#[]⟩] 64 (0, 0)), (w1.heap.size, .cells #[.int .i64 u.x, .int .i64 u.y, .int .i64 u.z] 96 (0, 0))]) := Lib.hid ((F0.out.keep hT).add (.cells #[.int .i64 u.x, .int .i64 u.y, .int .i64 u.z] 96) w1.heap.size rfl)
    clear hT F0
    obtain ⟨⟨a0, a1, a2⟩, ⟨a3, a4, a5⟩, a6, a7, a8⟩ := F.out.nine 0 rfl
    go_wp2_with fail
    refine (C2.out _).mono ?_
    rintro e w3 ⟨rfl, hT⟩
    have F := Lib.hid (F.out.keep hT)
    clear hT
    obtain ⟨r0, r1, r2, r3, r4, r5⟩ := F.out.six 1 rfl
    obtain ⟨f0, f1, f2, f3, f4, f5⟩ := F.out.fro6 1 rfl
    go_wp2
    refine bodyPost_ret (v := .agg #[.bool (sgz n.x), .string (moz n.x), .bool (sgz n.y), .string (moz n.y), .bool (sgz n.z), .string (moz n.z)]) (by simp [results, Tryd.results49, go_sem, r0, r1, r2, r3, r4, r5]) rfl ⟨rfl, ?_⟩
    exact F.out.fin6 1 rfl _ _ _ _ _ _
  · obtain ⟨rfl, hm⟩ := K.out rfl
    have c3 := fun x1 => IFrom hm.ok.x.1 hm.ok.x.2 x1
    have c4 := fun x1 => IFrom hm.ok.y.1 hm.ok.y.2 x1
    have c5 := fun x1 => IFrom hm.ok.z.1 hm.ok.z.2 x1
    have C3 := Lib.hid c3
    have C4 := Lib.hid c4
    have C5 := Lib.hid c5
    have F : Hid (Fr w (w1.alloc (.cells #[.int .i64 u.x, .int .i64 u.y, .int .i64 u.z] 96)) [(w.heap.size, .cells #[.int .i64 a.x, .int .i64 a.y, .int .i64 a.z, .int .i64 b.x, .int .i64 b.y, .int .i64 b.z, .int .i64 c.x, .int .i64 c.y, .int .i64 c.z] 31 (0, 0)), (w.heap.size + 1, .cells #[.bool false, .string ⟨#[]⟩, .bool false, .string ⟨#[]⟩, .bool false, .string ⟨#[]⟩] 64 (0, 0)), (w1.heap.size, .cells #[.int .i64 u.x, .int .i64 u.y, .int .i64 u.z] 96 (0, 0))]) := Lib.hid ((F0.out.keep hT).add (.cells #[.int .i64 u.x, .int .i64 u.y, .int .i64 u.z] 96) w1.heap.size rfl)
    have hn : w1.heap.size ≠ w.heap.size + 1 := by have := hT.size; simp at this; omega
    have SF := Lib.hid (fun (w3 : World) (h : Fr w w3 [(w.heap.size, .cells #[.int .i64 a.x, .int .i64 a.y, .int .i64 a.z, .int .i64 b.x, .int .i64 b.y, .int .i64 b.z, .int .i64 c.x, .int .i64 c.y, .int .i64 c.z] 31 (0, 0)), (w.heap.size + 1, .cells #[.bool false, .string ⟨#[]⟩, .bool false, .string ⟨#[]⟩, .bool false, .string ⟨#[]⟩] 64 (0, 0)), (w1.heap.size, .cells #[.int .i64 u.x, .int .i64 u.y, .int .i64 u.z] 96 (0, 0))]) => h.three 2 rfl)
    have ST := Lib.hid (fun (w3 : World) (x y z u' v r : Value) (h : Fr w w3 [(w.heap.size, .cells #[.int .i64 a.x, .int .i64 a.y, .int .i64 a.z, .int .i64 b.x, .int .i64 b.y, .int .i64 b.z, .int .i64 c.x, .int .i64 c.y, .int .i64 c.z] 31 (0, 0)), (w.heap.size + 1, .cells #[.bool false, .string ⟨#[]⟩, .bool false, .string ⟨#[]⟩, .bool false, .string ⟨#[]⟩] 64 (0, 0)), (w1.heap.size, .cells #[.int .i64 u.x, .int .i64 u.y, .int .i64 u.z] 96 (0, 0))]) => ((h.only 2 rfl).away6 (b := w.heap.size + 1) (by simpa using hn) (by omega) x y z u' v r).three 0 rfl)
    clear hT hn hm F0 c3 c4 c5 C1 C2 K
    obtain ⟨a0, a1, a2⟩ := F.out.three 2 rfl
    go_wp2_with fail
    go_region_held3 (fun w3 => w3.cell? ⟨w1.heap.size, 0, none⟩ = some (.int .i64 u.x) ∧ w3.cell? ⟨w1.heap.size, 1, none⟩ = some (.int .i64 u.y) ∧ w3.cell? ⟨w1.heap.size, 2, none⟩ = some (.int .i64 u.z)) (first | with_reducible exact SF.out _ F.out | with_reducible exact SF.out _ F.out.drew | with_reducible exact ST.out _ _ _ _ _ _ _ F.out) (first
      | (go_at_call 58; (first | (with_reducible refine (C3.out _).mono ?_) | (with_reducible refine (C4.out _).mono ?_) | (with_reducible refine (C5.out _).mono ?_)); rintro e w3 ⟨rfl, hT⟩; (first | (with_reducible have F := Lib.hid (F.out.keep hT)) | (have F := Lib.hid (F.out.drew.keep hT))); clear hT; obtain ⟨r0, r1, r2, r3, r4, r5⟩ := F.out.six 1 rfl; obtain ⟨f0, f1, f2, f3, f4, f5⟩ := F.out.fro6 1 rfl))
    go_wp2
    refine bodyPost_ret (v := .agg #[.bool (sgz u.x), .string (moz u.x), .bool (sgz u.y), .string (moz u.y), .bool (sgz u.z), .string (moz u.z)]) (by simp [results, Tryd.results49, go_sem, r0, r1, r2, r3, r4, r5]) rfl ⟨rfl, ?_⟩
    exact F.out.fin6 1 rfl _ _ _ _ _ _

end Go.Proofs.YtmpfgkpimjiecaaDoor
namespace Go.Proofs.YtmpfgkpimjiecaaDoor
open Go Go.RowKit Dg
theorem nrmI_sm {a b c : P3} (ha : a.Ok) (hb : b.Ok) (hc : c.Ok) : (nrmI a b c).Sm 131 := crsI_sm (difI_sm ha hb) (difI_sm ha hc)

end Go.Proofs.YtmpfgkpimjiecaaDoor
namespace Go.Proofs.YtmpfgkpimjiecaaDoor
open Go Go.RowKit Dg
/-- Two points are equal. -/
def ptE (p q : P3) : Bool := p.x == q.x && p.y == q.y && p.z == q.z

set_option maxRecDepth 100000 in
theorem eqPt (p q : P3) (w : World) : (Op.equalIn 10000 23 (.agg #[.int .i64 p.x, .int .i64 p.y, .int .i64 p.z]) (.agg #[.int .i64 q.x, .int .i64 q.y, .int .i64 q.z])).run Tryd.prog w = .ok (ptE p q) w := by
  have u3 := Tryd.underlying3
  have a3 := Tryd.isAgg3
  have z3 := Tryd.sizeOf3
  have hS : Tryd.prog.underlying 23 = some (.struct (Tryd.prog.fieldsOf 23)) := by kernel_rfl
  have hp : Tryd.prog.stoodInHeld 23 = false := by kernel_rfl
  rw [show (10000 : Nat) = 9999 + 1 from rfl, run_equalIn_agg w 9999 23 _ _ hS hp]
  simp only [Program.fieldsOf, Tryd.underlying23]
  go_simp
  unfold ptE
  by_cases h1 : p.x = q.x <;> by_cases h2 : p.y = q.y <;> by_cases h3 : p.z = q.z <;> simp [h1, h2, h3]

theorem eqlPt (p q : P3) (w : World) : (binOp .eql 23 (.agg #[.int .i64 p.x, .int .i64 p.y, .int .i64 p.z]) (.agg #[.int .i64 q.x, .int .i64 q.y, .int .i64 q.z])).run Tryd.prog w = .ok (.bool (ptE p q)) w := by
  rw [run_eql_struct, eqPt]; rfl

end Go.Proofs.YtmpfgkpimjiecaaDoor
