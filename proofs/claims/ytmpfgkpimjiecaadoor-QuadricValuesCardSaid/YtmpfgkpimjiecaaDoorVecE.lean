/- Wide vectors in the program: dot. -/
import Derived.Deep.RegionWith
import Derived.Test.YtmpfgkpimjiecaaDoorVecC
namespace Go.Proofs.YtmpfgkpimjiecaaDoor
open Go Go.RowKit Dg
section
variable {w : World} {A : Nat} {L : List Obj}
theorem Bs.two (h : Bs w A L) (i : Nat) {b : Nat} {x y : Value} {T : TypeId} (hb : A + i = b) (hi : L[i]? = some (.cells #[x, y] T (0, 0))) : w.cell? ⟨b, 0, none⟩ = some x ∧ w.cell? ⟨b, 1, none⟩ = some y := by
  subst hb; exact ⟨h.cell i 0 hi rfl, h.cell i 1 hi rfl⟩

theorem Bs.fro2 (h : Bs w A L) (i : Nat) {b : Nat} {vs : Array Value} {T : TypeId} (hb : A + i = b) (hi : L[i]? = some (.cells vs T (0, 0))) : w.frozen? ⟨b, 0, none⟩ = false ∧ w.frozen? ⟨b, 1, none⟩ = false := by
  subst hb; exact ⟨h.frozen i 0 hi, h.frozen i 1 hi⟩

end
end Go.Proofs.YtmpfgkpimjiecaaDoor
namespace Go.Proofs.YtmpfgkpimjiecaaDoor
open Go Go.RowKit Dg
theorem zwBetween (a b : P3) (ha : a.Ok) (hb : b.Ok) (w : World) :
    Calls Tryd.prog 83 #[.agg #[.int .i64 a.x, .int .i64 a.y, .int .i64 a.z], .agg #[.int .i64 b.x, .int .i64 b.y, .int .i64 b.z]] w fun e w' => e = .returned (.agg #[.bool (sgz (difI a b).x), .string (moz (difI a b).x), .bool (sgz (difI a b).y), .string (moz (difI a b).y), .bool (sgz (difI a b).z), .string (moz (difI a b).z)]) ∧ Tch [] w w' := xwideBetween a b ha hb w

theorem zwCross (v u : P3) (hv : v.Sm 200) (hu : u.Sm 199) (w : World) :
    Calls Tryd.prog 84 #[.agg #[.bool (sgz v.x), .string (moz v.x), .bool (sgz v.y), .string (moz v.y), .bool (sgz v.z), .string (moz v.z)], .agg #[.bool (sgz u.x), .string (moz u.x), .bool (sgz u.y), .string (moz u.y), .bool (sgz u.z), .string (moz u.z)]] w fun e w' => e = .returned (.agg #[.bool (sgz (crsI v u).x), .string (moz (crsI v u).x), .bool (sgz (crsI v u).y), .string (moz (crsI v u).y), .bool (sgz (crsI v u).z), .string (moz (crsI v u).z)]) ∧ Tch [] w w' := xwideCross v u hv hu w

section
variable {w0 w : World} {l : List (Nat × Obj)} {p : Nat × Obj}
theorem Fr.six (h : Fr w0 w l) (i : Nat) {b : Nat} {x y z p q r : Value} {T : TypeId} (hi : l[i]? = some (b, .cells #[x, y, z, p, q, r] T (0, 0))) :
    w.cell? ⟨b, 0, none⟩ = some x ∧ w.cell? ⟨b, 1, none⟩ = some y ∧ w.cell? ⟨b, 2, none⟩ = some z ∧ w.cell? ⟨b, 3, none⟩ = some p ∧ w.cell? ⟨b, 4, none⟩ = some q ∧ w.cell? ⟨b, 5, none⟩ = some r :=
  ⟨h.cell i 0 hi rfl, h.cell i 1 hi rfl, h.cell i 2 hi rfl, h.cell i 3 hi rfl, h.cell i 4 hi rfl, h.cell i 5 hi rfl⟩

theorem Fr.fro6 (h : Fr w0 w l) (i : Nat) {b : Nat} {vs : Array Value} {T : TypeId} (hi : l[i]? = some (b, .cells vs T (0, 0))) :
    w.frozen? ⟨b, 0, none⟩ = false ∧ w.frozen? ⟨b, 1, none⟩ = false ∧ w.frozen? ⟨b, 2, none⟩ = false ∧ w.frozen? ⟨b, 3, none⟩ = false ∧ w.frozen? ⟨b, 4, none⟩ = false ∧ w.frozen? ⟨b, 5, none⟩ = false :=
  ⟨h.frozen i 0 hi, h.frozen i 1 hi, h.frozen i 2 hi, h.frozen i 3 hi, h.frozen i 4 hi, h.frozen i 5 hi⟩

theorem Fr.head (h : Fr w0 w (p :: l)) : Fr w0 w [p] := ⟨fun q hq => h.row q (by rw [List.mem_singleton] at hq; subst hq; exact List.mem_cons_self), fun q hq => h.new q (by rw [List.mem_singleton] at hq; subst hq; exact List.mem_cons_self), h.t⟩

theorem Fr.away6 (h : Fr w0 w l) {b : Nat} (hp : ∀ q ∈ l, q.1 ≠ b) (hn : w0.heap.size ≤ b) (x y z u v r : Value) : Fr w0 ((((((w.setCell ⟨b, 0, none⟩ x).setCell ⟨b, 1, none⟩ y).setCell ⟨b, 2, none⟩ z).setCell ⟨b, 3, none⟩ u).setCell ⟨b, 4, none⟩ v).setCell ⟨b, 5, none⟩ r) l :=
  (((((h.away (p := ⟨b, 0, none⟩) hp hn x).away (p := ⟨b, 1, none⟩) hp hn y).away (p := ⟨b, 2, none⟩) hp hn z).away (p := ⟨b, 3, none⟩) hp hn u).away (p := ⟨b, 4, none⟩) hp hn v).away (p := ⟨b, 5, none⟩) hp hn r

theorem Fr.fin6 (h : Fr w0 w l) (i : Nat) {b : Nat} {o : Obj} (hi : l[i]? = some (b, o)) (x y z p q r : Value) : Tch [] w0 ((((((w.setCell ⟨b, 0, none⟩ x).setCell ⟨b, 1, none⟩ y).setCell ⟨b, 2, none⟩ z).setCell ⟨b, 3, none⟩ p).setCell ⟨b, 4, none⟩ q).setCell ⟨b, 5, none⟩ r) :=
  (((h.fin3 i hi x y z).setCell (.inr (h.new (b, o) (List.mem_of_getElem? hi))) p).setCell (.inr (h.new (b, o) (List.mem_of_getElem? hi))) q).setCell (.inr (h.new (b, o) (List.mem_of_getElem? hi))) r

end
set_option maxHeartbeats 2000000 in
set_option maxRecDepth 100000 in
theorem xwideNormal (a b c : P3) (ha : a.Ok) (hb : b.Ok) (hc : c.Ok) (w : World) :
    Calls Tryd.prog 67 #[.agg #[.int .i64 a.x, .int .i64 a.y, .int .i64 a.z, .int .i64 b.x, .int .i64 b.y, .int .i64 b.z, .int .i64 c.x, .int .i64 c.y, .int .i64 c.z]] w fun e w' => e = .returned (.agg #[.bool (sgz (crsI (difI a b) (difI a c)).x), .string (moz (crsI (difI a b) (difI a c)).x), .bool (sgz (crsI (difI a b) (difI a c)).y), .string (moz (crsI (difI a b) (difI a c)).y), .bool (sgz (crsI (difI a b) (difI a c)).z), .string (moz (crsI (difI a b) (difI a c)).z)]) ∧ Tch [] w w' := by
  have c1 := fun w1 => zwBetween a b ha hb w1
  have c2 := fun w1 => zwBetween a c ha hc w1
  have c3 := fun w1 => zwCross (difI a b) (difI a c) ((difI_sm ha hb).mono (by omega)) ((difI_sm ha hc).mono (by omega)) w1
  obtain ⟨n, hn⟩ : ∃ n, n = crsI (difI a b) (difI a c) := ⟨_, rfl⟩
  obtain ⟨v, hv⟩ : ∃ v, v = difI a b := ⟨_, rfl⟩
  obtain ⟨u, hu⟩ : ∃ u, u = difI a c := ⟨_, rfl⟩
  rw [← hn] at c3 ⊢
  rw [← hv] at c1 c3
  rw [← hu] at c2 c3
  have C1 := Lib.hid c1
  have C2 := Lib.hid c2
  have C3 := Lib.hid c3
  clear c1 c2 c3 hn hv hu ha hb hc
  have F : Hid (Fr w ((w.alloc (.cells #[.int .i64 a.x, .int .i64 a.y, .int .i64 a.z, .int .i64 b.x, .int .i64 b.y, .int .i64 b.z, .int .i64 c.x, .int .i64 c.y, .int .i64 c.z] 31)).alloc (.cells #[.bool false, .string ⟨#[]⟩, .bool false, .string ⟨#[]⟩, .bool false, .string ⟨#[]⟩] 99)) [(w.heap.size, .cells #[.int .i64 a.x, .int .i64 a.y, .int .i64 a.z, .int .i64 b.x, .int .i64 b.y, .int .i64 b.z, .int .i64 c.x, .int .i64 c.y, .int .i64 c.z] 31 (0, 0)), (w.heap.size + 1, .cells #[.bool false, .string ⟨#[]⟩, .bool false, .string ⟨#[]⟩, .bool false, .string ⟨#[]⟩] 99 (0, 0))]) := Lib.hid (((Fr.nil w).add (.cells #[.int .i64 a.x, .int .i64 a.y, .int .i64 a.z, .int .i64 b.x, .int .i64 b.y, .int .i64 b.z, .int .i64 c.x, .int .i64 c.y, .int .i64 c.z] 31) w.heap.size rfl).add (.cells #[.bool false, .string ⟨#[]⟩, .bool false, .string ⟨#[]⟩, .bool false, .string ⟨#[]⟩] 99) (w.heap.size + 1) (by simp))
  obtain ⟨⟨a0, a1, a2⟩, ⟨a3, a4, a5⟩, a6, a7, a8⟩ := F.out.nine 0 rfl
  have SF := Lib.hid (fun (w3 : World) (h : Fr w w3 [(w.heap.size, .cells #[.int .i64 a.x, .int .i64 a.y, .int .i64 a.z, .int .i64 b.x, .int .i64 b.y, .int .i64 b.z, .int .i64 c.x, .int .i64 c.y, .int .i64 c.z] 31 (0, 0)), (w.heap.size + 1, .cells #[.bool false, .string ⟨#[]⟩, .bool false, .string ⟨#[]⟩, .bool false, .string ⟨#[]⟩] 99 (0, 0))]) => h.nine 0 rfl)
  have ST := Lib.hid (fun (w3 : World) (x y z u v r : Value) (h : Fr w w3 [(w.heap.size, .cells #[.int .i64 a.x, .int .i64 a.y, .int .i64 a.z, .int .i64 b.x, .int .i64 b.y, .int .i64 b.z, .int .i64 c.x, .int .i64 c.y, .int .i64 c.z] 31 (0, 0)), (w.heap.size + 1, .cells #[.bool false, .string ⟨#[]⟩, .bool false, .string ⟨#[]⟩, .bool false, .string ⟨#[]⟩] 99 (0, 0))]) => (h.head.away6 (b := w.heap.size + 1) (by simp) (by omega) x y z u v r).nine 0 rfl)
  go_enter Tryd.func67, Tryd.ntmps67
  go_wp2_with fail

  go_region_held3 (fun w3 => (w3.cell? ⟨w.heap.size, 0, none⟩ = some (.int .i64 a.x) ∧ w3.cell? ⟨w.heap.size, 1, none⟩ = some (.int .i64 a.y) ∧ w3.cell? ⟨w.heap.size, 2, none⟩ = some (.int .i64 a.z)) ∧ (w3.cell? ⟨w.heap.size, 3, none⟩ = some (.int .i64 b.x) ∧ w3.cell? ⟨w.heap.size, 4, none⟩ = some (.int .i64 b.y) ∧ w3.cell? ⟨w.heap.size, 5, none⟩ = some (.int .i64 b.z)) ∧ w3.cell? ⟨w.heap.size, 6, none⟩ = some (.int .i64 c.x) ∧ w3.cell? ⟨w.heap.size, 7, none⟩ = some (.int .i64 c.y) ∧ w3.cell? ⟨w.heap.size, 8, none⟩ = some (.int .i64 c.z)) (first | with_reducible exact SF.out _ F.out | with_reducible exact SF.out _ F.out.drew | with_reducible exact ST.out _ _ _ _ _ _ _ F.out) (first
    | (go_at_call 83; (first | (with_reducible refine (C1.out _).mono ?_) | (with_reducible refine (C2.out _).mono ?_)); rintro e w3 ⟨rfl, hT⟩; (first | (with_reducible have F := Lib.hid (F.out.keep hT)) | (have F := Lib.hid (F.out.drew.keep hT))); clear hT)
    | (go_at_call 84; (with_reducible refine (C3.out _).mono ?_); rintro e w3 ⟨rfl, hT⟩; have F := Lib.hid (F.out.keep hT); clear hT; obtain ⟨r0, r1, r2, r3, r4, r5⟩ := F.out.six 1 rfl; obtain ⟨f0, f1, f2, f3, f4, f5⟩ := F.out.fro6 1 rfl))
  go_wp2

  refine bodyPost_ret (v := .agg #[.bool (sgz n.x), .string (moz n.x), .bool (sgz n.y), .string (moz n.y), .bool (sgz n.z), .string (moz n.z)]) (by simp [results, Tryd.results67, go_sem, r0, r1, r2, r3, r4, r5]) rfl ⟨rfl, ?_⟩
  exact F.out.fin6 1 rfl _ _ _ _ _ _

end Go.Proofs.YtmpfgkpimjiecaaDoor
