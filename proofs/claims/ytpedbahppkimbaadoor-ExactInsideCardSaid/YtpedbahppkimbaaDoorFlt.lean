/- exact.Flat, for all ints. -/
import Derived.Test.YtpedbahppkimbaaDoorNrm
import Derived.Test.YtpedbahppkimbaaDoorEqs
namespace Go.Proofs.YtpedbahppkimbaaDoor
open Go Go.RowKit Dg

/-- Whether a triangle has no area. -/
def flatI (a b c : P3) : Bool := (nrmI a b c).x == 0 && (nrmI a b c).y == 0 && (nrmI a b c).z == 0

set_option maxHeartbeats 2000000 in
set_option maxRecDepth 100000 in
theorem Flat (a b c : P3) (ha : a.Ok) (hb : b.Ok) (hc : c.Ok) (w : World) :
    Calls Tryd.prog 30 #[.agg #[.int .i64 a.x, .int .i64 a.y, .int .i64 a.z, .int .i64 b.x, .int .i64 b.y, .int .i64 b.z, .int .i64 c.x, .int .i64 c.y, .int .i64 c.z]] w fun e w' => e = .returned (.bool (flatI a b c)) ∧ Tch [] w w' := by
  have c1 := fun w1 => xnormal a b c w1
  have c2 := fun w1 => xwideNormal a b c ha hb hc w1
  rw [show crsI (difI a b) (difI a c) = nrmI a b c from rfl] at c2
  obtain ⟨u, hu⟩ : ∃ u, u = crs (dif a b) (dif a c) := ⟨_, rfl⟩
  obtain ⟨s, hs⟩ : ∃ s, s = (shrt a b && shrt a c) := ⟨_, rfl⟩
  rw [← hu, ← hs] at c1
  obtain ⟨n, hn⟩ : ∃ n, n = nrmI a b c := ⟨_, rfl⟩
  rw [← hn] at c2
  have hf : flatI a b c = (n.x == 0 && n.y == 0 && n.z == 0) := by unfold flatI; rw [← hn]
  rw [hf]
  clear hf
  have key : s = true → u = n ∧ n.Mid := by
    intro h
    rw [hs, Bool.and_eq_true] at h
    have e1 := shrt_dif ha hb h.1
    have e2 := shrt_dif ha hc h.2
    have k := crs_crsI e1.2 e2.2
    exact ⟨by rw [hu, e1.1, e2.1, k.1, hn]; rfl, by rw [hn]; exact k.2⟩
  have C1 := Lib.hid c1
  have C2 := Lib.hid c2
  have K := Lib.hid key
  clear c1 c2 hu hs hn key ha hb hc
  have F0 : Hid (Fr w (w.alloc (.cells #[.int .i64 a.x, .int .i64 a.y, .int .i64 a.z, .int .i64 b.x, .int .i64 b.y, .int .i64 b.z, .int .i64 c.x, .int .i64 c.y, .int .i64 c.z] 28)) [(w.heap.size, .cells #[.int .i64 a.x, .int .i64 a.y, .int .i64 a.z, .int .i64 b.x, .int .i64 b.y, .int .i64 b.z, .int .i64 c.x, .int .i64 c.y, .int .i64 c.z] 28 (0, 0))]) := Lib.hid ((Fr.nil w).add (.cells #[.int .i64 a.x, .int .i64 a.y, .int .i64 a.z, .int .i64 b.x, .int .i64 b.y, .int .i64 b.z, .int .i64 c.x, .int .i64 c.y, .int .i64 c.z] 28) w.heap.size rfl)
  go_enter Tryd.func30, Tryd.ntmps30
  go_wp2_with fail
  refine (C1.out _).mono ?_
  rintro e w1 ⟨rfl, hT⟩
  have F := Lib.hid ((F0.out.keep hT).add (.cells #[.int .i64 u.x, .int .i64 u.y, .int .i64 u.z] 44) w1.heap.size rfl)
  clear hT F0
  cases s
  · obtain ⟨⟨a0, a1, a2⟩, ⟨a3, a4, a5⟩, a6, a7, a8⟩ := F.out.nine 0 rfl
    go_wp2_with fail
    refine (C2.out _).mono ?_
    rintro e w3 ⟨rfl, hT⟩
    have F := Lib.hid (F.out.keep hT)
    clear hT
    have E := eqWideZero n.x n.y n.z
    go_wp2
    go_ret
    exact ⟨rfl, F.out.t⟩
  · obtain ⟨rfl, hm⟩ := K.out rfl
    obtain ⟨a0, a1, a2⟩ := F.out.three 1 rfl
    clear hm C1 C2 K
    have E := eqVec u.x u.y u.z 0 0 0
    go_wp2
    go_ret
    exact ⟨rfl, F.out.t⟩

end Go.Proofs.YtpedbahppkimbaaDoor
