/- exact.Dist2, for all ints. -/
import Derived.Test.YtandlbacjfdkpaaGreatDoorVecE
namespace Go.Proofs.YtandlbacjfdkpaaGreatDoor
open Go Go.RowKit Dg

/-- The square of the distance. -/
def dst2I (a b : P3) : Int := dotI (difI a b) (difI a b)

theorem sq_in {v : P3} (h : v.Short) : wrap64 (wrap64 (wrap64 (v.x * v.x) + wrap64 (v.y * v.y)) + wrap64 (v.z * v.z)) = dotI v v ∧ (-9223372036854775808 ≤ dotI v v ∧ dotI v v ≤ 9223372036854775807) := by
  have h1 := mul_bd30 h.x h.x
  have h2 := mul_bd30 h.y h.y
  have h3 := mul_bd30 h.z h.z
  unfold dotI
  rw [wrap64_in (x := v.x * v.x) (by omega), wrap64_in (x := v.y * v.y) (by omega), wrap64_in (x := v.z * v.z) (by omega), wrap64_in (x := v.x * v.x + v.y * v.y) (by omega), wrap64_in (by omega)]
  exact ⟨rfl, by omega⟩

set_option maxHeartbeats 2000000 in
set_option maxRecDepth 100000 in
theorem Dist2 (a b : P3) (ha : a.Ok) (hb : b.Ok) (w : World) :
    Calls Tryz.prog 30 #[.agg #[.int .i64 a.x, .int .i64 a.y, .int .i64 a.z], .agg #[.int .i64 b.x, .int .i64 b.y, .int .i64 b.z]] w fun e w' => e = .returned (.agg #[.bool (sgz (dst2I a b)), .string (moz (dst2I a b))]) ∧ Tch [] w w' := by
  have c1 := fun w1 => xbetween a b w1
  have c2 := fun w1 => zwBetween a b ha hb w1
  have c3 := fun w1 => xwideDot (difI a b) (difI a b) ((difI_sm ha hb).mono (by omega)) ((difI_sm ha hb).mono (by omega)) w1
  rw [show dotI (difI a b) (difI a b) = dst2I a b from rfl] at c3
  have k := @shrt_dif a b ha hb
  obtain ⟨v, hv⟩ : ∃ v, v = dif a b := ⟨_, rfl⟩
  obtain ⟨s, hs⟩ : ∃ s, s = shrt a b := ⟨_, rfl⟩
  rw [← hv, ← hs] at c1 k
  obtain ⟨d, hd⟩ : ∃ d, d = dst2I a b := ⟨_, rfl⟩
  have k2 : s = true → dotI v v = d ∧ v.Short := by
    intro h
    have := k h
    rw [hd, this.1]
    exact ⟨rfl, this.2⟩
  rw [← hd] at c3 ⊢
  obtain ⟨u, hu⟩ : ∃ u, u = difI a b := ⟨_, rfl⟩
  rw [← hu] at c2 c3
  have C1 := Lib.hid c1
  have C2 := Lib.hid c2
  have C3 := Lib.hid c3
  have K := Lib.hid k2
  clear c1 c2 c3 k k2 hv hs hd hu ha hb
  have F0 : Hid (Fr w (((w.alloc (.cells #[.int .i64 a.x, .int .i64 a.y, .int .i64 a.z] 27)).alloc (.cells #[.int .i64 b.x, .int .i64 b.y, .int .i64 b.z] 27)).alloc (.cells #[.bool false, .string ⟨#[]⟩] 46)) [(w.heap.size, .cells #[.int .i64 a.x, .int .i64 a.y, .int .i64 a.z] 27 (0, 0)), (w.heap.size + 1, .cells #[.int .i64 b.x, .int .i64 b.y, .int .i64 b.z] 27 (0, 0)), (w.heap.size + 1 + 1, .cells #[.bool false, .string ⟨#[]⟩] 46 (0, 0))]) := Lib.hid ((((Fr.nil w).add (.cells #[.int .i64 a.x, .int .i64 a.y, .int .i64 a.z] 27) w.heap.size rfl).add (.cells #[.int .i64 b.x, .int .i64 b.y, .int .i64 b.z] 27) (w.heap.size + 1) (by simp)).add (.cells #[.bool false, .string ⟨#[]⟩] 46) (w.heap.size + 1 + 1) (by simp))
  go_enter Tryz.func30, Tryz.ntmps30
  go_wp2_with fail
  refine (C1.out _).mono ?_
  rintro e w1 ⟨rfl, hT⟩
  have F : Hid (Fr w (w1.alloc (.cells #[.int .i64 v.x, .int .i64 v.y, .int .i64 v.z] 66)) [(w.heap.size, .cells #[.int .i64 a.x, .int .i64 a.y, .int .i64 a.z] 27 (0, 0)), (w.heap.size + 1, .cells #[.int .i64 b.x, .int .i64 b.y, .int .i64 b.z] 27 (0, 0)), (w.heap.size + 1 + 1, .cells #[.bool false, .string ⟨#[]⟩] 46 (0, 0)), (w1.heap.size, .cells #[.int .i64 v.x, .int .i64 v.y, .int .i64 v.z] 66 (0, 0))]) := Lib.hid ((F0.out.keep hT).add (.cells #[.int .i64 v.x, .int .i64 v.y, .int .i64 v.z] 66) w1.heap.size rfl)
  clear hT F0 C1
  cases s
  · clear K
    obtain ⟨a0, a1, a2⟩ := F.out.three 0 rfl
    obtain ⟨b0, b1, b2⟩ := F.out.three 1 rfl
    go_wp2_with fail
    refine (C2.out _).mono ?_
    rintro e w3 ⟨rfl, hT⟩
    have F := Lib.hid ((F.out.keep hT).add (.cells #[.bool (sgz u.x), .string (moz u.x), .bool (sgz u.y), .string (moz u.y), .bool (sgz u.z), .string (moz u.z)] 69) w3.heap.size rfl)
    clear hT a0 a1 a2 b0 b1 b2
    obtain ⟨r0, r1, r2, r3, r4, r5⟩ := F.out.six 4 rfl
    go_wp2_with fail
    refine (C3.out _).mono ?_
    rintro e w4 ⟨rfl, hT⟩
    have F := Lib.hid (F.out.keep hT)
    clear hT r0 r1 r2 r3 r4 r5
    obtain ⟨r0, r1⟩ := F.out.two 2 rfl
    obtain ⟨f0, f1⟩ := F.out.fro2 2 rfl
    go_wp2
    refine bodyPost_ret (v := .agg #[.bool (sgz d), .string (moz d)]) (by simp [results, Tryz.results30, go_sem, r0, r1]) rfl ⟨rfl, F.out.fin2 2 rfl _ _⟩
  · obtain ⟨hq, hsh⟩ := K.out rfl
    have q := sq_in hsh
    have c4 := fun x1 => IFrom q.2.1 q.2.2 x1
    rw [← q.1] at c4
    rw [q.1, hq] at c4
    have C4 : Hid (∀ x1, Calls Tryz.prog 50 #[.int .i64 (wrap64 (wrap64 (wrap64 (v.x * v.x) + wrap64 (v.y * v.y)) + wrap64 (v.z * v.z)))] x1 fun e w' => e = .returned (.agg #[.bool (sgz d), .string (moz d)]) ∧ Tch [] x1 w') := Lib.hid (by rw [q.1, hq]; exact c4)
    clear c4 q hq hsh K C2 C3
    obtain ⟨a0, a1, a2⟩ := F.out.three 3 rfl
    go_wp2_with fail
    refine (C4.out _).mono ?_
    rintro e w3 ⟨rfl, hT⟩
    have F := Lib.hid (F.out.keep hT)
    clear hT
    obtain ⟨r0, r1⟩ := F.out.two 2 rfl
    obtain ⟨f0, f1⟩ := F.out.fro2 2 rfl
    go_wp2
    refine bodyPost_ret (v := .agg #[.bool (sgz d), .string (moz d)]) (by simp [results, Tryz.results30, go_sem, r0, r1]) rfl ⟨rfl, F.out.fin2 2 rfl _ _⟩

end Go.Proofs.YtandlbacjfdkpaaGreatDoor
