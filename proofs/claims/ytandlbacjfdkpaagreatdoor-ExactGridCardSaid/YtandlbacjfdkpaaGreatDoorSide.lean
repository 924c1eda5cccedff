/- exact.Side, for all ints. -/
import Derived.Test.YtandlbacjfdkpaaGreatDoorOri
import Derived.Test.YtandlbacjfdkpaaGreatDoorNrm
namespace Go.Proofs.YtandlbacjfdkpaaGreatDoor
open Go Go.RowKit Dg

/-- The first sign that is not 0, of the volume and of the normal's components. -/
def sideI (a b c p : P3) : Int :=
  if (detI a b c p).sign = 0 then (if (nrmI a b c).x.sign = 0 then (if (nrmI a b c).y.sign = 0 then (nrmI a b c).z.sign else (nrmI a b c).y.sign) else (nrmI a b c).x.sign) else (detI a b c p).sign

/-- What 'side' holds behind k rounds, where it was 0. -/
def sst (n : P3) (k : Nat) : Int :=
  match k with
  | 0 => 0
  | 1 => n.x.sign
  | 2 => if n.x.sign = 0 then n.y.sign else n.x.sign
  | _ => if n.x.sign = 0 then (if n.y.sign = 0 then n.z.sign else n.y.sign) else n.x.sign

theorem idxW0 (x y z p q r : Value) (w : World) : (Instr.index 47 (.agg #[x, y, z, p, q, r]) (.int .i64 0)).run Tryz.prog w = .ok (.agg #[x, y]) w := by kernel_rfl
theorem idxW1 (x y z p q r : Value) (w : World) : (Instr.index 47 (.agg #[x, y, z, p, q, r]) (.int .i64 1)).run Tryz.prog w = .ok (.agg #[z, p]) w := by kernel_rfl
theorem idxW2 (x y z p q r : Value) (w : World) : (Instr.index 47 (.agg #[x, y, z, p, q, r]) (.int .i64 2)).run Tryz.prog w = .ok (.agg #[q, r]) w := by kernel_rfl

set_option maxHeartbeats 2000000 in
set_option maxRecDepth 100000 in
theorem Side (a b c p : P3) (ha : a.Ok) (hb : b.Ok) (hc : c.Ok) (hp : p.Ok) (w : World) :
    Calls Tryz.prog 22 #[.agg #[.int .i64 a.x, .int .i64 a.y, .int .i64 a.z, .int .i64 b.x, .int .i64 b.y, .int .i64 b.z, .int .i64 c.x, .int .i64 c.y, .int .i64 c.z], .agg #[.int .i64 p.x, .int .i64 p.y, .int .i64 p.z]] w fun e w' => e = .returned (.int .i64 (sideI a b c p)) ∧ Tch [] w w' := by
  have c1 := fun w1 => Orient a b c p ha hb hc hp w1
  have c2 := fun w1 => Normal a b c ha hb hc w1
  have hn' : (nrmI a b c).Sm 131 := crsI_sm (difI_sm ha hb) (difI_sm ha hc)
  have hs' : sideI a b c p = if (detI a b c p).sign = 0 then (if (nrmI a b c).x.sign = 0 then (if (nrmI a b c).y.sign = 0 then (nrmI a b c).z.sign else (nrmI a b c).y.sign) else (nrmI a b c).x.sign) else (detI a b c p).sign := rfl
  obtain ⟨o, ho⟩ : ∃ o, o = sideI a b c p := ⟨_, rfl⟩
  rw [← ho] at hs' ⊢
  obtain ⟨n, hn⟩ : ∃ n, n = nrmI a b c := ⟨_, rfl⟩
  rw [← hn] at c2 hn' hs'
  obtain ⟨d, hd⟩ : ∃ d, d = (detI a b c p).sign := ⟨_, rfl⟩
  rw [← hd] at c1 hs'
  have S1 := Lib.hid (fun w1 => ISign (hn'.x.mono (l := 400) (by omega)) w1)
  have S2 := Lib.hid (fun w1 => ISign (hn'.y.mono (l := 400) (by omega)) w1)
  have S3 := Lib.hid (fun w1 => ISign (hn'.z.mono (l := 400) (by omega)) w1)
  have C1 := Lib.hid c1
  have C2 := Lib.hid c2
  have HO := Lib.hid hs'
  clear c1 c2 hn' hs' ho hn hd ha hb hc hp
  have F0 : Hid (Fr w ((w.alloc (.cells #[.int .i64 a.x, .int .i64 a.y, .int .i64 a.z, .int .i64 b.x, .int .i64 b.y, .int .i64 b.z, .int .i64 c.x, .int .i64 c.y, .int .i64 c.z] 33)).alloc (.cells #[.int .i64 p.x, .int .i64 p.y, .int .i64 p.z] 27)) [(w.heap.size, .cells #[.int .i64 a.x, .int .i64 a.y, .int .i64 a.z, .int .i64 b.x, .int .i64 b.y, .int .i64 b.z, .int .i64 c.x, .int .i64 c.y, .int .i64 c.z] 33 (0, 0)), (w.heap.size + 1, .cells #[.int .i64 p.x, .int .i64 p.y, .int .i64 p.z] 27 (0, 0))]) := Lib.hid (((Fr.nil w).add (.cells #[.int .i64 a.x, .int .i64 a.y, .int .i64 a.z, .int .i64 b.x, .int .i64 b.y, .int .i64 b.z, .int .i64 c.x, .int .i64 c.y, .int .i64 c.z] 33) w.heap.size rfl).add (.cells #[.int .i64 p.x, .int .i64 p.y, .int .i64 p.z] 27) (w.heap.size + 1) (by simp))
  go_enter Tryz.func22, Tryz.ntmps22
  go_wp2_with fail
  refine (C1.out _).mono ?_
  rintro e w1 ⟨rfl, hT⟩
  have F := Lib.hid (F0.out.keep hT)
  clear hT F0
  by_cases h0 : d = 0
  · subst h0
    obtain ⟨⟨a0, a1, a2⟩, ⟨a3, a4, a5⟩, a6, a7, a8⟩ := F.out.nine 0 rfl
    go_wp2_with fail
    refine (C2.out _).mono ?_
    rintro e w2 ⟨rfl, hT⟩
    have F := Lib.hid (F.out.keep hT)
    clear hT a0 a1 a2 a3 a4 a5 a6 a7 a8
    go_wp2
    go_loopw [5, 21] (fun sd i wr => ∃ (k : Nat) (v : Int), k ≤ 3 ∧ sd = .int .i64 v ∧ i = .int .i64 (k : Int) ∧ Hid (v = sst n k) ∧ Hid (Fr w wr [(w.heap.size, .cells #[.int .i64 a.x, .int .i64 a.y, .int .i64 a.z, .int .i64 b.x, .int .i64 b.y, .int .i64 b.z, .int .i64 c.x, .int .i64 c.y, .int .i64 c.z] 33 (0, 0)), (w.heap.size + 1, .cells #[.int .i64 p.x, .int .i64 p.y, .int .i64 p.z] 27 (0, 0))]))
      (fun _ i _ => 3 - (intOf i).toNat)
    case atStart => exact ⟨0, 0, by omega, rfl, rfl, Lib.hid rfl, F⟩
    case round =>
      obtain ⟨k, v, hk, rfl, rfl, HV, F⟩ := hrel
      rcases (show k = 0 ∨ k = 1 ∨ k = 2 ∨ k = 3 by omega) with rfl | rfl | rfl | rfl
      · have X := idxW0
        have HK := HV.out
        by_cases hv : v = 0
        · subst hv
          have HV' : Hid (n.x.sign = sst n 1) := Lib.hid rfl
          clear HV HK
          go_wp2_with fail
          refine (S1.out _).mono ?_
          rintro e w4 ⟨rfl, hT⟩
          have F := Lib.hid ((F.out.beside _).keep hT)
          clear hT
          go_wp2
          go_roundw
          case rel => exact ⟨1, _, by omega, rfl, by go_num, HV', F⟩
          case measure => simp [intOf]
        · have h1 : (v == 0) = false := beq_eq_false_iff_ne.2 hv
          have HV' : Hid (v = sst n 1) := Lib.hid (by have h := HV.out; unfold sst at h ⊢; simp only at h ⊢; first | (exact absurd h hv) | (rw [if_neg (by rw [← h]; exact hv)]; exact h) | (rw [h]; split <;> simp_all))
          clear HV HK
          go_wp2
          go_roundw
          case rel => exact ⟨1, _, by omega, rfl, by go_num, HV', Lib.hid (F.out.beside _)⟩
          case measure => simp [intOf]
      · have X := idxW1
        have HK := HV.out
        by_cases hv : v = 0
        · subst hv
          have HV' : Hid (n.y.sign = sst n 2) := Lib.hid (by have h := HV.out; unfold sst at h ⊢; simp only at h ⊢; first | rfl | (rw [if_pos h.symm]) | (split at h <;> simp_all))
          clear HV HK
          go_wp2_with fail
          refine (S2.out _).mono ?_
          rintro e w4 ⟨rfl, hT⟩
          have F := Lib.hid ((F.out.beside _).keep hT)
          clear hT
          go_wp2
          go_roundw
          case rel => exact ⟨2, _, by omega, rfl, by go_num, HV', F⟩
          case measure => simp [intOf]
        · have h1 : (v == 0) = false := beq_eq_false_iff_ne.2 hv
          have HV' : Hid (v = sst n 2) := Lib.hid (by have h := HV.out; unfold sst at h ⊢; simp only at h ⊢; first | (exact absurd h hv) | (rw [if_neg (by rw [← h]; exact hv)]; exact h) | (rw [h]; split <;> simp_all))
          clear HV HK
          go_wp2
          go_roundw
          case rel => exact ⟨2, _, by omega, rfl, by go_num, HV', Lib.hid (F.out.beside _)⟩
          case measure => simp [intOf]
      · have X := idxW2
        have HK := HV.out
        by_cases hv : v = 0
        · subst hv
          have HV' : Hid (n.z.sign = sst n 3) := Lib.hid (by have h := HV.out; unfold sst at h ⊢; simp only at h ⊢; first | rfl | (rw [if_pos h.symm]) | (split at h <;> simp_all))
          clear HV HK
          go_wp2_with fail
          refine (S3.out _).mono ?_
          rintro e w4 ⟨rfl, hT⟩
          have F := Lib.hid ((F.out.beside _).keep hT)
          clear hT
          go_wp2
          go_roundw
          case rel => exact ⟨3, _, by omega, rfl, by go_num, HV', F⟩
          case measure => simp [intOf]
        · have h1 : (v == 0) = false := beq_eq_false_iff_ne.2 hv
          have HV' : Hid (v = sst n 3) := Lib.hid (by have h := HV.out; unfold sst at h ⊢; simp only at h ⊢; first | (exact absurd h hv) | (rw [if_neg (by rw [← h]; exact hv)]; exact h) | (rw [h]; split <;> simp_all))
          clear HV HK
          go_wp2
          go_roundw
          case rel => exact ⟨3, _, by omega, rfl, by go_num, HV', Lib.hid (F.out.beside _)⟩
          case measure => simp [intOf]
      · have HV2 : Hid (o = v) := Lib.hid (by rw [HO.out, HV.out]; unfold sst; simp only [if_true])
        clear HV HO
        go_wp2
        go_ret
        exact ⟨by rw [HV2.out]; rfl, F.out.t⟩
  · have h1 : (d == 0) = false := beq_eq_false_iff_ne.2 h0
    have HO2 : Hid (o = d) := Lib.hid (by rw [HO.out, if_neg h0])
    clear HO C1 C2 S1 S2 S3
    go_wp2
    go_ret
    exact ⟨by rw [HO2.out]; rfl, F.out.t⟩

end Go.Proofs.YtandlbacjfdkpaaGreatDoor
