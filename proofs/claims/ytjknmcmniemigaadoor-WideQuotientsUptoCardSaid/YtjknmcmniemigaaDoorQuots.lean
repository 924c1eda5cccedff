/- The walk of WideQuotients. -/
import Derived.Test.YtjknmcmniemigaaDoorRQuo
import Derived.Test.YtjknmcmniemigaaDoorMid
import Derived.Test.YtjknmcmniemigaaDoorSan
import Derived.Test.YtjknmcmniemigaaDoorRAdd
namespace Go.Proofs.YtjknmcmniemigaaDoor
open Go.RowKit Dg

theorem zquoV_ex (x y : Int) : ∃ b s c t o, zquoV x y = .tuple #[.agg #[.bool b, .string s], .agg #[.bool c, .string t], .bool o] := by
  unfold zquoV; split
  · exact ⟨_, _, _, _, _, rfl⟩
  · exact ⟨_, _, _, _, _, by rw [wz_mo, wz_mo]⟩

set_option maxHeartbeats 4000000 in
set_option maxRecDepth 100000 in
theorem dividesW {na nb : Bool} {sa sc : ByteArray} {x y : Int} (hx : Rep 1000 na sa x) (hy : Rep 1000 nb sc y) (w : World) :
    Calls Tryd.prog 25 #[.agg #[.bool na, .string sa], .agg #[.bool nb, .string sc]] w fun e w' => e = .returned (.bool true) ∧ Tch [] w w' := by
  obtain ⟨b, s, c, t, o, ez⟩ := zquoV_ex x y
  have k1 := fun w' => ZQuo (hx.mono (L := 400000) (by omega)) (hy.mono (L := 400000) (by omega)) w'
  have k2 := fun w' => rQuo hx hy w'
  rw [ez] at k1 k2
  have K1 := Lib.hid k1
  have K2 := Lib.hid k2
  have F := Lib.hid (((Fr.nil w).add (.cells #[.bool na, .string sa] 27) w.heap.size rfl).add (.cells #[.bool nb, .string sc] 27) (w.heap.size + 1) (by simp))
  clear k1 k2 ez hx hy
  obtain ⟨a0, a1⟩ := F.out.two 0 rfl
  obtain ⟨b0, b1⟩ := F.out.two 1 rfl
  clear a0 a1 b0 b1
  go_enter Tryd.func25, Tryd.ntmps25
  go_wp2_with fail
  refine (K1.out _).mono ?_
  rintro e w1 ⟨rfl, h1⟩
  have F := Lib.hid (((F.out.keep h1).add (.cells #[.bool b, .string s] 27) w1.heap.size rfl).add (.cells #[.bool c, .string t] 27) (w1.heap.size + 1) (by simp))
  clear h1
  obtain ⟨a0, a1⟩ := F.out.two 0 rfl
  obtain ⟨b0, b1⟩ := F.out.two 1 rfl
  go_wp2_with fail
  refine (K2.out _).mono ?_
  rintro e w2 ⟨rfl, h1⟩
  have F := Lib.hid (((F.out.keep h1).add (.cells #[.bool b, .string s] 27) w2.heap.size rfl).add (.cells #[.bool c, .string t] 27) (w2.heap.size + 1) (by simp))
  clear h1 a0 a1 b0 b1
  obtain ⟨a0, a1⟩ := F.out.two 2 rfl
  obtain ⟨b0, b1⟩ := F.out.two 3 rfl
  obtain ⟨c0, c1⟩ := F.out.two 4 rfl
  obtain ⟨d0, d1⟩ := F.out.two 5 rfl
  go_wp2
  go_ret
  exact ⟨rfl, F.out.t⟩

/-- A number of at most 200 bytes lies in a box that was laid at some time. -/
def MidZ (w0 : World) (l : List (Nat × Obj)) (s : Value) (w : World) : Prop := ∃ (b : Bool) (t : ByteArray) (c : Int), Rep 200 b t c ∧ MidB w0 l (.cells #[.bool b, .string t] 27 (0, 0)) s w

theorem MidZ.of {w0 w : World} {l : List (Nat × Obj)} {s : Value} {b : Bool} {t : ByteArray} {c : Int} (h : Rep 200 b t c) (m : MidB w0 l (.cells #[.bool b, .string t] 27 (0, 0)) s w) : MidZ w0 l s w := ⟨b, t, c, h, m⟩

set_option maxHeartbeats 8000000 in
set_option maxRecDepth 100000 in
theorem quo_walk (w : World) (a1 : Bool) (A1 : Option Addr) (len1 cap1 : Nat) (z1 : Int) (ys1 : List Nat) (hy1 : ys1.length = len1) (hl1 : len1 ≤ 1048576) (hA1 : Src w A1 ys1) (a2 : Bool) (A2 : Option Addr) (len2 cap2 : Nat) (z2 : Int) (ys2 : List Nat) (hy2 : ys2.length = len2) (hl2 : len2 ≤ 1048576) (hA2 : Src w A2 ys2) (a3 : Bool) (A3 : Option Addr) (len3 cap3 : Nat) (z3 : Int) (ys3 : List Nat) (hy3 : ys3.length = len3) (hl3 : len3 ≤ 1048576) (hA3 : Src w A3 ys3) :
    Calls Tryd.prog 4 #[.agg #[.bool a1, .slice A1 len1 cap1, .int .i64 z1], .agg #[.bool a2, .slice A2 len2 cap2, .int .i64 z2], .agg #[.bool a3, .slice A3 len3 cap3, .int .i64 z3]] w fun e w' => e = .returned (.bool true) ∧ Tch [] w w' := by
  have F := Lib.hid (Fr.nil w)
  have N1 : Hid (∀ w' l, Fr w w' l → Calls Tryd.prog 13 #[.agg #[.bool a1, .slice A1 len1 cap1, .int .i64 z1]] w' fun e w2 => ∃ s, (s.size ≤ 40 ∧ e = .returned (.agg #[.bool a1, .string s])) ∧ Tch [] w' w2) := Lib.hid (fun w' l h => NumW a1 z1 A1 len1 cap1 ys1 w' hy1 hl1 (hA1.kept h.t))
  have N2 : Hid (∀ w' l, Fr w w' l → Calls Tryd.prog 13 #[.agg #[.bool a2, .slice A2 len2 cap2, .int .i64 z2]] w' fun e w2 => ∃ s, (s.size ≤ 40 ∧ e = .returned (.agg #[.bool a2, .string s])) ∧ Tch [] w' w2) := Lib.hid (fun w' l h => NumW a2 z2 A2 len2 cap2 ys2 w' hy2 hl2 (hA2.kept h.t))
  have N3 : Hid (∀ w' l, Fr w w' l → Calls Tryd.prog 13 #[.agg #[.bool a3, .slice A3 len3 cap3, .int .i64 z3]] w' fun e w2 => ∃ s, (s.size ≤ 40 ∧ e = .returned (.agg #[.bool a3, .string s])) ∧ Tch [] w' w2) := Lib.hid (fun w' l h => NumW a3 z3 A3 len3 cap3 ys3 w' hy3 hl3 (hA3.kept h.t))
  clear hy1 hl1 hA1 hy2 hl2 hA2 hy3 hl3 hA3
  go_enter Tryd.func4, Tryd.ntmps4
  go_wp2_with fail
  refine (sanity _).mono ?_
  rintro e w1 ⟨rfl, h1⟩
  have F := Lib.hid ((((F.out.add (.cells #[.bool a1, .slice A1 len1 cap1, .int .i64 z1] 24) w.heap.size rfl).add (.cells #[.bool a2, .slice A2 len2 cap2, .int .i64 z2] 24) (w.heap.size + 1) (by simp)).add (.cells #[.bool a3, .slice A3 len3 cap3, .int .i64 z3] 24) (w.heap.size + 1 + 1) (by simp)).keep h1)
  clear h1
  have c0 := F.out.cell 0 0 rfl rfl
  have c1 := F.out.cell 0 1 rfl rfl
  have c2 := F.out.cell 0 2 rfl rfl
  go_wp2_with fail
  refine (N1.out _ _ F.out).mono ?_
  rintro e w2 ⟨s1, ⟨hs1, rfl⟩, h1⟩
  have F := Lib.hid ((F.out.keep h1).add (.cells #[.bool a1, .string s1] 27) w2.heap.size rfl)
  clear h1 c0 c1 c2
  have c0 := F.out.cell 1 0 rfl rfl
  have c1 := F.out.cell 1 1 rfl rfl
  have c2 := F.out.cell 1 2 rfl rfl
  go_wp2_with fail
  refine (N2.out _ _ F.out).mono ?_
  rintro e w3 ⟨s2, ⟨hs2, rfl⟩, h1⟩
  have F := Lib.hid ((F.out.keep h1).add (.cells #[.bool a2, .string s2] 27) w3.heap.size rfl)
  clear h1 c0 c1 c2
  clear N1 N2
  obtain ⟨x, hx⟩ : ∃ x, zval a1 (bv (sb s1)) = x := ⟨_, rfl⟩
  obtain ⟨y, hy⟩ : ∃ y, zval a2 (bv (sb s2)) = y := ⟨_, rfl⟩
  have ra : Rep 1000 a1 s1 x := ⟨hx, by omega⟩
  have rb : Rep 1000 a2 s2 y := ⟨hy, by omega⟩
  have lx : x.natAbs < 256 ^ 40 := Rep.lt ⟨hx, hs1⟩
  have ly : y.natAbs < 256 ^ 40 := Rep.lt ⟨hy, hs2⟩
  obtain ⟨bm, tm, em⟩ : ∃ b s, wz (x * y) = .agg #[.bool b, .string s] := ⟨_, _, wz_mo _⟩
  have rm := Rep.of_wz em (mul_lt lx ly)
  have k1 := fun w' => rMul ra rb w'
  rw [em] at k1
  have AddC : ∀ (s3 : ByteArray), s3.size ≤ 40 → ∃ (b : Bool) (t : ByteArray) (c : Int), Rep 200 b t c ∧ ∀ w', Calls Tryd.prog 15 #[.agg #[.bool bm, .string tm], .agg #[.bool a3, .string s3]] w' fun e w2 => e = .returned (.agg #[.bool b, .string t]) ∧ Tch [] w' w2 := by
    intro s3 hs3
    obtain ⟨z, hz⟩ : ∃ z, zval a3 (bv (sb s3)) = z := ⟨_, rfl⟩
    have rz : Rep 1000 a3 s3 z := ⟨hz, by omega⟩
    have lz : z.natAbs < 256 ^ (40 + 40) := Nat.lt_of_lt_of_le (Rep.lt ⟨hz, hs3⟩) (Nat.pow_le_pow_right (by omega) (by omega))
    obtain ⟨b, t, e⟩ : ∃ b s, wz (x * y + z) = .agg #[.bool b, .string s] := ⟨_, _, wz_mo _⟩
    have k := fun w' => rAdd (rm.mono (by omega)) rz w'
    rw [e] at k
    exact ⟨b, t, _, (Rep.of_wz e (add_lt (mul_lt lx ly) lz)).mono (by omega), k⟩
  have K1 := Lib.hid k1
  have KA := Lib.hid AddC
  have RA := Lib.hid ra
  have RBB := Lib.hid rb
  obtain ⟨l, G, SA0⟩ : ∃ l, Fr w (w3.alloc (.cells #[.bool a2, .string s2] 27)) l ∧ (∀ w', Fr w w' l → w'.cell? ⟨w.heap.size + 1 + 1, 0, none⟩ = some (.bool a3) ∧ w'.cell? ⟨w.heap.size + 1 + 1, 1, none⟩ = some (.slice A3 len3 cap3) ∧ w'.cell? ⟨w.heap.size + 1 + 1, 2, none⟩ = some (.int .i64 z3) ∧ w'.cell? ⟨w2.heap.size, 0, none⟩ = some (.bool a1) ∧ w'.cell? ⟨w2.heap.size, 1, none⟩ = some (.string s1) ∧ w'.cell? ⟨w3.heap.size, 0, none⟩ = some (.bool a2) ∧ w'.cell? ⟨w3.heap.size, 1, none⟩ = some (.string s2)) :=
    ⟨_, F.out, fun w' F => ⟨F.cell 2 0 rfl rfl, F.cell 2 1 rfl rfl, F.cell 2 2 rfl rfl, F.cell 3 0 rfl rfl, F.cell 3 1 rfl rfl, F.cell 4 0 rfl rfl, F.cell 4 1 rfl rfl⟩⟩
  have F := Lib.hid G
  have SA := Lib.hid SA0
  clear G SA0 k1 AddC ra rb lx ly em rm hx hy hs1 hs2
  go_upto_region 4 with (fail)
  generalize w3.alloc (.cells #[.bool a2, .string s2] 27) = W at F ⊢
  go_cut [10] (fun s10 wx => MidZ w l s10 wx)
  case first =>
    go_region_held3 (fun w' => w'.cell? ⟨w.heap.size + 1 + 1, 0, none⟩ = some (.bool a3) ∧ w'.cell? ⟨w.heap.size + 1 + 1, 1, none⟩ = some (.slice A3 len3 cap3) ∧ w'.cell? ⟨w.heap.size + 1 + 1, 2, none⟩ = some (.int .i64 z3) ∧ w'.cell? ⟨w2.heap.size, 0, none⟩ = some (.bool a1) ∧ w'.cell? ⟨w2.heap.size, 1, none⟩ = some (.string s1) ∧ w'.cell? ⟨w3.heap.size, 0, none⟩ = some (.bool a2) ∧ w'.cell? ⟨w3.heap.size, 1, none⟩ = some (.string s2)) (first | with_reducible exact SA.out _ F3.out | with_reducible exact SA.out _ (F3.out.beside _) | with_reducible exact SA.out _ (F3.out.box2 _ _ _) | with_reducible exact SA.out _ (B3.out.set2 _ _) | with_reducible exact SA.out _ F.out | with_reducible exact SA.out _ F.out.drew | with_reducible exact SA.out _ (F.out.drew.beside _) | with_reducible exact SA.out _ (F.out.beside _).drew) (first
      | (go_at_call 24; (with_reducible refine (K1.out _).mono ?_); rintro e w5 ⟨rfl, hT⟩; (first | (with_reducible have B3 := Lib.hid (F.out.boxedAt _ W.heap.size rfl (Tch.undrew hT)); obtain ⟨⟨z0, z1'⟩, ⟨f0, f1⟩⟩ := B3.out.two; have F3 := Lib.hid B3.out.f) | (with_reducible have F3 := Lib.hid (F.out.keep (Tch.undrew hT)))); clear hT)
      | (go_at_call 13; (first | (with_reducible refine (N3.out _ _ F3.out).mono ?_) | (with_reducible refine (N3.out _ _ (F3.out.beside _)).mono ?_)); rintro e w6 ⟨s3, ⟨hs3, rfl⟩, hT⟩; (first | (with_reducible have B3 := Lib.hid (B3.out.keep hT); clear z0 z1' f0 f1; obtain ⟨⟨z0, z1'⟩, ⟨f0, f1⟩⟩ := B3.out.two; have F3 := Lib.hid B3.out.f) | (with_reducible have F3 := Lib.hid (F3.out.keep hT)) | (with_reducible have B3 := Lib.hid (F3.out.boxed _ hT); obtain ⟨⟨z0, z1'⟩, ⟨f0, f1⟩⟩ := B3.out.two; have F3 := Lib.hid B3.out.f)); obtain ⟨bc, tc, c, hrc, hca⟩ := KA.out s3 hs3; have CA := Lib.hid hca; have HRC := Lib.hid hrc; clear hT hs3 hca hrc)
      | (go_at_call 15; (with_reducible refine (CA.out _).mono ?_); rintro e w7 ⟨rfl, hT⟩; (first | (with_reducible have B3 := Lib.hid (B3.out.keep hT); clear z0 z1' f0 f1; obtain ⟨⟨z0, z1'⟩, ⟨f0, f1⟩⟩ := B3.out.two; have F3 := Lib.hid B3.out.f) | (with_reducible have F3 := Lib.hid (F3.out.keep hT)) | (with_reducible have B3 := Lib.hid (F3.out.boxed _ hT); obtain ⟨⟨z0, z1'⟩, ⟨f0, f1⟩⟩ := B3.out.two; have F3 := Lib.hid B3.out.f)); clear hT))
    all_goals (go_wp2_with fail; go_meet; (first | with_reducible exact MidZ.of HRC.out (F3.out.mid _) | with_reducible exact MidZ.of HRC.out (B3.out.mid2 _ _)))
  case rest =>
    obtain ⟨bc, tc, c, hrc, g, rfl, FM, hr, hn⟩ := hcut
    have D1 := Lib.hid (fun w' => dividesW RA.out RBB.out w')
    have D2 := Lib.hid (fun w' => dividesW (hrc.mono (by omega)) RBB.out w')
    have D3 := Lib.hid (fun w' => dividesW (hrc.mono (by omega)) RA.out w')
    obtain ⟨l2, G, SA0⟩ : ∃ l2, Fr w wc l2 ∧ (∀ w', Fr w w' l2 → (w'.cell? ⟨w2.heap.size, 0, none⟩ = some (.bool a1) ∧ w'.cell? ⟨w2.heap.size, 1, none⟩ = some (.string s1)) ∧ (w'.cell? ⟨w3.heap.size, 0, none⟩ = some (.bool a2) ∧ w'.cell? ⟨w3.heap.size, 1, none⟩ = some (.string s2)) ∧ (w'.cell? ⟨g, 0, none⟩ = some (.bool bc) ∧ w'.cell? ⟨g, 1, none⟩ = some (.string tc))) :=
      ⟨_, FM.take hr hn, fun w' F => by
        obtain ⟨v0, v1, v2, v3, v4, v5, v6⟩ := SA.out w' F.front
        exact ⟨⟨v3, v4⟩, ⟨v5, v6⟩, ⟨F.last 0 rfl, F.last 1 rfl⟩⟩⟩
    clear SA F FM hr hn hrc RA RBB
    have F := Lib.hid G
    have SA := Lib.hid SA0
    clear G SA0
    obtain ⟨⟨x0, x1⟩, ⟨y0, y1⟩, _⟩ := SA.out _ F.out
    go_wp2_with fail
    refine (D1.out _).mono ?_
    rintro e w8 ⟨rfl, h1⟩
    have F := Lib.hid (F.out.keep h1)
    clear h1 x0 x1 y0 y1
    obtain ⟨_, ⟨y0, y1⟩, ⟨x0, x1⟩⟩ := SA.out _ F.out
    go_wp2_with fail
    refine (D2.out _).mono ?_
    rintro e w9 ⟨rfl, h1⟩
    have F := Lib.hid (F.out.keep h1)
    clear h1 x0 x1 y0 y1
    obtain ⟨⟨y0, y1⟩, _, ⟨x0, x1⟩⟩ := SA.out _ F.out
    go_wp2_with fail
    refine (D3.out _).mono ?_
    rintro e w10 ⟨rfl, h1⟩
    have F := Lib.hid (F.out.keep h1)
    clear h1 x0 x1 y0 y1
    go_wp2
    go_ret
    exact ⟨rfl, F.out.t⟩

end Go.Proofs.YtjknmcmniemigaaDoor
