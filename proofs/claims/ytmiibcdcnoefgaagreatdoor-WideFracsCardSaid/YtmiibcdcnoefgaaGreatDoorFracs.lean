/- The walk of WideFracs. -/
import Derived.Test.YtmiibcdcnoefgaaGreatDoorRFrac
import Derived.Test.YtmiibcdcnoefgaaGreatDoorQ
import Derived.Test.YtmiibcdcnoefgaaGreatDoorFraW
import Derived.Test.YtmiibcdcnoefgaaGreatDoorSan
namespace Go.Proofs.YtmiibcdcnoefgaaGreatDoor
open Go.RowKit Dg

theorem fracV_ex (x y : Int) : ∃ b s c t o, fracV x y = .tuple #[.agg #[.bool b, .string s, .bool c, .string t], .bool o] := by
  unfold fracV
  split
  · exact ⟨_, _, _, _, _, rfl⟩
  · exact ⟨_, _, _, _, _, rfl⟩

set_option maxHeartbeats 8000000 in
set_option maxRecDepth 100000 in
theorem fracs_walk (w : World) (a1 : Bool) (A1 : Option Addr) (len1 cap1 : Nat) (z1 : Int) (xs1 : List Nat) (hx1 : xs1.length = len1) (hc1 : len1 ≤ cap1) (hm1 : cap1 ≤ 9223372036854775807) (hA1 : Src w A1 xs1) (d1 : Bool) (B1 : Option Addr) (lem1 cbp1 : Nat) (y1 : Int) (ys1 : List Nat) (hy1 : ys1.length = lem1) (hd1 : lem1 ≤ cbp1) (hn1 : cbp1 ≤ 9223372036854775807) (hB1 : Src w B1 ys1) (a2 : Bool) (A2 : Option Addr) (len2 cap2 : Nat) (z2 : Int) (xs2 : List Nat) (hx2 : xs2.length = len2) (hc2 : len2 ≤ cap2) (hm2 : cap2 ≤ 9223372036854775807) (hA2 : Src w A2 xs2) (d2 : Bool) (B2 : Option Addr) (lem2 cbp2 : Nat) (y2 : Int) (ys2 : List Nat) (hy2 : ys2.length = lem2) (hd2 : lem2 ≤ cbp2) (hn2 : cbp2 ≤ 9223372036854775807) (hB2 : Src w B2 ys2) :
    Calls Tryz.prog 3 #[.agg #[.bool a1, .slice A1 len1 cap1, .int .i64 z1, .bool a2, .slice A2 len2 cap2, .int .i64 z2], .agg #[.bool d1, .slice B1 lem1 cbp1, .int .i64 y1, .bool d2, .slice B2 lem2 cbp2, .int .i64 y2]] w fun e w' => e = .returned (.bool true) ∧ Tch [] w w' := by
  have F := Lib.hid (Fr.nil w)
  have N1 := Lib.hid (fun w' l (h : Fr w w' l) => FraW a1 z1 A1 len1 cap1 xs1 d1 y1 B1 lem1 cbp1 ys1 w' hx1 hc1 hm1 (hA1.kept h.t) hy1 hd1 hn1 (hB1.kept h.t))
  have N2 := Lib.hid (fun w' l (h : Fr w w' l) => FraW a2 z2 A2 len2 cap2 xs2 d2 y2 B2 lem2 cbp2 ys2 w' hx2 hc2 hm2 (hA2.kept h.t) hy2 hd2 hn2 (hB2.kept h.t))
  clear hx1 hc1 hm1 hA1 hy1 hd1 hn1 hB1 hx2 hc2 hm2 hA2 hy2 hd2 hn2 hB2
  go_enter Tryz.func3, Tryz.ntmps3
  go_wp2_with fail
  refine (sanity _).mono ?_
  rintro e w1 ⟨rfl, h1⟩
  have F := Lib.hid (((F.out.add (.cells #[.bool a1, .slice A1 len1 cap1, .int .i64 z1, .bool a2, .slice A2 len2 cap2, .int .i64 z2] 25) w.heap.size rfl).add (.cells #[.bool d1, .slice B1 lem1 cbp1, .int .i64 y1, .bool d2, .slice B2 lem2 cbp2, .int .i64 y2] 25) (w.heap.size + 1) (by simp)).keep h1)
  clear h1
  have c0 := F.out.cell 0 0 rfl rfl
  have e0 := F.out.cell 1 0 rfl rfl
  have c1 := F.out.cell 0 1 rfl rfl
  have e1 := F.out.cell 1 1 rfl rfl
  have c2 := F.out.cell 0 2 rfl rfl
  have e2 := F.out.cell 1 2 rfl rfl
  go_wp2_with fail
  refine (N1.out _ _ F.out).mono ?_
  rintro e w2 ⟨s1, t1, ⟨hs1, ht1, rfl⟩, h1⟩
  have F := Lib.hid ((F.out.keep h1).add (.cells #[.bool a1, .string s1, .bool d1, .string t1] 30) w2.heap.size rfl)
  clear h1 c0 c1 c2 e0 e1 e2
  have c0 := F.out.cell 0 3 rfl rfl
  have e0 := F.out.cell 1 3 rfl rfl
  have c1 := F.out.cell 0 4 rfl rfl
  have e1 := F.out.cell 1 4 rfl rfl
  have c2 := F.out.cell 0 5 rfl rfl
  have e2 := F.out.cell 1 5 rfl rfl
  go_wp2_with fail
  refine (N2.out _ _ F.out).mono ?_
  rintro e w3 ⟨s2, t2, ⟨hs2, ht2, rfl⟩, h1⟩
  have F := Lib.hid ((F.out.keep h1).add (.cells #[.bool a2, .string s2, .bool d2, .string t2] 30) w3.heap.size rfl)
  clear h1 c0 c1 c2 e0 e1 e2
  clear N1 N2
  obtain ⟨l, G, SA0⟩ : ∃ l, Fr w (w3.alloc (.cells #[.bool a2, .string s2, .bool d2, .string t2] 30)) l ∧ (∀ w', Fr w w' l → w'.cell? ⟨w2.heap.size, 0, none⟩ = some (.bool a1) ∧ w'.cell? ⟨w2.heap.size, 1, none⟩ = some (.string s1) ∧ w'.cell? ⟨w2.heap.size, 2, none⟩ = some (.bool d1) ∧ w'.cell? ⟨w2.heap.size, 3, none⟩ = some (.string t1) ∧ w'.cell? ⟨w3.heap.size, 0, none⟩ = some (.bool a2) ∧ w'.cell? ⟨w3.heap.size, 1, none⟩ = some (.string s2) ∧ w'.cell? ⟨w3.heap.size, 2, none⟩ = some (.bool d2) ∧ w'.cell? ⟨w3.heap.size, 3, none⟩ = some (.string t2)) :=
    ⟨_, F.out, fun w' F => ⟨F.cell 2 0 rfl rfl, F.cell 2 1 rfl rfl, F.cell 2 2 rfl rfl, F.cell 2 3 rfl rfl, F.cell 3 0 rfl rfl, F.cell 3 1 rfl rfl, F.cell 3 2 rfl rfl, F.cell 3 3 rfl rfl⟩⟩
  have F := Lib.hid G
  have SA := Lib.hid SA0
  obtain ⟨n, ra⟩ : ∃ n, Rep 40 a1 s1 n := ⟨_, rfl, hs1⟩
  obtain ⟨d, rb⟩ : ∃ d, Rep 40 d1 t1 d := ⟨_, rfl, ht1⟩
  obtain ⟨m, rc⟩ : ∃ m, Rep 40 a2 s2 m := ⟨_, rfl, hs2⟩
  obtain ⟨k, rd⟩ : ∃ k, Rep 40 d2 t2 k := ⟨_, rfl, ht2⟩
  obtain ⟨bx, sx, by', ty, ox, ex⟩ := fracV_ex n d
  have k1 := fun w' => Frac (ra.mono (L := 400000) (by omega)) (rb.mono (L := 400000) (by omega)) w'
  have k2 := fun w' => rFrac (by decide) ra rb w'
  rw [ex] at k1 k2
  obtain ⟨sg, hsg⟩ : ∃ sg, (tmn n d * tmd m k - tmn m k * tmd n d).sign = sg := ⟨_, rfl⟩
  have k3 := fun w' => CmpFrac (by decide) (by decide) ra rb rc rd w'
  have k4 := fun w' => rCmpFrac (by decide) (by decide) ra rb rc rd w'
  rw [hsg] at k3 k4
  obtain ⟨bp, sp, bq, sq, ep⟩ := frv_agg ((tmn n d * tmd m k + tmn m k * tmd n d).tdiv (fgc (tmn n d * tmd m k + tmn m k * tmd n d) (tmd n d * tmd m k))) ((tmd n d * tmd m k).tdiv (fgc (tmn n d * tmd m k + tmn m k * tmd n d) (tmd n d * tmd m k)))
  have k5 := fun w' => AddFrac (by decide) (by decide) ra rb rc rd w'
  have k6 := fun w' => rAddFrac (by decide) (by decide) ra rb rc rd w'
  rw [show frq (tmn n d * tmd m k + tmn m k * tmd n d) (tmd n d * tmd m k) = _ from ep] at k5 k6
  obtain ⟨bu, su, bv', sv, eu⟩ := frv_agg ((tmn n d * tmn m k).tdiv (fgc (tmn n d * tmn m k) (tmd n d * tmd m k))) ((tmd n d * tmd m k).tdiv (fgc (tmn n d * tmn m k) (tmd n d * tmd m k)))
  have k7 := fun w' => MulFrac (by decide) (by decide) ra rb rc rd w'
  have k8 := fun w' => rMulFrac (by decide) (by decide) ra rb rc rd w'
  rw [show frq (tmn n d * tmn m k) (tmd n d * tmd m k) = _ from eu] at k7 k8
  have C1 := Lib.hid k1
  have C2 := Lib.hid k2
  have C3 := Lib.hid k3
  have C4 := Lib.hid k4
  have C5 := Lib.hid k5
  have C6 := Lib.hid k6
  have C7 := Lib.hid k7
  have C8 := Lib.hid k8
  clear k1 k2 k3 k4 k5 k6 k7 k8 G SA0 hs1 hs2 ht1 ht2 ra rb rc rd ex hsg ep eu
  obtain ⟨v0, v1, v2, v3, _, _, _, _⟩ := SA.out _ F.out
  go_wp2_with fail
  refine (C1.out _).mono ?_
  rintro e w4 ⟨rfl, h1⟩
  have F := Lib.hid ((F.out.keep h1).add (.cells #[.bool bx, .string sx, .bool by', .string ty] 30) w4.heap.size rfl)
  clear h1 v0 v1 v2 v3
  obtain ⟨v0, v1, v2, v3, _, _, _, _⟩ := SA.out _ F.out.front
  go_wp2_with fail
  refine (C2.out _).mono ?_
  rintro e w5 ⟨rfl, h1⟩
  have F := Lib.hid ((F.out.keep h1).add (.cells #[.bool bx, .string sx, .bool by', .string ty] 30) w5.heap.size rfl)
  clear h1 v0 v1 v2 v3
  obtain ⟨l2, G, SB0⟩ : ∃ l2, Fr w (w5.alloc (.cells #[.bool bx, .string sx, .bool by', .string ty] 30)) l2 ∧ (∀ w', Fr w w' l2 → w'.cell? ⟨w2.heap.size, 0, none⟩ = some (.bool a1) ∧ w'.cell? ⟨w2.heap.size, 1, none⟩ = some (.string s1) ∧ w'.cell? ⟨w2.heap.size, 2, none⟩ = some (.bool d1) ∧ w'.cell? ⟨w2.heap.size, 3, none⟩ = some (.string t1) ∧ w'.cell? ⟨w3.heap.size, 0, none⟩ = some (.bool a2) ∧ w'.cell? ⟨w3.heap.size, 1, none⟩ = some (.string s2) ∧ w'.cell? ⟨w3.heap.size, 2, none⟩ = some (.bool d2) ∧ w'.cell? ⟨w3.heap.size, 3, none⟩ = some (.string t2) ∧ w'.cell? ⟨w4.heap.size, 0, none⟩ = some (.bool bx) ∧ w'.cell? ⟨w4.heap.size, 1, none⟩ = some (.string sx) ∧ w'.cell? ⟨w4.heap.size, 2, none⟩ = some (.bool by') ∧ w'.cell? ⟨w4.heap.size, 3, none⟩ = some (.string ty) ∧ w'.cell? ⟨w5.heap.size, 0, none⟩ = some (.bool bx) ∧ w'.cell? ⟨w5.heap.size, 1, none⟩ = some (.string sx) ∧ w'.cell? ⟨w5.heap.size, 2, none⟩ = some (.bool by') ∧ w'.cell? ⟨w5.heap.size, 3, none⟩ = some (.string ty)) :=
    ⟨_, F.out, fun w' F => by
      obtain ⟨v0, v1, v2, v3, v4, v5, v6, v7⟩ := SA.out w' F.front.front
      exact ⟨v0, v1, v2, v3, v4, v5, v6, v7, F.front.last 0 rfl, F.front.last 1 rfl, F.front.last 2 rfl, F.front.last 3 rfl, F.last 0 rfl, F.last 1 rfl, F.last 2 rfl, F.last 3 rfl⟩⟩
  clear SA F
  have F := Lib.hid G
  have SA := Lib.hid SB0
  clear G SB0
  go_wp2_with fail
  go_region_held3 (fun w' => w'.cell? ⟨w2.heap.size, 0, none⟩ = some (.bool a1) ∧ w'.cell? ⟨w2.heap.size, 1, none⟩ = some (.string s1) ∧ w'.cell? ⟨w2.heap.size, 2, none⟩ = some (.bool d1) ∧ w'.cell? ⟨w2.heap.size, 3, none⟩ = some (.string t1) ∧ w'.cell? ⟨w3.heap.size, 0, none⟩ = some (.bool a2) ∧ w'.cell? ⟨w3.heap.size, 1, none⟩ = some (.string s2) ∧ w'.cell? ⟨w3.heap.size, 2, none⟩ = some (.bool d2) ∧ w'.cell? ⟨w3.heap.size, 3, none⟩ = some (.string t2) ∧ w'.cell? ⟨w4.heap.size, 0, none⟩ = some (.bool bx) ∧ w'.cell? ⟨w4.heap.size, 1, none⟩ = some (.string sx) ∧ w'.cell? ⟨w4.heap.size, 2, none⟩ = some (.bool by') ∧ w'.cell? ⟨w4.heap.size, 3, none⟩ = some (.string ty) ∧ w'.cell? ⟨w5.heap.size, 0, none⟩ = some (.bool bx) ∧ w'.cell? ⟨w5.heap.size, 1, none⟩ = some (.string sx) ∧ w'.cell? ⟨w5.heap.size, 2, none⟩ = some (.bool by') ∧ w'.cell? ⟨w5.heap.size, 3, none⟩ = some (.string ty)) (first | with_reducible exact SA.out _ F.out | with_reducible exact SA.out _ F.out.drew) (first | (go_at_call 8; (first | (with_reducible refine (C3.out _).mono ?_)); rintro e w' ⟨rfl, h1⟩; (first | (with_reducible have F := Lib.hid (F.out.keep h1)) | (with_reducible have F := Lib.hid (F.out.drew.keep h1))); clear h1) | (go_at_call 9; (first | (with_reducible refine (C4.out _).mono ?_)); rintro e w' ⟨rfl, h1⟩; (first | (with_reducible have F := Lib.hid (F.out.keep h1)) | (with_reducible have F := Lib.hid (F.out.drew.keep h1))); clear h1) | (go_at_call 10; (first | (with_reducible refine (C5.out _).mono ?_)); rintro e w' ⟨rfl, h1⟩; (first | (with_reducible have F := Lib.hid (F.out.keep h1)) | (with_reducible have F := Lib.hid (F.out.drew.keep h1))); clear h1) | (go_at_call 11; (first | (with_reducible refine (C6.out _).mono ?_)); rintro e w' ⟨rfl, h1⟩; (first | (with_reducible have F := Lib.hid (F.out.keep h1)) | (with_reducible have F := Lib.hid (F.out.drew.keep h1))); clear h1) | (go_at_call 12; (first | (with_reducible refine (C7.out _).mono ?_)); rintro e w' ⟨rfl, h1⟩; (first | (with_reducible have F := Lib.hid (F.out.keep h1)) | (with_reducible have F := Lib.hid (F.out.drew.keep h1))); clear h1) | (go_at_call 13; (first | (with_reducible refine (C8.out _).mono ?_)); rintro e w' ⟨rfl, h1⟩; (first | (with_reducible have F := Lib.hid (F.out.keep h1)) | (with_reducible have F := Lib.hid (F.out.drew.keep h1))); clear h1))
  go_wp2
  go_ret
  exact ⟨rfl, F.out.t⟩

end Go.Proofs.YtmiibcdcnoefgaaGreatDoor
