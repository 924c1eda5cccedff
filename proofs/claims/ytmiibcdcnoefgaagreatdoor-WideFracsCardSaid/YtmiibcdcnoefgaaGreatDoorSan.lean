/- lithophanelaw01.sanity. -/
import Derived.Test.YtmiibcdcnoefgaaGreatDoorAddF
namespace Go.Proofs.YtmiibcdcnoefgaaGreatDoor
open Go.RowKit Dg

theorem frv_of {n d : Int} {b c : Bool} {s t : ByteArray} (h1 : wz n = .agg #[.bool b, .string s]) (h2 : wz d = .agg #[.bool c, .string t]) : frv n d = .agg #[.bool b, .string s, .bool c, .string t] := by
  obtain ⟨rfl, rfl⟩ := wz_parts h1
  obtain ⟨rfl, rfl⟩ := wz_parts h2
  rfl

theorem FracL {na nb : Bool} {sa sc : ByteArray} {x y : Int} (hx : Rep 400000 na sa x) (hy : Rep 400000 nb sc y) (h0 : y ≠ 0) {n d : Int} (hn : x.tdiv (fgc x y) = n) (hd : y.tdiv (fgc x y) = d) {b c : Bool} {s t : ByteArray}
    (h1 : wz n = .agg #[.bool b, .string s]) (h2 : wz d = .agg #[.bool c, .string t]) (w : World) :
    Calls Tryz.prog 6 #[.agg #[.bool na, .string sa], .agg #[.bool nb, .string sc]] w fun e w' => e = .returned (.tuple #[.agg #[.bool b, .string s, .bool c, .string t], .bool true]) ∧ Tch [] w w' := by
  have h := Frac hx hy w
  unfold fracV at h
  rwa [if_neg h0, hn, hd, frv_of h1 h2] at h

theorem sf1 (w : World) : Calls Tryz.prog 6 #[.agg #[.bool false, .string ⟨#[4]⟩], .agg #[.bool true, .string ⟨#[6]⟩]] w fun e w' => e = .returned (.tuple #[.agg #[.bool true, .string ⟨#[2]⟩, .bool false, .string ⟨#[3]⟩], .bool true]) ∧ Tch [] w w' := FracL r4 rm6 (by decide) (n := -2) (d := 3) (by decide) (by decide) zm2 z3 w
theorem sf2 (w : World) : Calls Tryz.prog 6 #[.agg #[.bool false, .string ⟨#[1]⟩], .agg #[.bool false, .string ⟨#[2]⟩]] w fun e w' => e = .returned (.tuple #[.agg #[.bool false, .string ⟨#[1]⟩, .bool false, .string ⟨#[2]⟩], .bool true]) ∧ Tch [] w w' := FracL r1 r2 (by decide) (n := 1) (d := 2) (by decide) (by decide) z1 z2 w
theorem sf3 (w : World) : Calls Tryz.prog 6 #[.agg #[.bool false, .string ⟨#[1]⟩], .agg #[.bool false, .string ⟨#[3]⟩]] w fun e w' => e = .returned (.tuple #[.agg #[.bool false, .string ⟨#[1]⟩, .bool false, .string ⟨#[3]⟩], .bool true]) ∧ Tch [] w w' := FracL r1 r3 (by decide) (n := 1) (d := 3) (by decide) (by decide) z1 z3 w
theorem sadd (w : World) : Calls Tryz.prog 10 #[.agg #[.bool false, .string ⟨#[1]⟩, .bool false, .string ⟨#[2]⟩], .agg #[.bool false, .string ⟨#[1]⟩, .bool false, .string ⟨#[3]⟩]] w fun e w' => e = .returned (.agg #[.bool false, .string ⟨#[5]⟩, .bool false, .string ⟨#[6]⟩]) ∧ Tch [] w w' := by
  have h := AddFrac (K := 1000) (by decide) (by decide) (n := 1) (d := 2) (m := 1) (e' := 3) (an := false) (ad := false) (bn := false) (bd := false) (sn := ⟨#[1]⟩) (sd := ⟨#[2]⟩) (tn := ⟨#[1]⟩) (td := ⟨#[3]⟩) ⟨by decide, by decide⟩ ⟨by decide, by decide⟩ ⟨by decide, by decide⟩ ⟨by decide, by decide⟩ w
  have e : frq (tmn 1 2 * tmd 1 3 + tmn 1 3 * tmd 1 2) (tmd 1 2 * tmd 1 3) = .agg #[.bool false, .string ⟨#[5]⟩, .bool false, .string ⟨#[6]⟩] := by
    show frq 5 6 = _
    unfold frq
    rw [show Int.tdiv 5 (fgc 5 6) = 5 by decide, show Int.tdiv 6 (fgc 5 6) = 6 by decide]
    exact frv_of z5 z6
  rwa [e] at h

theorem frm3 (w : World) : Calls Tryz.prog 15 #[.int .i64 (-3)] w fun e w' => e = .returned (.agg #[.bool true, .string ⟨#[3]⟩]) ∧ Tch [] w w' := FromL (-3) _ _ (by decide) zm3 w
theorem frm1 (w : World) : Calls Tryz.prog 15 #[.int .i64 (-1)] w fun e w' => e = .returned (.agg #[.bool true, .string ⟨#[1]⟩]) ∧ Tch [] w w' := FromL (-1) _ _ (by decide) zm1 w
theorem fr1 (w : World) : Calls Tryz.prog 15 #[.int .i64 (1)] w fun e w' => e = .returned (.agg #[.bool false, .string ⟨#[1]⟩]) ∧ Tch [] w w' := FromL (1) _ _ (by decide) z1 w
theorem fr9 (w : World) : Calls Tryz.prog 15 #[.int .i64 (9)] w fun e w' => e = .returned (.agg #[.bool false, .string ⟨#[9]⟩]) ∧ Tch [] w w' := FromL (9) _ _ (by decide) z9 w
theorem frm12 (w : World) : Calls Tryz.prog 15 #[.int .i64 (-12)] w fun e w' => e = .returned (.agg #[.bool true, .string ⟨#[12]⟩]) ∧ Tch [] w w' := FromL (-12) _ _ (by decide) zm12 w
theorem fr18 (w : World) : Calls Tryz.prog 15 #[.int .i64 (18)] w fun e w' => e = .returned (.agg #[.bool false, .string ⟨#[18]⟩]) ∧ Tch [] w w' := FromL (18) _ _ (by decide) z18 w
theorem fr6 (w : World) : Calls Tryz.prog 15 #[.int .i64 (6)] w fun e w' => e = .returned (.agg #[.bool false, .string ⟨#[6]⟩]) ∧ Tch [] w w' := FromL (6) _ _ (by decide) z6 w
theorem frm7 (w : World) : Calls Tryz.prog 15 #[.int .i64 (-7)] w fun e w' => e = .returned (.agg #[.bool true, .string ⟨#[7]⟩]) ∧ Tch [] w w' := FromL (-7) _ _ (by decide) zm7 w
theorem frm2 (w : World) : Calls Tryz.prog 15 #[.int .i64 (-2)] w fun e w' => e = .returned (.agg #[.bool true, .string ⟨#[2]⟩]) ∧ Tch [] w w' := FromL (-2) _ _ (by decide) zm2 w
theorem fr3 (w : World) : Calls Tryz.prog 15 #[.int .i64 (3)] w fun e w' => e = .returned (.agg #[.bool false, .string ⟨#[3]⟩]) ∧ Tch [] w w' := FromL (3) _ _ (by decide) z3 w
theorem fr5 (w : World) : Calls Tryz.prog 15 #[.int .i64 (5)] w fun e w' => e = .returned (.agg #[.bool false, .string ⟨#[5]⟩]) ∧ Tch [] w w' := FromL (5) _ _ (by decide) z5 w
set_option maxHeartbeats 4000000 in
set_option maxRecDepth 100000 in
/-- The examples of the chapter hold. -/
theorem sanity (w : World) :
    Calls Tryz.prog 4 #[] w fun e w' => e = .returned (.bool true) ∧ Tch [] w w' := by
  have F := Lib.hid (Fr.nil w)
  go_enter Tryz.func4, Tryz.ntmps4
  go_wp2_with fail
  refine (FromL (1099511627776) _ _ (by decide) z40 _).mono ?_
  rintro e w1 ⟨rfl, h1⟩
  have F := Lib.hid (F.out.keep h1)
  clear h1
  go_wp2_with fail
  refine (FromL (1099511627776) _ _ (by decide) z40 _).mono ?_
  rintro e w2 ⟨rfl, h1⟩
  have F := Lib.hid (F.out.keep h1)
  clear h1
  go_wp2_with fail
  refine (s80 _).mono ?_
  rintro e w3 ⟨rfl, h1⟩
  have F := Lib.hid (F.out.keep h1)
  clear h1
  have F := Lib.hid (F.out.add (.cells #[.bool false, .string ⟨#[1, 0, 0, 0, 0, 0, 0, 0, 0, 0, 0]⟩] 28) (w3.heap.size) rfl)
  go_wp2_with fail
  refine (FromL (-7) _ _ (by decide) zm7 _).mono ?_
  rintro e w4 ⟨rfl, h1⟩
  have F := Lib.hid (F.out.keep h1)
  clear h1
  go_wp2_with fail
  refine (FromL (2) _ _ (by decide) z2 _).mono ?_
  rintro e w5 ⟨rfl, h1⟩
  have F := Lib.hid (F.out.keep h1)
  clear h1
  go_wp2_with fail
  refine (sq1 _).mono ?_
  rintro e w6 ⟨rfl, h1⟩
  have F := Lib.hid (F.out.keep h1)
  clear h1
  have F := Lib.hid ((F.out.add (.cells #[.bool true, .string ⟨#[3]⟩] 28) (w6.heap.size) rfl).add (.cells #[.bool true, .string ⟨#[1]⟩] 28) (w6.heap.size + 1) (by simp))
  go_wp2_with fail
  refine (FromL (7) _ _ (by decide) z7 _).mono ?_
  rintro e w7 ⟨rfl, h1⟩
  have F := Lib.hid (F.out.keep h1)
  clear h1
  go_wp2_with fail
  refine (FromL (-2) _ _ (by decide) zm2 _).mono ?_
  rintro e w8 ⟨rfl, h1⟩
  have F := Lib.hid (F.out.keep h1)
  clear h1
  go_wp2_with fail
  refine (sq2 _).mono ?_
  rintro e w9 ⟨rfl, h1⟩
  have F := Lib.hid (F.out.keep h1)
  clear h1
  have F := Lib.hid ((F.out.add (.cells #[.bool true, .string ⟨#[3]⟩] 28) (w9.heap.size) rfl).add (.cells #[.bool false, .string ⟨#[1]⟩] 28) (w9.heap.size + 1) (by simp))
  go_wp2_with fail
  refine (FromL (99) _ _ (by decide) z99 _).mono ?_
  rintro e w10 ⟨rfl, h1⟩
  have F := Lib.hid (F.out.keep h1)
  clear h1
  go_wp2_with fail
  refine (sroot _).mono ?_
  rintro e w11 ⟨rfl, h1⟩
  have F := Lib.hid (F.out.keep h1)
  clear h1
  have F := Lib.hid (F.out.add (.cells #[.bool false, .string ⟨#[9]⟩] 28) (w11.heap.size) rfl)
  go_wp2_with fail
  refine (sp1 _).mono ?_
  rintro e w12 ⟨rfl, h1⟩
  have F := Lib.hid (F.out.keep h1)
  clear h1
  have F := Lib.hid (F.out.add (.cells #[.bool true, .string ⟨#[7]⟩] 28) (w12.heap.size) rfl)
  go_wp2_with fail
  refine (sp2 _).mono ?_
  rintro e w13 ⟨rfl, h1⟩
  have F := Lib.hid (F.out.keep h1)
  clear h1
  have F := Lib.hid (F.out.add (.cells #[.bool false, .string ⟨#[]⟩] 28) (w13.heap.size) rfl)
  go_wp2_with fail
  refine (sp3 _).mono ?_
  rintro e w14 ⟨rfl, h1⟩
  have F := Lib.hid (F.out.keep h1)
  clear h1
  have F := Lib.hid (F.out.add (.cells #[.bool false, .string ⟨#[]⟩] 28) (w14.heap.size) rfl)
  go_wp2_with fail
  refine (FromL (4) _ _ (by decide) z4 _).mono ?_
  rintro e w15 ⟨rfl, h1⟩
  have F := Lib.hid (F.out.keep h1)
  clear h1
  go_wp2_with fail
  refine (FromL (-6) _ _ (by decide) zm6 _).mono ?_
  rintro e w16 ⟨rfl, h1⟩
  have F := Lib.hid (F.out.keep h1)
  clear h1
  go_wp2_with fail
  refine (sf1 _).mono ?_
  rintro e w17 ⟨rfl, h1⟩
  have F := Lib.hid (F.out.keep h1)
  clear h1
  have F := Lib.hid (F.out.add (.cells #[.bool true, .string ⟨#[2]⟩, .bool false, .string ⟨#[3]⟩] 30) (w17.heap.size) rfl)
  go_wp2_with fail
  refine (FromL (1) _ _ (by decide) z1 _).mono ?_
  rintro e w18 ⟨rfl, h1⟩
  have F := Lib.hid (F.out.keep h1)
  clear h1
  go_wp2_with fail
  refine (FromL (2) _ _ (by decide) z2 _).mono ?_
  rintro e w19 ⟨rfl, h1⟩
  have F := Lib.hid (F.out.keep h1)
  clear h1
  go_wp2_with fail
  refine (sf2 _).mono ?_
  rintro e w20 ⟨rfl, h1⟩
  have F := Lib.hid (F.out.keep h1)
  clear h1
  have F := Lib.hid (F.out.add (.cells #[.bool false, .string ⟨#[1]⟩, .bool false, .string ⟨#[2]⟩] 30) (w20.heap.size) rfl)
  go_wp2_with fail
  refine (FromL (1) _ _ (by decide) z1 _).mono ?_
  rintro e w21 ⟨rfl, h1⟩
  have F := Lib.hid (F.out.keep h1)
  clear h1
  go_wp2_with fail
  refine (FromL (3) _ _ (by decide) z3 _).mono ?_
  rintro e w22 ⟨rfl, h1⟩
  have F := Lib.hid (F.out.keep h1)
  clear h1
  go_wp2_with fail
  refine (sf3 _).mono ?_
  rintro e w23 ⟨rfl, h1⟩
  have F := Lib.hid (F.out.keep h1)
  clear h1
  have F := Lib.hid (F.out.add (.cells #[.bool false, .string ⟨#[1]⟩, .bool false, .string ⟨#[3]⟩] 30) (w23.heap.size) rfl)
  go_wp2_with fail
  refine (FromL (-300) _ _ (by decide) zm300 _).mono ?_
  rintro e w24 ⟨rfl, h1⟩
  have F := Lib.hid (F.out.keep h1)
  clear h1
  obtain ⟨l, G, SA0, SB0, SC0⟩ : ∃ l, Fr w w24 l ∧ (∀ w', Fr w w' l → w'.cell? ⟨w6.heap.size, 0, none⟩ = some (.bool true) ∧ w'.cell? ⟨w6.heap.size, 1, none⟩ = some (.string ⟨#[3]⟩) ∧ w'.cell? ⟨w6.heap.size + 1, 0, none⟩ = some (.bool true) ∧ w'.cell? ⟨w6.heap.size + 1, 1, none⟩ = some (.string ⟨#[1]⟩) ∧ w'.cell? ⟨w9.heap.size, 0, none⟩ = some (.bool true) ∧ w'.cell? ⟨w9.heap.size, 1, none⟩ = some (.string ⟨#[3]⟩) ∧ w'.cell? ⟨w9.heap.size + 1, 0, none⟩ = some (.bool false) ∧ w'.cell? ⟨w9.heap.size + 1, 1, none⟩ = some (.string ⟨#[1]⟩) ∧ w'.cell? ⟨w11.heap.size, 0, none⟩ = some (.bool false) ∧ w'.cell? ⟨w11.heap.size, 1, none⟩ = some (.string ⟨#[9]⟩)) ∧ (∀ w', Fr w w' l → w'.cell? ⟨w12.heap.size, 0, none⟩ = some (.bool true) ∧ w'.cell? ⟨w12.heap.size, 1, none⟩ = some (.string ⟨#[7]⟩)) ∧ (∀ w', Fr w w' l → w'.cell? ⟨w17.heap.size, 0, none⟩ = some (.bool true) ∧ w'.cell? ⟨w17.heap.size, 1, none⟩ = some (.string ⟨#[2]⟩) ∧ w'.cell? ⟨w17.heap.size, 2, none⟩ = some (.bool false) ∧ w'.cell? ⟨w17.heap.size, 3, none⟩ = some (.string ⟨#[3]⟩) ∧ w'.cell? ⟨w20.heap.size, 0, none⟩ = some (.bool false) ∧ w'.cell? ⟨w20.heap.size, 1, none⟩ = some (.string ⟨#[1]⟩) ∧ w'.cell? ⟨w20.heap.size, 2, none⟩ = some (.bool false) ∧ w'.cell? ⟨w20.heap.size, 3, none⟩ = some (.string ⟨#[2]⟩) ∧ w'.cell? ⟨w23.heap.size, 0, none⟩ = some (.bool false) ∧ w'.cell? ⟨w23.heap.size, 1, none⟩ = some (.string ⟨#[1]⟩) ∧ w'.cell? ⟨w23.heap.size, 2, none⟩ = some (.bool false) ∧ w'.cell? ⟨w23.heap.size, 3, none⟩ = some (.string ⟨#[3]⟩)) :=
    ⟨_, F.out, fun w' F => ⟨F.cell 1 0 rfl rfl, F.cell 1 1 rfl rfl, F.cell 2 0 rfl rfl, F.cell 2 1 rfl rfl, F.cell 3 0 rfl rfl, F.cell 3 1 rfl rfl, F.cell 4 0 rfl rfl, F.cell 4 1 rfl rfl, F.cell 5 0 rfl rfl, F.cell 5 1 rfl rfl⟩, fun w' F => ⟨F.cell 6 0 rfl rfl, F.cell 6 1 rfl rfl⟩, fun w' F => ⟨F.cell 9 0 rfl rfl, F.cell 9 1 rfl rfl, F.cell 9 2 rfl rfl, F.cell 9 3 rfl rfl, F.cell 10 0 rfl rfl, F.cell 10 1 rfl rfl, F.cell 10 2 rfl rfl, F.cell 10 3 rfl rfl, F.cell 11 0 rfl rfl, F.cell 11 1 rfl rfl, F.cell 11 2 rfl rfl, F.cell 11 3 rfl rfl⟩⟩
  obtain ⟨c0, c1⟩ := F.out.two 0 rfl
  have F := Lib.hid G
  have SA := Lib.hid SA0
  have SB := Lib.hid SB0
  have SC := Lib.hid SC0
  clear G SA0 SB0 SC0

  go_wp2_with fail
  clear c0 c1
  go_region_held3 (fun w' => w'.cell? ⟨w6.heap.size, 0, none⟩ = some (.bool true) ∧ w'.cell? ⟨w6.heap.size, 1, none⟩ = some (.string ⟨#[3]⟩) ∧ w'.cell? ⟨w6.heap.size + 1, 0, none⟩ = some (.bool true) ∧ w'.cell? ⟨w6.heap.size + 1, 1, none⟩ = some (.string ⟨#[1]⟩) ∧ w'.cell? ⟨w9.heap.size, 0, none⟩ = some (.bool true) ∧ w'.cell? ⟨w9.heap.size, 1, none⟩ = some (.string ⟨#[3]⟩) ∧ w'.cell? ⟨w9.heap.size + 1, 0, none⟩ = some (.bool false) ∧ w'.cell? ⟨w9.heap.size + 1, 1, none⟩ = some (.string ⟨#[1]⟩) ∧ w'.cell? ⟨w11.heap.size, 0, none⟩ = some (.bool false) ∧ w'.cell? ⟨w11.heap.size, 1, none⟩ = some (.string ⟨#[9]⟩)) (first | with_reducible exact SA.out _ F.out | exact SA.out _ F.out.drew) (first | (go_at_call 15; (first | (with_reducible refine (frm3 _).mono ?_) | (with_reducible refine (frm1 _).mono ?_) | (with_reducible refine (fr1 _).mono ?_) | (with_reducible refine (fr9 _).mono ?_)); rintro e w' ⟨rfl, h1⟩; (first | (with_reducible have F := Lib.hid (F.out.keep h1)) | (with_reducible have F := Lib.hid (F.out.drew.keep h1))); clear h1))
  go_wp2_with fail
  go_region_held3 (fun w' => w'.cell? ⟨w12.heap.size, 0, none⟩ = some (.bool true) ∧ w'.cell? ⟨w12.heap.size, 1, none⟩ = some (.string ⟨#[7]⟩)) (first | with_reducible exact SB.out _ F.out | exact SB.out _ F.out.drew) (first | (go_at_call 15; (first | (with_reducible refine (frm12 _).mono ?_) | (with_reducible refine (fr18 _).mono ?_) | (with_reducible refine (fr6 _).mono ?_) | (with_reducible refine (frm7 _).mono ?_)); rintro e w' ⟨rfl, h1⟩; (first | (with_reducible have F := Lib.hid (F.out.keep h1)) | (with_reducible have F := Lib.hid (F.out.drew.keep h1))); clear h1) | (go_at_call 19; refine (sg6 _).mono ?_; rintro e w' ⟨rfl, h1⟩; (first | (with_reducible have F := Lib.hid (F.out.keep h1)) | (with_reducible have F := Lib.hid (F.out.drew.keep h1))); clear h1))
  go_wp2_with fail
  go_region_held3 (fun w' => w'.cell? ⟨w17.heap.size, 0, none⟩ = some (.bool true) ∧ w'.cell? ⟨w17.heap.size, 1, none⟩ = some (.string ⟨#[2]⟩) ∧ w'.cell? ⟨w17.heap.size, 2, none⟩ = some (.bool false) ∧ w'.cell? ⟨w17.heap.size, 3, none⟩ = some (.string ⟨#[3]⟩) ∧ w'.cell? ⟨w20.heap.size, 0, none⟩ = some (.bool false) ∧ w'.cell? ⟨w20.heap.size, 1, none⟩ = some (.string ⟨#[1]⟩) ∧ w'.cell? ⟨w20.heap.size, 2, none⟩ = some (.bool false) ∧ w'.cell? ⟨w20.heap.size, 3, none⟩ = some (.string ⟨#[2]⟩) ∧ w'.cell? ⟨w23.heap.size, 0, none⟩ = some (.bool false) ∧ w'.cell? ⟨w23.heap.size, 1, none⟩ = some (.string ⟨#[1]⟩) ∧ w'.cell? ⟨w23.heap.size, 2, none⟩ = some (.bool false) ∧ w'.cell? ⟨w23.heap.size, 3, none⟩ = some (.string ⟨#[3]⟩)) (first | with_reducible exact SC.out _ F.out | exact SC.out _ F.out.drew) (first | (go_at_call 15; (first | (with_reducible refine (frm2 _).mono ?_) | (with_reducible refine (fr3 _).mono ?_) | (with_reducible refine (fr5 _).mono ?_) | (with_reducible refine (fr6 _).mono ?_)); rintro e w' ⟨rfl, h1⟩; (first | (with_reducible have F := Lib.hid (F.out.keep h1)) | (with_reducible have F := Lib.hid (F.out.drew.keep h1))); clear h1) | (go_at_call 10; refine (sadd _).mono ?_; rintro e w' ⟨rfl, h1⟩; (first | (with_reducible have F := Lib.hid (F.out.keep h1)) | (with_reducible have F := Lib.hid (F.out.drew.keep h1))); clear h1))
  go_wp2
  go_ret
  exact ⟨rfl, F.out.t⟩
end Go.Proofs.YtmiibcdcnoefgaaGreatDoor
