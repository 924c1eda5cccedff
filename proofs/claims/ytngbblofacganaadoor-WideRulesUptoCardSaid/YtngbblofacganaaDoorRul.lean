/- The walk of WideRules. -/
import Derived.Test.YtngbblofacganaaDoorNum
import Derived.Test.YtngbblofacganaaDoorSan
namespace Go.Proofs.YtngbblofacganaaDoor
open Go.RowKit Dg

theorem wz_zero : wz 0 = .agg #[.bool false, .string ⟨#[]⟩] := by rw [wz_mo]; rw [show (0 : Int).natAbs = 0 from rfl, mo_zero]; rfl
theorem rep_zero (K : Nat) : Rep K false ⟨#[]⟩ 0 := ⟨by decide, Nat.zero_le _⟩

theorem Rep.lt_of {K L : Nat} {b : Bool} {s : ByteArray} {z : Int} (h : Rep K b s z) (hl : K ≤ L) : z.natAbs < 256 ^ L := Nat.lt_of_lt_of_le h.lt (Nat.pow_le_pow_right (by omega) hl)

/-- The numbers of 'rules', and what the functions answer at them. -/
structure RlC (a1 a2 a3 : Bool) (t1 t2 t3 : ByteArray) (CA AB BC ABC NA MAB MBC MABC MAC D : Bool × ByteArray) : Prop where
  c1 : ∀ w, Calls Tryd.prog 16 #[.agg #[.bool a1, .string t1], .agg #[.bool a2, .string t2]] w fun e w' => e = .returned (.agg #[.bool AB.1, .string AB.2]) ∧ Tch [] w w'
  c2 : ∀ w, Calls Tryd.prog 16 #[.agg #[.bool a2, .string t2], .agg #[.bool a1, .string t1]] w fun e w' => e = .returned (.agg #[.bool AB.1, .string AB.2]) ∧ Tch [] w w'
  c3 : ∀ w, Calls Tryd.prog 16 #[.agg #[.bool AB.1, .string AB.2], .agg #[.bool a3, .string t3]] w fun e w' => e = .returned (.agg #[.bool ABC.1, .string ABC.2]) ∧ Tch [] w w'
  c4 : ∀ w, Calls Tryd.prog 16 #[.agg #[.bool a2, .string t2], .agg #[.bool a3, .string t3]] w fun e w' => e = .returned (.agg #[.bool BC.1, .string BC.2]) ∧ Tch [] w w'
  c5 : ∀ w, Calls Tryd.prog 16 #[.agg #[.bool a1, .string t1], .agg #[.bool BC.1, .string BC.2]] w fun e w' => e = .returned (.agg #[.bool ABC.1, .string ABC.2]) ∧ Tch [] w w'
  c6 : ∀ w, Calls Tryd.prog 20 #[.agg #[.bool a1, .string t1]] w fun e w' => e = .returned (.agg #[.bool NA.1, .string NA.2]) ∧ Tch [] w w'
  c7 : ∀ w, Calls Tryd.prog 16 #[.agg #[.bool a1, .string t1], .agg #[.bool NA.1, .string NA.2]] w fun e w' => e = .returned (.agg #[.bool false, .string ⟨#[]⟩]) ∧ Tch [] w w'
  c8 : ∀ w, Calls Tryd.prog 18 #[.agg #[.bool AB.1, .string AB.2], .agg #[.bool a2, .string t2]] w fun e w' => e = .returned (.agg #[.bool CA.1, .string CA.2]) ∧ Tch [] w w'
  c9 : ∀ w, Calls Tryd.prog 20 #[.agg #[.bool NA.1, .string NA.2]] w fun e w' => e = .returned (.agg #[.bool CA.1, .string CA.2]) ∧ Tch [] w w'
  c10 : ∀ w, Calls Tryd.prog 26 #[.agg #[.bool a1, .string t1], .agg #[.bool a2, .string t2]] w fun e w' => e = .returned (.agg #[.bool MAB.1, .string MAB.2]) ∧ Tch [] w w'
  c11 : ∀ w, Calls Tryd.prog 26 #[.agg #[.bool a2, .string t2], .agg #[.bool a1, .string t1]] w fun e w' => e = .returned (.agg #[.bool MAB.1, .string MAB.2]) ∧ Tch [] w w'
  c12 : ∀ w, Calls Tryd.prog 26 #[.agg #[.bool MAB.1, .string MAB.2], .agg #[.bool a3, .string t3]] w fun e w' => e = .returned (.agg #[.bool MABC.1, .string MABC.2]) ∧ Tch [] w w'
  c13 : ∀ w, Calls Tryd.prog 26 #[.agg #[.bool a2, .string t2], .agg #[.bool a3, .string t3]] w fun e w' => e = .returned (.agg #[.bool MBC.1, .string MBC.2]) ∧ Tch [] w w'
  c14 : ∀ w, Calls Tryd.prog 26 #[.agg #[.bool a1, .string t1], .agg #[.bool MBC.1, .string MBC.2]] w fun e w' => e = .returned (.agg #[.bool MABC.1, .string MABC.2]) ∧ Tch [] w w'
  c15 : ∀ w, Calls Tryd.prog 26 #[.agg #[.bool a1, .string t1], .agg #[.bool false, .string ⟨#[1]⟩]] w fun e w' => e = .returned (.agg #[.bool CA.1, .string CA.2]) ∧ Tch [] w w'
  c16 : ∀ w, Calls Tryd.prog 16 #[.agg #[.bool a1, .string t1], .agg #[.bool false, .string ⟨#[]⟩]] w fun e w' => e = .returned (.agg #[.bool CA.1, .string CA.2]) ∧ Tch [] w w'
  c17 : ∀ w, Calls Tryd.prog 26 #[.agg #[.bool a1, .string t1], .agg #[.bool BC.1, .string BC.2]] w fun e w' => e = .returned (.agg #[.bool D.1, .string D.2]) ∧ Tch [] w w'
  c18 : ∀ w, Calls Tryd.prog 26 #[.agg #[.bool a1, .string t1], .agg #[.bool a3, .string t3]] w fun e w' => e = .returned (.agg #[.bool MAC.1, .string MAC.2]) ∧ Tch [] w w'
  c19 : ∀ w, Calls Tryd.prog 16 #[.agg #[.bool MAB.1, .string MAB.2], .agg #[.bool MAC.1, .string MAC.2]] w fun e w' => e = .returned (.agg #[.bool D.1, .string D.2]) ∧ Tch [] w w'

theorem wz_pair (z : Int) : ∃ p : Bool × ByteArray, wz z = .agg #[.bool p.1, .string p.2] := ⟨(_, _), wz_mo z⟩

theorem RlC.mk' {a1 a2 a3 : Bool} {t1 t2 t3 : ByteArray} (h1 : t1.size ≤ 40) (h2 : t2.size ≤ 40) (h3 : t3.size ≤ 40) : ∃ CA AB BC ABC NA MAB MBC MABC MAC D, RlC a1 a2 a3 t1 t2 t3 CA AB BC ABC NA MAB MBC MABC MAC D := by
  obtain ⟨x, hx⟩ : ∃ x, zval a1 (bv (sb t1)) = x := ⟨_, rfl⟩
  obtain ⟨y, hy⟩ : ∃ y, zval a2 (bv (sb t2)) = y := ⟨_, rfl⟩
  obtain ⟨z, hz⟩ : ∃ z, zval a3 (bv (sb t3)) = z := ⟨_, rfl⟩
  have ra : Rep 400000 a1 t1 x := ⟨hx, by omega⟩
  have rb : Rep 400000 a2 t2 y := ⟨hy, by omega⟩
  have rc : Rep 400000 a3 t3 z := ⟨hz, by omega⟩
  have lx : x.natAbs < 256 ^ 40 := Rep.lt ⟨hx, h1⟩
  have ly : y.natAbs < 256 ^ 40 := Rep.lt ⟨hy, h2⟩
  have lz : z.natAbs < 256 ^ 40 := Rep.lt ⟨hz, h3⟩
  have lxy := add_lt lx ly
  have lyz := add_lt ly lz
  have mxy := mul_lt lx ly
  have myz := mul_lt ly lz
  have mxz := mul_lt lx lz
  have nx : (-x).natAbs < 256 ^ 40 := by rw [Int.natAbs_neg]; exact lx
  obtain ⟨CA, eCA⟩ := wz_pair x
  obtain ⟨AB, eAB⟩ := wz_pair (x + y)
  obtain ⟨BC, eBC⟩ := wz_pair (y + z)
  obtain ⟨ABC, eABC⟩ := wz_pair (x + y + z)
  obtain ⟨NA, eNA⟩ := wz_pair (-x)
  obtain ⟨MAB, eMAB⟩ := wz_pair (x * y)
  obtain ⟨MBC, eMBC⟩ := wz_pair (y * z)
  obtain ⟨MABC, eMABC⟩ := wz_pair (x * y * z)
  obtain ⟨MAC, eMAC⟩ := wz_pair (x * z)
  obtain ⟨D, eD⟩ := wz_pair (x * (y + z))
  have rAB : Rep 400000 AB.1 AB.2 (x + y) := (Rep.of_wz eAB lxy).mono (by omega)
  have rBC : Rep 400000 BC.1 BC.2 (y + z) := (Rep.of_wz eBC lyz).mono (by omega)
  have rNA : Rep 400000 NA.1 NA.2 (-x) := (Rep.of_wz eNA nx).mono (by omega)
  have rMAB : Rep 400000 MAB.1 MAB.2 (x * y) := (Rep.of_wz eMAB mxy).mono (by omega)
  have rMBC : Rep 400000 MBC.1 MBC.2 (y * z) := (Rep.of_wz eMBC myz).mono (by omega)
  have rMAC : Rep 400000 MAC.1 MAC.2 (x * z) := (Rep.of_wz eMAC mxz).mono (by omega)
  exact ⟨CA, AB, BC, ABC, NA, MAB, MBC, MABC, MAC, D, ⟨fun w => by have h := ZAdd ra rb w; rwa [eAB] at h,
    fun w => by have h := ZAdd rb ra w; rwa [show y + x = x + y from Int.add_comm y x, eAB] at h,
    fun w => by have h := ZAdd rAB rc w; rwa [eABC] at h,
    fun w => by have h := ZAdd rb rc w; rwa [eBC] at h,
    fun w => by have h := ZAdd ra rBC w; rwa [show x + (y + z) = x + y + z from (Int.add_assoc x y z).symm, eABC] at h,
    fun w => by have h := ZNeg (ra.mono (L := 1000000) (by omega)) w; rwa [eNA] at h,
    fun w => by have h := ZAdd ra rNA w; rwa [show x + (-x) = 0 from Int.add_right_neg x, wz_zero] at h,
    fun w => by have h := ZSub rAB rb w; rwa [show (x + y) - y = x from Int.add_sub_cancel x y, eCA] at h,
    fun w => by have h := ZNeg (rNA.mono (L := 1000000) (by omega)) w; rwa [show -(-x) = x from Int.neg_neg x, eCA] at h,
    fun w => by have h := ZMul ra rb w; rwa [eMAB] at h,
    fun w => by have h := ZMul rb ra w; rwa [show y * x = x * y from Int.mul_comm y x, eMAB] at h,
    fun w => by have h := ZMul rMAB rc w; rwa [eMABC] at h,
    fun w => by have h := ZMul rb rc w; rwa [eMBC] at h,
    fun w => by have h := ZMul ra rMBC w; rwa [show x * (y * z) = x * y * z from (Int.mul_assoc x y z).symm, eMABC] at h,
    fun w => by have h := ZMul ra r1 w; rwa [show x * 1 = x from Int.mul_one x, eCA] at h,
    fun w => by have h := ZAdd ra (rep_zero 400000) w; rwa [show x + 0 = x from Int.add_zero x, eCA] at h,
    fun w => by have h := ZMul ra rBC w; rwa [eD] at h,
    fun w => by have h := ZMul ra rc w; rwa [eMAC] at h,
    fun w => by have h := ZAdd rMAB rMAC w; rwa [show (x * y) + (x * z) = x * (y + z) from (Int.mul_add x y z).symm, eD] at h⟩⟩

set_option maxHeartbeats 4000000 in
set_option maxRecDepth 100000 in
theorem rules_walk (w : World) (n1 : Bool) (A1 : Option Addr) (len1 cap1 : Nat) (z1 : Int) (ys1 : List Nat) (hy1 : ys1.length = len1) (hl1 : len1 ≤ 1048576) (hA1 : Src w A1 ys1) (n2 : Bool) (A2 : Option Addr) (len2 cap2 : Nat) (z2 : Int) (ys2 : List Nat) (hy2 : ys2.length = len2) (hl2 : len2 ≤ 1048576) (hA2 : Src w A2 ys2) (n3 : Bool) (A3 : Option Addr) (len3 cap3 : Nat) (z3 : Int) (ys3 : List Nat) (hy3 : ys3.length = len3) (hl3 : len3 ≤ 1048576) (hA3 : Src w A3 ys3) :
    Calls Tryd.prog 12 #[.agg #[.bool n1, .slice A1 len1 cap1, .int .i64 z1], .agg #[.bool n2, .slice A2 len2 cap2, .int .i64 z2], .agg #[.bool n3, .slice A3 len3 cap3, .int .i64 z3]] w fun e w' => e = .returned (.bool true) ∧ Tch [] w w' := by
  have F := Lib.hid (Fr.nil w)
  have N1 : Hid (∀ w' l, Fr w w' l → Calls Tryd.prog 15 #[.agg #[.bool n1, .slice A1 len1 cap1, .int .i64 z1]] w' fun e w2 => ∃ s, (s.size ≤ 40 ∧ e = .returned (.agg #[.bool n1, .string s])) ∧ Tch [] w' w2) := Lib.hid (fun w' l h => NumW n1 z1 A1 len1 cap1 ys1 w' hy1 hl1 (hA1.kept h.t))
  have N2 : Hid (∀ w' l, Fr w w' l → Calls Tryd.prog 15 #[.agg #[.bool n2, .slice A2 len2 cap2, .int .i64 z2]] w' fun e w2 => ∃ s, (s.size ≤ 40 ∧ e = .returned (.agg #[.bool n2, .string s])) ∧ Tch [] w' w2) := Lib.hid (fun w' l h => NumW n2 z2 A2 len2 cap2 ys2 w' hy2 hl2 (hA2.kept h.t))
  have N3 : Hid (∀ w' l, Fr w w' l → Calls Tryd.prog 15 #[.agg #[.bool n3, .slice A3 len3 cap3, .int .i64 z3]] w' fun e w2 => ∃ s, (s.size ≤ 40 ∧ e = .returned (.agg #[.bool n3, .string s])) ∧ Tch [] w' w2) := Lib.hid (fun w' l h => NumW n3 z3 A3 len3 cap3 ys3 w' hy3 hl3 (hA3.kept h.t))
  clear hA1 hA2 hA3 hy1 hy2 hy3 hl1 hl2 hl3
  go_enter Tryd.func12, Tryd.ntmps12
  go_wp2_with fail
  refine (sanity _).mono ?_
  rintro e w1 ⟨rfl, h1⟩
  have F := Lib.hid (((((F.out.add (.cells #[.bool n1, .slice A1 len1 cap1, .int .i64 z1] 24) w.heap.size rfl).add (.cells #[.bool n2, .slice A2 len2 cap2, .int .i64 z2] 24) (w.heap.size + 1) (by simp)).add (.cells #[.bool n3, .slice A3 len3 cap3, .int .i64 z3] 24) (w.heap.size + 1 + 1) (by simp))).keep h1)
  clear h1
  have c0 := F.out.cell 0 0 rfl rfl
  have c1 := F.out.cell 0 1 rfl rfl
  have c2 := F.out.cell 0 2 rfl rfl
  go_wp2_with fail
  refine (N1.out _ _ F.out).mono ?_
  rintro e w2 ⟨s1, ⟨hs1, rfl⟩, h1⟩
  have F := Lib.hid ((F.out.keep h1).add (.cells #[.bool n1, .string s1] 27) w2.heap.size rfl)
  clear h1 c0 c1 c2
  have c0 := F.out.cell 1 0 rfl rfl
  have c1 := F.out.cell 1 1 rfl rfl
  have c2 := F.out.cell 1 2 rfl rfl
  go_wp2_with fail
  refine (N2.out _ _ F.out).mono ?_
  rintro e w3 ⟨s2, ⟨hs2, rfl⟩, h1⟩
  have F := Lib.hid ((F.out.keep h1).add (.cells #[.bool n2, .string s2] 27) w3.heap.size rfl)
  clear h1 c0 c1 c2
  have c0 := F.out.cell 2 0 rfl rfl
  have c1 := F.out.cell 2 1 rfl rfl
  have c2 := F.out.cell 2 2 rfl rfl
  go_wp2_with fail
  refine (N3.out _ _ F.out).mono ?_
  rintro e w4 ⟨s3, ⟨hs3, rfl⟩, h1⟩
  have F := Lib.hid ((F.out.keep h1).add (.cells #[.bool n3, .string s3] 27) w4.heap.size rfl)
  clear h1 c0 c1 c2
  obtain ⟨l, G, SA0⟩ : ∃ l, Fr w (w4.alloc (.cells #[.bool n3, .string s3] 27)) l ∧ (∀ w', Fr w w' l → w'.cell? ⟨w2.heap.size, 0, none⟩ = some (.bool n1) ∧ w'.cell? ⟨w2.heap.size, 1, none⟩ = some (.string s1) ∧ w'.cell? ⟨w3.heap.size, 0, none⟩ = some (.bool n2) ∧ w'.cell? ⟨w3.heap.size, 1, none⟩ = some (.string s2) ∧ w'.cell? ⟨w4.heap.size, 0, none⟩ = some (.bool n3) ∧ w'.cell? ⟨w4.heap.size, 1, none⟩ = some (.string s3)) :=
    ⟨_, F.out, fun w' F => ⟨F.cell 3 0 rfl rfl, F.cell 3 1 rfl rfl, F.cell 4 0 rfl rfl, F.cell 4 1 rfl rfl, F.cell 5 0 rfl rfl, F.cell 5 1 rfl rfl⟩⟩
  have F := Lib.hid G
  have SA := Lib.hid SA0
  obtain ⟨CA, AB, BC, ABC, NA, MAB, MBC, MABC, MAC, D, R⟩ := RlC.mk' (a1 := n1) (a2 := n2) (a3 := n3) hs1 hs2 hs3
  obtain ⟨bCA, tCA⟩ := CA
  obtain ⟨bAB, tAB⟩ := AB
  obtain ⟨bBC, tBC⟩ := BC
  obtain ⟨bABC, tABC⟩ := ABC
  obtain ⟨bNA, tNA⟩ := NA
  obtain ⟨bMAB, tMAB⟩ := MAB
  obtain ⟨bMBC, tMBC⟩ := MBC
  obtain ⟨bMABC, tMABC⟩ := MABC
  obtain ⟨bMAC, tMAC⟩ := MAC
  obtain ⟨bD, tD⟩ := D
  have C1 := Lib.hid R.c1
  have C2 := Lib.hid R.c2
  have C3 := Lib.hid R.c3
  have C4 := Lib.hid R.c4
  have C5 := Lib.hid R.c5
  have C6 := Lib.hid R.c6
  have C7 := Lib.hid R.c7
  have C8 := Lib.hid R.c8
  have C9 := Lib.hid R.c9
  have C10 := Lib.hid R.c10
  have C11 := Lib.hid R.c11
  have C12 := Lib.hid R.c12
  have C13 := Lib.hid R.c13
  have C14 := Lib.hid R.c14
  have C15 := Lib.hid R.c15
  have C16 := Lib.hid R.c16
  have C17 := Lib.hid R.c17
  have C18 := Lib.hid R.c18
  have C19 := Lib.hid R.c19
  clear R G SA0 N1 N2 N3 hs1 hs2 hs3
  go_wp2_with fail
  go_region_held3 (fun w' => w'.cell? ⟨w2.heap.size, 0, none⟩ = some (.bool n1) ∧ w'.cell? ⟨w2.heap.size, 1, none⟩ = some (.string s1) ∧ w'.cell? ⟨w3.heap.size, 0, none⟩ = some (.bool n2) ∧ w'.cell? ⟨w3.heap.size, 1, none⟩ = some (.string s2) ∧ w'.cell? ⟨w4.heap.size, 0, none⟩ = some (.bool n3) ∧ w'.cell? ⟨w4.heap.size, 1, none⟩ = some (.string s3)) (first | with_reducible exact SA.out _ F.out | exact SA.out _ F.out.drew) (first | (go_at_call 16; (first | (with_reducible refine (C1.out _).mono ?_) | (with_reducible refine (C2.out _).mono ?_) | (with_reducible refine (C3.out _).mono ?_) | (with_reducible refine (C4.out _).mono ?_) | (with_reducible refine (C5.out _).mono ?_) | (with_reducible refine (C7.out _).mono ?_)); rintro e w' ⟨rfl, h1⟩; (first | (with_reducible have F := Lib.hid (F.out.keep h1)) | (with_reducible have F := Lib.hid (F.out.drew.keep h1))); clear h1) | (go_at_call 18; (first | (with_reducible refine (C8.out _).mono ?_)); rintro e w' ⟨rfl, h1⟩; (first | (with_reducible have F := Lib.hid (F.out.keep h1)) | (with_reducible have F := Lib.hid (F.out.drew.keep h1))); clear h1) | (go_at_call 20; (first | (with_reducible refine (C6.out _).mono ?_) | (with_reducible refine (C9.out _).mono ?_)); rintro e w' ⟨rfl, h1⟩; (first | (with_reducible have F := Lib.hid (F.out.keep h1)) | (with_reducible have F := Lib.hid (F.out.drew.keep h1))); clear h1))
  go_wp2_with fail
  go_region_held3 (fun w' => w'.cell? ⟨w2.heap.size, 0, none⟩ = some (.bool n1) ∧ w'.cell? ⟨w2.heap.size, 1, none⟩ = some (.string s1) ∧ w'.cell? ⟨w3.heap.size, 0, none⟩ = some (.bool n2) ∧ w'.cell? ⟨w3.heap.size, 1, none⟩ = some (.string s2) ∧ w'.cell? ⟨w4.heap.size, 0, none⟩ = some (.bool n3) ∧ w'.cell? ⟨w4.heap.size, 1, none⟩ = some (.string s3)) (first | with_reducible exact SA.out _ F.out | exact SA.out _ F.out.drew) (first | (go_at_call 16; (first | (with_reducible refine (C16.out _).mono ?_)); rintro e w' ⟨rfl, h1⟩; (first | (with_reducible have F := Lib.hid (F.out.keep h1)) | (with_reducible have F := Lib.hid (F.out.drew.keep h1))); clear h1) | (go_at_call 26; (first | (with_reducible refine (C10.out _).mono ?_) | (with_reducible refine (C11.out _).mono ?_) | (with_reducible refine (C12.out _).mono ?_) | (with_reducible refine (C13.out _).mono ?_) | (with_reducible refine (C14.out _).mono ?_) | (with_reducible refine (C15.out _).mono ?_)); rintro e w' ⟨rfl, h1⟩; (first | (with_reducible have F := Lib.hid (F.out.keep h1)) | (with_reducible have F := Lib.hid (F.out.drew.keep h1))); clear h1) | (go_at_call 30; refine (fr1 _).mono ?_; rintro e w' ⟨rfl, h1⟩; (first | (with_reducible have F := Lib.hid (F.out.keep h1)) | (with_reducible have F := Lib.hid (F.out.drew.keep h1))); clear h1))
  go_wp2_with fail
  go_region_held3 (fun w' => w'.cell? ⟨w2.heap.size, 0, none⟩ = some (.bool n1) ∧ w'.cell? ⟨w2.heap.size, 1, none⟩ = some (.string s1) ∧ w'.cell? ⟨w3.heap.size, 0, none⟩ = some (.bool n2) ∧ w'.cell? ⟨w3.heap.size, 1, none⟩ = some (.string s2) ∧ w'.cell? ⟨w4.heap.size, 0, none⟩ = some (.bool n3) ∧ w'.cell? ⟨w4.heap.size, 1, none⟩ = some (.string s3)) (first | with_reducible exact SA.out _ F.out | exact SA.out _ F.out.drew) (first | (go_at_call 16; (first | (with_reducible refine (C4.out _).mono ?_) | (with_reducible refine (C19.out _).mono ?_)); rintro e w' ⟨rfl, h1⟩; (first | (with_reducible have F := Lib.hid (F.out.keep h1)) | (with_reducible have F := Lib.hid (F.out.drew.keep h1))); clear h1) | (go_at_call 26; (first | (with_reducible refine (C10.out _).mono ?_) | (with_reducible refine (C17.out _).mono ?_) | (with_reducible refine (C18.out _).mono ?_)); rintro e w' ⟨rfl, h1⟩; (first | (with_reducible have F := Lib.hid (F.out.keep h1)) | (with_reducible have F := Lib.hid (F.out.drew.keep h1))); clear h1))
  go_wp2
  go_ret
  exact ⟨rfl, F.out.t⟩

end Go.Proofs.YtngbblofacganaaDoor
