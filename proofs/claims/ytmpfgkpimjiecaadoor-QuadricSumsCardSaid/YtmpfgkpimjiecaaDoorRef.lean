/- The reference's functions: digits, times, Mul. -/
import Derived.Deep.RegionHeld3
import Derived.Test.YtmpfgkpimjiecaaDoorRefA
namespace Go.Proofs.YtmpfgkpimjiecaaDoor
open Go.RowKit Dg
theorem one_byte (a : Nat) (ha : a < 256) : wrap64 (a : Int) = (a : Int) := by unfold wrap64; omega

theorem two_bytes (a b : Nat) (ha : a < 256) (hb : b < 256) : wrap64 (wrap64 (a : Int) + wrap64 (256 * wrap64 (b : Int))) = ((a + 256 * b : Nat) : Int) := by
  rw [one_byte a ha, one_byte b hb]
  have h1 : wrap64 (256 * (b : Int)) = 256 * (b : Int) := by unfold wrap64; omega
  rw [h1]
  unfold wrap64; omega

/-- A byte from the end. -/
theorem rev_byte (s : ByteArray) {q p : Nat} (e : q + p + 1 = s.size) (hp : p < s.size) : (sb s).reverse.getD q 0 = s[p].toNat := by
  have h1 : q < (sb s).reverse.length := by rw [List.length_reverse, sb_length]; omega
  have h3 := congrArg (fun l => l.getD p 0) (sb_take_succ s p hp)
  rw [List.getD, List.getElem?_eq_getElem h1, Option.getD_some, List.getElem_reverse]
  simp only [sb, List.getElem_map, Array.getElem_toList]
  congr 1
  have : (List.map UInt8.toNat s.data.toList).length - 1 - q = p := by rw [List.length_map, Array.length_toList]; show s.size - 1 - q = p; omega
  simp only [this]
  rfl

set_option maxHeartbeats 4000000 in
set_option maxRecDepth 100000 in
theorem rdigits (ng : Bool) (s : ByteArray) (w : World) (hs : s.size ≤ 1000000) :
    Calls Tryd.prog 39 #[.agg #[.bool ng, .string s]] w fun e w' => (∃ v, e = .returned v ∧ Row w.heap.size w' 3 .i64 v (digs 65536 (bv (sb s)))) ∧ Tch [] w w' := by
  obtain ⟨i0, hi, hz0, hz1, hz2⟩ := info_parts info_int
  obtain ⟨l, hl⟩ : ∃ l, l = (sb s).reverse := ⟨_, rfl⟩
  have hll : l.length = s.size := by rw [hl, List.length_reverse, sb_length]
  have HL := Lib.hid hl
  have HLL := Lib.hid hll
  have hbox : (w.alloc (.cells #[.bool ng, .string s] 26)).heap[w.heap.size]? = some (.cells #[.bool ng, .string s] 26 (0, 0)) := Below.heap_alloc_new' w _
  have HB := Lib.hid hbox
  obtain ⟨w0, hw0⟩ : ∃ w0, w0 = w.alloc (.cells #[.bool ng, .string s] 26) := ⟨_, rfl⟩
  rw [← hw0] at HB
  have hT0 : Tch [] w w0 := by rw [hw0]; exact (Tch.refl [] w).alloc _
  have HT0 := Lib.hid hT0
  have HW0 := Lib.hid hw0
  clear hl hll hbox hw0 hT0
  go_enter Tryd.func39, Tryd.ntmps39
  go_wp2
  rw [← HW0.out]
  go_loopw [3, 5] (fun u i wr => ∃ (k : Nat) (xs : List Nat) (I : Int) (v : Value), v = u ∧ Row w0.heap.size wr 3 .i64 v xs ∧ Hid (xs = pr (l.take (2 * k))) ∧ i = .int .i64 I ∧ Hid (I = (s.size : Int) - 2 * (k : Int)) ∧ k ≤ s.size ∧ Tch [] w0 wr) (fun _ i _ => (intOf i).toNat)
  case atStart => exact ⟨0, [], _, _, rfl, Row.nil, Lib.hid rfl, rfl, Lib.hid (by simp), Nat.zero_le _, Tch.refl [] w0⟩
  case round =>
    obtain ⟨k, xs, I, v, rfl, hR, hX, rfl, hI, hk, hT⟩ := hrel
    have hbx := (hT.block w.heap.size (by rw [HW0.out]; simp) (by simp)).trans HB.out
    have c1 : wr.cell? ⟨w.heap.size, 1, none⟩ = some (.string s) := by rw [cell_of_row _ _ _ _ _ _ hbx]; rfl
    have HR := Lib.hid hR
    have HT := Lib.hid hT
    have hxl : Hid (xs.length ≤ 2000000) := Lib.hid (by rw [hX.out]; have h1 := pr_length (l.take (2 * k)); rw [List.length_take, HLL.out] at h1; omega)
    clear hR hT hbx
    by_cases h2 : 2 ≤ I
    · obtain ⟨p, hp⟩ : ∃ p : Nat, I = (p : Int) + 2 := ⟨(I - 2).toNat, by omega⟩
      have hpl : p + 1 < s.size := by have := hI.out; omega
      subst hp
      have hk2 : 2 * k + 1 < l.length := by rw [HLL.out]; have := hI.out; omega
      obtain ⟨D, hD⟩ : ∃ D : Nat, D = s[p + 1].toNat + 256 * s[p].toNat := ⟨_, rfl⟩
      have R0 : wrap64 (wrap64 (s[p + 1].toNat : Int) + wrap64 (256 * wrap64 (s[p].toNat : Int))) = (D : Int) := by
        rw [two_bytes _ _ (UInt8.toNat_lt _) (UInt8.toNat_lt _), hD]
      have HX : Hid (xs ++ [D] = pr (l.take (2 * (k + 1)))) := Lib.hid (by
        rw [pr_two hk2, ← hX.out, hD, HL.out]
        have e1 : (sb s).reverse.getD (2 * k) 0 = s[p + 1].toNat := rev_byte s (by have := hI.out; omega) hpl
        have e2 : (sb s).reverse.getD (2 * k + 1) 0 = s[p].toNat := rev_byte s (by have := hI.out; omega) (by omega)
        rw [e1, e2])
      have HI : Hid ((p : Int) = (s.size : Int) - 2 * ((k + 1 : Nat) : Int)) := Lib.hid (by have := hI.out; omega)
      have HK : Hid (k + 1 ≤ s.size) := Lib.hid (by have := hI.out; omega)
      have HRa : Hid (Row w0.heap.size (wr.alloc (.cells #[.int .i64 (D : Int)] 3)) 3 .i64 v xs) := Lib.hid (HR.out.kept ((Tch.refl [] wr).alloc _))
      have HTa : Hid (Tch [] w0 (wr.alloc (.cells #[.int .i64 (D : Int)] 3))) := Lib.hid (HT.out.alloc _)
      clear h2 hk2 hD hI hX
      go_wp2_with (at_builtin; refine wpList_app_row _ rfl _ _ 45 rfl 3 .i64 i0 Tryd.underlying45 hi hz0 hz1 (by omega) w0 v xs HTa.out HRa.out rfl ⟨wr.heap.size, 0, none⟩ 1 D rfl (by simp) (by have := hxl.out; omega) ?_)
      intro v' w3 hR2 hT2
      have HR2 := Lib.hid hR2
      have HT2 := Lib.hid hT2
      clear hR2 hT2
      go_wp2
      go_roundw
      case rel => exact ⟨k + 1, xs ++ [D], (p : Int), v', rfl, HR2.out, HX, by first | rfl | go_num, HI, HK.out, HT2.out⟩
      case measure => simp [intOf]; omega
    · by_cases h1 : I = 1
      · subst h1
        have hsz : 0 < s.size := by have := hI.out; omega
        have hk1 : 2 * k + 1 = l.length := by rw [HLL.out]; have := hI.out; omega
        obtain ⟨D, hD⟩ : ∃ D : Nat, D = s[0].toNat := ⟨_, rfl⟩
        have R0 : wrap64 (s[0].toNat : Int) = (D : Int) := by
          rw [one_byte _ (UInt8.toNat_lt _), hD]
        have HX : Hid (xs ++ [D] = pr (l.take (2 * (k + 1)))) := Lib.hid (by
          rw [pr_one hk1, ← hX.out, hD, HL.out]
          have e1 : (sb s).reverse.getD (2 * k) 0 = s[0].toNat := rev_byte s (by have := hI.out; omega) hsz
          rw [e1])
        have HI : Hid ((-1 : Int) = (s.size : Int) - 2 * ((k + 1 : Nat) : Int)) := Lib.hid (by have := hI.out; omega)
        have HK : Hid (k + 1 ≤ s.size) := Lib.hid (by have := hI.out; omega)
        have HRa : Hid (Row w0.heap.size (wr.alloc (.cells #[.int .i64 (D : Int)] 3)) 3 .i64 v xs) := Lib.hid (HR.out.kept ((Tch.refl [] wr).alloc _))
        have HTa : Hid (Tch [] w0 (wr.alloc (.cells #[.int .i64 (D : Int)] 3))) := Lib.hid (HT.out.alloc _)
        clear h2 hk1 hD hI hX
        go_wp2_with (at_builtin; refine wpList_app_row _ rfl _ _ 45 rfl 3 .i64 i0 Tryd.underlying45 hi hz0 hz1 (by omega) w0 v xs HTa.out HRa.out rfl ⟨wr.heap.size, 0, none⟩ 1 D rfl (by simp) (by have := hxl.out; omega) ?_)
        intro v' w3 hR2 hT2
        have HR2 := Lib.hid hR2
        have HT2 := Lib.hid hT2
        clear hR2 hT2
        go_wp2
        go_roundw
        case rel => exact ⟨k + 1, xs ++ [D], -1, v', rfl, HR2.out, HX, by first | rfl | go_num, HI, HK.out, HT2.out⟩
        case measure => simp [intOf]
      · have h0 : I ≤ 0 := by omega
        have hX2 : xs = pr l := by rw [hX.out, List.take_of_length_le (by rw [HLL.out]; have := hI.out; omega)]
        obtain ⟨v', hV, hC⟩ := rtrim HR.out (by have := hxl.out; omega)
        have hcut : cut xs = digs 65536 (bv (sb s)) := by
          rw [hX2, cut_eq (b := 65536) (by decide) (pr_ok (by rw [HL.out]; exact (sb_ok s).reverse)), pr_val, HL.out]; rfl
        rw [hcut] at hV
        have HV := Lib.hid hV
        have HC := Lib.hid hC
        clear hV hC hcut hX2 h1 h2 hX hI
        go_wp2_with fail
        refine (HC.out _ (Tch.refl [] wr)).mono ?_
        rintro e w4 ⟨rfl, rfl⟩
        go_wp2
        go_ret
        exact ⟨⟨v', rfl, HV.out.mono (by rw [HW0.out]; simp)⟩, HT0.out.trans HT.out (by simp)⟩

end Go.Proofs.YtmpfgkpimjiecaaDoor
namespace Go.Proofs.YtmpfgkpimjiecaaDoor
open Go.RowKit Dg
/-- A slice of digits that is only read: nil, or at the head of a block below B. -/
def Rd (B : Nat) (w : World) (A : Option Addr) (xs : List Nat) : Prop := xs = [] ∨ ∃ g cap, A = some ⟨g, 0, none⟩ ∧ g < B ∧ Own w 3 .i64 g cap xs

theorem Rd.kept {B : Nat} {w w' : World} {A : Option Addr} {xs : List Nat} {S : List Nat} (h : Rd B w A xs) (t : Tch S w w') (hS : ∀ k ∈ S, B ≤ k) : Rd B w' A xs := by
  rcases h with h | ⟨g, cap, h1, h0, h2⟩
  · exact .inl h
  · exact .inr ⟨g, cap, h1, h0, h2.kept t (fun hk => by have := hS g hk; omega)⟩

theorem Rd.read {B : Nat} {w : World} {A : Option Addr} {xs : List Nat} (h : Rd B w A xs) {j : Nat} (hj : j < xs.length) : ∃ g, A = some ⟨g, 0, none⟩ ∧ ∃ x : Nat, Hid (xs.getD j 0 = x) ∧ w.cell? ⟨g, j, none⟩ = some (.int .i64 (x : Int)) := by
  rcases h with rfl | ⟨g, cap, h1, _, h2⟩
  · simp at hj
  · obtain ⟨rest, W⟩ := h2.win
    obtain ⟨x, h3, h4⟩ := W.read hj
    rw [Nat.zero_add] at h4
    exact ⟨g, h1, x, h3, h4⟩

/-- A slice that a call made is one. -/
theorem Rd.of_row {B C : Nat} {w : World} {v : Value} {xs : List Nat} (h : Row B w 3 .i64 v xs) (hC : w.heap.size ≤ C) : ∃ A c, v = .slice A xs.length c ∧ Rd C w A xs := by
  rcases h with ⟨rfl, rfl⟩ | ⟨g, cap, rfl, _, ho⟩
  · exact ⟨none, 0, rfl, .inl rfl⟩
  · exact ⟨_, cap, rfl, .inr ⟨g, cap, rfl, by have := ho.lt; omega, ho⟩⟩

/-- After i digits of x: Q is y times them. -/
structure TmInv (b : Nat) (xs ys : List Nat) (i : Nat) (Q : List Nat) : Prop where
  len : Q.length = i + ys.length
  ok : Ok b Q
  val : dg b Q = dg b (xs.take i) * dg b ys

theorem TmInv.step {b : Nat} {xs ys Q zs : List Nat} {i c : Nat} (h : TmInv b xs ys i Q) (hi : i < xs.length) (ha : MulOut b (Q.drop i) ys (xs.getD i 0) c zs) : TmInv b xs ys (i + 1) (Q.take i ++ (zs ++ [c])) := by
  have hl := h.len
  have hzl := ha.len
  rw [List.length_drop, hl] at hzl
  have htl : (Q.take i).length = i := by rw [List.length_take]; omega
  refine ⟨by rw [List.length_append, List.length_append, htl, hzl]; simp; omega, (h.ok.take i).append (ha.ok.snoc ha.cb), ?_⟩
  have hv := ha.val
  rw [← ha.len] at hv
  rw [dg_append, dg_snoc, hv, htl, dg_take_succ b xs i hi, Nat.add_mul, Nat.mul_add, ← h.val]
  have e := dg_split b Q i (by omega)
  have e2 : b ^ i * (xs.getD i 0 * dg b ys) = b ^ i * xs.getD i 0 * dg b ys := by rw [Nat.mul_assoc]
  omega

theorem mulInv_out {b c f k : Nat} {ss xs ws : List Nat} (h : MulInv b ss xs f k c ws) (hk : ss.length = k) (hl : xs.length = k) : MulOut b ss xs f c ws := by
  subst hk
  exact h.out hl

theorem getD_mid {P R : List Nat} {x : Nat} : (P ++ x :: R).getD P.length 0 = x := by
  rw [List.getD, List.getElem?_append_right (Nat.le_refl _), Nat.sub_self]; rfl

theorem set_mid {P R : List Nat} {x z : Nat} : (P ++ x :: R).set P.length z = P ++ z :: R := by
  rw [List.set_append_right _ _ (Nat.le_refl _), Nat.sub_self, List.set_cons_zero]

theorem Own.cellAt {w : World} {T : TypeId} {k : IntKind} {g cap : Nat} {P R : List Nat} {x : Nat} (h : Own w T k g cap (P ++ x :: R)) {j : Nat} (hj : P.length = j) : w.cell? ⟨g, j, none⟩ = some (.int k (x : Int)) ∧ w.frozen? ⟨g, j, none⟩ = false ∧ ∀ z : Nat, Own (w.setCell ⟨g, j, none⟩ (.int k (z : Int))) T k g cap (P ++ z :: R) := by
  subst hj
  obtain ⟨rest, W⟩ := h.win
  have hlt : P.length < (P ++ x :: R).length := by simp
  have h1 := W.cell hlt
  rw [Nat.zero_add, getD_mid] at h1
  refine ⟨h1, W.frozen _, fun z => ?_⟩
  have h2 := W.set hlt z
  rw [Nat.zero_add, set_mid] at h2
  exact h.again W h2 (by simp)

theorem digit_step {s x y c : Nat} (hs : s < 65536) (hx : x < 65536) (hy : y < 65536) (hc : c < 65536) : s + x * y + c < 4294967296 := by
  have h1 : x * y ≤ 65535 * 65535 := Nat.mul_le_mul (by omega) (by omega)
  omega

set_option maxHeartbeats 4000000 in
set_option maxRecDepth 100000 in
theorem rtimes (A Bq : Option Addr) (ca cb : Nat) (xs ys : List Nat) (w : World) (hA : Rd w.heap.size w A xs) (hB : Rd w.heap.size w Bq ys) (hx : Ok 65536 xs) (hy : Ok 65536 ys) (hlx : xs.length ≤ 100000) (hly : ys.length ≤ 100000) :
    Calls Tryd.prog 38 #[.slice A xs.length ca, .slice Bq ys.length cb] w fun e w' => (∃ v, e = .returned v ∧ Row w.heap.size w' 3 .i64 v (digs 65536 (dg 65536 xs * dg 65536 ys))) ∧ Tch [] w w' := by
  obtain ⟨i0, hi, hz0, hz1, hz2⟩ := info_parts info_int
  have hmk : ∀ u : World, (Instr.makeSlice 45 (.int .i64 ((xs.length : Int) + (ys.length : Int))) (.int .i64 ((xs.length : Int) + (ys.length : Int)))).run Tryd.prog u =
      .ok (.slice (some ⟨u.heap.size, 0, none⟩) (xs.length + ys.length) (xs.length + ys.length)) (u.alloc (.cells (madeCells #[.int .i64 0] (xs.length + ys.length)) 3)) := fun u => by
    have h := run_make (P := Tryd.prog) u 45 3 i0 (.int .i64 0) Tryd.underlying45 hi hz0 .i64 .i64 ((xs.length : Int) + (ys.length : Int)) ((xs.length : Int) + (ys.length : Int)) (by omega) (Int.le_refl _) (by rw [hz2]; omega) (by omega)
    have e : ((xs.length : Int) + (ys.length : Int)).toNat = xs.length + ys.length := by omega
    rw [e] at h
    simpa [hz1, Value.cells] using h
  have hO : Own (w.alloc (.cells (madeCells #[.int .i64 0] (xs.length + ys.length)) 3)) 3 .i64 w.heap.size (xs.length + ys.length) (List.replicate (xs.length + ys.length) 0) := by
    refine ⟨[], ⟨?_, rfl⟩, by simp, by unfold maxLen; omega⟩
    rw [Below.heap_alloc_new' w]
    congr 2
    apply Array.ext
    · simp [madeCells, ints]
    · intro i h1 h2
      simp [madeCells, ints, Nat.mod_one]
  obtain ⟨w0, hw0⟩ : ∃ w0, w0 = w.alloc (.cells (madeCells #[.int .i64 0] (xs.length + ys.length)) 3) := ⟨_, rfl⟩
  rw [← hw0] at hO
  have hT0 : Tch [] w w0 := by rw [hw0]; exact (Tch.refl [] w).alloc _
  have HA := Lib.hid (hA.kept hT0 (by simp))
  have HB := Lib.hid (hB.kept hT0 (by simp))
  have HO := Lib.hid hO
  have HT0 := Lib.hid hT0
  have HW0 := Lib.hid hw0
  have HX := Lib.hid hx
  have HY := Lib.hid hy
  have hgw : Hid (w.heap.size < w0.heap.size) := Lib.hid (by rw [hw0]; simp)
  clear hO hT0 hw0 hA hB hx hy
  go_enter Tryd.func38, Tryd.ntmps38
  go_wp2
  rw [← HW0.out]
  go_loopw [6] (fun u wr => ∃ (i : Nat) (Q : List Nat), u = .int .i64 (i : Int) ∧ i ≤ xs.length ∧ TmInv 65536 xs ys i Q ∧ Own wr 3 .i64 w.heap.size (xs.length + ys.length) (Q ++ List.replicate (xs.length - i) 0) ∧ Tch [w.heap.size] w0 wr) (fun u _ => xs.length - (intOf u).toNat)
  case atStart =>
    refine ⟨0, List.replicate ys.length 0, rfl, Nat.zero_le _, ⟨by simp, Ok.replicate _ (by decide), by rw [dg_zeros, List.take_zero, dg_nil, Nat.zero_mul]⟩, ?_, Tch.refl _ _⟩
    have e : List.replicate ys.length 0 ++ List.replicate (xs.length - 0) 0 = List.replicate (xs.length + ys.length) 0 := by rw [Nat.sub_zero, List.replicate_append_replicate, Nat.add_comm]
    rw [e]
    exact HO.out
  case round =>
    obtain ⟨i, Q, rfl, hi1, hI, hOw, hTr⟩ := hrel
    have HI := Lib.hid hI
    have HOw := Lib.hid hOw
    have HTr := Lib.hid hTr
    clear hI hOw hTr
    by_cases hlt : i < xs.length
    · obtain ⟨gA, hgA, x, ex, _⟩ := HA.out.read hlt
      obtain ⟨SS, hSS⟩ : ∃ SS, SS = Q.drop i := ⟨_, rfl⟩
      obtain ⟨P, hP⟩ : ∃ P, P = Q.take i := ⟨_, rfl⟩
      obtain ⟨R, hRR⟩ : ∃ R, R = List.replicate (xs.length - i) 0 := ⟨_, rfl⟩
      have hSl : SS.length = ys.length := by rw [hSS, List.length_drop, HI.out.len]; omega
      have hPl : P.length = i := by rw [hP, List.length_take, HI.out.len]; omega
      have hSo : Ok 65536 SS := by rw [hSS]; exact HI.out.ok.drop i
      have hO1 : Own wr 3 .i64 w.heap.size (xs.length + ys.length) ((P ++ []) ++ (SS.drop 0 ++ R)) := by
        rw [List.append_nil, List.drop_zero, hP, hSS, hRR, ← List.append_assoc, List.take_append_drop]; exact HOw.out
      have HO1 := Lib.hid hO1
      have HSl := Lib.hid hSl
      have HPl := Lib.hid hPl
      have HSo := Lib.hid hSo
      have HSS := Lib.hid hSS
      have HP := Lib.hid hP
      have HRR := Lib.hid hRR
      have HgA := Lib.hid hgA
      have hxb : x < 65536 := by rw [← ex.out]; exact HX.out.getD (by decide) i
      clear hSS hP hRR hSl hPl hSo hO1 hgA HOw
      go_wp2
      obtain ⟨wo, rfl⟩ : ∃ wo : World, wo = wr := ⟨_, rfl⟩
      go_loopw [7, 8] (fun uc uk wr => ∃ (k c : Nat) (ws : List Nat), uc = .int .i64 (c : Int) ∧ uk = .int .i64 (k : Int) ∧ k ≤ ys.length ∧ c < 65536 ∧ Hid (MulInv 65536 SS ys x k c ws) ∧ Hid (Own wr 3 .i64 w.heap.size (xs.length + ys.length) ((P ++ ws) ++ (SS.drop k ++ R))) ∧ Hid (Tch [w.heap.size] w0 wr)) (fun _ uk _ => ys.length - (intOf uk).toNat)
      case atStart => exact ⟨0, 0, [], rfl, rfl, Nat.zero_le _, by decide, Lib.hid (MulInv.zero (by decide) SS ys x), HO1, HTr⟩
      case round =>
        obtain ⟨k, c, ws, rfl, rfl, hk1, hc, hM, hOw, hT⟩ := hrel
        by_cases hkl : k < ys.length
        · obtain ⟨gB, hgB, y, ey, _⟩ := HB.out.read hkl
          have hyb : y < 65536 := by rw [← ey.out]; exact HY.out.getD (by decide) k
          obtain ⟨s, hs⟩ : ∃ s, s = SS.getD k 0 := ⟨_, rfl⟩
          have hsb : s < 65536 := by rw [hs]; exact HSo.out.getD (by decide) k
          have e1 := drop_eq_getD_cons SS k (by rw [HSl.out]; exact hkl)
          rw [← hs] at e1
          have hO2 := hOw.out
          rw [e1, List.cons_append] at hO2
          obtain ⟨cs, fs, hset⟩ := hO2.cellAt (j := i + k) (by rw [List.length_append, HPl.out, hM.out.len])
          obtain ⟨gA', hgA', x', ex', cx⟩ := (HA.out.kept hT.out (by simp)).read hlt
          obtain ⟨gB', hgB', y', ey', cy⟩ := (HB.out.kept hT.out (by simp)).read hkl
          obtain rfl : x' = x := by rw [← ex'.out]; exact ex.out
          obtain rfl : y' = y := by rw [← ey'.out]; exact ey.out
          subst hgA'
          subst hgB'
          have hN : i + k < xs.length + ys.length := by omega
          obtain ⟨D, hD⟩ : ∃ D : Nat, D = s + x' * y' + c := ⟨_, rfl⟩
          have hDb : D < 4294967296 := by rw [hD]; exact digit_step hsb hxb hyb hc
          have HD := Lib.hid hD
          have HDb := Lib.hid hDb
          obtain ⟨z, hz⟩ : ∃ z : Nat, z = x' * y' := ⟨_, rfl⟩
          have hzb : z ≤ 65535 * 65535 := by rw [hz]; exact Nat.mul_le_mul (by omega) (by omega)
          rw [← hz] at hD
          have q1 : IntKind.i64.wrap ((x' : Int) * (y' : Int)) = (z : Int) := by rw [show (x' : Int) * (y' : Int) = ((x' * y' : Nat) : Int) from (Int.natCast_mul x' y').symm, ← hz, IntKind.wrap_i64]; omega
          obtain ⟨t, ht⟩ : ∃ t : Nat, t = s + z := ⟨_, rfl⟩
          have q2 : IntKind.i64.wrap ((s : Int) + (z : Int)) = (t : Int) := by rw [IntKind.wrap_i64]; omega
          have q3 : IntKind.i64.wrap ((t : Int) + (c : Int)) = (D : Int) := by rw [IntKind.wrap_i64]; omega
          have s1 : IntKind.i64.wrap ((i : Int) + (k : Int)) = (i : Int) + (k : Int) := by rw [IntKind.wrap_i64]; omega
          have s2 : 0 ≤ (i : Int) + (k : Int) := by omega
          have s3 : ((i : Int) + (k : Int)).toNat = i + k := by omega
          have s4 : (i : Int) + (k : Int) < (xs.length : Int) + (ys.length : Int) := by omega
          have HSET := Lib.hid hset
          have HS := Lib.hid hs
          clear hD hDb hset hO2 e1 hs hsb hxb hyb hgB hOw hz hzb ht
          go_wp2
          go_region
          clear q1 q2 q3
          go_wp2
          have qd : wrap64 ((D : Int) / 65536) = ((D / 65536 : Nat) : Int) := by have := HDb.out; unfold wrap64; omega
          have qm : (D : Int) % 65536 = ((D % 65536 : Nat) : Int) := by omega
          have hM2 := hM.out.step (s := D % 65536) (t := D / 65536) (by rw [HSl.out]; exact hkl) (by rw [ey.out, ← HS.out, ← HD.out]; omega) (by omega) (by have := HDb.out; omega)
          have hO3 := HSET.out (D % 65536)
          rw [qm]
          refine ⟨⟨k + 1, D / 65536, ws ++ [D % 65536], by rw [qd], rfl, by omega, by have := HDb.out; omega, Lib.hid hM2, Lib.hid ?_, Lib.hid ?_⟩, by simp [intOf]; omega⟩
          · have e9 : P ++ (ws ++ [D % 65536]) ++ (SS.drop (k + 1) ++ R) = (P ++ ws) ++ (D % 65536) :: (SS.drop (k + 1) ++ R) := by simp [List.append_assoc]
            rw [e9]
            exact hO3
          · exact (hT.out.setCell (.inl (by simp)) _).drew
        · obtain rfl : k = ys.length := by omega
          have hMo := mulInv_out hM.out HSl.out rfl
          have hO4 := hOw.out
          rw [List.drop_eq_nil_of_le (by rw [HSl.out]; exact Nat.le_refl _), List.nil_append] at hO4
          have hR0 : R = 0 :: List.replicate (xs.length - (i + 1)) 0 := by rw [HRR.out, show xs.length - i = xs.length - (i + 1) + 1 by omega, List.replicate_succ]
          rw [hR0] at hO4
          obtain ⟨cs, fs, hset⟩ := hO4.cellAt (j := i + ys.length) (by rw [List.length_append, HPl.out, hM.out.len])
          have HSET := Lib.hid hset
          have HMO := Lib.hid hMo
          have HT := hT
          have s1 : IntKind.i64.wrap ((i : Int) + (ys.length : Int)) = (i : Int) + (ys.length : Int) := by rw [IntKind.wrap_i64]; omega
          have s2 : 0 ≤ (i : Int) + (ys.length : Int) := by omega
          have s3 : ((i : Int) + (ys.length : Int)).toNat = i + ys.length := by omega
          have s4 : (i : Int) + (ys.length : Int) < (xs.length : Int) + (ys.length : Int) := by omega
          have s5 : i + ys.length < xs.length + ys.length := by omega
          clear hset hMo hO4 hM hOw hT hR0
          go_wp2
          have h10 := HI.out.step hlt (by rw [ex.out, ← HSS.out]; exact HMO.out)
          rw [← HP.out] at h10
          have h11 := HSET.out c
          have e11 : P ++ (ws ++ [c]) ++ List.replicate (xs.length - (i + 1)) 0 = (P ++ ws) ++ c :: List.replicate (xs.length - (i + 1)) 0 := by simp [List.append_assoc]
          refine ⟨⟨i + 1, P ++ (ws ++ [c]), rfl, by omega, h10, ?_, HT.out.setCell (.inl (by simp)) _⟩, by simp [intOf]; omega⟩
          rw [e11]
          exact h11
    · obtain rfl : i = xs.length := by omega
      have hO5 := HOw.out
      rw [Nat.sub_self, List.replicate_zero, List.append_nil] at hO5
      have hcut : cut Q = digs 65536 (dg 65536 xs * dg 65536 ys) := by
        have h6 := HI.out.val
        rw [List.take_of_length_le (Nat.le_refl _)] at h6
        rw [cut_eq (b := 65536) (by decide) HI.out.ok, h6]
      obtain ⟨r5, W5⟩ := hO5.win
      have hC := rtrimW w.heap.size 0 (xs.length + ys.length) [] r5 Q wr (by rw [HI.out.len]; omega) (by rw [HI.out.len]; exact Nat.le_refl _) W5
      rw [HI.out.len, hcut] at hC
      have HC := Lib.hid hC
      have HRow : Hid (Row w.heap.size wr 3 .i64 (.slice (some ⟨w.heap.size, 0, none⟩) (digs 65536 (dg 65536 xs * dg 65536 ys)).length (xs.length + ys.length)) (digs 65536 (dg 65536 xs * dg 65536 ys))) := Lib.hid (by
        refine .inr ⟨_, _, rfl, Nat.le_refl _, ?_⟩
        have h8 := hO5.take (cut Q).length
        rw [← cut_take, hcut] at h8
        exact h8)
      have HTT : Hid (Tch [] w wr) := Lib.hid (HT0.out.trans HTr.out (by simp))
      clear hO5 hcut W5 hC HI HOw HTr
      go_wp2_with fail
      refine HC.out.mono ?_
      rintro e w5 ⟨rfl, rfl⟩
      go_wp2
      go_ret
      exact ⟨⟨_, rfl, HRow.out⟩, HTT.out⟩

end Go.Proofs.YtmpfgkpimjiecaaDoor
namespace Go.Proofs.YtmpfgkpimjiecaaDoor
open Go.RowKit Dg
theorem Rd.up {B C : Nat} {w w' : World} {A : Option Addr} {xs : List Nat} (_h : Rd B w A xs) (h2 : Rd B w' A xs) (hc : B ≤ C) : Rd C w' A xs := by
  rcases h2 with h3 | ⟨g, cap, h1, h0, h4⟩
  · exact .inl h3
  · exact .inr ⟨g, cap, h1, by omega, h4⟩

theorem digs_len_size (s : ByteArray) : (digs 65536 (bv (sb s))).length ≤ s.size := by
  refine digs_length_le (by decide) (Nat.lt_of_lt_of_le (bv_sb_lt s) ?_)
  exact Nat.pow_le_pow_left (by decide) _

set_option maxHeartbeats 4000000 in
set_option maxRecDepth 100000 in
theorem rMul {na nb : Bool} {sa sc : ByteArray} {x y : Int} (hx : Rep 1000 na sa x) (hy : Rep 1000 nb sc y) (w : World) :
    Calls Tryd.prog 15 #[.agg #[.bool na, .string sa], .agg #[.bool nb, .string sc]] w fun e w' => e = .returned (wz (x * y)) ∧ Tch [] w w' := by
  have hV : wv (!(na == nb)) (bv (sb sa) * bv (sb sc)) = wz (x * y) := by rw [wv_wz, mul_sign, hx.val, hy.val]
  obtain ⟨X, hX⟩ : ∃ X, X = digs 65536 (bv (sb sa)) := ⟨_, rfl⟩
  obtain ⟨Y, hY⟩ : ∃ Y, Y = digs 65536 (bv (sb sc)) := ⟨_, rfl⟩
  have c1 := fun w1 => rdigits na sa w1 (by have := hx.size; omega)
  have c2 := fun w1 => rdigits nb sc w1 (by have := hy.size; omega)
  rw [← hX] at c1
  rw [← hY] at c2
  have C1 := Lib.hid c1
  have C2 := Lib.hid c2
  have HXo : Hid (Ok 65536 X) := Lib.hid (by rw [hX]; exact digs_ok (by decide) _)
  have HYo : Hid (Ok 65536 Y) := Lib.hid (by rw [hY]; exact digs_ok (by decide) _)
  have HXl : Hid (X.length ≤ 1000) := Lib.hid (by rw [hX]; exact Nat.le_trans (digs_len_size sa) hx.size)
  have HYl : Hid (Y.length ≤ 1000) := Lib.hid (by rw [hY]; exact Nat.le_trans (digs_len_size sc) hy.size)
  have hXY : dg 65536 X * dg 65536 Y = bv (sb sa) * bv (sb sc) := by rw [hX, hY, dg_digs (by decide), dg_digs (by decide)]
  have HPl : Hid ((digs 65536 (dg 65536 X * dg 65536 Y)).length ≤ 1000000) := Lib.hid (by
    have h1 := dg_lt HXo.out
    have h2 := dg_lt HYo.out
    have h3 : dg 65536 X * dg 65536 Y < 65536 ^ (X.length + Y.length) := by rw [Nat.pow_add]; exact Nat.mul_lt_mul'' h1 h2
    have h4 := digs_length_le (b := 65536) (by decide) h3
    have := HXl.out; have := HYl.out; omega)
  obtain ⟨br, sr, er⟩ : ∃ b s, wz (x * y) = .agg #[.bool b, .string s] := ⟨_, _, wz_mo _⟩
  rw [er] at hV
  have HV : Hid (wv (!(na == nb)) (dg 65536 X * dg 65536 Y) = .agg #[.bool br, .string sr]) := Lib.hid (by rw [hXY]; exact hV)
  have ER := Lib.hid er
  have F0 := (((Fr.nil w).add (.cells #[.bool na, .string sa] 26) w.heap.size rfl).add (.cells #[.bool nb, .string sc] 26) (w.heap.size + 1) (by simp)).add (.cells #[.bool false, .string ⟨#[]⟩] 26) (w.heap.size + 1 + 1) (by simp)
  obtain ⟨w0, l, hw0, G0, SF0, ST0, RB0⟩ : ∃ w0 l, w0 = (((w.alloc (.cells #[.bool na, .string sa] 26)).alloc (.cells #[.bool nb, .string sc] 26)).alloc (.cells #[.bool false, .string ⟨#[]⟩] 26)) ∧ Fr w w0 l ∧
      (∀ w3, Fr w w3 l → w3.cell? ⟨w.heap.size, 0, none⟩ = some (.bool na) ∧ w3.cell? ⟨w.heap.size, 1, none⟩ = some (.string sa) ∧ w3.cell? ⟨w.heap.size + 1, 0, none⟩ = some (.bool nb) ∧ w3.cell? ⟨w.heap.size + 1, 1, none⟩ = some (.string sc)) ∧
      (∀ w3, Fr w w3 l → ∀ u v, ((w3.setCell ⟨w.heap.size + 1 + 1, 0, none⟩ u).setCell ⟨w.heap.size + 1 + 1, 1, none⟩ v).cell? ⟨w.heap.size, 0, none⟩ = some (.bool na) ∧ ((w3.setCell ⟨w.heap.size + 1 + 1, 0, none⟩ u).setCell ⟨w.heap.size + 1 + 1, 1, none⟩ v).cell? ⟨w.heap.size, 1, none⟩ = some (.string sa) ∧ ((w3.setCell ⟨w.heap.size + 1 + 1, 0, none⟩ u).setCell ⟨w.heap.size + 1 + 1, 1, none⟩ v).cell? ⟨w.heap.size + 1, 0, none⟩ = some (.bool nb) ∧ ((w3.setCell ⟨w.heap.size + 1 + 1, 0, none⟩ u).setCell ⟨w.heap.size + 1 + 1, 1, none⟩ v).cell? ⟨w.heap.size + 1, 1, none⟩ = some (.string sc)) ∧
      (∀ w3, Fr w w3 l → Fr w w3 [(w.heap.size + 1 + 1, .cells #[.bool false, .string ⟨#[]⟩] 26 (0, 0))]) :=
    ⟨_, _, rfl, F0, fun w3 F => ⟨F.cell 0 0 rfl rfl, F.cell 0 1 rfl rfl, F.cell 1 0 rfl rfl, F.cell 1 1 rfl rfl⟩,
      fun w3 F u v => ⟨by rw [World.cell?_setCell_other _ _ _ _ (by simp), World.cell?_setCell_other _ _ _ _ (by simp)]; exact F.cell 0 0 rfl rfl, by rw [World.cell?_setCell_other _ _ _ _ (by simp), World.cell?_setCell_other _ _ _ _ (by simp)]; exact F.cell 0 1 rfl rfl, by rw [World.cell?_setCell_other _ _ _ _ (by simp), World.cell?_setCell_other _ _ _ _ (by simp)]; exact F.cell 1 0 rfl rfl, by rw [World.cell?_setCell_other _ _ _ _ (by simp), World.cell?_setCell_other _ _ _ _ (by simp)]; exact F.cell 1 1 rfl rfl⟩,
      fun w3 F => ⟨fun p hp => F.row p (by rw [List.mem_singleton] at hp; subst hp; simp), fun p hp => F.new p (by rw [List.mem_singleton] at hp; subst hp; simp), F.t⟩⟩
  have F1 := Lib.hid G0
  have SF := Lib.hid SF0
  have RB := Lib.hid RB0
  have ST := Lib.hid ST0
  have HW := Lib.hid hw0
  clear F0 G0 SF0 ST0 RB0 hw0 hX hY c1 c2 hV er hXY hx hy
  go_enter Tryd.func15, Tryd.ntmps15
  go_wp2_with fail
  rw [← HW.out]
  go_region_held3 (fun w3 => w3.cell? ⟨w.heap.size, 0, none⟩ = some (.bool na) ∧ w3.cell? ⟨w.heap.size, 1, none⟩ = some (.string sa) ∧ w3.cell? ⟨w.heap.size + 1, 0, none⟩ = some (.bool nb) ∧ w3.cell? ⟨w.heap.size + 1, 1, none⟩ = some (.string sc)) (first | with_reducible exact SF.out _ F3.out | exact SF.out _ F1.out | exact SF.out _ F1.out.drew | exact ST.out _ F3.out _ _) (first
    | (go_at_call_of 39 (Value.agg #[.bool na, .string sa]); refine (C1.out _).mono ?_; rintro e w3 ⟨⟨v1, rfl, hR1⟩, hT⟩; have F3 := Lib.hid (F1.out.drew.keep hT); obtain ⟨A1, k1, rfl, hD1⟩ := Rd.of_row hR1 (Nat.le_refl _); have HD1 := Lib.hid hD1; clear hT hR1 hD1)
    | (go_at_call_of 39 (Value.agg #[.bool nb, .string sc]); refine (C2.out _).mono ?_; rintro e w4 ⟨⟨v2, rfl, hR2⟩, hT⟩; have F3 := Lib.hid (F3.out.keep hT); obtain ⟨A2, k2, rfl, hD2⟩ := Rd.of_row hR2 (Nat.le_refl _); have HD2 := Lib.hid hD2; have HD1 := Lib.hid (HD1.out.up (HD1.out.kept hT (by simp)) hT.size); clear hT hR2 hD2)
    | (go_at_call 38; refine (rtimes A1 A2 k1 k2 X Y _ HD1.out HD2.out HXo.out HYo.out (by have := HXl.out; omega) (by have := HYl.out; omega)).mono ?_; rintro e w5 ⟨⟨v3, rfl, hR3⟩, hT⟩; have F3 := Lib.hid (F3.out.keep hT); have HR3 := Lib.hid hR3; clear hT hR3)
    | (go_at_call 37; refine (rwide (!(na == nb)) (dg 65536 X * dg 65536 Y) v3 _ HR3.out HPl.out).mono ?_; rw [HV.out]; rintro e w6 ⟨rfl, hT⟩; have F3 := Lib.hid (F3.out.keep hT); obtain ⟨r0, r1⟩ := (RB.out _ F3.out).two 0 rfl; obtain ⟨t0, t1⟩ := (RB.out _ F3.out).fro2 0 rfl; clear hT))
  go_wp2
  refine bodyPost_ret (v := .agg #[.bool br, .string sr]) (by simp [results, Tryd.results15, go_sem, r0, r1]) rfl ⟨by rw [ER.out], ?_⟩
  exact (RB.out _ F3.out).fin2 0 rfl _ _

end Go.Proofs.YtmpfgkpimjiecaaDoor
