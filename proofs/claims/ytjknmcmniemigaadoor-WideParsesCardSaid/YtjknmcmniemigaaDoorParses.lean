/- The walk of WideParses. -/
import Derived.Test.YtjknmcmniemigaaDoorRParse
import Derived.Test.YtjknmcmniemigaaDoorSan
import Derived.Test.YtjknmcmniemigaaDoorNum
namespace Go.Proofs.YtjknmcmniemigaaDoor
open Go.RowKit Dg

theorem parV_ex (neg : Bool) (l : List Nat) : ∃ b t o, parV neg l = .tuple #[.agg #[.bool b, .string t], .bool o] := by
  unfold parV; split
  · obtain ⟨b, t, e⟩ := wv_agg neg (nv l)
    exact ⟨b, t, true, by rw [e]⟩
  · exact ⟨_, _, _, rfl⟩

theorem Fr.fronts {w0 w : World} {l m : List (Nat × Obj)} (h : Fr w0 w (l ++ m)) : Fr w0 w l := ⟨fun p hp => h.row p (List.mem_append_left _ hp), fun p hp => h.new p (List.mem_append_left _ hp), h.t⟩

/-- Both parsers answer alike. -/
theorem parse_both (s : ByteArray) (hs : s.size ≤ 1000) : ∃ (b : Bool) (t : ByteArray) (o : Bool),
    (∀ w, Calls Tryd.prog 36 #[.string s] w fun e w' => e = .returned (.tuple #[.agg #[.bool b, .string t], .bool o]) ∧ Tch [] w w') ∧
    (∀ w, Calls Tryd.prog 39 #[.string s] w fun e w' => e = .returned (.tuple #[.agg #[.bool b, .string t], .bool o]) ∧ Tch [] w w') := by
  obtain ⟨neg, hn⟩ : ∃ neg, neg = Lib.hasPrefix s.data.toList [45] := ⟨_, rfl⟩
  obtain ⟨d, hd⟩ : ∃ d : ByteArray, d = ⟨(Lib.trimPrefix s.data.toList [45]).toArray⟩ := ⟨_, rfl⟩
  have hds : d.size ≤ s.size := by
    rw [hd]
    unfold Lib.trimPrefix
    split
    · show (List.toArray _).size ≤ s.size
      rw [List.size_toArray, List.length_drop]
      have h1 : s.data.toList.length = s.size := by simp
      omega
    · show (List.toArray _).size ≤ s.size
      rw [List.size_toArray]
      have h1 : s.data.toList.length = s.size := by simp
      omega
  have hc : (neg = true ∧ ∃ h : 0 < s.size, s[0].toNat = 45 ∧ s.extract 1 s.size = d) ∨ (neg = false ∧ s = d ∧ (s.size = 0 ∨ ∃ h : 0 < s.size, s[0].toNat ≠ 45)) := by
    unfold Lib.hasPrefix at hn
    unfold Lib.trimPrefix Lib.hasPrefix at hd
    have hsz : s.data.toList.length = s.size := by simp
    rcases hl : s.data.toList with _ | ⟨c, r⟩
    · rw [hl] at hn hd hsz
      refine .inr ⟨by rw [hn]; rfl, ?_, .inl hsz.symm⟩
      apply sb_inj
      rw [hd]
      simp [sb, hl]
    · rw [hl] at hn hd hsz
      have h0 : 0 < s.size := by rw [← hsz]; simp
      have hc0 : s[0] = c := by
        have h1 : s.data.toList[0]'(by rw [hl]; simp) = c := by simp [hl]
        exact h1
      by_cases h45 : c = 45
      · subst h45
        refine .inl ⟨by rw [hn]; rfl, h0, by rw [hc0]; rfl, ?_⟩
        apply sb_inj
        rw [sb_extract, hd]
        have e1 : sb s = (45 : UInt8).toNat :: r.map UInt8.toNat := by unfold sb; rw [hl]; rfl
        rw [e1, List.take_of_length_le (by rw [← hsz]; simp)]
        simp [sb, List.isPrefixOf]
      · have hp : List.isPrefixOf [45] (c :: r) = false := by
          simp [List.isPrefixOf]; exact fun h => h45 h.symm
        rw [hp] at hn hd
        refine .inr ⟨hn, ?_, .inr ⟨h0, ?_⟩⟩
        · apply sb_inj
          rw [hd]
          simp [sb, hl]
        · rw [hc0]
          intro h
          exact h45 (UInt8.toNat_inj.1 h)
  obtain ⟨b, t, o, e⟩ := parV_ex neg (sb d)
  refine ⟨b, t, o, fun w => ?_, fun w => ?_⟩
  · have h := Parse s d neg w (by omega) hd hn
    rwa [e] at h
  · have h := rParse s d neg w hs hds hc
    rwa [e] at h

set_option maxHeartbeats 8000000 in
set_option maxRecDepth 100000 in
theorem ps_walk (w : World) (s : ByteArray) (A : Option Addr) (len cap : Nat) (ys : List Nat) (hy : ys.length = len) (hA : Src w A ys) (c : Nat) :
    Calls Tryd.prog 10 #[.string s, .slice A len cap, .int .u8 (c : Int)] w fun e w' => e = .returned (.bool true) ∧ Tch [] w w' := by
  have HA := Lib.hid hA
  have HY := Lib.hid hy
  have hm : (0 : Int) ≤ min (s.size : Int) 60 ∧ min (s.size : Int) 60 ≤ (s.size : Int) := by omega
  clear hA hy
  go_enter Tryd.func10, Tryd.ntmps10
  go_wp2_with fail
  refine (sanity _).mono ?_
  rintro e w1 ⟨rfl, h1⟩
  have HT1 := Lib.hid h1
  clear h1
  go_wp2
  go_loopw [9, 10] (fun ut ui wr => ∃ (k : Nat) (t : ByteArray), ut = .string t ∧ ui = .int .i64 (k : Int) ∧ t.size ≤ k ∧ k ≤ 60 ∧ Hid (Tch [] w wr)) (fun _ ui _ => 60 - (intOf ui).toNat)
  case atStart => exact ⟨0, ⟨#[]⟩, rfl, rfl, Nat.le_refl _, by decide, HT1⟩
  case round =>
    obtain ⟨k, t, rfl, rfl, ht, hk, hT⟩ := hrel
    have hcvt : ∀ (u : World) (z : Nat), ∃ v : ByteArray, v.size = 1 ∧ (convert 22 9 (.slice (some ⟨u.heap.size, 0, none⟩) 1 1)).run Tryd.prog (u.alloc (.cells #[.int .u8 (z : Int)] 5)) = .ok (.string v) (u.alloc (.cells #[.int .u8 (z : Int)] 5)) := by
      intro u z
      have W : Win (u.alloc (.cells #[.int .u8 (z : Int)] 5)) 5 .u8 u.heap.size 0 [] [z] [] := ⟨Below.heap_alloc_new' u _, rfl⟩
      exact ⟨_, by rw [size_strOf]; rfl, conv_pre W 1 1 (by simp)⟩
    have HCV := Lib.hid hcvt
    clear hcvt
    by_cases hkk : k < len ∧ k < 60
    · obtain ⟨hkl, hk6⟩ := hkk
      obtain ⟨y, hyy⟩ : ∃ y, ys.getD k 0 = y := ⟨_, rfl⟩
      obtain ⟨ad, rfl, hcell⟩ := (HA.out.kept hT.out) k _ (ints_get .u8 ys k (by rw [HY.out]; exact hkl))
      rw [hyy] at hcell
      obtain ⟨v, hvs, hcv⟩ := HCV.out wr (48 + y % 10)
      rw [show (((48 + y % 10 : Nat)) : Int) = 48 + (y : Int) % 10 from by omega] at hcv
      have HVS := Lib.hid hvs
      have hv1 : v.size ≤ 1 := by omega
      clear hvs hyy
      go_wp2
      exact ⟨⟨k + 1, t ++ v, rfl, by first | rfl | go_num, by rw [ByteArray.size_append, HVS.out]; omega, by omega, Lib.hid (hT.out.alloc _)⟩, by simp [intOf]; omega⟩
    · have hway : ¬ k < len ∨ (k < len ∧ ¬ k < 60) := by omega
      clear hkk
      obtain ⟨v, hvs, hcv⟩ := HCV.out wr c
      obtain ⟨X, hX⟩ : ∃ X, s.extract 0 (min (s.size : Int) 60).toNat = X := ⟨_, rfl⟩
      have hXs : X.size ≤ 60 := by rw [← hX, ByteArray.size_extract]; omega
      obtain ⟨b0, r0, o0, p0, q0⟩ := parse_both X (by omega)
      have P0 := Lib.hid p0
      have Q0 := Lib.hid q0
      obtain ⟨b1, r1, o1, p1, q1⟩ := parse_both t (by omega)
      have P1 := Lib.hid p1
      have Q1 := Lib.hid q1
      obtain ⟨b2, r2, o2, p2, q2⟩ := parse_both (⟨#[45]⟩ ++ t) (by rw [ByteArray.size_append]; (have : (ByteArray.mk #[45]).size = 1 := rfl); omega)
      have P2 := Lib.hid p2
      have Q2 := Lib.hid q2
      obtain ⟨b3, r3, o3, p3, q3⟩ := parse_both (⟨#[45, 45]⟩ ++ t) (by rw [ByteArray.size_append]; (have : (ByteArray.mk #[45, 45]).size = 2 := rfl); omega)
      have P3 := Lib.hid p3
      have Q3 := Lib.hid q3
      obtain ⟨b4, r4, o4, p4, q4⟩ := parse_both (t ++ v ++ X) (by rw [ByteArray.size_append, ByteArray.size_append]; omega)
      have P4 := Lib.hid p4
      have Q4 := Lib.hid q4
      clear p0 q0 p1 q1 p2 q2 p3 q3 p4 q4 HCV
      have hv1 : v.size ≤ 1 := by omega
      rw [hX]
      clear hX hm hvs
      have F := Lib.hid (((Fr.nil w).keep (hT.out.alloc (.cells #[.int .u8 (c : Int)] 5))).add (.cells #[.string X, .string t, .string (⟨#[45]⟩ ++ t), .string (⟨#[45, 45]⟩ ++ t), .string (t ++ v ++ X)] 48) (wr.heap.size + 1) (by simp))
      rcases hway with hway | ⟨hw1, hw2⟩
      all_goals
        go_wp2
        obtain ⟨wo, rfl⟩ : ∃ wo : World, wo = wr := ⟨_, rfl⟩
        go_loopw [13] (fun ui wr => ∃ j : Nat, ui = .int .i64 (j : Int) ∧ j ≤ 5 ∧ Hid (Fr w wr [(wo.heap.size + 1, Obj.cells #[.string X, .string t, .string (⟨#[45]⟩ ++ t), .string (⟨#[45, 45]⟩ ++ t), .string (t ++ v ++ X)] 48 (0, 0))])) (fun ui _ => 5 - (intOf ui).toNat)
        case atStart => exact ⟨0, rfl, by decide, F⟩
        case round =>
          clear F
          obtain ⟨j, rfl, hj, hF⟩ := hrel
          by_cases hj5 : j < 5
          · have hjj : j = 0 ∨ j = 1 ∨ j = 2 ∨ j = 3 ∨ j = 4 := by omega
            rcases hjj with rfl | rfl | rfl | rfl | rfl
            · have cx := hF.out.cell 0 0 rfl rfl
              go_wp2_with fail
              refine (P0.out _).mono ?_
              rintro e w4 ⟨rfl, h1⟩
              have F2 := Lib.hid ((hF.out.keep h1).add (.cells #[.bool b0, .string r0] 27) w4.heap.size rfl)
              clear h1 cx
              have cx := F2.out.cell 0 0 rfl rfl
              go_wp2_with fail
              refine (Q0.out _).mono ?_
              rintro e w5 ⟨rfl, h1⟩
              have F2 := Lib.hid ((F2.out.keep h1).add (.cells #[.bool b0, .string r0] 27) w5.heap.size rfl)
              clear h1 cx
              obtain ⟨x0, x1⟩ := F2.out.two 1 rfl
              obtain ⟨y0, y1⟩ := F2.out.two 2 rfl
              go_wp2
              exact ⟨⟨1, by first | rfl | go_num, by decide, Lib.hid F2.out.fronts.fronts⟩, by simp [intOf]⟩
            · have cx := hF.out.cell 0 1 rfl rfl
              go_wp2_with fail
              refine (P1.out _).mono ?_
              rintro e w4 ⟨rfl, h1⟩
              have F2 := Lib.hid ((hF.out.keep h1).add (.cells #[.bool b1, .string r1] 27) w4.heap.size rfl)
              clear h1 cx
              have cx := F2.out.cell 0 1 rfl rfl
              go_wp2_with fail
              refine (Q1.out _).mono ?_
              rintro e w5 ⟨rfl, h1⟩
              have F2 := Lib.hid ((F2.out.keep h1).add (.cells #[.bool b1, .string r1] 27) w5.heap.size rfl)
              clear h1 cx
              obtain ⟨x0, x1⟩ := F2.out.two 1 rfl
              obtain ⟨y0, y1⟩ := F2.out.two 2 rfl
              go_wp2
              exact ⟨⟨2, by first | rfl | go_num, by decide, Lib.hid F2.out.fronts.fronts⟩, by simp [intOf]⟩
            · have cx := hF.out.cell 0 2 rfl rfl
              go_wp2_with fail
              refine (P2.out _).mono ?_
              rintro e w4 ⟨rfl, h1⟩
              have F2 := Lib.hid ((hF.out.keep h1).add (.cells #[.bool b2, .string r2] 27) w4.heap.size rfl)
              clear h1 cx
              have cx := F2.out.cell 0 2 rfl rfl
              go_wp2_with fail
              refine (Q2.out _).mono ?_
              rintro e w5 ⟨rfl, h1⟩
              have F2 := Lib.hid ((F2.out.keep h1).add (.cells #[.bool b2, .string r2] 27) w5.heap.size rfl)
              clear h1 cx
              obtain ⟨x0, x1⟩ := F2.out.two 1 rfl
              obtain ⟨y0, y1⟩ := F2.out.two 2 rfl
              go_wp2
              exact ⟨⟨3, by first | rfl | go_num, by decide, Lib.hid F2.out.fronts.fronts⟩, by simp [intOf]⟩
            · have cx := hF.out.cell 0 3 rfl rfl
              go_wp2_with fail
              refine (P3.out _).mono ?_
              rintro e w4 ⟨rfl, h1⟩
              have F2 := Lib.hid ((hF.out.keep h1).add (.cells #[.bool b3, .string r3] 27) w4.heap.size rfl)
              clear h1 cx
              have cx := F2.out.cell 0 3 rfl rfl
              go_wp2_with fail
              refine (Q3.out _).mono ?_
              rintro e w5 ⟨rfl, h1⟩
              have F2 := Lib.hid ((F2.out.keep h1).add (.cells #[.bool b3, .string r3] 27) w5.heap.size rfl)
              clear h1 cx
              obtain ⟨x0, x1⟩ := F2.out.two 1 rfl
              obtain ⟨y0, y1⟩ := F2.out.two 2 rfl
              go_wp2
              exact ⟨⟨4, by first | rfl | go_num, by decide, Lib.hid F2.out.fronts.fronts⟩, by simp [intOf]⟩
            · have cx := hF.out.cell 0 4 rfl rfl
              go_wp2_with fail
              refine (P4.out _).mono ?_
              rintro e w4 ⟨rfl, h1⟩
              have F2 := Lib.hid ((hF.out.keep h1).add (.cells #[.bool b4, .string r4] 27) w4.heap.size rfl)
              clear h1 cx
              have cx := F2.out.cell 0 4 rfl rfl
              go_wp2_with fail
              refine (Q4.out _).mono ?_
              rintro e w5 ⟨rfl, h1⟩
              have F2 := Lib.hid ((F2.out.keep h1).add (.cells #[.bool b4, .string r4] 27) w5.heap.size rfl)
              clear h1 cx
              obtain ⟨x0, x1⟩ := F2.out.two 1 rfl
              obtain ⟨y0, y1⟩ := F2.out.two 2 rfl
              go_wp2
              exact ⟨⟨5, by first | rfl | go_num, by decide, Lib.hid F2.out.fronts.fronts⟩, by simp [intOf]⟩
          · obtain rfl : j = 5 := by omega
            go_wp2
            go_ret
            exact ⟨rfl, hF.out.t⟩

end Go.Proofs.YtjknmcmniemigaaDoor
