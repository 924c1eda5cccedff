/- The walk of ExactOrders. -/
import Derived.Test.YtfcdggliongkkaaDoorSan2
import Derived.Test.YtfcdggliongkkaaDoorGeo
import Derived.Test.YtfcdggliongkkaaDoorPnt
namespace Go.Proofs.YtfcdggliongkkaaDoor
open Go Go.RowKit Dg

/-- An operation that may be taken first, its slot written out. -/
theorem takeAt {P : Program} {ops : Array Oper} {Q : Exit → Act → World → Prop} {md : Region.Mode} {S : World → Prop} {i : Nat} {oi : Oper} {d : Option Nat} {v : Value} {fuel : Nat} {listed : Array Bool} {a : Act} {w : World} (hi : ops[i]? = some oi) (hd : oi.dst = d)
    (hs : Region.noSelect ops = true) (hf : Region.free md ops listed i = true) (hr : (Region.ready md ops listed).contains i = true)
    (hQ : ∀ c a w, Q (.panic c) (a.put oi.dst v) w → Q (.panic c) a w) (hy : YieldsIf P ops S oi v a) (hS : S w)
    (h : wpAnyH P md ops Q S fuel (listed.setIfInBounds i true) (a.put d v) w) : wpAnyH P md ops Q S (fuel + 1) listed a w := by
  subst hd; exact wpAnyH_take hi hs hf hr hQ hy hS h

set_option maxHeartbeats 8000000 in
set_option maxRecDepth 100000 in
theorem od_walk (a b c d : P3) (ha : a.Ok) (hb : b.Ok) (hc : c.Ok) (hd : d.Ok) (w : World) :
    Calls Tryd.prog 4 #[.agg #[.int .i64 a.x, .int .i64 a.y, .int .i64 a.z, .int .i64 b.x, .int .i64 b.y, .int .i64 b.z], .agg #[.int .i64 c.x, .int .i64 c.y, .int .i64 c.z, .int .i64 d.x, .int .i64 d.y, .int .i64 d.z]] w fun e w' => e = .returned (.bool true) ∧ Tch [] w w' := by
  obtain ⟨n, hn⟩ : ∃ n, n = (detI a b c d).sign := ⟨_, rfl⟩
  have hb1 : -1 ≤ n ∧ n ≤ 1 := by rw [hn]; unfold Int.sign; split <;> omega
  have K0 : Hid (∀ w1, Calls Tryd.prog 11 #[.agg #[.int .i64 a.x, .int .i64 a.y, .int .i64 a.z], .agg #[.int .i64 b.x, .int .i64 b.y, .int .i64 b.z], .agg #[.int .i64 c.x, .int .i64 c.y, .int .i64 c.z], .agg #[.int .i64 d.x, .int .i64 d.y, .int .i64 d.z]] w1 fun e w' => e = .returned (.int .i64 n) ∧ Tch [] w1 w') := Lib.hid (fun w1 => by rw [hn]; exact Orient a b c d ha hb hc hd w1)
  have K1 : Hid (∀ w1, Calls Tryd.prog 11 #[.agg #[.int .i64 b.x, .int .i64 b.y, .int .i64 b.z], .agg #[.int .i64 a.x, .int .i64 a.y, .int .i64 a.z], .agg #[.int .i64 c.x, .int .i64 c.y, .int .i64 c.z], .agg #[.int .i64 d.x, .int .i64 d.y, .int .i64 d.z]] w1 fun e w' => e = .returned (.int .i64 (-n)) ∧ Tch [] w1 w') := Lib.hid (fun w1 => by have h := Orient b a c d hb ha hc hd w1; rw [det_12 a b c d, Int.sign_neg, ← hn] at h; exact h)
  have K2 : Hid (∀ w1, Calls Tryd.prog 11 #[.agg #[.int .i64 a.x, .int .i64 a.y, .int .i64 a.z], .agg #[.int .i64 c.x, .int .i64 c.y, .int .i64 c.z], .agg #[.int .i64 b.x, .int .i64 b.y, .int .i64 b.z], .agg #[.int .i64 d.x, .int .i64 d.y, .int .i64 d.z]] w1 fun e w' => e = .returned (.int .i64 (-n)) ∧ Tch [] w1 w') := Lib.hid (fun w1 => by have h := Orient a c b d ha hc hb hd w1; rw [det_23 a b c d, Int.sign_neg, ← hn] at h; exact h)
  have K3 : Hid (∀ w1, Calls Tryd.prog 11 #[.agg #[.int .i64 a.x, .int .i64 a.y, .int .i64 a.z], .agg #[.int .i64 b.x, .int .i64 b.y, .int .i64 b.z], .agg #[.int .i64 d.x, .int .i64 d.y, .int .i64 d.z], .agg #[.int .i64 c.x, .int .i64 c.y, .int .i64 c.z]] w1 fun e w' => e = .returned (.int .i64 (-n)) ∧ Tch [] w1 w') := Lib.hid (fun w1 => by have h := Orient a b d c ha hb hd hc w1; rw [det_34 a b c d, Int.sign_neg, ← hn] at h; exact h)
  have K4 : Hid (∀ w1, Calls Tryd.prog 11 #[.agg #[.int .i64 d.x, .int .i64 d.y, .int .i64 d.z], .agg #[.int .i64 b.x, .int .i64 b.y, .int .i64 b.z], .agg #[.int .i64 c.x, .int .i64 c.y, .int .i64 c.z], .agg #[.int .i64 a.x, .int .i64 a.y, .int .i64 a.z]] w1 fun e w' => e = .returned (.int .i64 (-n)) ∧ Tch [] w1 w') := Lib.hid (fun w1 => by have h := Orient d b c a hd hb hc ha w1; rw [det_14 a b c d, Int.sign_neg, ← hn] at h; exact h)
  have K5 : Hid (∀ w1, Calls Tryd.prog 11 #[.agg #[.int .i64 a.x, .int .i64 a.y, .int .i64 a.z], .agg #[.int .i64 a.x, .int .i64 a.y, .int .i64 a.z], .agg #[.int .i64 c.x, .int .i64 c.y, .int .i64 c.z], .agg #[.int .i64 d.x, .int .i64 d.y, .int .i64 d.z]] w1 fun e w' => e = .returned (.int .i64 0) ∧ Tch [] w1 w') := Lib.hid (fun w1 => by have h := Orient a a c d ha ha hc hd w1; rw [det_aa a c d, Int.sign_zero] at h; exact h)
  have K6 : Hid (∀ w1, Calls Tryd.prog 11 #[.agg #[.int .i64 a.x, .int .i64 a.y, .int .i64 a.z], .agg #[.int .i64 b.x, .int .i64 b.y, .int .i64 b.z], .agg #[.int .i64 c.x, .int .i64 c.y, .int .i64 c.z], .agg #[.int .i64 a.x, .int .i64 a.y, .int .i64 a.z]] w1 fun e w' => e = .returned (.int .i64 0) ∧ Tch [] w1 w') := Lib.hid (fun w1 => by have h := Orient a b c a ha hb hc ha w1; rw [det_ad a b c, Int.sign_zero] at h; exact h)
  have K7 : Hid (∀ w1, Calls Tryd.prog 11 #[.agg #[.int .i64 a.x, .int .i64 a.y, .int .i64 a.z], .agg #[.int .i64 b.x, .int .i64 b.y, .int .i64 b.z], .agg #[.int .i64 b.x, .int .i64 b.y, .int .i64 b.z], .agg #[.int .i64 d.x, .int .i64 d.y, .int .i64 d.z]] w1 fun e w' => e = .returned (.int .i64 0) ∧ Tch [] w1 w') := Lib.hid (fun w1 => by have h := Orient a b b d ha hb hb hd w1; rw [det_bb a b d, Int.sign_zero] at h; exact h)
  obtain ⟨l1, hl1⟩ : ∃ l, l = lessI a b := ⟨_, rfl⟩
  obtain ⟨l2, hl2⟩ : ∃ l, l = lessI b a := ⟨_, rfl⟩
  obtain ⟨l3, hl3⟩ : ∃ l, l = lessI b c := ⟨_, rfl⟩
  obtain ⟨l4, hl4⟩ : ∃ l, l = lessI a c := ⟨_, rfl⟩
  obtain ⟨pe, hpe⟩ : ∃ l, l = ptE a b := ⟨_, rfl⟩
  have M1 := Lib.hid (fun w1 => Less a b w1)
  have M2 := Lib.hid (fun w1 => Less b a w1)
  have M3 := Lib.hid (fun w1 => Less b c w1)
  have M4 := Lib.hid (fun w1 => Less a c w1)
  have e1 := less_or a b
  have e2 := less_trans a b c
  have EP := Lib.hid (fun w1 => eqlPt a b w1)
  rw [← hl1] at M1 e1 e2
  rw [← hl2] at M2 e1
  rw [← hl3] at M3 e2
  rw [← hl4] at M4 e2
  rw [← hpe] at e1 EP
  have E1 := Lib.hid e1
  have E2 := Lib.hid e2
  have C1 := Lib.hid (fun w1 => lPoint a w1)
  have C2 := Lib.hid (fun w1 => lPoint b w1)
  have C3 := Lib.hid (fun w1 => lPoint c w1)
  have C4 := Lib.hid (fun w1 => lPoint d w1)
  have CS := Lib.hid (fun w1 => sanity w1)
  have HB := Lib.hid hb1
  clear hn hl1 hl2 hl3 hl4 hpe e1 e2 ha hb hc hd hb1
  have F0 : Hid (Fr w ((w.alloc (.cells #[.int .i64 a.x, .int .i64 a.y, .int .i64 a.z, .int .i64 b.x, .int .i64 b.y, .int .i64 b.z] 23)).alloc (.cells #[.int .i64 c.x, .int .i64 c.y, .int .i64 c.z, .int .i64 d.x, .int .i64 d.y, .int .i64 d.z] 23)) [(w.heap.size, .cells #[.int .i64 a.x, .int .i64 a.y, .int .i64 a.z, .int .i64 b.x, .int .i64 b.y, .int .i64 b.z] 23 (0, 0)), (w.heap.size + 1, .cells #[.int .i64 c.x, .int .i64 c.y, .int .i64 c.z, .int .i64 d.x, .int .i64 d.y, .int .i64 d.z] 23 (0, 0))]) := Lib.hid (((Fr.nil w).add (.cells #[.int .i64 a.x, .int .i64 a.y, .int .i64 a.z, .int .i64 b.x, .int .i64 b.y, .int .i64 b.z] 23) w.heap.size rfl).add (.cells #[.int .i64 c.x, .int .i64 c.y, .int .i64 c.z, .int .i64 d.x, .int .i64 d.y, .int .i64 d.z] 23) (w.heap.size + 1) (by simp))
  go_enter Tryd.func4, Tryd.ntmps4
  go_wp2_with fail
  refine (CS.out _).mono ?_
  rintro e w1 ⟨rfl, hT⟩
  have F1 := Lib.hid (F0.out.keep hT)
  clear hT F0
  obtain ⟨a0, a1, a2, b0, b1, b2⟩ := F1.out.six 0 rfl
  go_wp2_with fail
  refine (C1.out _).mono ?_
  rintro e w2 ⟨rfl, hT⟩
  have F2 := Lib.hid ((F1.out.keep hT).add (.cells #[.int .i64 a.x, .int .i64 a.y, .int .i64 a.z] 27) w2.heap.size rfl)
  clear hT F1 a0 a1 a2 b0 b1 b2
  obtain ⟨a0, a1, a2, b0, b1, b2⟩ := F2.out.six 0 rfl
  go_wp2_with fail
  refine (C2.out _).mono ?_
  rintro e w3 ⟨rfl, hT⟩
  have F3 := Lib.hid ((F2.out.keep hT).add (.cells #[.int .i64 b.x, .int .i64 b.y, .int .i64 b.z] 27) w3.heap.size rfl)
  clear hT F2 a0 a1 a2 b0 b1 b2
  obtain ⟨c0, c1, c2, d0, d1, d2⟩ := F3.out.six 1 rfl
  go_wp2_with fail
  refine (C3.out _).mono ?_
  rintro e w4 ⟨rfl, hT⟩
  have F4 := Lib.hid ((F3.out.keep hT).add (.cells #[.int .i64 c.x, .int .i64 c.y, .int .i64 c.z] 27) w4.heap.size rfl)
  clear hT F3 c0 c1 c2 d0 d1 d2
  obtain ⟨c0, c1, c2, d0, d1, d2⟩ := F4.out.six 1 rfl
  go_wp2_with fail
  refine (C4.out _).mono ?_
  rintro e w5 ⟨rfl, hT⟩
  have F5 := Lib.hid ((F4.out.keep hT).add (.cells #[.int .i64 d.x, .int .i64 d.y, .int .i64 d.z] 27) w5.heap.size rfl)
  clear hT F4 c0 c1 c2 d0 d1 d2 C1 C2 C3 C4 CS
  obtain ⟨hn1, hn2⟩ := HB.out
  have SF := Lib.hid (fun (w6 : World) (h : Fr w w6 [(w2.heap.size, .cells #[.int .i64 a.x, .int .i64 a.y, .int .i64 a.z] 27 (0, 0)), (w3.heap.size, .cells #[.int .i64 b.x, .int .i64 b.y, .int .i64 b.z] 27 (0, 0)), (w4.heap.size, .cells #[.int .i64 c.x, .int .i64 c.y, .int .i64 c.z] 27 (0, 0)), (w5.heap.size, .cells #[.int .i64 d.x, .int .i64 d.y, .int .i64 d.z] 27 (0, 0))]) => And.intro (h.three 0 rfl) (h.three 1 rfl))
  have G : Fr w (w5.alloc (.cells #[.int .i64 d.x, .int .i64 d.y, .int .i64 d.z] 27)) [(w2.heap.size, .cells #[.int .i64 a.x, .int .i64 a.y, .int .i64 a.z] 27 (0, 0)), (w3.heap.size, .cells #[.int .i64 b.x, .int .i64 b.y, .int .i64 b.z] 27 (0, 0)), (w4.heap.size, .cells #[.int .i64 c.x, .int .i64 c.y, .int .i64 c.z] 27 (0, 0)), (w5.heap.size, .cells #[.int .i64 d.x, .int .i64 d.y, .int .i64 d.z] 27 (0, 0))] := F5.out.sub (fun q hq => by simp only [List.mem_cons, List.not_mem_nil, or_false] at hq; rcases hq with e | e | e | e <;> (rw [e]; simp))
  have F := Lib.hid G
  clear G F5
  obtain ⟨a0, a1, a2⟩ := F.out.three 0 rfl; obtain ⟨b0, b1, b2⟩ := F.out.three 1 rfl; obtain ⟨c0, c1, c2⟩ := F.out.three 2 rfl; obtain ⟨d0, d1, d2⟩ := F.out.three 3 rfl
  go_wp2_with (first
    | (go_at_call 11; (first | (with_reducible refine (K0.out _).mono ?_) | (with_reducible refine (K1.out _).mono ?_) | (with_reducible refine (K2.out _).mono ?_) | (with_reducible refine (K3.out _).mono ?_) | (with_reducible refine (K4.out _).mono ?_) | (with_reducible refine (K5.out _).mono ?_) | (with_reducible refine (K6.out _).mono ?_) | (with_reducible refine (K7.out _).mono ?_)); rintro e w6 ⟨rfl, hT⟩; have F := Lib.hid (F.out.keep hT); clear hT a0 a1 a2 b0 b1 b2 c0 c1 c2 d0 d1 d2; obtain ⟨a0, a1, a2⟩ := F.out.three 0 rfl; obtain ⟨b0, b1, b2⟩ := F.out.three 1 rfl; obtain ⟨c0, c1, c2⟩ := F.out.three 2 rfl; obtain ⟨d0, d1, d2⟩ := F.out.three 3 rfl))
  have E1' := E1.out
  cases l1 <;> cases l2
  · obtain rfl : pe = true := by simpa using E1'
    clear E1 E1'
    have EP' := EP.out
    go_region_held3 (fun w6 => (w6.cell? ⟨w2.heap.size, 0, none⟩ = some (.int .i64 a.x) ∧ w6.cell? ⟨w2.heap.size, 1, none⟩ = some (.int .i64 a.y) ∧ w6.cell? ⟨w2.heap.size, 2, none⟩ = some (.int .i64 a.z)) ∧ w6.cell? ⟨w3.heap.size, 0, none⟩ = some (.int .i64 b.x) ∧ w6.cell? ⟨w3.heap.size, 1, none⟩ = some (.int .i64 b.y) ∧ w6.cell? ⟨w3.heap.size, 2, none⟩ = some (.int .i64 b.z)) (first | with_reducible exact SF.out _ F.out | with_reducible exact SF.out _ F.out.drew) (first
      | (go_at_call 16; (first | (with_reducible refine (M1.out _).mono ?_) | (with_reducible refine (M2.out _).mono ?_)); rintro e w6 ⟨rfl, hT⟩; (first | (with_reducible have F := Lib.hid (F.out.keep hT)) | (have F := Lib.hid (F.out.drew.keep hT))); clear hT))
    clear EP' EP
    all_goals
      obtain ⟨a0, a1, a2⟩ := F.out.three 0 rfl; obtain ⟨b0, b1, b2⟩ := F.out.three 1 rfl; obtain ⟨c0, c1, c2⟩ := F.out.three 2 rfl; obtain ⟨d0, d1, d2⟩ := F.out.three 3 rfl
      cases l3 <;> cases l4
      all_goals
        go_wp2_with (first
          | (go_at_call 16; (first | (with_reducible refine (M1.out _).mono ?_) | (with_reducible refine (M3.out _).mono ?_) | (with_reducible refine (M4.out _).mono ?_)); rintro e w6 ⟨rfl, hT⟩; have F := Lib.hid (F.out.keep hT); clear hT a0 a1 a2 b0 b1 b2 c0 c1 c2 d0 d1 d2; obtain ⟨a0, a1, a2⟩ := F.out.three 0 rfl; obtain ⟨b0, b1, b2⟩ := F.out.three 1 rfl; obtain ⟨c0, c1, c2⟩ := F.out.three 2 rfl; obtain ⟨d0, d1, d2⟩ := F.out.three 3 rfl))
        first
          | (go_ret; exact ⟨rfl, F.out.t⟩)
          | exact absurd (E2.out (by simp) (by simp)) (by simp)
  · clear E1 E1' EP
    refine wp_region_noPanic ?_
    refine wp_region_held_drew (S := (fun w6 => (w6.cell? ⟨w2.heap.size, 0, none⟩ = some (.int .i64 a.x) ∧ w6.cell? ⟨w2.heap.size, 1, none⟩ = some (.int .i64 a.y) ∧ w6.cell? ⟨w2.heap.size, 2, none⟩ = some (.int .i64 a.z)) ∧ w6.cell? ⟨w3.heap.size, 0, none⟩ = some (.int .i64 b.x) ∧ w6.cell? ⟨w3.heap.size, 1, none⟩ = some (.int .i64 b.y) ∧ w6.cell? ⟨w3.heap.size, 2, none⟩ = some (.int .i64 b.z))) (by kernel_rfl) (SF.out _ F.out.drew) (fun hHeld => ?_)
    refine takeAt (i := 0) (d := (some 93)) (v := (.agg #[.int .i64 a.x, .int .i64 a.y, .int .i64 a.z])) rfl (by kernel_rfl) (by kernel_rfl) (by kernel_rfl) (by kernel_rfl) (fun _ _ _ h => h) (Or.inl ⟨by kernel_rfl, ?_⟩) (by assumption) ?_
    · intro w7 hSw
      try dsimp only at hSw
      go_simp
    simp only [Act.put, List.setIfInBounds_toArray, List.set_cons_zero, List.set_cons_succ]
    refine takeAt (i := 1) (d := (some 94)) (v := (.agg #[.int .i64 b.x, .int .i64 b.y, .int .i64 b.z])) rfl (by kernel_rfl) (by kernel_rfl) (by kernel_rfl) (by kernel_rfl) (fun _ _ _ h => h) (Or.inl ⟨by kernel_rfl, ?_⟩) (by assumption) ?_
    · intro w7 hSw
      try dsimp only at hSw
      go_simp
    simp only [Act.put, List.setIfInBounds_toArray, List.set_cons_zero, List.set_cons_succ]
    refine takeAt (i := 3) (d := (some 96)) (v := (.agg #[.int .i64 b.x, .int .i64 b.y, .int .i64 b.z])) rfl (by kernel_rfl) (by kernel_rfl) (by kernel_rfl) (by kernel_rfl) (fun _ _ _ h => h) (Or.inl ⟨by kernel_rfl, ?_⟩) (by assumption) ?_
    · intro w7 hSw
      try dsimp only at hSw
      go_simp
    simp only [Act.put, List.setIfInBounds_toArray, List.set_cons_zero, List.set_cons_succ]
    refine takeAt (i := 4) (d := (some 97)) (v := (.agg #[.int .i64 a.x, .int .i64 a.y, .int .i64 a.z])) rfl (by kernel_rfl) (by kernel_rfl) (by kernel_rfl) (by kernel_rfl) (fun _ _ _ h => h) (Or.inl ⟨by kernel_rfl, ?_⟩) (by assumption) ?_
    · intro w7 hSw
      try dsimp only at hSw
      go_simp
    simp only [Act.put, List.setIfInBounds_toArray, List.set_cons_zero, List.set_cons_succ]
    refine wpAnyH_ready (rs := [2]) (by kernel_rfl) (by simp) ?_
    refine AllReadyH.cons rfl (fun K hK => ?_) AllReadyH.nil
    go_simp
    refine (M1.out _).mono ?_
    rintro e w6 ⟨rfl, hT⟩
    have F := Lib.hid (F.out.drew.keep hT)
    clear hT
    go_wp2_with fail
    refine hK.out _ _ (SF.out _ F.out) (fun hHeld => ?_)
    clear hK K
    refine wpAnyH_ready (rs := [5]) (by kernel_rfl) (by simp) ?_
    refine AllReadyH.cons rfl (fun K hK => ?_) AllReadyH.nil
    go_simp
    refine (M2.out _).mono ?_
    rintro e w6 ⟨rfl, hT⟩
    have F := Lib.hid (F.out.keep hT)
    clear hT
    go_wp2_with fail
    refine hK.out _ _ (SF.out _ F.out) (fun hHeld => ?_)
    clear hK K
    refine takeAt (i := 6) (d := (some 99)) (v := (.bool true)) rfl (by kernel_rfl) (by kernel_rfl) (by kernel_rfl) (by kernel_rfl) (fun _ _ _ h => h) (Or.inl ⟨by kernel_rfl, ?_⟩) (by assumption) ?_
    · intro w7 hSw
      try dsimp only at hSw
      go_simp
    simp only [Act.put, List.setIfInBounds_toArray, List.set_cons_zero, List.set_cons_succ]
    refine takeAt (i := 7) (d := (some 100)) (v := (.bool true)) rfl (by kernel_rfl) (by kernel_rfl) (by kernel_rfl) (by kernel_rfl) (fun _ _ _ h => h) (Or.inl ⟨by kernel_rfl, ?_⟩) (by assumption) ?_
    · intro w7 hSw
      try dsimp only at hSw
      go_simp
    simp only [Act.put, List.setIfInBounds_toArray, List.set_cons_zero, List.set_cons_succ]
    refine takeAt (i := 8) (d := (some 101)) (v := undef) rfl (by kernel_rfl) (by kernel_rfl) (by kernel_rfl) (by kernel_rfl) (fun _ _ _ h => h) (Or.inr ⟨by kernel_rfl, rfl⟩) (by assumption) ?_
    simp only [Act.put, List.setIfInBounds_toArray, List.set_cons_zero, List.set_cons_succ]
    refine takeAt (i := 9) (d := (some 102)) (v := undef) rfl (by kernel_rfl) (by kernel_rfl) (by kernel_rfl) (by kernel_rfl) (fun _ _ _ h => h) (Or.inr ⟨by kernel_rfl, rfl⟩) (by assumption) ?_
    simp only [Act.put, List.setIfInBounds_toArray, List.set_cons_zero, List.set_cons_succ]
    refine takeAt (i := 10) (d := (some 103)) (v := undef) rfl (by kernel_rfl) (by kernel_rfl) (by kernel_rfl) (by kernel_rfl) (fun _ _ _ h => h) (Or.inr ⟨by kernel_rfl, rfl⟩) (by assumption) ?_
    simp only [Act.put, List.setIfInBounds_toArray, List.set_cons_zero, List.set_cons_succ]
    refine takeAt (i := 11) (d := (some 104)) (v := undef) rfl (by kernel_rfl) (by kernel_rfl) (by kernel_rfl) (by kernel_rfl) (fun _ _ _ h => h) (Or.inr ⟨by kernel_rfl, rfl⟩) (by assumption) ?_
    simp only [Act.put, List.setIfInBounds_toArray, List.set_cons_zero, List.set_cons_succ]
    refine takeAt (i := 12) (d := (some 105)) (v := undef) rfl (by kernel_rfl) (by kernel_rfl) (by kernel_rfl) (by kernel_rfl) (fun _ _ _ h => h) (Or.inr ⟨by kernel_rfl, rfl⟩) (by assumption) ?_
    simp only [Act.put, List.setIfInBounds_toArray, List.set_cons_zero, List.set_cons_succ]
    refine takeAt (i := 13) (d := (some 106)) (v := undef) rfl (by kernel_rfl) (by kernel_rfl) (by kernel_rfl) (by kernel_rfl) (fun _ _ _ h => h) (Or.inr ⟨by kernel_rfl, rfl⟩) (by assumption) ?_
    simp only [Act.put, List.setIfInBounds_toArray, List.set_cons_zero, List.set_cons_succ]
    refine takeAt (i := 14) (d := (some 107)) (v := undef) rfl (by kernel_rfl) (by kernel_rfl) (by kernel_rfl) (by kernel_rfl) (fun _ _ _ h => h) (Or.inr ⟨by kernel_rfl, rfl⟩) (by assumption) ?_
    simp only [Act.put, List.setIfInBounds_toArray, List.set_cons_zero, List.set_cons_succ]
    refine takeAt (i := 15) (d := (some 108)) (v := undef) rfl (by kernel_rfl) (by kernel_rfl) (by kernel_rfl) (by kernel_rfl) (fun _ _ _ h => h) (Or.inr ⟨by kernel_rfl, rfl⟩) (by assumption) ?_
    simp only [Act.put, List.setIfInBounds_toArray, List.set_cons_zero, List.set_cons_succ]
    refine takeAt (i := 16) (d := (some 109)) (v := undef) rfl (by kernel_rfl) (by kernel_rfl) (by kernel_rfl) (by kernel_rfl) (fun _ _ _ h => h) (Or.inr ⟨by kernel_rfl, rfl⟩) (by assumption) ?_
    simp only [Act.put, List.setIfInBounds_toArray, List.set_cons_zero, List.set_cons_succ]
    refine takeAt (i := 17) (d := (some 110)) (v := (.bool true)) rfl (by kernel_rfl) (by kernel_rfl) (by kernel_rfl) (by kernel_rfl) (fun _ _ _ h => h) (Or.inl ⟨by kernel_rfl, ?_⟩) (by assumption) ?_
    · intro w7 hSw
      try dsimp only at hSw
      go_simp
    simp only [Act.put, List.setIfInBounds_toArray, List.set_cons_zero, List.set_cons_succ]
    refine takeAt (i := 18) (d := (some 13)) (v := (.bool true)) rfl (by kernel_rfl) (by kernel_rfl) (by kernel_rfl) (by kernel_rfl) (fun _ _ _ h => h) (Or.inl ⟨by kernel_rfl, ?_⟩) (by assumption) ?_
    · intro w7 hSw
      try dsimp only at hSw
      go_simp
    simp only [Act.put, List.setIfInBounds_toArray, List.set_cons_zero, List.set_cons_succ]
    refine wpAnyH_done (by kernel_rfl) ?_ _
    refine NoPanic.normal ?_
    obtain ⟨a0, a1, a2⟩ := F.out.three 0 rfl; obtain ⟨b0, b1, b2⟩ := F.out.three 1 rfl; obtain ⟨c0, c1, c2⟩ := F.out.three 2 rfl; obtain ⟨d0, d1, d2⟩ := F.out.three 3 rfl
    cases l3 <;> cases l4
    all_goals
      go_wp2_with (first
        | (go_at_call 16; (first | (with_reducible refine (M1.out _).mono ?_) | (with_reducible refine (M3.out _).mono ?_) | (with_reducible refine (M4.out _).mono ?_)); rintro e w6 ⟨rfl, hT⟩; have F := Lib.hid (F.out.keep hT); clear hT a0 a1 a2 b0 b1 b2 c0 c1 c2 d0 d1 d2; obtain ⟨a0, a1, a2⟩ := F.out.three 0 rfl; obtain ⟨b0, b1, b2⟩ := F.out.three 1 rfl; obtain ⟨c0, c1, c2⟩ := F.out.three 2 rfl; obtain ⟨d0, d1, d2⟩ := F.out.three 3 rfl))
      first
        | (go_ret; exact ⟨rfl, F.out.t⟩)
        | exact absurd (E2.out (by simp) (by simp)) (by simp)
  · clear E1 E1' EP
    refine wp_region_noPanic ?_
    refine wp_region_held_drew (S := (fun w6 => (w6.cell? ⟨w2.heap.size, 0, none⟩ = some (.int .i64 a.x) ∧ w6.cell? ⟨w2.heap.size, 1, none⟩ = some (.int .i64 a.y) ∧ w6.cell? ⟨w2.heap.size, 2, none⟩ = some (.int .i64 a.z)) ∧ w6.cell? ⟨w3.heap.size, 0, none⟩ = some (.int .i64 b.x) ∧ w6.cell? ⟨w3.heap.size, 1, none⟩ = some (.int .i64 b.y) ∧ w6.cell? ⟨w3.heap.size, 2, none⟩ = some (.int .i64 b.z))) (by kernel_rfl) (SF.out _ F.out.drew) (fun hHeld => ?_)
    refine takeAt (i := 0) (d := (some 93)) (v := (.agg #[.int .i64 a.x, .int .i64 a.y, .int .i64 a.z])) rfl (by kernel_rfl) (by kernel_rfl) (by kernel_rfl) (by kernel_rfl) (fun _ _ _ h => h) (Or.inl ⟨by kernel_rfl, ?_⟩) (by assumption) ?_
    · intro w7 hSw
      try dsimp only at hSw
      go_simp
    simp only [Act.put, List.setIfInBounds_toArray, List.set_cons_zero, List.set_cons_succ]
    refine takeAt (i := 1) (d := (some 94)) (v := (.agg #[.int .i64 b.x, .int .i64 b.y, .int .i64 b.z])) rfl (by kernel_rfl) (by kernel_rfl) (by kernel_rfl) (by kernel_rfl) (fun _ _ _ h => h) (Or.inl ⟨by kernel_rfl, ?_⟩) (by assumption) ?_
    · intro w7 hSw
      try dsimp only at hSw
      go_simp
    simp only [Act.put, List.setIfInBounds_toArray, List.set_cons_zero, List.set_cons_succ]
    refine takeAt (i := 3) (d := (some 96)) (v := (.agg #[.int .i64 b.x, .int .i64 b.y, .int .i64 b.z])) rfl (by kernel_rfl) (by kernel_rfl) (by kernel_rfl) (by kernel_rfl) (fun _ _ _ h => h) (Or.inl ⟨by kernel_rfl, ?_⟩) (by assumption) ?_
    · intro w7 hSw
      try dsimp only at hSw
      go_simp
    simp only [Act.put, List.setIfInBounds_toArray, List.set_cons_zero, List.set_cons_succ]
    refine takeAt (i := 4) (d := (some 97)) (v := (.agg #[.int .i64 a.x, .int .i64 a.y, .int .i64 a.z])) rfl (by kernel_rfl) (by kernel_rfl) (by kernel_rfl) (by kernel_rfl) (fun _ _ _ h => h) (Or.inl ⟨by kernel_rfl, ?_⟩) (by assumption) ?_
    · intro w7 hSw
      try dsimp only at hSw
      go_simp
    simp only [Act.put, List.setIfInBounds_toArray, List.set_cons_zero, List.set_cons_succ]
    refine wpAnyH_ready (rs := [2]) (by kernel_rfl) (by simp) ?_
    refine AllReadyH.cons rfl (fun K hK => ?_) AllReadyH.nil
    go_simp
    refine (M1.out _).mono ?_
    rintro e w6 ⟨rfl, hT⟩
    have F := Lib.hid (F.out.drew.keep hT)
    clear hT
    go_wp2_with fail
    refine hK.out _ _ (SF.out _ F.out) (fun hHeld => ?_)
    clear hK K
    refine wpAnyH_ready (rs := [5]) (by kernel_rfl) (by simp) ?_
    refine AllReadyH.cons rfl (fun K hK => ?_) AllReadyH.nil
    go_simp
    refine (M2.out _).mono ?_
    rintro e w6 ⟨rfl, hT⟩
    have F := Lib.hid (F.out.keep hT)
    clear hT
    go_wp2_with fail
    refine hK.out _ _ (SF.out _ F.out) (fun hHeld => ?_)
    clear hK K
    refine takeAt (i := 6) (d := (some 99)) (v := (.bool true)) rfl (by kernel_rfl) (by kernel_rfl) (by kernel_rfl) (by kernel_rfl) (fun _ _ _ h => h) (Or.inl ⟨by kernel_rfl, ?_⟩) (by assumption) ?_
    · intro w7 hSw
      try dsimp only at hSw
      go_simp
    simp only [Act.put, List.setIfInBounds_toArray, List.set_cons_zero, List.set_cons_succ]
    refine takeAt (i := 7) (d := (some 100)) (v := (.bool true)) rfl (by kernel_rfl) (by kernel_rfl) (by kernel_rfl) (by kernel_rfl) (fun _ _ _ h => h) (Or.inl ⟨by kernel_rfl, ?_⟩) (by assumption) ?_
    · intro w7 hSw
      try dsimp only at hSw
      go_simp
    simp only [Act.put, List.setIfInBounds_toArray, List.set_cons_zero, List.set_cons_succ]
    refine takeAt (i := 8) (d := (some 101)) (v := undef) rfl (by kernel_rfl) (by kernel_rfl) (by kernel_rfl) (by kernel_rfl) (fun _ _ _ h => h) (Or.inr ⟨by kernel_rfl, rfl⟩) (by assumption) ?_
    simp only [Act.put, List.setIfInBounds_toArray, List.set_cons_zero, List.set_cons_succ]
    refine takeAt (i := 9) (d := (some 102)) (v := undef) rfl (by kernel_rfl) (by kernel_rfl) (by kernel_rfl) (by kernel_rfl) (fun _ _ _ h => h) (Or.inr ⟨by kernel_rfl, rfl⟩) (by assumption) ?_
    simp only [Act.put, List.setIfInBounds_toArray, List.set_cons_zero, List.set_cons_succ]
    refine takeAt (i := 10) (d := (some 103)) (v := undef) rfl (by kernel_rfl) (by kernel_rfl) (by kernel_rfl) (by kernel_rfl) (fun _ _ _ h => h) (Or.inr ⟨by kernel_rfl, rfl⟩) (by assumption) ?_
    simp only [Act.put, List.setIfInBounds_toArray, List.set_cons_zero, List.set_cons_succ]
    refine takeAt (i := 11) (d := (some 104)) (v := undef) rfl (by kernel_rfl) (by kernel_rfl) (by kernel_rfl) (by kernel_rfl) (fun _ _ _ h => h) (Or.inr ⟨by kernel_rfl, rfl⟩) (by assumption) ?_
    simp only [Act.put, List.setIfInBounds_toArray, List.set_cons_zero, List.set_cons_succ]
    refine takeAt (i := 12) (d := (some 105)) (v := undef) rfl (by kernel_rfl) (by kernel_rfl) (by kernel_rfl) (by kernel_rfl) (fun _ _ _ h => h) (Or.inr ⟨by kernel_rfl, rfl⟩) (by assumption) ?_
    simp only [Act.put, List.setIfInBounds_toArray, List.set_cons_zero, List.set_cons_succ]
    refine takeAt (i := 13) (d := (some 106)) (v := undef) rfl (by kernel_rfl) (by kernel_rfl) (by kernel_rfl) (by kernel_rfl) (fun _ _ _ h => h) (Or.inr ⟨by kernel_rfl, rfl⟩) (by assumption) ?_
    simp only [Act.put, List.setIfInBounds_toArray, List.set_cons_zero, List.set_cons_succ]
    refine takeAt (i := 14) (d := (some 107)) (v := undef) rfl (by kernel_rfl) (by kernel_rfl) (by kernel_rfl) (by kernel_rfl) (fun _ _ _ h => h) (Or.inr ⟨by kernel_rfl, rfl⟩) (by assumption) ?_
    simp only [Act.put, List.setIfInBounds_toArray, List.set_cons_zero, List.set_cons_succ]
    refine takeAt (i := 15) (d := (some 108)) (v := undef) rfl (by kernel_rfl) (by kernel_rfl) (by kernel_rfl) (by kernel_rfl) (fun _ _ _ h => h) (Or.inr ⟨by kernel_rfl, rfl⟩) (by assumption) ?_
    simp only [Act.put, List.setIfInBounds_toArray, List.set_cons_zero, List.set_cons_succ]
    refine takeAt (i := 16) (d := (some 109)) (v := undef) rfl (by kernel_rfl) (by kernel_rfl) (by kernel_rfl) (by kernel_rfl) (fun _ _ _ h => h) (Or.inr ⟨by kernel_rfl, rfl⟩) (by assumption) ?_
    simp only [Act.put, List.setIfInBounds_toArray, List.set_cons_zero, List.set_cons_succ]
    refine takeAt (i := 17) (d := (some 110)) (v := (.bool true)) rfl (by kernel_rfl) (by kernel_rfl) (by kernel_rfl) (by kernel_rfl) (fun _ _ _ h => h) (Or.inl ⟨by kernel_rfl, ?_⟩) (by assumption) ?_
    · intro w7 hSw
      try dsimp only at hSw
      go_simp
    simp only [Act.put, List.setIfInBounds_toArray, List.set_cons_zero, List.set_cons_succ]
    refine takeAt (i := 18) (d := (some 13)) (v := (.bool true)) rfl (by kernel_rfl) (by kernel_rfl) (by kernel_rfl) (by kernel_rfl) (fun _ _ _ h => h) (Or.inl ⟨by kernel_rfl, ?_⟩) (by assumption) ?_
    · intro w7 hSw
      try dsimp only at hSw
      go_simp
    simp only [Act.put, List.setIfInBounds_toArray, List.set_cons_zero, List.set_cons_succ]
    refine wpAnyH_done (by kernel_rfl) ?_ _
    refine NoPanic.normal ?_
    obtain ⟨a0, a1, a2⟩ := F.out.three 0 rfl; obtain ⟨b0, b1, b2⟩ := F.out.three 1 rfl; obtain ⟨c0, c1, c2⟩ := F.out.three 2 rfl; obtain ⟨d0, d1, d2⟩ := F.out.three 3 rfl
    cases l3 <;> cases l4
    all_goals
      go_wp2_with (first
        | (go_at_call 16; (first | (with_reducible refine (M1.out _).mono ?_) | (with_reducible refine (M3.out _).mono ?_) | (with_reducible refine (M4.out _).mono ?_)); rintro e w6 ⟨rfl, hT⟩; have F := Lib.hid (F.out.keep hT); clear hT a0 a1 a2 b0 b1 b2 c0 c1 c2 d0 d1 d2; obtain ⟨a0, a1, a2⟩ := F.out.three 0 rfl; obtain ⟨b0, b1, b2⟩ := F.out.three 1 rfl; obtain ⟨c0, c1, c2⟩ := F.out.three 2 rfl; obtain ⟨d0, d1, d2⟩ := F.out.three 3 rfl))
      first
        | (go_ret; exact ⟨rfl, F.out.t⟩)
        | exact absurd (E2.out (by simp) (by simp)) (by simp)
  · rcases E1' with h | ⟨h, _⟩ <;> exact absurd h (by decide)

end Go.Proofs.YtfcdggliongkkaaDoor
