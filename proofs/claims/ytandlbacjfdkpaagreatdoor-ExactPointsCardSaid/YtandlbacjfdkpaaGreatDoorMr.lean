/- The reference's Meet. -/
import Derived.Test.YtandlbacjfdkpaaGreatDoorAp
namespace Go.Proofs.YtandlbacjfdkpaaGreatDoor
open Go Go.RowKit Dg

theorem own_shape {w : World} {base n : Nat} {v : Value} {xs : List Value} {e : TypeId} {size : Nat} (h : w.ownsRow base e size v n xs) : ∃ A c, v = .slice A n c := by
  rcases h.2 with ⟨q, k⟩ | ⟨g, cap, cur, k1, _⟩
  · exact ⟨none, 0, by rw [q, k]⟩
  · exact ⟨_, _, k1⟩
theorem own_pos {w : World} {base n : Nat} {v : Value} {xs : List Value} {e : TypeId} {size : Nat} (h : w.ownsRow base e size v n xs) (hn : 0 < n) : ∃ g cap cur, v = .slice (some ⟨g, 0, none⟩) n cap ∧ base ≤ g ∧ w.heap[g]? = some (.cells cur e (0, 0)) ∧ cur.toList.take (n * size) = xs := by
  rcases h.2 with ⟨q, k⟩ | ⟨g, cap, cur, k1, k2, k3, k4, k5, k6, k7⟩
  · omega
  · exact ⟨g, cap, cur, k1, k2, k3, k7⟩
theorem take_get {cur : Array Value} {n j : Nat} {xs : List Value} {v : Value} (h : cur.toList.take n = xs) (hj : xs[j]? = some v) : cur[j]? = some v := by
  rw [← h] at hj
  rw [List.getElem?_take] at hj
  split at hj
  · rw [← hj]; simp
  · cases hj
theorem len_own (a b c p q r : P3) : (bothI a b c p q r).length + (ownI a b c p q r).length = 3 := by
  unfold bothI ownI
  cases h1 : isC p q r a <;> cases h2 : isC p q r b <;> cases h3 : isC p q r c <;> simp [h1, h2, h3]
theorem mem_both {a b c p q r x : P3} (ha : a.Ok) (hb : b.Ok) (hc : c.Ok) (h : x ∈ bothI a b c p q r) : x.Ok := by
  have := (List.mem_filter.1 h).1
  simp only [List.mem_cons, List.not_mem_nil, or_false] at this
  rcases this with e | e | e <;> rw [e] <;> assumption
theorem mem_own {a b c p q r x : P3} (ha : a.Ok) (hb : b.Ok) (hc : c.Ok) (h : x ∈ ownI a b c p q r) : x.Ok := by
  have := (List.mem_filter.1 h).1
  simp only [List.mem_cons, List.not_mem_nil, or_false] at this
  rcases this with e | e | e <;> rw [e] <;> assumption
theorem list_one {l : List P3} (h : l.length = 1) : ∃ x, l = [x] := by
  match l, h with
  | [x], _ => exact ⟨x, rfl⟩
theorem list_two {l : List P3} (h : l.length = 2) : ∃ x y, l = [x, y] := by
  match l, h with
  | [x, y], _ => exact ⟨x, y, rfl⟩
theorem eqlT3 (p q : P3) (w : World) : (binOp .eql 22 (.agg #[.int .i64 p.x, .int .i64 p.y, .int .i64 p.z]) (.agg #[.int .i64 q.x, .int .i64 q.y, .int .i64 q.z])).run Tryz.prog w = .ok (.bool (ptE p q)) w := by
  rw [run_eql_struct, eqArr3r]; rfl

theorem takeAt {P : Program} {ops : Array Oper} {Q : Exit → Act → World → Prop} {md : Region.Mode} {S : World → Prop} {i : Nat} {oi : Oper} {d : Option Nat} {v : Value} {fuel : Nat} {listed : Array Bool} {a : Act} {w : World} (hi : ops[i]? = some oi) (hd : oi.dst = d)
    (hs : Region.noSelect ops = true) (hf : Region.free md ops listed i = true) (hr : (Region.ready md ops listed).contains i = true)
    (hQ : ∀ c a w, Q (.panic c) (a.put oi.dst v) w → Q (.panic c) a w) (hy : YieldsIf P ops S oi v a) (hS : S w)
    (h : wpAnyH P md ops Q S fuel (listed.setIfInBounds i true) (a.put d v) w) : wpAnyH P md ops Q S (fuel + 1) listed a w := by
  subst hd; exact wpAnyH_take hi hs hf hr hQ hy hS h

set_option maxHeartbeats 16000000 in
set_option maxRecDepth 100000 in
theorem rMeet (a b c p q r : P3) (ha : a.Ok) (hb : b.Ok) (hc : c.Ok) (hp : p.Ok) (hq : q.Ok) (hr : r.Ok) (w : World) :
    Calls Tryz.prog 15 #[(.agg #[.int .i64 a.x, .int .i64 a.y, .int .i64 a.z, .int .i64 b.x, .int .i64 b.y, .int .i64 b.z, .int .i64 c.x, .int .i64 c.y, .int .i64 c.z]), (.agg #[.int .i64 p.x, .int .i64 p.y, .int .i64 p.z, .int .i64 q.x, .int .i64 q.y, .int .i64 q.z, .int .i64 r.x, .int .i64 r.y, .int .i64 r.z])] w fun e w' => e = .returned (.bool (rMeetI a b c p q r)) ∧ Tch [] w w' := by
  obtain ⟨o, ho⟩ : ∃ v', v' = rMeetI a b c p q r := ⟨_, rfl⟩
  rw [← ho]
  obtain ⟨LB, hLB⟩ : ∃ v', v' = bothI a b c p q r := ⟨_, rfl⟩
  obtain ⟨LO, hLO⟩ : ∃ v', v' = ownI a b c p q r := ⟨_, rfl⟩
  obtain ⟨LT, hLT⟩ : ∃ v', v' = ownI p q r a b c := ⟨_, rfl⟩
  obtain ⟨LX, hLX⟩ : ∃ v', v' = bothI p q r a b c := ⟨_, rfl⟩
  obtain ⟨f, hf⟩ : ∃ v', v' = flatI a b c := ⟨_, rfl⟩
  obtain ⟨g, hg⟩ : ∃ v', v' = flatI p q r := ⟨_, rfl⟩
  obtain ⟨m, hm⟩ : ∃ v', v' = cmnI a b c p q r := ⟨_, rfl⟩
  have OB : Hid (∀ x ∈ LB, x.Ok) := Lib.hid (fun x h => by rw [hLB] at h; exact mem_both ha hb hc h)
  have OO : Hid (∀ x ∈ LO, x.Ok) := Lib.hid (fun x h => by rw [hLO] at h; exact mem_own ha hb hc h)
  have OT : Hid (∀ x ∈ LT, x.Ok) := Lib.hid (fun x h => by rw [hLT] at h; exact mem_own hp hq hr h)
  have OK6 := Lib.hid (And.intro ha (And.intro hb (And.intro hc (And.intro hp (And.intro hq hr)))))
  have N1 : LB.length + LO.length = 3 := by rw [hLB, hLO]; exact len_own a b c p q r
  have N2 : f = false → g = false → LB.length + LT.length = 3 := fun k l => by
    have e := len_own p q r a b c
    rw [both_len, com_swap3 (hf.symm.trans k) (hg.symm.trans l), ← both_len] at e
    rw [hLB, hLT]; exact e
  have HV : Hid (o = if LB.length = 0 ∨ f = true ∨ g = true then m else if LB.length = 1 then (touchI (at0 LO) (at1 LO) p q r || touchI (at0 LT) (at1 LT) a b c) else if LB.length = 2 then ((detI (at0 LB) (at1 LB) (at0 LO) (at0 LT)).sign == 0 && ptE (nmsI (at0 LB) (at1 LB) (at0 LO)) (nmsI (at0 LB) (at1 LB) (at0 LT))) else true) := Lib.hid (by
    rw [ho]; unfold rMeetI
    rw [← hLB, ← hLO, ← hLT, ← hf, ← hg, ← hm])
  have CA : Hid (∀ w1, Calls Tryz.prog 41 #[(.agg #[.int .i64 a.x, .int .i64 a.y, .int .i64 a.z, .int .i64 b.x, .int .i64 b.y, .int .i64 b.z, .int .i64 c.x, .int .i64 c.y, .int .i64 c.z]), (.agg #[.int .i64 p.x, .int .i64 p.y, .int .i64 p.z, .int .i64 q.x, .int .i64 q.y, .int .i64 q.z, .int .i64 r.x, .int .i64 r.y, .int .i64 r.z])] w1 (ApPost w1 LB LO)) := Lib.hid (fun w1 => by rw [hLB, hLO]; exact rApart a b c p q r w1)
  have CB : Hid (∀ w1, Calls Tryz.prog 41 #[(.agg #[.int .i64 p.x, .int .i64 p.y, .int .i64 p.z, .int .i64 q.x, .int .i64 q.y, .int .i64 q.z, .int .i64 r.x, .int .i64 r.y, .int .i64 r.z]), (.agg #[.int .i64 a.x, .int .i64 a.y, .int .i64 a.z, .int .i64 b.x, .int .i64 b.y, .int .i64 b.z, .int .i64 c.x, .int .i64 c.y, .int .i64 c.z])] w1 (ApPost w1 LX LT)) := Lib.hid (fun w1 => by rw [hLX, hLT]; exact rApart p q r a b c w1)
  have C3 : Hid (∀ w1, Calls Tryz.prog 26 #[(.agg #[.int .i64 a.x, .int .i64 a.y, .int .i64 a.z, .int .i64 b.x, .int .i64 b.y, .int .i64 b.z, .int .i64 c.x, .int .i64 c.y, .int .i64 c.z])] w1 fun e w' => e = .returned (.bool f) ∧ Tch [] w1 w') := Lib.hid (fun w1 => by rw [hf]; exact rFlat a b c ha hb hc w1)
  have C4 : Hid (∀ w1, Calls Tryz.prog 26 #[(.agg #[.int .i64 p.x, .int .i64 p.y, .int .i64 p.z, .int .i64 q.x, .int .i64 q.y, .int .i64 q.z, .int .i64 r.x, .int .i64 r.y, .int .i64 r.z])] w1 fun e w' => e = .returned (.bool g) ∧ Tch [] w1 w') := Lib.hid (fun w1 => by rw [hg]; exact rFlat p q r hp hq hr w1)
  have C5 : Hid (∀ w1, Calls Tryz.prog 42 #[(.agg #[.int .i64 a.x, .int .i64 a.y, .int .i64 a.z, .int .i64 b.x, .int .i64 b.y, .int .i64 b.z, .int .i64 c.x, .int .i64 c.y, .int .i64 c.z]), (.agg #[.int .i64 p.x, .int .i64 p.y, .int .i64 p.z, .int .i64 q.x, .int .i64 q.y, .int .i64 q.z, .int .i64 r.x, .int .i64 r.y, .int .i64 r.z])] w1 fun e w' => e = .returned (.bool m) ∧ Tch [] w1 w') := Lib.hid (fun w1 => by rw [hm]; exact rCommon a b c p q r ha hb hc hp hq hr w1)
  have N12 := Lib.hid (And.intro N1 N2)
  clear ho hLB hLO hLT hLX hf hg hm ha hb hc hp hq hr N1 N2
  have F : Hid (Fr w ((w.alloc (.cells #[.int .i64 a.x, .int .i64 a.y, .int .i64 a.z, .int .i64 b.x, .int .i64 b.y, .int .i64 b.z, .int .i64 c.x, .int .i64 c.y, .int .i64 c.z] 33)).alloc (.cells #[.int .i64 p.x, .int .i64 p.y, .int .i64 p.z, .int .i64 q.x, .int .i64 q.y, .int .i64 q.z, .int .i64 r.x, .int .i64 r.y, .int .i64 r.z] 33)) [(w.heap.size, .cells #[.int .i64 a.x, .int .i64 a.y, .int .i64 a.z, .int .i64 b.x, .int .i64 b.y, .int .i64 b.z, .int .i64 c.x, .int .i64 c.y, .int .i64 c.z] 33 (0, 0)), (w.heap.size + 1, .cells #[.int .i64 p.x, .int .i64 p.y, .int .i64 p.z, .int .i64 q.x, .int .i64 q.y, .int .i64 q.z, .int .i64 r.x, .int .i64 r.y, .int .i64 r.z] 33 (0, 0))]) := Lib.hid (((Fr.nil w).add (.cells #[.int .i64 a.x, .int .i64 a.y, .int .i64 a.z, .int .i64 b.x, .int .i64 b.y, .int .i64 b.z, .int .i64 c.x, .int .i64 c.y, .int .i64 c.z] 33) (w.heap.size) rfl).add (.cells #[.int .i64 p.x, .int .i64 p.y, .int .i64 p.z, .int .i64 q.x, .int .i64 q.y, .int .i64 q.z, .int .i64 r.x, .int .i64 r.y, .int .i64 r.z] 33) (w.heap.size + 1) (by simp))
  obtain ⟨⟨a0, a1, a2⟩, ⟨a3, a4, a5⟩, a6, a7, a8⟩ := F.out.nine 0 rfl; obtain ⟨⟨b0, b1, b2⟩, ⟨b3, b4, b5⟩, b6, b7, b8⟩ := F.out.nine 1 rfl
  go_enter Tryz.func15, Tryz.ntmps15
  go_wp2_with fail
  refine (CA.out _).mono ?_
  rintro e w1 ⟨vb, vo, rfl, Z, hT⟩
  have F := Lib.hid (F.out.keep hT)
  have Z := Lib.hid Z
  have HS := Lib.hid F.out.t.size
  clear hT CA a0 a1 a2 a3 a4 a5 a6 a7 a8 b0 b1 b2 b3 b4 b5 b6 b7 b8
  obtain ⟨⟨a0, a1, a2⟩, ⟨a3, a4, a5⟩, a6, a7, a8⟩ := F.out.nine 0 rfl; obtain ⟨⟨b0, b1, b2⟩, ⟨b3, b4, b5⟩, b6, b7, b8⟩ := F.out.nine 1 rfl
  go_wp2_with fail
  refine (CB.out _).mono ?_
  rintro e w2 ⟨vx, vt, rfl, Y, hT⟩
  have F := Lib.hid (F.out.keep hT)
  have Z := Lib.hid (Z.out.tch hT)
  have Y := Lib.hid Y
  clear hT CB a0 a1 a2 a3 a4 a5 a6 a7 a8 b0 b1 b2 b3 b4 b5 b6 b7 b8
  obtain ⟨⟨a0, a1, a2⟩, ⟨a3, a4, a5⟩, a6, a7, a8⟩ := F.out.nine 0 rfl; obtain ⟨⟨b0, b1, b2⟩, ⟨b3, b4, b5⟩, b6, b7, b8⟩ := F.out.nine 1 rfl
  go_wp2_with fail
  refine (C3.out _).mono ?_
  rintro e w3 ⟨rfl, hT⟩
  have F := Lib.hid (F.out.keep hT)
  have Z := Lib.hid (Z.out.tch hT)
  have Y := Lib.hid (Y.out.tch hT)
  clear hT C3 a0 a1 a2 a3 a4 a5 a6 a7 a8 b0 b1 b2 b3 b4 b5 b6 b7 b8
  obtain ⟨⟨a0, a1, a2⟩, ⟨a3, a4, a5⟩, a6, a7, a8⟩ := F.out.nine 0 rfl; obtain ⟨⟨b0, b1, b2⟩, ⟨b3, b4, b5⟩, b6, b7, b8⟩ := F.out.nine 1 rfl
  go_wp2_with fail
  refine (C4.out _).mono ?_
  rintro e w4 ⟨rfl, hT⟩
  have F := Lib.hid (F.out.keep hT)
  have Z := Lib.hid (Z.out.tch hT)
  have Y := Lib.hid (Y.out.tch hT)
  clear hT C4 a0 a1 a2 a3 a4 a5 a6 a7 a8 b0 b1 b2 b3 b4 b5 b6 b7 b8
  obtain ⟨ZA, zc, hz⟩ := own_shape Z.out.b
  subst hz
  obtain ⟨nb, hnb⟩ : ∃ n, n = LB.length := ⟨_, rfl⟩
  rw [← hnb]
  have HN := Lib.hid hnb
  have hnb3 : nb ≤ 3 := by have := N12.out.1; omega
  clear hnb
  obtain ⟨⟨a0, a1, a2⟩, ⟨a3, a4, a5⟩, a6, a7, a8⟩ := F.out.nine 0 rfl; obtain ⟨⟨b0, b1, b2⟩, ⟨b3, b4, b5⟩, b6, b7, b8⟩ := F.out.nine 1 rfl
  by_cases h0 : nb = 0
  · subst h0
    have HW : Hid (o = m) := Lib.hid (by rw [HV.out, if_pos (.inl HN.out.symm)])
    go_wp2_with fail
    refine (C5.out _).mono ?_
    rintro e w5 ⟨rfl, hT⟩
    have F := Lib.hid (F.out.keep hT)
    clear hT a0 a1 a2 a3 a4 a5 a6 a7 a8 b0 b1 b2 b3 b4 b5 b6 b7 b8
    go_wp2
    go_ret
    exact ⟨by rw [HW.out]; rfl, F.out.t⟩
  have e0 : ((nb : Int) == 0) = false := beq_eq_false_iff_ne.2 (by omega)
  cases f
  case true =>
    have HW : Hid (o = m) := Lib.hid (by rw [HV.out, if_pos (.inr (.inl rfl))])
    go_wp2_with fail
    refine (C5.out _).mono ?_
    rintro e w5 ⟨rfl, hT⟩
    have F := Lib.hid (F.out.keep hT)
    clear hT a0 a1 a2 a3 a4 a5 a6 a7 a8 b0 b1 b2 b3 b4 b5 b6 b7 b8
    go_wp2
    go_ret
    exact ⟨by rw [HW.out]; rfl, F.out.t⟩
  cases g
  case true =>
    have HW : Hid (o = m) := Lib.hid (by rw [HV.out, if_pos (.inr (.inr rfl))])
    go_wp2_with fail
    refine (C5.out _).mono ?_
    rintro e w5 ⟨rfl, hT⟩
    have F := Lib.hid (F.out.keep hT)
    clear hT a0 a1 a2 a3 a4 a5 a6 a7 a8 b0 b1 b2 b3 b4 b5 b6 b7 b8
    go_wp2
    go_ret
    exact ⟨by rw [HW.out]; rfl, F.out.t⟩
  have HV1 : Hid (o = if LB.length = 1 then (touchI (at0 LO) (at1 LO) p q r || touchI (at0 LT) (at1 LT) a b c) else if LB.length = 2 then ((detI (at0 LB) (at1 LB) (at0 LO) (at0 LT)).sign == 0 && ptE (nmsI (at0 LB) (at1 LB) (at0 LO)) (nmsI (at0 LB) (at1 LB) (at0 LT))) else true) := Lib.hid (by
    rw [HV.out, if_neg (fun k => by rcases k with k | k | k; exact h0 (by rw [HN.out]; exact k); cases k; cases k)])
  have N2 := N12.out.2 rfl rfl
  have N1 := N12.out.1
  clear HV C5 N12
  rcases (show nb = 3 ∨ nb = 1 ∨ nb = 2 by omega) with rfl | rfl | rfl
  · have HW : Hid (o = true) := Lib.hid (by rw [HV1.out, if_neg (by rw [← HN.out]; decide), if_neg (by rw [← HN.out]; decide)])
    go_wp2
    go_ret
    exact ⟨by rw [HW.out]; rfl, F.out.t⟩
  · obtain ⟨y1, y2, rfl⟩ := list_two (l := LO) (by have := HN.out; omega)
    obtain ⟨u1, u2, rfl⟩ := list_two (l := LT) (by have := HN.out; omega)
    have HV2 : Hid (o = (touchI y1 y2 p q r || touchI u1 u2 a b c)) := Lib.hid (by rw [HV1.out, if_pos HN.out.symm]; rfl)
    obtain ⟨ha, hb, hc, hp, hq, hr⟩ := OK6.out
    have oy1 := OO.out y1 (by simp)
    have oy2 := OO.out y2 (by simp)
    have ou1 := OT.out u1 (by simp)
    have ou2 := OT.out u2 (by simp)
    obtain ⟨x, hx⟩ : ∃ v', v' = touchI y1 y2 p q r := ⟨_, rfl⟩
    obtain ⟨y, hy⟩ : ∃ v', v' = touchI u1 u2 a b c := ⟨_, rfl⟩
    have K1 : Hid (∀ w1, Calls Tryz.prog 13 #[(.agg #[.int .i64 y1.x, .int .i64 y1.y, .int .i64 y1.z]), (.agg #[.int .i64 y2.x, .int .i64 y2.y, .int .i64 y2.z]), (.agg #[.int .i64 p.x, .int .i64 p.y, .int .i64 p.z, .int .i64 q.x, .int .i64 q.y, .int .i64 q.z, .int .i64 r.x, .int .i64 r.y, .int .i64 r.z])] w1 fun e w' => e = .returned (.bool x) ∧ Tch [] w1 w') := Lib.hid (fun w1 => by rw [hx]; exact rTouchT y1 y2 p q r oy1 oy2 hp hq hr w1)
    have K2 : Hid (∀ w1, Calls Tryz.prog 13 #[(.agg #[.int .i64 u1.x, .int .i64 u1.y, .int .i64 u1.z]), (.agg #[.int .i64 u2.x, .int .i64 u2.y, .int .i64 u2.z]), (.agg #[.int .i64 a.x, .int .i64 a.y, .int .i64 a.z, .int .i64 b.x, .int .i64 b.y, .int .i64 b.z, .int .i64 c.x, .int .i64 c.y, .int .i64 c.z])] w1 fun e w' => e = .returned (.bool y) ∧ Tch [] w1 w') := Lib.hid (fun w1 => by rw [hy]; exact rTouchT u1 u2 a b c ou1 ou2 ha hb hc w1)
    rw [← hx, ← hy] at HV2
    clear hx hy ha hb hc hp hq hr oy1 oy2 ou1 ou2 OK6 OO OT OB HV1 N1 N2 h0
    obtain ⟨go, co, uo, ho1, -, ho2, ho3⟩ := own_pos Z.out.o (by simp)
    subst ho1
    obtain ⟨gt, ct, ut, ht1, -, ht2, ht3⟩ := own_pos Y.out.o (by simp)
    subst ht1
    obtain ⟨l, G, SF0⟩ : ∃ l, Fr w w4 l ∧ (∀ w9, Fr w w9 l → ((w9.cell? ⟨w.heap.size, 0, none⟩ = some (.int .i64 a.x) ∧ w9.cell? ⟨w.heap.size, 1, none⟩ = some (.int .i64 a.y) ∧ w9.cell? ⟨w.heap.size, 2, none⟩ = some (.int .i64 a.z)) ∧ (w9.cell? ⟨w.heap.size, 3, none⟩ = some (.int .i64 b.x) ∧ w9.cell? ⟨w.heap.size, 4, none⟩ = some (.int .i64 b.y) ∧ w9.cell? ⟨w.heap.size, 5, none⟩ = some (.int .i64 b.z)) ∧ w9.cell? ⟨w.heap.size, 6, none⟩ = some (.int .i64 c.x) ∧ w9.cell? ⟨w.heap.size, 7, none⟩ = some (.int .i64 c.y) ∧ w9.cell? ⟨w.heap.size, 8, none⟩ = some (.int .i64 c.z)) ∧ ((w9.cell? ⟨w.heap.size + 1, 0, none⟩ = some (.int .i64 p.x) ∧ w9.cell? ⟨w.heap.size + 1, 1, none⟩ = some (.int .i64 p.y) ∧ w9.cell? ⟨w.heap.size + 1, 2, none⟩ = some (.int .i64 p.z)) ∧ (w9.cell? ⟨w.heap.size + 1, 3, none⟩ = some (.int .i64 q.x) ∧ w9.cell? ⟨w.heap.size + 1, 4, none⟩ = some (.int .i64 q.y) ∧ w9.cell? ⟨w.heap.size + 1, 5, none⟩ = some (.int .i64 q.z)) ∧ w9.cell? ⟨w.heap.size + 1, 6, none⟩ = some (.int .i64 r.x) ∧ w9.cell? ⟨w.heap.size + 1, 7, none⟩ = some (.int .i64 r.y) ∧ w9.cell? ⟨w.heap.size + 1, 8, none⟩ = some (.int .i64 r.z)) ∧ (w9.cell? ⟨go, 0, none⟩ = some (.int .i64 y1.x) ∧ w9.cell? ⟨go, 1, none⟩ = some (.int .i64 y1.y) ∧ w9.cell? ⟨go, 2, none⟩ = some (.int .i64 y1.z) ∧ w9.cell? ⟨go, 3, none⟩ = some (.int .i64 y2.x) ∧ w9.cell? ⟨go, 4, none⟩ = some (.int .i64 y2.y) ∧ w9.cell? ⟨go, 5, none⟩ = some (.int .i64 y2.z)) ∧ (w9.cell? ⟨gt, 0, none⟩ = some (.int .i64 u1.x) ∧ w9.cell? ⟨gt, 1, none⟩ = some (.int .i64 u1.y) ∧ w9.cell? ⟨gt, 2, none⟩ = some (.int .i64 u1.z) ∧ w9.cell? ⟨gt, 3, none⟩ = some (.int .i64 u2.x) ∧ w9.cell? ⟨gt, 4, none⟩ = some (.int .i64 u2.y) ∧ w9.cell? ⟨gt, 5, none⟩ = some (.int .i64 u2.z))) :=
      ⟨_, (F.out.take (g := go) ho2 (by have h := (own_block Z.out.o (k := go) rfl).1; simp at h; omega)).take (g := gt) ht2 (by have h := (own_block Y.out.o (k := gt) rfl).1; have := HS.out; omega), fun w9 h => ⟨h.nine 0 rfl, h.nine 1 rfl, ⟨h.cell 2 0 rfl (take_get ho3 rfl), h.cell 2 1 rfl (take_get ho3 rfl), h.cell 2 2 rfl (take_get ho3 rfl), h.cell 2 3 rfl (take_get ho3 rfl), h.cell 2 4 rfl (take_get ho3 rfl), h.cell 2 5 rfl (take_get ho3 rfl)⟩, ⟨h.cell 3 0 rfl (take_get ht3 rfl), h.cell 3 1 rfl (take_get ht3 rfl), h.cell 3 2 rfl (take_get ht3 rfl), h.cell 3 3 rfl (take_get ht3 rfl), h.cell 3 4 rfl (take_get ht3 rfl), h.cell 3 5 rfl (take_get ht3 rfl)⟩⟩⟩
    clear F
    have F := Lib.hid G
    have SF := Lib.hid SF0
    clear G SF0 a0 a1 a2 a3 a4 a5 a6 a7 a8 b0 b1 b2 b3 b4 b5 b6 b7 b8
    go_upto_region 9 with (fail)
    go_region_held3 (fun w9 => ((w9.cell? ⟨w.heap.size, 0, none⟩ = some (.int .i64 a.x) ∧ w9.cell? ⟨w.heap.size, 1, none⟩ = some (.int .i64 a.y) ∧ w9.cell? ⟨w.heap.size, 2, none⟩ = some (.int .i64 a.z)) ∧ (w9.cell? ⟨w.heap.size, 3, none⟩ = some (.int .i64 b.x) ∧ w9.cell? ⟨w.heap.size, 4, none⟩ = some (.int .i64 b.y) ∧ w9.cell? ⟨w.heap.size, 5, none⟩ = some (.int .i64 b.z)) ∧ w9.cell? ⟨w.heap.size, 6, none⟩ = some (.int .i64 c.x) ∧ w9.cell? ⟨w.heap.size, 7, none⟩ = some (.int .i64 c.y) ∧ w9.cell? ⟨w.heap.size, 8, none⟩ = some (.int .i64 c.z)) ∧ ((w9.cell? ⟨w.heap.size + 1, 0, none⟩ = some (.int .i64 p.x) ∧ w9.cell? ⟨w.heap.size + 1, 1, none⟩ = some (.int .i64 p.y) ∧ w9.cell? ⟨w.heap.size + 1, 2, none⟩ = some (.int .i64 p.z)) ∧ (w9.cell? ⟨w.heap.size + 1, 3, none⟩ = some (.int .i64 q.x) ∧ w9.cell? ⟨w.heap.size + 1, 4, none⟩ = some (.int .i64 q.y) ∧ w9.cell? ⟨w.heap.size + 1, 5, none⟩ = some (.int .i64 q.z)) ∧ w9.cell? ⟨w.heap.size + 1, 6, none⟩ = some (.int .i64 r.x) ∧ w9.cell? ⟨w.heap.size + 1, 7, none⟩ = some (.int .i64 r.y) ∧ w9.cell? ⟨w.heap.size + 1, 8, none⟩ = some (.int .i64 r.z)) ∧ (w9.cell? ⟨go, 0, none⟩ = some (.int .i64 y1.x) ∧ w9.cell? ⟨go, 1, none⟩ = some (.int .i64 y1.y) ∧ w9.cell? ⟨go, 2, none⟩ = some (.int .i64 y1.z) ∧ w9.cell? ⟨go, 3, none⟩ = some (.int .i64 y2.x) ∧ w9.cell? ⟨go, 4, none⟩ = some (.int .i64 y2.y) ∧ w9.cell? ⟨go, 5, none⟩ = some (.int .i64 y2.z)) ∧ (w9.cell? ⟨gt, 0, none⟩ = some (.int .i64 u1.x) ∧ w9.cell? ⟨gt, 1, none⟩ = some (.int .i64 u1.y) ∧ w9.cell? ⟨gt, 2, none⟩ = some (.int .i64 u1.z) ∧ w9.cell? ⟨gt, 3, none⟩ = some (.int .i64 u2.x) ∧ w9.cell? ⟨gt, 4, none⟩ = some (.int .i64 u2.y) ∧ w9.cell? ⟨gt, 5, none⟩ = some (.int .i64 u2.z))) (first | with_reducible exact SF.out _ F.out | with_reducible exact SF.out _ F.out.drew) (first
      | (go_at_call 13; (with_reducible refine (K1.out _).mono ?_); rintro e w5 ⟨rfl, hT⟩; (first | (with_reducible have F := Lib.hid (F.out.keep hT)) | (have F := Lib.hid (F.out.drew.keep hT))); clear hT)
      | fail)
    all_goals
    go_upto_region 10 with (fail)
    go_region_held3 (fun w9 => ((w9.cell? ⟨w.heap.size, 0, none⟩ = some (.int .i64 a.x) ∧ w9.cell? ⟨w.heap.size, 1, none⟩ = some (.int .i64 a.y) ∧ w9.cell? ⟨w.heap.size, 2, none⟩ = some (.int .i64 a.z)) ∧ (w9.cell? ⟨w.heap.size, 3, none⟩ = some (.int .i64 b.x) ∧ w9.cell? ⟨w.heap.size, 4, none⟩ = some (.int .i64 b.y) ∧ w9.cell? ⟨w.heap.size, 5, none⟩ = some (.int .i64 b.z)) ∧ w9.cell? ⟨w.heap.size, 6, none⟩ = some (.int .i64 c.x) ∧ w9.cell? ⟨w.heap.size, 7, none⟩ = some (.int .i64 c.y) ∧ w9.cell? ⟨w.heap.size, 8, none⟩ = some (.int .i64 c.z)) ∧ ((w9.cell? ⟨w.heap.size + 1, 0, none⟩ = some (.int .i64 p.x) ∧ w9.cell? ⟨w.heap.size + 1, 1, none⟩ = some (.int .i64 p.y) ∧ w9.cell? ⟨w.heap.size + 1, 2, none⟩ = some (.int .i64 p.z)) ∧ (w9.cell? ⟨w.heap.size + 1, 3, none⟩ = some (.int .i64 q.x) ∧ w9.cell? ⟨w.heap.size + 1, 4, none⟩ = some (.int .i64 q.y) ∧ w9.cell? ⟨w.heap.size + 1, 5, none⟩ = some (.int .i64 q.z)) ∧ w9.cell? ⟨w.heap.size + 1, 6, none⟩ = some (.int .i64 r.x) ∧ w9.cell? ⟨w.heap.size + 1, 7, none⟩ = some (.int .i64 r.y) ∧ w9.cell? ⟨w.heap.size + 1, 8, none⟩ = some (.int .i64 r.z)) ∧ (w9.cell? ⟨go, 0, none⟩ = some (.int .i64 y1.x) ∧ w9.cell? ⟨go, 1, none⟩ = some (.int .i64 y1.y) ∧ w9.cell? ⟨go, 2, none⟩ = some (.int .i64 y1.z) ∧ w9.cell? ⟨go, 3, none⟩ = some (.int .i64 y2.x) ∧ w9.cell? ⟨go, 4, none⟩ = some (.int .i64 y2.y) ∧ w9.cell? ⟨go, 5, none⟩ = some (.int .i64 y2.z)) ∧ (w9.cell? ⟨gt, 0, none⟩ = some (.int .i64 u1.x) ∧ w9.cell? ⟨gt, 1, none⟩ = some (.int .i64 u1.y) ∧ w9.cell? ⟨gt, 2, none⟩ = some (.int .i64 u1.z) ∧ w9.cell? ⟨gt, 3, none⟩ = some (.int .i64 u2.x) ∧ w9.cell? ⟨gt, 4, none⟩ = some (.int .i64 u2.y) ∧ w9.cell? ⟨gt, 5, none⟩ = some (.int .i64 u2.z))) (first | with_reducible exact SF.out _ F.out | with_reducible exact SF.out _ F.out.drew) (first
      | (go_at_call 13; (with_reducible refine (K2.out _).mono ?_); rintro e w5 ⟨rfl, hT⟩; (first | (with_reducible have F := Lib.hid (F.out.keep hT)) | (have F := Lib.hid (F.out.drew.keep hT))); clear hT)
      | fail)
    all_goals
    cases x
    all_goals
      go_wp2
      go_ret
      exact ⟨by rw [HV2.out]; rfl, F.out.t⟩
  · obtain ⟨d1, d2, rfl⟩ := list_two (l := LB) HN.out.symm
    obtain ⟨y1, rfl⟩ := list_one (l := LO) (by have h := N1; simp at h; omega)
    obtain ⟨u1, rfl⟩ := list_one (l := LT) (by have h := N2; simp at h; omega)
    have HV2 : Hid (o = ((detI d1 d2 y1 u1).sign == 0 && ptE (nmsI d1 d2 y1) (nmsI d1 d2 u1))) := Lib.hid (by rw [HV1.out, if_neg (by simp), if_pos (by simp)]; rfl)
    have od1 := OB.out d1 (by simp)
    have od2 := OB.out d2 (by simp)
    have oy1 := OO.out y1 (by simp)
    have ou1 := OT.out u1 (by simp)
    obtain ⟨n1, hn1⟩ : ∃ v', v' = nmsI d1 d2 y1 := ⟨_, rfl⟩
    obtain ⟨n2, hn2⟩ : ∃ v', v' = nmsI d1 d2 u1 := ⟨_, rfl⟩
    obtain ⟨d, hd⟩ : ∃ v', v' = (detI d1 d2 y1 u1).sign := ⟨_, rfl⟩
    have K3 : Hid (∀ w1, Calls Tryz.prog 43 #[(.agg #[.int .i64 d1.x, .int .i64 d1.y, .int .i64 d1.z]), (.agg #[.int .i64 d2.x, .int .i64 d2.y, .int .i64 d2.z]), (.agg #[.int .i64 y1.x, .int .i64 y1.y, .int .i64 y1.z])] w1 fun e w' => e = .returned (.agg #[.int .i64 n1.x, .int .i64 n1.y, .int .i64 n1.z]) ∧ Tch [] w1 w') := Lib.hid (fun w1 => by rw [hn1]; exact rNormals d1 d2 y1 od1 od2 oy1 w1)
    have K4 : Hid (∀ w1, Calls Tryz.prog 43 #[(.agg #[.int .i64 d1.x, .int .i64 d1.y, .int .i64 d1.z]), (.agg #[.int .i64 d2.x, .int .i64 d2.y, .int .i64 d2.z]), (.agg #[.int .i64 u1.x, .int .i64 u1.y, .int .i64 u1.z])] w1 fun e w' => e = .returned (.agg #[.int .i64 n2.x, .int .i64 n2.y, .int .i64 n2.z]) ∧ Tch [] w1 w') := Lib.hid (fun w1 => by rw [hn2]; exact rNormals d1 d2 u1 od1 od2 ou1 w1)
    have K5 : Hid (∀ w1, Calls Tryz.prog 23 #[(.agg #[.int .i64 d1.x, .int .i64 d1.y, .int .i64 d1.z]), (.agg #[.int .i64 d2.x, .int .i64 d2.y, .int .i64 d2.z]), (.agg #[.int .i64 y1.x, .int .i64 y1.y, .int .i64 y1.z]), (.agg #[.int .i64 u1.x, .int .i64 u1.y, .int .i64 u1.z])] w1 fun e w' => e = .returned (.int .i64 d) ∧ Tch [] w1 w') := Lib.hid (fun w1 => by rw [hd]; exact rOrient d1 d2 y1 u1 od1 od2 oy1 ou1 w1)
    rw [← hn1, ← hn2, ← hd] at HV2
    clear hn1 hn2 hd od1 od2 oy1 ou1 OK6 OO OT OB HV1 N1 N2 h0
    obtain ⟨gb, cb, ub, hb1, -, hb2, hb3⟩ := own_pos Z.out.b (by simp)
    injection hb1 with q1 _ q3
    subst q1
    subst q3
    obtain ⟨go, co, uo, ho1, -, ho2, ho3⟩ := own_pos Z.out.o (by simp)
    subst ho1
    obtain ⟨gt, ct, ut, ht1, -, ht2, ht3⟩ := own_pos Y.out.o (by simp)
    subst ht1
    obtain ⟨l, G, SF0⟩ : ∃ l, Fr w w4 l ∧ (∀ w9, Fr w w9 l → (w9.cell? ⟨gb, 0, none⟩ = some (.int .i64 d1.x) ∧ w9.cell? ⟨gb, 1, none⟩ = some (.int .i64 d1.y) ∧ w9.cell? ⟨gb, 2, none⟩ = some (.int .i64 d1.z) ∧ w9.cell? ⟨gb, 3, none⟩ = some (.int .i64 d2.x) ∧ w9.cell? ⟨gb, 4, none⟩ = some (.int .i64 d2.y) ∧ w9.cell? ⟨gb, 5, none⟩ = some (.int .i64 d2.z)) ∧ (w9.cell? ⟨go, 0, none⟩ = some (.int .i64 y1.x) ∧ w9.cell? ⟨go, 1, none⟩ = some (.int .i64 y1.y) ∧ w9.cell? ⟨go, 2, none⟩ = some (.int .i64 y1.z)) ∧ (w9.cell? ⟨gt, 0, none⟩ = some (.int .i64 u1.x) ∧ w9.cell? ⟨gt, 1, none⟩ = some (.int .i64 u1.y) ∧ w9.cell? ⟨gt, 2, none⟩ = some (.int .i64 u1.z))) :=
      ⟨_, ((F.out.take (g := gb) hb2 (by have h := (own_block Z.out.b (k := gb) rfl).1; have := HS.out; (try simp at h); omega)).take (g := go) ho2 (by have h := (own_block Z.out.o (k := go) rfl).1; have := HS.out; (try simp at h); omega)).take (g := gt) ht2 (by have h := (own_block Y.out.o (k := gt) rfl).1; have := HS.out; (try simp at h); omega), fun w9 h => ⟨⟨h.cell 2 0 rfl (take_get hb3 rfl), h.cell 2 1 rfl (take_get hb3 rfl), h.cell 2 2 rfl (take_get hb3 rfl), h.cell 2 3 rfl (take_get hb3 rfl), h.cell 2 4 rfl (take_get hb3 rfl), h.cell 2 5 rfl (take_get hb3 rfl)⟩, ⟨h.cell 3 0 rfl (take_get ho3 rfl), h.cell 3 1 rfl (take_get ho3 rfl), h.cell 3 2 rfl (take_get ho3 rfl)⟩, ⟨h.cell 4 0 rfl (take_get ht3 rfl), h.cell 4 1 rfl (take_get ht3 rfl), h.cell 4 2 rfl (take_get ht3 rfl)⟩⟩⟩
    clear F
    have F := Lib.hid G
    have SF := Lib.hid SF0
    clear G SF0 a0 a1 a2 a3 a4 a5 a6 a7 a8 b0 b1 b2 b3 b4 b5 b6 b7 b8
    go_upto_region 13 with (fail)
    go_cut [13] (fun s wx => MidC w l (.cells #[.int .i64 n1.x, .int .i64 n1.y, .int .i64 n1.z] 22 (0, 0)) s wx)
    case first =>
      go_region_held3 (fun w9 => (w9.cell? ⟨gb, 0, none⟩ = some (.int .i64 d1.x) ∧ w9.cell? ⟨gb, 1, none⟩ = some (.int .i64 d1.y) ∧ w9.cell? ⟨gb, 2, none⟩ = some (.int .i64 d1.z) ∧ w9.cell? ⟨gb, 3, none⟩ = some (.int .i64 d2.x) ∧ w9.cell? ⟨gb, 4, none⟩ = some (.int .i64 d2.y) ∧ w9.cell? ⟨gb, 5, none⟩ = some (.int .i64 d2.z)) ∧ (w9.cell? ⟨go, 0, none⟩ = some (.int .i64 y1.x) ∧ w9.cell? ⟨go, 1, none⟩ = some (.int .i64 y1.y) ∧ w9.cell? ⟨go, 2, none⟩ = some (.int .i64 y1.z)) ∧ (w9.cell? ⟨gt, 0, none⟩ = some (.int .i64 u1.x) ∧ w9.cell? ⟨gt, 1, none⟩ = some (.int .i64 u1.y) ∧ w9.cell? ⟨gt, 2, none⟩ = some (.int .i64 u1.z))) (first | with_reducible exact SF.out _ F3.out | with_reducible exact SF.out _ (F3.out.beside _) | with_reducible exact SF.out _ (F3.out.box3 _ _ _ _) | with_reducible exact SF.out _ (B3.out.set3 _ _ _) | with_reducible exact SF.out _ F.out | with_reducible exact SF.out _ F.out.drew | with_reducible exact SF.out _ (F.out.drew.beside _) | with_reducible exact SF.out _ (F.out.beside _).drew) (first
        | (go_at_call 43; (with_reducible refine (K3.out _).mono ?_); rintro e w5 ⟨rfl, hT⟩; (first | (with_reducible have B3 := Lib.hid (B3.out.keep hT); clear z0 z1 z2 f0 f1 f2; obtain ⟨⟨z0, z1, z2⟩, ⟨f0, f1, f2⟩⟩ := B3.out.three; have F3 := Lib.hid B3.out.f) | (with_reducible have F3 := Lib.hid (F3.out.keep hT)) | (with_reducible have B3 := Lib.hid (F3.out.boxed _ hT); obtain ⟨⟨z0, z1, z2⟩, ⟨f0, f1, f2⟩⟩ := B3.out.three; have F3 := Lib.hid B3.out.f) | (with_reducible have B3 := Lib.hid (F.out.boxedAt _ w4.heap.size rfl (Tch.undrew hT)); obtain ⟨⟨z0, z1, z2⟩, ⟨f0, f1, f2⟩⟩ := B3.out.three; have F3 := Lib.hid B3.out.f) | (with_reducible have F3 := Lib.hid (F.out.keep (Tch.undrew hT)))); clear hT))
      all_goals (go_wp2_with fail; go_meet; (first | with_reducible exact F3.out.midC _ | with_reducible exact B3.out.midC3 _ _ _))
    case rest =>
    obtain ⟨ga, rfl, FB⟩ := hcut
    obtain ⟨l2, G, SF0⟩ : ∃ l2, Fr w wc l2 ∧ (∀ w9, Fr w w9 l2 → ((w9.cell? ⟨gb, 0, none⟩ = some (.int .i64 d1.x) ∧ w9.cell? ⟨gb, 1, none⟩ = some (.int .i64 d1.y) ∧ w9.cell? ⟨gb, 2, none⟩ = some (.int .i64 d1.z) ∧ w9.cell? ⟨gb, 3, none⟩ = some (.int .i64 d2.x) ∧ w9.cell? ⟨gb, 4, none⟩ = some (.int .i64 d2.y) ∧ w9.cell? ⟨gb, 5, none⟩ = some (.int .i64 d2.z)) ∧ (w9.cell? ⟨go, 0, none⟩ = some (.int .i64 y1.x) ∧ w9.cell? ⟨go, 1, none⟩ = some (.int .i64 y1.y) ∧ w9.cell? ⟨go, 2, none⟩ = some (.int .i64 y1.z)) ∧ (w9.cell? ⟨gt, 0, none⟩ = some (.int .i64 u1.x) ∧ w9.cell? ⟨gt, 1, none⟩ = some (.int .i64 u1.y) ∧ w9.cell? ⟨gt, 2, none⟩ = some (.int .i64 u1.z))) ∧ (w9.cell? ⟨ga, 0, none⟩ = some (.int .i64 n1.x) ∧ w9.cell? ⟨ga, 1, none⟩ = some (.int .i64 n1.y) ∧ w9.cell? ⟨ga, 2, none⟩ = some (.int .i64 n1.z))) :=
      ⟨_, FB.all, fun w9 h => ⟨SF.out _ h.front, h.lthree⟩⟩
    clear F FB SF
    have F := Lib.hid G
    have SF := Lib.hid SF0
    clear G SF0 K3
    go_upto_region 14 with (fail)
    go_cut [14] (fun s wx => MidC w l2 (.cells #[.int .i64 n2.x, .int .i64 n2.y, .int .i64 n2.z] 22 (0, 0)) s wx)
    case first =>
      go_region_held3 (fun w9 => ((w9.cell? ⟨gb, 0, none⟩ = some (.int .i64 d1.x) ∧ w9.cell? ⟨gb, 1, none⟩ = some (.int .i64 d1.y) ∧ w9.cell? ⟨gb, 2, none⟩ = some (.int .i64 d1.z) ∧ w9.cell? ⟨gb, 3, none⟩ = some (.int .i64 d2.x) ∧ w9.cell? ⟨gb, 4, none⟩ = some (.int .i64 d2.y) ∧ w9.cell? ⟨gb, 5, none⟩ = some (.int .i64 d2.z)) ∧ (w9.cell? ⟨go, 0, none⟩ = some (.int .i64 y1.x) ∧ w9.cell? ⟨go, 1, none⟩ = some (.int .i64 y1.y) ∧ w9.cell? ⟨go, 2, none⟩ = some (.int .i64 y1.z)) ∧ (w9.cell? ⟨gt, 0, none⟩ = some (.int .i64 u1.x) ∧ w9.cell? ⟨gt, 1, none⟩ = some (.int .i64 u1.y) ∧ w9.cell? ⟨gt, 2, none⟩ = some (.int .i64 u1.z))) ∧ (w9.cell? ⟨ga, 0, none⟩ = some (.int .i64 n1.x) ∧ w9.cell? ⟨ga, 1, none⟩ = some (.int .i64 n1.y) ∧ w9.cell? ⟨ga, 2, none⟩ = some (.int .i64 n1.z))) (first | with_reducible exact SF.out _ F3.out | with_reducible exact SF.out _ (F3.out.beside _) | with_reducible exact SF.out _ (F3.out.box3 _ _ _ _) | with_reducible exact SF.out _ (B3.out.set3 _ _ _) | with_reducible exact SF.out _ F.out | with_reducible exact SF.out _ F.out.drew | with_reducible exact SF.out _ (F.out.drew.beside _) | with_reducible exact SF.out _ (F.out.beside _).drew) (first
        | (go_at_call 43; (with_reducible refine (K4.out _).mono ?_); rintro e w5 ⟨rfl, hT⟩; (first | (with_reducible have B3 := Lib.hid (B3.out.keep hT); clear z0 z1 z2 f0 f1 f2; obtain ⟨⟨z0, z1, z2⟩, ⟨f0, f1, f2⟩⟩ := B3.out.three; have F3 := Lib.hid B3.out.f) | (with_reducible have F3 := Lib.hid (F3.out.keep hT)) | (with_reducible have B3 := Lib.hid (F3.out.boxed _ hT); obtain ⟨⟨z0, z1, z2⟩, ⟨f0, f1, f2⟩⟩ := B3.out.three; have F3 := Lib.hid B3.out.f) | (with_reducible have B3 := Lib.hid (F.out.boxedAt _ wc.heap.size rfl (Tch.undrew hT)); obtain ⟨⟨z0, z1, z2⟩, ⟨f0, f1, f2⟩⟩ := B3.out.three; have F3 := Lib.hid B3.out.f) | (with_reducible have F3 := Lib.hid (F.out.keep (Tch.undrew hT)))); clear hT))
      all_goals (go_wp2_with fail; go_meet; (first | with_reducible exact F3.out.midC _ | with_reducible exact B3.out.midC3 _ _ _))
    case rest =>
    obtain ⟨gc, rfl, FB⟩ := hcut
    obtain ⟨l3, G, SF0⟩ : ∃ l3, Fr w wc l3 ∧ (∀ w9, Fr w w9 l3 → (((w9.cell? ⟨gb, 0, none⟩ = some (.int .i64 d1.x) ∧ w9.cell? ⟨gb, 1, none⟩ = some (.int .i64 d1.y) ∧ w9.cell? ⟨gb, 2, none⟩ = some (.int .i64 d1.z) ∧ w9.cell? ⟨gb, 3, none⟩ = some (.int .i64 d2.x) ∧ w9.cell? ⟨gb, 4, none⟩ = some (.int .i64 d2.y) ∧ w9.cell? ⟨gb, 5, none⟩ = some (.int .i64 d2.z)) ∧ (w9.cell? ⟨go, 0, none⟩ = some (.int .i64 y1.x) ∧ w9.cell? ⟨go, 1, none⟩ = some (.int .i64 y1.y) ∧ w9.cell? ⟨go, 2, none⟩ = some (.int .i64 y1.z)) ∧ (w9.cell? ⟨gt, 0, none⟩ = some (.int .i64 u1.x) ∧ w9.cell? ⟨gt, 1, none⟩ = some (.int .i64 u1.y) ∧ w9.cell? ⟨gt, 2, none⟩ = some (.int .i64 u1.z))) ∧ (w9.cell? ⟨ga, 0, none⟩ = some (.int .i64 n1.x) ∧ w9.cell? ⟨ga, 1, none⟩ = some (.int .i64 n1.y) ∧ w9.cell? ⟨ga, 2, none⟩ = some (.int .i64 n1.z))) ∧ (w9.cell? ⟨gc, 0, none⟩ = some (.int .i64 n2.x) ∧ w9.cell? ⟨gc, 1, none⟩ = some (.int .i64 n2.y) ∧ w9.cell? ⟨gc, 2, none⟩ = some (.int .i64 n2.z))) :=
      ⟨_, FB.all, fun w9 h => ⟨SF.out _ h.front, h.lthree⟩⟩
    clear F FB SF
    have F := Lib.hid G
    have SF := Lib.hid SF0
    clear G SF0 K4
    go_upto_region 15 with (fail)
    by_cases hd : d = 0
    · subst hd
      have HW : Hid (o = ptE n1 n2) := Lib.hid (by rw [HV2.out]; simp)
      have EQ := fun w7 => eqlT3 n1 n2 w7
      refine wp_region_noPanic ?_
      refine wp_region_held_drew (S := (fun w9 => (((w9.cell? ⟨gb, 0, none⟩ = some (.int .i64 d1.x) ∧ w9.cell? ⟨gb, 1, none⟩ = some (.int .i64 d1.y) ∧ w9.cell? ⟨gb, 2, none⟩ = some (.int .i64 d1.z) ∧ w9.cell? ⟨gb, 3, none⟩ = some (.int .i64 d2.x) ∧ w9.cell? ⟨gb, 4, none⟩ = some (.int .i64 d2.y) ∧ w9.cell? ⟨gb, 5, none⟩ = some (.int .i64 d2.z)) ∧ (w9.cell? ⟨go, 0, none⟩ = some (.int .i64 y1.x) ∧ w9.cell? ⟨go, 1, none⟩ = some (.int .i64 y1.y) ∧ w9.cell? ⟨go, 2, none⟩ = some (.int .i64 y1.z)) ∧ (w9.cell? ⟨gt, 0, none⟩ = some (.int .i64 u1.x) ∧ w9.cell? ⟨gt, 1, none⟩ = some (.int .i64 u1.y) ∧ w9.cell? ⟨gt, 2, none⟩ = some (.int .i64 u1.z))) ∧ (w9.cell? ⟨ga, 0, none⟩ = some (.int .i64 n1.x) ∧ w9.cell? ⟨ga, 1, none⟩ = some (.int .i64 n1.y) ∧ w9.cell? ⟨ga, 2, none⟩ = some (.int .i64 n1.z))) ∧ (w9.cell? ⟨gc, 0, none⟩ = some (.int .i64 n2.x) ∧ w9.cell? ⟨gc, 1, none⟩ = some (.int .i64 n2.y) ∧ w9.cell? ⟨gc, 2, none⟩ = some (.int .i64 n2.z)))) (by kernel_rfl) (SF.out _ F.out.drew) (fun hHeld => ?_)
      refine takeAt (i := 0) (d := (some 89)) (v := (.slice (some ⟨gb, 0, none⟩) 2 zc)) rfl (by kernel_rfl) (by kernel_rfl) (by kernel_rfl) (by kernel_rfl) (fun _ _ _ h => h) (Or.inl ⟨by kernel_rfl, ?_⟩) (by assumption) ?_
      · intro w7 hSw
        try dsimp only at hSw
        go_simp
      simp only [Act.put, List.setIfInBounds_toArray, List.set_cons_zero, List.set_cons_succ]
      refine takeAt (i := 1) (d := (some 90)) (v := (.pointer (some ⟨gb, 0, none⟩))) rfl (by kernel_rfl) (by kernel_rfl) (by kernel_rfl) (by kernel_rfl) (fun _ _ _ h => h) (Or.inl ⟨by kernel_rfl, ?_⟩) (by assumption) ?_
      · intro w7 hSw
        try dsimp only at hSw
        go_simp
      simp only [Act.put, List.setIfInBounds_toArray, List.set_cons_zero, List.set_cons_succ]
      refine takeAt (i := 2) (d := (some 91)) (v := (.agg #[.int .i64 d1.x, .int .i64 d1.y, .int .i64 d1.z])) rfl (by kernel_rfl) (by kernel_rfl) (by kernel_rfl) (by kernel_rfl) (fun _ _ _ h => h) (Or.inl ⟨by kernel_rfl, ?_⟩) (by assumption) ?_
      · intro w7 hSw
        try dsimp only at hSw
        go_simp
      simp only [Act.put, List.setIfInBounds_toArray, List.set_cons_zero, List.set_cons_succ]
      refine takeAt (i := 3) (d := (some 92)) (v := (.slice (some ⟨gb, 0, none⟩) 2 zc)) rfl (by kernel_rfl) (by kernel_rfl) (by kernel_rfl) (by kernel_rfl) (fun _ _ _ h => h) (Or.inl ⟨by kernel_rfl, ?_⟩) (by assumption) ?_
      · intro w7 hSw
        try dsimp only at hSw
        go_simp
      simp only [Act.put, List.setIfInBounds_toArray, List.set_cons_zero, List.set_cons_succ]
      refine takeAt (i := 4) (d := (some 93)) (v := (.pointer (some ⟨gb, 3, none⟩))) rfl (by kernel_rfl) (by kernel_rfl) (by kernel_rfl) (by kernel_rfl) (fun _ _ _ h => h) (Or.inl ⟨by kernel_rfl, ?_⟩) (by assumption) ?_
      · intro w7 hSw
        try dsimp only at hSw
        go_simp
      simp only [Act.put, List.setIfInBounds_toArray, List.set_cons_zero, List.set_cons_succ]
      refine takeAt (i := 5) (d := (some 94)) (v := (.agg #[.int .i64 d2.x, .int .i64 d2.y, .int .i64 d2.z])) rfl (by kernel_rfl) (by kernel_rfl) (by kernel_rfl) (by kernel_rfl) (fun _ _ _ h => h) (Or.inl ⟨by kernel_rfl, ?_⟩) (by assumption) ?_
      · intro w7 hSw
        try dsimp only at hSw
        go_simp
      simp only [Act.put, List.setIfInBounds_toArray, List.set_cons_zero, List.set_cons_succ]
      refine takeAt (i := 6) (d := (some 95)) (v := (.slice (some ⟨go, 0, none⟩) 1 co)) rfl (by kernel_rfl) (by kernel_rfl) (by kernel_rfl) (by kernel_rfl) (fun _ _ _ h => h) (Or.inl ⟨by kernel_rfl, ?_⟩) (by assumption) ?_
      · intro w7 hSw
        try dsimp only at hSw
        go_simp
      simp only [Act.put, List.setIfInBounds_toArray, List.set_cons_zero, List.set_cons_succ]
      refine takeAt (i := 7) (d := (some 96)) (v := (.pointer (some ⟨go, 0, none⟩))) rfl (by kernel_rfl) (by kernel_rfl) (by kernel_rfl) (by kernel_rfl) (fun _ _ _ h => h) (Or.inl ⟨by kernel_rfl, ?_⟩) (by assumption) ?_
      · intro w7 hSw
        try dsimp only at hSw
        go_simp
      simp only [Act.put, List.setIfInBounds_toArray, List.set_cons_zero, List.set_cons_succ]
      refine takeAt (i := 8) (d := (some 97)) (v := (.agg #[.int .i64 y1.x, .int .i64 y1.y, .int .i64 y1.z])) rfl (by kernel_rfl) (by kernel_rfl) (by kernel_rfl) (by kernel_rfl) (fun _ _ _ h => h) (Or.inl ⟨by kernel_rfl, ?_⟩) (by assumption) ?_
      · intro w7 hSw
        try dsimp only at hSw
        go_simp
      simp only [Act.put, List.setIfInBounds_toArray, List.set_cons_zero, List.set_cons_succ]
      refine takeAt (i := 9) (d := (some 98)) (v := (.slice (some ⟨gt, 0, none⟩) 1 ct)) rfl (by kernel_rfl) (by kernel_rfl) (by kernel_rfl) (by kernel_rfl) (fun _ _ _ h => h) (Or.inl ⟨by kernel_rfl, ?_⟩) (by assumption) ?_
      · intro w7 hSw
        try dsimp only at hSw
        go_simp
      simp only [Act.put, List.setIfInBounds_toArray, List.set_cons_zero, List.set_cons_succ]
      refine takeAt (i := 10) (d := (some 99)) (v := (.pointer (some ⟨gt, 0, none⟩))) rfl (by kernel_rfl) (by kernel_rfl) (by kernel_rfl) (by kernel_rfl) (fun _ _ _ h => h) (Or.inl ⟨by kernel_rfl, ?_⟩) (by assumption) ?_
      · intro w7 hSw
        try dsimp only at hSw
        go_simp
      simp only [Act.put, List.setIfInBounds_toArray, List.set_cons_zero, List.set_cons_succ]
      refine takeAt (i := 11) (d := (some 100)) (v := (.agg #[.int .i64 u1.x, .int .i64 u1.y, .int .i64 u1.z])) rfl (by kernel_rfl) (by kernel_rfl) (by kernel_rfl) (by kernel_rfl) (fun _ _ _ h => h) (Or.inl ⟨by kernel_rfl, ?_⟩) (by assumption) ?_
      · intro w7 hSw
        try dsimp only at hSw
        go_simp
      simp only [Act.put, List.setIfInBounds_toArray, List.set_cons_zero, List.set_cons_succ]
      refine wpAnyH_ready (rs := [12]) (by kernel_rfl) (by simp) ?_
      refine AllReadyH.cons rfl (fun K hK => ?_) AllReadyH.nil
      go_simp
      refine (K5.out _).mono ?_
      rintro e w6 ⟨rfl, hT⟩
      have F := Lib.hid (F.out.drew.keep hT)
      clear hT
      go_wp2_with fail
      refine hK.out _ _ (SF.out _ F.out) (fun hHeld => ?_)
      clear hK K
      refine takeAt (i := 13) (d := (some 102)) (v := (.bool true)) rfl (by kernel_rfl) (by kernel_rfl) (by kernel_rfl) (by kernel_rfl) (fun _ _ _ h => h) (Or.inl ⟨by kernel_rfl, ?_⟩) (by assumption) ?_
      · intro w7 hSw
        try dsimp only at hSw
        go_simp
      simp only [Act.put, List.setIfInBounds_toArray, List.set_cons_zero, List.set_cons_succ]
      refine takeAt (i := 14) (d := (some 103)) (v := (.bool true)) rfl (by kernel_rfl) (by kernel_rfl) (by kernel_rfl) (by kernel_rfl) (fun _ _ _ h => h) (Or.inl ⟨by kernel_rfl, ?_⟩) (by assumption) ?_
      · intro w7 hSw
        try dsimp only at hSw
        go_simp
      simp only [Act.put, List.setIfInBounds_toArray, List.set_cons_zero, List.set_cons_succ]
      refine takeAt (i := 15) (d := (some 104)) (v := (.agg #[.int .i64 n1.x, .int .i64 n1.y, .int .i64 n1.z])) rfl (by kernel_rfl) (by kernel_rfl) (by kernel_rfl) (by kernel_rfl) (fun _ _ _ h => h) (Or.inl ⟨by kernel_rfl, ?_⟩) (by assumption) ?_
      · intro w7 hSw
        try dsimp only at hSw
        go_simp
      simp only [Act.put, List.setIfInBounds_toArray, List.set_cons_zero, List.set_cons_succ]
      refine takeAt (i := 16) (d := (some 105)) (v := (.agg #[.int .i64 n2.x, .int .i64 n2.y, .int .i64 n2.z])) rfl (by kernel_rfl) (by kernel_rfl) (by kernel_rfl) (by kernel_rfl) (fun _ _ _ h => h) (Or.inl ⟨by kernel_rfl, ?_⟩) (by assumption) ?_
      · intro w7 hSw
        try dsimp only at hSw
        go_simp
      simp only [Act.put, List.setIfInBounds_toArray, List.set_cons_zero, List.set_cons_succ]
      refine takeAt (i := 17) (d := (some 106)) (v := (.bool (ptE n1 n2))) rfl (by kernel_rfl) (by kernel_rfl) (by kernel_rfl) (by kernel_rfl) (fun _ _ _ h => h) (Or.inl ⟨by kernel_rfl, ?_⟩) (by assumption) ?_
      · intro w7 hSw
        try dsimp only at hSw
        go_simp
      simp only [Act.put, List.setIfInBounds_toArray, List.set_cons_zero, List.set_cons_succ]
      refine takeAt (i := 18) (d := (some 107)) (v := (.bool (ptE n1 n2))) rfl (by kernel_rfl) (by kernel_rfl) (by kernel_rfl) (by kernel_rfl) (fun _ _ _ h => h) (Or.inl ⟨by kernel_rfl, ?_⟩) (by assumption) ?_
      · intro w7 hSw
        try dsimp only at hSw
        go_simp
      simp only [Act.put, List.setIfInBounds_toArray, List.set_cons_zero, List.set_cons_succ]
      refine takeAt (i := 19) (d := (some 4)) (v := (.bool (ptE n1 n2))) rfl (by kernel_rfl) (by kernel_rfl) (by kernel_rfl) (by kernel_rfl) (fun _ _ _ h => h) (Or.inl ⟨by kernel_rfl, ?_⟩) (by assumption) ?_
      · intro w7 hSw
        try dsimp only at hSw
        go_simp
      simp only [Act.put, List.setIfInBounds_toArray, List.set_cons_zero, List.set_cons_succ]
      refine wpAnyH_done (by kernel_rfl) ?_ _
      refine NoPanic.normal ?_
      clear EQ
      go_wp2
      go_ret
      exact ⟨by rw [HW.out]; rfl, F.out.t⟩
    · have e2 : (d == 0) = false := beq_eq_false_iff_ne.2 hd
      have HW : Hid (o = false) := Lib.hid (by rw [HV2.out, e2]; rfl)
      clear hd
      refine wp_region_noPanic ?_
      refine wp_region_held_drew (S := (fun w9 => (((w9.cell? ⟨gb, 0, none⟩ = some (.int .i64 d1.x) ∧ w9.cell? ⟨gb, 1, none⟩ = some (.int .i64 d1.y) ∧ w9.cell? ⟨gb, 2, none⟩ = some (.int .i64 d1.z) ∧ w9.cell? ⟨gb, 3, none⟩ = some (.int .i64 d2.x) ∧ w9.cell? ⟨gb, 4, none⟩ = some (.int .i64 d2.y) ∧ w9.cell? ⟨gb, 5, none⟩ = some (.int .i64 d2.z)) ∧ (w9.cell? ⟨go, 0, none⟩ = some (.int .i64 y1.x) ∧ w9.cell? ⟨go, 1, none⟩ = some (.int .i64 y1.y) ∧ w9.cell? ⟨go, 2, none⟩ = some (.int .i64 y1.z)) ∧ (w9.cell? ⟨gt, 0, none⟩ = some (.int .i64 u1.x) ∧ w9.cell? ⟨gt, 1, none⟩ = some (.int .i64 u1.y) ∧ w9.cell? ⟨gt, 2, none⟩ = some (.int .i64 u1.z))) ∧ (w9.cell? ⟨ga, 0, none⟩ = some (.int .i64 n1.x) ∧ w9.cell? ⟨ga, 1, none⟩ = some (.int .i64 n1.y) ∧ w9.cell? ⟨ga, 2, none⟩ = some (.int .i64 n1.z))) ∧ (w9.cell? ⟨gc, 0, none⟩ = some (.int .i64 n2.x) ∧ w9.cell? ⟨gc, 1, none⟩ = some (.int .i64 n2.y) ∧ w9.cell? ⟨gc, 2, none⟩ = some (.int .i64 n2.z)))) (by kernel_rfl) (SF.out _ F.out.drew) (fun hHeld => ?_)
      refine takeAt (i := 0) (d := (some 89)) (v := (.slice (some ⟨gb, 0, none⟩) 2 zc)) rfl (by kernel_rfl) (by kernel_rfl) (by kernel_rfl) (by kernel_rfl) (fun _ _ _ h => h) (Or.inl ⟨by kernel_rfl, ?_⟩) (by assumption) ?_
      · intro w7 hSw
        try dsimp only at hSw
        go_simp
      simp only [Act.put, List.setIfInBounds_toArray, List.set_cons_zero, List.set_cons_succ]
      refine takeAt (i := 1) (d := (some 90)) (v := (.pointer (some ⟨gb, 0, none⟩))) rfl (by kernel_rfl) (by kernel_rfl) (by kernel_rfl) (by kernel_rfl) (fun _ _ _ h => h) (Or.inl ⟨by kernel_rfl, ?_⟩) (by assumption) ?_
      · intro w7 hSw
        try dsimp only at hSw
        go_simp
      simp only [Act.put, List.setIfInBounds_toArray, List.set_cons_zero, List.set_cons_succ]
      refine takeAt (i := 2) (d := (some 91)) (v := (.agg #[.int .i64 d1.x, .int .i64 d1.y, .int .i64 d1.z])) rfl (by kernel_rfl) (by kernel_rfl) (by kernel_rfl) (by kernel_rfl) (fun _ _ _ h => h) (Or.inl ⟨by kernel_rfl, ?_⟩) (by assumption) ?_
      · intro w7 hSw
        try dsimp only at hSw
        go_simp
      simp only [Act.put, List.setIfInBounds_toArray, List.set_cons_zero, List.set_cons_succ]
      refine takeAt (i := 3) (d := (some 92)) (v := (.slice (some ⟨gb, 0, none⟩) 2 zc)) rfl (by kernel_rfl) (by kernel_rfl) (by kernel_rfl) (by kernel_rfl) (fun _ _ _ h => h) (Or.inl ⟨by kernel_rfl, ?_⟩) (by assumption) ?_
      · intro w7 hSw
        try dsimp only at hSw
        go_simp
      simp only [Act.put, List.setIfInBounds_toArray, List.set_cons_zero, List.set_cons_succ]
      refine takeAt (i := 4) (d := (some 93)) (v := (.pointer (some ⟨gb, 3, none⟩))) rfl (by kernel_rfl) (by kernel_rfl) (by kernel_rfl) (by kernel_rfl) (fun _ _ _ h => h) (Or.inl ⟨by kernel_rfl, ?_⟩) (by assumption) ?_
      · intro w7 hSw
        try dsimp only at hSw
        go_simp
      simp only [Act.put, List.setIfInBounds_toArray, List.set_cons_zero, List.set_cons_succ]
      refine takeAt (i := 5) (d := (some 94)) (v := (.agg #[.int .i64 d2.x, .int .i64 d2.y, .int .i64 d2.z])) rfl (by kernel_rfl) (by kernel_rfl) (by kernel_rfl) (by kernel_rfl) (fun _ _ _ h => h) (Or.inl ⟨by kernel_rfl, ?_⟩) (by assumption) ?_
      · intro w7 hSw
        try dsimp only at hSw
        go_simp
      simp only [Act.put, List.setIfInBounds_toArray, List.set_cons_zero, List.set_cons_succ]
      refine takeAt (i := 6) (d := (some 95)) (v := (.slice (some ⟨go, 0, none⟩) 1 co)) rfl (by kernel_rfl) (by kernel_rfl) (by kernel_rfl) (by kernel_rfl) (fun _ _ _ h => h) (Or.inl ⟨by kernel_rfl, ?_⟩) (by assumption) ?_
      · intro w7 hSw
        try dsimp only at hSw
        go_simp
      simp only [Act.put, List.setIfInBounds_toArray, List.set_cons_zero, List.set_cons_succ]
      refine takeAt (i := 7) (d := (some 96)) (v := (.pointer (some ⟨go, 0, none⟩))) rfl (by kernel_rfl) (by kernel_rfl) (by kernel_rfl) (by kernel_rfl) (fun _ _ _ h => h) (Or.inl ⟨by kernel_rfl, ?_⟩) (by assumption) ?_
      · intro w7 hSw
        try dsimp only at hSw
        go_simp
      simp only [Act.put, List.setIfInBounds_toArray, List.set_cons_zero, List.set_cons_succ]
      refine takeAt (i := 8) (d := (some 97)) (v := (.agg #[.int .i64 y1.x, .int .i64 y1.y, .int .i64 y1.z])) rfl (by kernel_rfl) (by kernel_rfl) (by kernel_rfl) (by kernel_rfl) (fun _ _ _ h => h) (Or.inl ⟨by kernel_rfl, ?_⟩) (by assumption) ?_
      · intro w7 hSw
        try dsimp only at hSw
        go_simp
      simp only [Act.put, List.setIfInBounds_toArray, List.set_cons_zero, List.set_cons_succ]
      refine takeAt (i := 9) (d := (some 98)) (v := (.slice (some ⟨gt, 0, none⟩) 1 ct)) rfl (by kernel_rfl) (by kernel_rfl) (by kernel_rfl) (by kernel_rfl) (fun _ _ _ h => h) (Or.inl ⟨by kernel_rfl, ?_⟩) (by assumption) ?_
      · intro w7 hSw
        try dsimp only at hSw
        go_simp
      simp only [Act.put, List.setIfInBounds_toArray, List.set_cons_zero, List.set_cons_succ]
      refine takeAt (i := 10) (d := (some 99)) (v := (.pointer (some ⟨gt, 0, none⟩))) rfl (by kernel_rfl) (by kernel_rfl) (by kernel_rfl) (by kernel_rfl) (fun _ _ _ h => h) (Or.inl ⟨by kernel_rfl, ?_⟩) (by assumption) ?_
      · intro w7 hSw
        try dsimp only at hSw
        go_simp
      simp only [Act.put, List.setIfInBounds_toArray, List.set_cons_zero, List.set_cons_succ]
      refine takeAt (i := 11) (d := (some 100)) (v := (.agg #[.int .i64 u1.x, .int .i64 u1.y, .int .i64 u1.z])) rfl (by kernel_rfl) (by kernel_rfl) (by kernel_rfl) (by kernel_rfl) (fun _ _ _ h => h) (Or.inl ⟨by kernel_rfl, ?_⟩) (by assumption) ?_
      · intro w7 hSw
        try dsimp only at hSw
        go_simp
      simp only [Act.put, List.setIfInBounds_toArray, List.set_cons_zero, List.set_cons_succ]
      refine wpAnyH_ready (rs := [12]) (by kernel_rfl) (by simp) ?_
      refine AllReadyH.cons rfl (fun K hK => ?_) AllReadyH.nil
      go_simp
      refine (K5.out _).mono ?_
      rintro e w6 ⟨rfl, hT⟩
      have F := Lib.hid (F.out.drew.keep hT)
      clear hT
      go_wp2_with fail
      refine hK.out _ _ (SF.out _ F.out) (fun hHeld => ?_)
      clear hK K
      refine takeAt (i := 13) (d := (some 102)) (v := (.bool false)) rfl (by kernel_rfl) (by kernel_rfl) (by kernel_rfl) (by kernel_rfl) (fun _ _ _ h => h) (Or.inl ⟨by kernel_rfl, ?_⟩) (by assumption) ?_
      · intro w7 hSw
        try dsimp only at hSw
        go_simp
      simp only [Act.put, List.setIfInBounds_toArray, List.set_cons_zero, List.set_cons_succ]
      refine takeAt (i := 14) (d := (some 103)) (v := (.bool false)) rfl (by kernel_rfl) (by kernel_rfl) (by kernel_rfl) (by kernel_rfl) (fun _ _ _ h => h) (Or.inl ⟨by kernel_rfl, ?_⟩) (by assumption) ?_
      · intro w7 hSw
        try dsimp only at hSw
        go_simp
      simp only [Act.put, List.setIfInBounds_toArray, List.set_cons_zero, List.set_cons_succ]
      refine takeAt (i := 15) (d := (some 104)) (v := undef) rfl (by kernel_rfl) (by kernel_rfl) (by kernel_rfl) (by kernel_rfl) (fun _ _ _ h => h) (Or.inr ⟨by kernel_rfl, rfl⟩) (by assumption) ?_
      simp only [Act.put, List.setIfInBounds_toArray, List.set_cons_zero, List.set_cons_succ]
      refine takeAt (i := 16) (d := (some 105)) (v := undef) rfl (by kernel_rfl) (by kernel_rfl) (by kernel_rfl) (by kernel_rfl) (fun _ _ _ h => h) (Or.inr ⟨by kernel_rfl, rfl⟩) (by assumption) ?_
      simp only [Act.put, List.setIfInBounds_toArray, List.set_cons_zero, List.set_cons_succ]
      refine takeAt (i := 17) (d := (some 106)) (v := undef) rfl (by kernel_rfl) (by kernel_rfl) (by kernel_rfl) (by kernel_rfl) (fun _ _ _ h => h) (Or.inr ⟨by kernel_rfl, rfl⟩) (by assumption) ?_
      simp only [Act.put, List.setIfInBounds_toArray, List.set_cons_zero, List.set_cons_succ]
      refine takeAt (i := 18) (d := (some 107)) (v := (.bool false)) rfl (by kernel_rfl) (by kernel_rfl) (by kernel_rfl) (by kernel_rfl) (fun _ _ _ h => h) (Or.inl ⟨by kernel_rfl, ?_⟩) (by assumption) ?_
      · intro w7 hSw
        try dsimp only at hSw
        go_simp
      simp only [Act.put, List.setIfInBounds_toArray, List.set_cons_zero, List.set_cons_succ]
      refine takeAt (i := 19) (d := (some 4)) (v := (.bool false)) rfl (by kernel_rfl) (by kernel_rfl) (by kernel_rfl) (by kernel_rfl) (fun _ _ _ h => h) (Or.inl ⟨by kernel_rfl, ?_⟩) (by assumption) ?_
      · intro w7 hSw
        try dsimp only at hSw
        go_simp
      simp only [Act.put, List.setIfInBounds_toArray, List.set_cons_zero, List.set_cons_succ]
      refine wpAnyH_done (by kernel_rfl) ?_ _
      refine NoPanic.normal ?_
      go_wp2
      go_ret
      exact ⟨by rw [HW.out]; rfl, F.out.t⟩

end Go.Proofs.YtandlbacjfdkpaaGreatDoor
