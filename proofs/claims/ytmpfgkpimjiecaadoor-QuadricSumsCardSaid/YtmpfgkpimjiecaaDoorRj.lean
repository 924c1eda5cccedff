/- A region that draws its order, in one pass over its operations: each claims what its slot will hold; new boxes may be laid among calls in any order. -/
import Derived.Test.YtmpfgkpimjiecaaDoorMem
import Derived.Orders
import Derived.Lib.Hide
import Derived.Laws.Rows
import Derived.Deep.RegionHeld3
namespace Go.Proofs.YtmpfgkpimjiecaaDoor
open Go Go.RowKit

/-- What an operation claims of its slot: a value; a new box that holds o. -/
inductive Cl where
  | is (v : Value)
  | new (o : Obj)
  | none
def clOf (cl : List Cl) (i : Nat) : Cl := cl.getD i .none
def dstOf (ops : Array Oper) (i : Nat) : Option Nat := (ops[i]?).bind (·.dst)
/-- Operation i comes up behind j. -/
def waits (ops : Array Oper) (i j : Nat) : Bool := ((ops[i]?).map fun o => o.after.any fun e => Region.binds .any e && e.on == j).getD false
/-- Every operation waits for earlier ones alone. -/
def inOrder (ops : Array Oper) : Bool := (List.range ops.size).all fun i => ((ops[i]?).map fun o => o.after.all fun e => decide (e.on < i)).getD true
/-- Those that 'pre' leaves out wait for all others. -/
def cover (ops : Array Oper) (i : Nat) : List Nat := (List.range i).reverse.foldl (fun S k => if S.any (fun l => waits ops l k) then k :: S else S) [i]
def lateOnes (ops : Array Oper) (pre : Array Bool) : Bool := (List.range ops.size).all fun i => pre.getD i false || (List.range ops.size).all fun j => !pre.getD j false || (cover ops i).contains j
/-- No two operations write one slot. -/
def apartDsts (ops : Array Oper) : Bool := (List.range ops.size).all fun i => (List.range ops.size).all fun j => i == j || (dstOf ops i).isNone || dstOf ops i != dstOf ops j

section
variable {P : Program} {ops : Array Oper} {Q : Exit → Act → World → Prop}

theorem ready_parts {listed : Array Bool} {i : Nat} (h : i ∈ Region.ready .any ops listed) : i < ops.size ∧ listed.getD i true = false ∧ ∀ j, waits ops i j = true → listed.getD j false = true := by
  unfold Region.ready at h
  obtain ⟨h1, h2⟩ := List.mem_filter.1 h
  have hi := List.mem_range.1 h1
  simp only [Bool.and_eq_true, Bool.not_eq_true'] at h2
  refine ⟨hi, h2.1, fun j hj => ?_⟩
  have h3 := h2.2
  unfold waits at hj
  rw [Array.getElem?_eq_getElem hi] at h3 hj
  simp only [Option.map_some, Option.getD_some] at h3 hj
  obtain ⟨k, hk, he⟩ := Array.any_eq_true.1 hj
  have h4 := (Array.all_eq_true.1 h3) k hk
  simp only [Bool.and_eq_true, beq_iff_eq] at he
  rw [he.1, he.2] at h4
  simpa using h4
theorem ready_of {listed : Array Bool} {i : Nat} (hi : i < ops.size) (hl : listed.getD i true = false) (h : ∀ j, waits ops i j = true → listed.getD j false = true) : i ∈ Region.ready .any ops listed := by
  unfold Region.ready
  refine List.mem_filter.2 ⟨List.mem_range.2 hi, ?_⟩
  rw [hl, Array.getElem?_eq_getElem hi]
  simp only [Bool.not_false, Bool.true_and, Option.map_some, Option.getD_some]
  refine Array.all_eq_true.2 fun k hk => ?_
  cases hb : Region.binds .any ops[i].after[k] with
  | false => rfl
  | true =>
    have := h ops[i].after[k].on (by
      unfold waits
      rw [Array.getElem?_eq_getElem hi]
      simp only [Option.map_some, Option.getD_some]
      refine Array.any_eq_true.2 ⟨k, hk, ?_⟩
      rw [hb]; simp)
    simpa using this
theorem waits_lt (ho : inOrder ops = true) {i j : Nat} (h : waits ops i j = true) : j < i := by
  unfold waits at h
  cases hx : ops[i]? with
  | none => rw [hx] at h; simp at h
  | some o =>
    have hi := (Array.getElem?_eq_some_iff.1 hx).1
    rw [hx] at h
    simp only [Option.map_some, Option.getD_some] at h
    obtain ⟨k, hk, he⟩ := Array.any_eq_true.1 h
    simp only [Bool.and_eq_true, beq_iff_eq] at he
    have h1 := List.all_eq_true.1 ho i (List.mem_range.2 hi)
    rw [hx] at h1
    simp only [Option.map_some, Option.getD_some] at h1
    have h2 := (Array.all_eq_true.1 h1) k hk
    simp only [decide_eq_true_eq] at h2
    omega

theorem cover_listed {listed : Array Bool} {i : Nat} (hd : ∀ q r, listed.getD q false = true → waits ops q r = true → listed.getD r false = true) (hi : ∀ r, waits ops i r = true → listed.getD r false = true) {j : Nat} (h : j ∈ cover ops i) : j = i ∨ listed.getD j false = true := by
  have key : ∀ (l S : List Nat), (∀ q ∈ S, q = i ∨ listed.getD q false = true) → ∀ q ∈ l.foldl (fun S k => if S.any (fun l => waits ops l k) then k :: S else S) S, q = i ∨ listed.getD q false = true := by
    intro l
    induction l with
    | nil => intro S hS q hq; exact hS q hq
    | cons k l ih =>
      intro S hS
      refine ih _ fun q hq => ?_
      dsimp only at hq
      split at hq
      · rename_i ha
        rcases List.mem_cons.1 hq with rfl | hq
        · obtain ⟨r, hr, hw⟩ := List.any_eq_true.1 ha
          rcases hS r hr with rfl | hr
          · exact .inr (hi _ hw)
          · exact .inr (hd r _ hr hw)
        · exact hS q hq
      · exact hS q hq
  exact key _ _ (fun q hq => .inl (List.mem_singleton.1 hq)) j h

/-- How many operations of 'pre' are not listed yet. -/
def lacks (n : Nat) (pre listed : Array Bool) : Nat := ((List.range n).filter fun i => pre.getD i false && !listed.getD i true).length
theorem getD_set (l : Array Bool) (i j : Nat) (d : Bool) : (l.setIfInBounds i true).getD j d = if i = j ∧ j < l.size then true else l.getD j d := by
  simp only [Array.getD_eq_getD_getElem?]
  by_cases h : i = j
  · subst h
    by_cases hs : i < l.size
    · simp [hs]
    · simp [hs]
  · rw [Array.getElem?_setIfInBounds_ne h]
    simp [h]
theorem filter_less : ∀ (l : List Nat) (p q : Nat → Bool) (i : Nat), l.Nodup → i ∈ l → p i = true → q i = false → (∀ j, j ≠ i → q j = p j) → (l.filter q).length + 1 = (l.filter p).length
  | [], _, _, _, _, h, _, _, _ => by cases h
  | x :: l, p, q, i, hn, hi, hp, hq, he => by
    obtain ⟨hx, hn'⟩ := List.nodup_cons.1 hn
    rcases List.mem_cons.1 hi with rfl | hi
    · have : l.filter q = l.filter p := List.filter_congr fun j hj => he j (fun e => hx (e ▸ hj))
      rw [List.filter_cons, List.filter_cons, hp, hq, this]; simp
    · have ih := filter_less l p q i hn' hi hp hq he
      have hne : x ≠ i := fun e => hx (e ▸ hi)
      rw [List.filter_cons, List.filter_cons, he x hne]
      split
      · rw [List.length_cons, List.length_cons]; omega
      · exact ih
theorem lacks_set {n : Nat} {pre listed : Array Bool} {i : Nat} (hi : i < n) (hp : pre.getD i false = true) (hl : listed.getD i true = false) : lacks n pre (listed.setIfInBounds i true) + 1 = lacks n pre listed := by
  have hs : i < listed.size := by
    rcases Nat.lt_or_ge i listed.size with h | h
    · exact h
    · rw [Array.getD_eq_getD_getElem?, Array.getElem?_eq_none h] at hl; cases hl
  refine filter_less _ _ _ i List.nodup_range (List.mem_range.2 hi) (by simp [hp, hl]) ?_ ?_
  · rw [getD_set, if_pos ⟨rfl, hs⟩, Bool.not_true, Bool.and_false]
  · intro j hj
    rw [getD_set, if_neg (fun h => hj h.1.symm)]

/-- A relation J that each operation of 'pre' keeps, and that gives what follows once these are listed. -/
theorem wpAny_pass (J : Array Bool → Act → World → Prop) (pre : Array Bool) (m : Nat) (hn : pre.size = ops.size) (ho : inOrder ops = true) (hlate : lateOnes ops pre = true)
    (hd : ∀ a w, J pre a w → wpAny P .any ops Q m pre a w)
    (hs : ∀ listed a w i, pre.getD i false = true → J listed a w → i ∈ Region.ready .any ops listed → wpOp P ops Q i (J (listed.setIfInBounds i true)) a w) :
    ∀ (k : Nat) (listed : Array Bool) (a : Act) (w : World), listed.size = ops.size → (∀ q r, listed.getD q false = true → waits ops q r = true → listed.getD r false = true) → (∀ i, i < ops.size → pre.getD i false = false → listed.getD i true = false) → lacks ops.size pre listed = k → J listed a w → wpAny P .any ops Q (k + m) listed a w
  | 0, listed, a, w, hz, _, hl, hk, h => by
    have : listed = pre := by
      refine Array.ext (by omega) fun i h1 h2 => ?_
      have hi : i < ops.size := by omega
      have e1 : pre.getD i false = pre[i] := by rw [Array.getD_eq_getD_getElem?, Array.getElem?_eq_getElem h2]; rfl
      have e2 : listed.getD i true = listed[i] := by rw [Array.getD_eq_getD_getElem?, Array.getElem?_eq_getElem h1]; rfl
      cases hp : pre[i] with
      | false => rw [← e2]; exact hl i hi (by rw [e1, hp])
      | true =>
        have h3 := List.filter_eq_nil_iff.1 (List.eq_nil_of_length_eq_zero hk) i (List.mem_range.2 hi)
        rw [e1, hp, e2] at h3
        simpa using h3
    subst this
    rw [Nat.zero_add]
    exact hd a w h
  | k + 1, listed, a, w, hz, hdn, hl, hk, h => by
    rw [show k + 1 + m = (k + m) + 1 by omega]
    have hne : ((List.range ops.size).filter fun i => pre.getD i false && !listed.getD i true) ≠ [] := fun e => by
      unfold lacks at hk; rw [e] at hk; simp at hk
    obtain ⟨j, hj⟩ := List.exists_mem_of_ne_nil _ hne
    obtain ⟨hj1, hj2⟩ := List.mem_filter.1 hj
    simp only [Bool.and_eq_true, Bool.not_eq_true'] at hj2
    have hjn := List.mem_range.1 hj1
    refine ⟨fun hr => ?_, fun i hi => ?_⟩
    · -- the least one that is not listed may come up
      exfalso
      have key : ∀ n i, i ≤ n → i < ops.size → listed.getD i true = false → False := by
        intro n
        induction n with
        | zero =>
          intro i h0 h1 h2
          have hi := ready_of (ops := ops) h1 h2 (fun q hq => by have := waits_lt ho hq; omega)
          rw [hr] at hi; cases hi
        | succ n ih =>
          intro i h0 h1 h2
          have hi := ready_of (ops := ops) h1 h2 (fun q hq => by
            have h3 := waits_lt ho hq
            have h4 : listed.getD q true = true := by
              cases hx : listed.getD q true with
              | true => rfl
              | false => exact (ih q (by omega) (by omega) hx).elim
            rw [Array.getD_eq_getD_getElem?, Array.getElem?_eq_getElem (by omega)] at h4 ⊢
            exact h4)
          rw [hr] at hi; cases hi
      exact key j j (Nat.le_refl _) hjn hj2.2
    · obtain ⟨h1, h2, h3⟩ := ready_parts hi
      have hp : pre.getD i false = true := by
        cases hx : pre.getD i false with
        | true => rfl
        | false =>
          have h4 := List.all_eq_true.1 hlate i (List.mem_range.2 h1)
          rw [hx, Bool.false_or] at h4
          have h5 := List.all_eq_true.1 h4 j (List.mem_range.2 hjn)
          rw [hj2.1] at h5
          have h6 : listed.getD j false = true := by
            rcases cover_listed hdn h3 (j := j) (by simpa using h5) with e | e
            · rw [e, hx] at hj2; cases hj2.1
            · exact e
          have h7 : listed.getD j true = listed.getD j false := by rw [Array.getD_eq_getD_getElem?, Array.getD_eq_getD_getElem?, Array.getElem?_eq_getElem (by omega)]; rfl
          rw [hj2.2, h6] at h7; cases h7
      refine wpOp_mono (fun a' w' hJ => ?_) (hs listed a w i hp h hi)
      refine wpAny_pass J pre m hn ho hlate hd hs k _ a' w' (by rw [Array.size_setIfInBounds]; exact hz) (fun q r hq hr => ?_) (fun q hq hpq => ?_) ?_ hJ
      · have hlr : listed.getD r false = true := by
          rw [getD_set] at hq
          split at hq
          · rename_i hh; exact h3 r (by rw [hh.1]; exact hr)
          · exact hdn q r hq hr
        rw [getD_set]
        split
        · rfl
        · exact hlr
      · rw [getD_set]
        split
        · rename_i hh; rw [← hh.1, hp] at hpq; cases hpq
        · exact hl q hq hpq
      · have := lacks_set h1 hp h2
        omega
end

/-- What holds among the operations of a region: what each listed one claims, the other slots as they were; old blocks as they were. -/
structure RJ (ops : Array Oper) (cl : List Cl) (a0 : Act) (w0 : World) (listed : Array Bool) (a : Act) (w : World) : Prop where
  defers : a.defers = a0.defers
  size : a.tmps.size = a0.tmps.size
  same : ∀ s, (∀ i, listed.getD i false = true → dstOf ops i ≠ some s) → a.tmps[s]? = a0.tmps[s]?
  vals : ∀ i d v, listed.getD i false = true → dstOf ops i = some d → clOf cl i = .is v → a.tmps[d]? = some v
  t : Tch [] w0 w
  boxes : ∃ b : Nat → Nat, (∀ i d o, listed.getD i false = true → dstOf ops i = some d → clOf cl i = .new o → a.tmps[d]? = some (.pointer (some ⟨b i, 0, none⟩)) ∧ w.heap[b i]? = some o ∧ w0.heap.size ≤ b i) ∧
    ∀ i j d e o p, i ≠ j → listed.getD i false = true → listed.getD j false = true → dstOf ops i = some d → dstOf ops j = some e → clOf cl i = .new o → clOf cl j = .new p → b i ≠ b j

section
variable {P : Program} {ops : Array Oper} {Q : Exit → Act → World → Prop} {cl : List Cl} {a0 : Act} {w0 : World} {listed : Array Bool} {a : Act} {w w' : World}

theorem RJ.start (a0 : Act) (w0 : World) (n : Nat) : RJ ops cl a0 w0 (Array.replicate n false) a0 w0 := by
  have hf : ∀ i, (Array.replicate n false).getD i false = false := fun i => by
    rw [Array.getD_eq_getD_getElem?]
    rcases Nat.lt_or_ge i n with h | h
    · rw [Array.getElem?_eq_getElem (by simpa using h)]; simp
    · rw [Array.getElem?_eq_none (by simpa using h)]; rfl
  exact ⟨rfl, rfl, fun _ _ => rfl, fun i _ _ h => (by rw [hf] at h; cases h), Tch.refl [] w0, fun _ => 0, fun i _ _ h => (by rw [hf] at h; cases h), fun i _ _ _ _ _ _ h => (by rw [hf] at h; cases h)⟩
/-- The slot of an operation for which this one waits. -/
theorem RJ.val (h : RJ ops cl a0 w0 listed a w) {i : Nat} (hr : i ∈ Region.ready .any ops listed) (j d : Nat) {v : Value} (hw : waits ops i j = true) (hd : dstOf ops j = some d) (hc : clOf cl j = .is v) : a.eval (.tmp d) = v := by
  have := h.vals j d v ((ready_parts hr).2.2 j hw) hd hc
  show a.tmps.getD d undef = v
  rw [Array.getD_eq_getD_getElem?, this]; rfl
theorem eval_getD {t : Nat} {v : Value} (h : a.eval (.tmp t) = v) : a.tmps[t]?.getD undef = v := by
  rw [← Array.getD_eq_getD_getElem?]; exact h
/-- A slot that no operation of the region writes. -/
theorem RJ.old (h : RJ ops cl a0 w0 listed a w) (s : Nat) {v : Value} (hs : (ops.all fun o => o.dst != some s) = true) (hv : a0.tmps[s]? = some v) : a.eval (.tmp s) = v := by
  have := h.same s fun i _ hd => by
    unfold dstOf at hd
    rcases Nat.lt_or_ge i ops.size with hi | hi
    · have h1 := Array.all_eq_true.1 hs i hi
      rw [Array.getElem?_eq_getElem hi] at hd
      simp only [Option.bind_some] at hd
      rw [hd] at h1
      simp at h1
    · rw [Array.getElem?_eq_none hi] at hd; cases hd
  show a.tmps.getD s undef = v
  rw [Array.getD_eq_getD_getElem?, this, hv]; rfl
theorem RJ.put (h : RJ ops cl a0 w0 listed a w) {i : Nat} (hr : i ∈ Region.ready .any ops listed) (hap : apartDsts ops = true) (d : Nat) (hd : dstOf ops i = some d) (v : Value) (ht : Tch [] w w')
    (hc : clOf cl i = .is v ∨ ∃ o, clOf cl i = .new o ∧ v = .pointer (some ⟨w.heap.size, 0, none⟩) ∧ w'.heap[w.heap.size]? = some o) (hsz : d < a0.tmps.size) :
    RJ ops cl a0 w0 (listed.setIfInBounds i true) (a.put (some d) v) w' := by
  obtain ⟨hi, hl, _⟩ := ready_parts hr
  obtain ⟨b, hb1, hb2⟩ := h.boxes
  have hne : ∀ j e, j ≠ i → dstOf ops j = some e → d ≠ e := fun j e hj he e1 => by
    have hjn : j < ops.size := by
      rcases Nat.lt_or_ge j ops.size with h | h
      · exact h
      · unfold dstOf at he; rw [Array.getElem?_eq_none h] at he; cases he
    have h1 := List.all_eq_true.1 (List.all_eq_true.1 hap j (List.mem_range.2 hjn)) i (List.mem_range.2 hi)
    rw [he, hd, e1] at h1
    simp [hj] at h1
  have hset : ∀ j, (listed.setIfInBounds i true).getD j false = true → j = i ∨ listed.getD j false = true := fun j hj => by
    rw [getD_set] at hj
    split at hj
    · rename_i hh; exact .inl hh.1.symm
    · exact .inr hj
  have hold : ∀ e, d ≠ e → (a.put (some d) v).tmps[e]? = a.tmps[e]? := fun e he => by
    show (a.tmps.setIfInBounds d v)[e]? = _
    rw [Array.getElem?_setIfInBounds_ne he]
  have hnew : (a.put (some d) v).tmps[d]? = some v := by
    show (a.tmps.setIfInBounds d v)[d]? = _
    rw [Array.getElem?_setIfInBounds_self_of_lt (by rw [h.size]; exact hsz)]
  refine ⟨h.defers, ?_, fun s hs => ?_, fun j e x hj he hx => ?_, h.t.trans ht (by simp), fun j => if j = i then w.heap.size else b j, fun j e o hj he ho => ?_, fun j k e1 e2 o p hjk hj hk hd1 hd2 ho hp => ?_⟩
  · show (a.tmps.setIfInBounds d v).size = _
    rw [Array.size_setIfInBounds]; exact h.size
  · have hin : (listed.setIfInBounds i true).getD i false = true := by
      have hs : i < listed.size := by
        rcases Nat.lt_or_ge i listed.size with h | h
        · exact h
        · rw [Array.getD_eq_getD_getElem?, Array.getElem?_eq_none h] at hl; cases hl
      rw [getD_set, if_pos ⟨rfl, hs⟩]
    have : d ≠ s := fun e => hs i hin (by rw [hd, e])
    rw [hold s this]
    refine h.same s fun j hj => hs j ?_
    rw [getD_set]
    split
    · rfl
    · exact hj
  · rcases hset j hj with rfl | hj
    · rw [hd] at he; cases he
      rcases hc with hc | ⟨o, hc, _⟩
      · rw [hc] at hx; cases hx; exact hnew
      · rw [hc] at hx; cases hx
    · by_cases hji : j = i
      · subst hji
        rw [hd] at he; cases he
        rcases hc with hc | ⟨o, hc, _⟩
        · rw [hc] at hx; cases hx; exact hnew
        · rw [hc] at hx; cases hx
      · rw [hold e (hne j e hji he)]; exact h.vals j e x hj he hx
  · dsimp only
    by_cases hji : j = i
    · subst hji
      rw [hd] at he; cases he
      rcases hc with hc | ⟨o', hc, hv, hw⟩
      · rw [hc] at ho; cases ho
      · rw [hc] at ho; cases ho
        rw [if_pos rfl]
        exact ⟨by rw [hnew, hv], hw, h.t.size⟩
    · have hj' := (hset j hj).resolve_left hji
      obtain ⟨g1, g2, g3⟩ := hb1 j e o hj' he ho
      rw [if_neg hji, hold e (hne j e hji he)]
      exact ⟨g1, (ht.block _ (Array.getElem?_eq_some_iff.1 g2).1 (by simp)).trans g2, g3⟩
  · dsimp only
    have hlt : ∀ q o e, listed.getD q false = true → clOf cl q = .new o → dstOf ops q = some e → b q < w.heap.size := fun q o e hq hq2 he => (Array.getElem?_eq_some_iff.1 (hb1 q e o hq he hq2).2.1).1
    by_cases hji : j = i
    · have hki : k ≠ i := fun e => hjk (hji.trans e.symm)
      have := hlt k p e2 ((hset k hk).resolve_left hki) hp hd2
      rw [if_pos hji, if_neg hki]
      omega
    · have hj' := (hset j hj).resolve_left hji
      by_cases hki : k = i
      · have := hlt j o e1 hj' ho hd1
        rw [if_neg hji, if_pos hki]
        omega
      · rw [if_neg hji, if_neg hki]
        exact hb2 j k e1 e2 o p hjk hj' ((hset k hk).resolve_left hki) hd1 hd2 ho hp
/-- The slot of an operation that is guarded by this one's truth. -/
theorem RJ.guard (h : RJ ops cl a0 w0 listed a w) {i : Nat} (hr : i ∈ Region.ready .any ops listed) {o : Oper} (g d : Nat) (hg : o.guard = some (g, true)) (hw : waits ops i g = true) (hd : dstOf ops g = some d) (hc : clOf cl g = .is (.bool true)) : Region.wanted o (yielded ops a.tmps) = true := by
  have h1 := h.vals g d _ ((ready_parts hr).2.2 g hw) hd hc
  have hd' : (ops[g]?).bind (·.dst) = some d := hd
  unfold Region.wanted
  rw [hg]
  show (yielded ops a.tmps g == some true) = true
  unfold yielded
  rw [hd']
  show ((match a.tmps[d]? with | some (.bool b) => some b | _ => none) == some true) = true
  rw [h1]
  rfl
theorem wanted_none {o : Oper} (hg : o.guard = none) (y : Nat → Option Bool) : Region.wanted o y = true := by
  unfold Region.wanted; rw [hg]
theorem eval_const (a : Act) (v : Value) : a.eval (.const v) = v := rfl
theorem eval_func (a : Act) (f : FuncId) : a.eval (.func f) = .func (.func f) #[] #[] := rfl
theorem eval_global (a : Act) (g : Nat) : a.eval (.global g) = .pointer (some ⟨g, 0, none⟩) := rfl
/-- One operation: what is left is what its own carrying out shows. -/
theorem J_step {J : Act → World → Prop} {i : Nat} {o : Oper} (ho : ops[i]? = some o) (hw : Region.wanted o (yielded ops a.tmps) = true) (h : ∀ K : Act → World → Prop, Hid (∀ a' w', J a' w' → K a' w') → o.upon P a K Q ((execOp a.eval o).run P w)) : wpOp P ops Q i J a w := by
  have := h J (Lib.hid fun _ _ h => h)
  unfold wpOp
  rw [ho]
  show if Region.wanted o (yielded ops a.tmps) = true then _ else _
  rw [if_pos hw]
  exact .inl this
theorem lt_cases {p : Nat → Prop} {n : Nat} (h : p n) (r : ∀ i, i < n → p i) : ∀ i, i < n + 1 → p i := fun i hi => by
  rcases Nat.lt_or_ge i n with h1 | h1
  · exact r i h1
  · have : i = n := by omega
    subst this; exact h
theorem lt_none {p : Nat → Prop} : ∀ i, i < 0 → p i := fun i hi => by omega

/-- The value that an operation claims; b: where its new box lies. -/
def clVal (cl : List Cl) (b : Nat → Nat) (i : Nat) : Option Value := match clOf cl i with | .is v => some v | .new _ => some (.pointer (some ⟨b i, 0, none⟩)) | .none => none
def endStep (ops : Array Oper) (cl : List Cl) (pre : Array Bool) (b : Nat → Nat) (a : Act) (i : Nat) : Act :=
  if pre.getD i false then (match dstOf ops i, clVal cl b i with | some d, some v => a.put (some d) v | _, _ => a) else a
/-- The frame once the operations of 'pre' are carried out. -/
def endOf (ops : Array Oper) (cl : List Cl) (pre : Array Bool) (b : Nat → Nat) (l : List Nat) (a : Act) : Act := l.foldl (endStep ops cl pre b) a
theorem endOf_defers (pre : Array Bool) (b : Nat → Nat) : ∀ (l : List Nat) (a : Act), (endOf ops cl pre b l a).defers = a.defers ∧ (endOf ops cl pre b l a).tmps.size = a.tmps.size
  | [], a => ⟨rfl, rfl⟩
  | i :: l, a => by
    have ih := endOf_defers pre b l (endStep ops cl pre b a i)
    have h : (endStep ops cl pre b a i).defers = a.defers ∧ (endStep ops cl pre b a i).tmps.size = a.tmps.size := by
      unfold endStep
      split
      · split
        · exact ⟨rfl, by show (a.tmps.setIfInBounds _ _).size = _; rw [Array.size_setIfInBounds]⟩
        · exact ⟨rfl, rfl⟩
      · exact ⟨rfl, rfl⟩
    exact ⟨ih.1.trans h.1, ih.2.trans h.2⟩
theorem endStep_ne (pre : Array Bool) (b : Nat → Nat) (a : Act) (i s : Nat) (h : pre.getD i false = true → dstOf ops i ≠ some s) : (endStep ops cl pre b a i).tmps[s]? = a.tmps[s]? := by
  unfold endStep
  split
  · rename_i hp
    split
    · rename_i d v hd hv
      show (a.tmps.setIfInBounds d v)[s]? = _
      rw [Array.getElem?_setIfInBounds_ne (fun e => h hp (by rw [hd, e]))]
    · rfl
  · rfl
theorem endOf_ne (pre : Array Bool) (b : Nat → Nat) (s : Nat) : ∀ (l : List Nat) (a : Act), (∀ i ∈ l, pre.getD i false = true → dstOf ops i ≠ some s) → (endOf ops cl pre b l a).tmps[s]? = a.tmps[s]?
  | [], _, _ => rfl
  | i :: l, a, h => (endOf_ne pre b s l _ fun j hj => h j (List.mem_cons_of_mem _ hj)).trans (endStep_ne pre b a i s (h i List.mem_cons_self))
theorem endOf_eq (pre : Array Bool) (b : Nat → Nat) (s i : Nat) (v : Value) (hp : pre.getD i false = true) (hd : dstOf ops i = some s) (hv : clVal cl b i = some v) : ∀ (l : List Nat) (a : Act), l.Nodup → i ∈ l → s < a.tmps.size → (∀ j ∈ l, j ≠ i → dstOf ops j ≠ some s) → (endOf ops cl pre b l a).tmps[s]? = some v
  | [], _, _, h, _, _ => by cases h
  | x :: l, a, hn, hi, hz, h => by
    obtain ⟨hx, hn'⟩ := List.nodup_cons.1 hn
    rcases List.mem_cons.1 hi with rfl | hi
    · refine (endOf_ne pre b s l _ fun j hj _ => h j (List.mem_cons_of_mem _ hj) (fun e => hx (e ▸ hj))).trans ?_
      unfold endStep
      rw [if_pos hp, hd, hv]
      show (a.tmps.setIfInBounds s v)[s]? = _
      rw [Array.getElem?_setIfInBounds_self_of_lt hz]
    · refine endOf_eq pre b s i v hp hd hv l _ hn' hi ?_ fun j hj => h j (List.mem_cons_of_mem _ hj)
      have := (endOf_defers (ops := ops) (cl := cl) pre b [x] a).2
      show s < (endOf ops cl pre b [x] a).tmps.size
      rw [this]; exact hz

/-- All that is looked up once and for all of a region's text. -/
def regionOk (ops : Array Oper) (cl : List Cl) (pre : Array Bool) (m N : Nat) : Bool :=
  inOrder ops && lateOnes ops pre && apartDsts ops && (lacks ops.size pre (Array.replicate ops.size false) + m == ops.size) && (pre.size == ops.size) &&
  (List.range ops.size).all fun i => !pre.getD i false || (match dstOf ops i, clOf cl i with | some _, .none => false | some d, _ => decide (d < N) | none, _ => true)
/-- What is known of the new boxes. -/
def NewOk (ops : Array Oper) (cl : List Cl) (pre : Array Bool) (w0 : World) (b : Nat → Nat) (w : World) : Prop :=
  (∀ i d o, pre.getD i false = true → dstOf ops i = some d → clOf cl i = .new o → w.heap[b i]? = some o ∧ w0.heap.size ≤ b i) ∧
    ∀ i j d e o p, i ≠ j → pre.getD i false = true → pre.getD j false = true → dstOf ops i = some d → dstOf ops j = some e → clOf cl i = .new o → clOf cl j = .new p → b i ≠ b j
theorem RJ.ends {pre : Array Bool} {m N : Nat} (h : RJ ops cl a0 w0 pre a w) (hok : regionOk ops cl pre m N = true) (hN : a0.tmps.size = N) : ∃ b, a = endOf ops cl pre b (List.range ops.size) a0 ∧ NewOk ops cl pre w0 b w := by
  obtain ⟨b, hb1, hb2⟩ := h.boxes
  simp only [regionOk, Bool.and_eq_true] at hok
  obtain ⟨⟨⟨⟨⟨k1, k2⟩, k3⟩, k4⟩, k5⟩, k6⟩ := hok
  have hlt : ∀ i d, dstOf ops i = some d → i < ops.size := fun i d hd => by
    rcases Nat.lt_or_ge i ops.size with h | h
    · exact h
    · unfold dstOf at hd; rw [Array.getElem?_eq_none h] at hd; cases hd
  have hap : ∀ i j d, i ≠ j → dstOf ops i = some d → dstOf ops j ≠ some d := fun i j d hij hi hj => by
    have h1 := List.all_eq_true.1 (List.all_eq_true.1 k3 i (List.mem_range.2 (hlt i d hi))) j (List.mem_range.2 (hlt j d hj))
    rw [hi, hj] at h1
    simp [hij] at h1
  refine ⟨b, ?_, fun i d o hp hd hc => (hb1 i d o hp hd hc).2, hb2⟩
  have he := endOf_defers (ops := ops) (cl := cl) pre b (List.range ops.size) a0
  have ht : a.tmps = (endOf ops cl pre b (List.range ops.size) a0).tmps := by
    refine Array.ext_getElem? fun s => ?_
    by_cases hx : ∃ i, pre.getD i false = true ∧ dstOf ops i = some s
    · obtain ⟨i, hp, hd⟩ := hx
      have k7 := List.all_eq_true.1 k6 i (List.mem_range.2 (hlt i s hd))
      rw [hp, Bool.not_true, Bool.false_or, hd] at k7
      cases hc : clOf cl i with
      | none => rw [hc] at k7; cases k7
      | is v =>
        rw [hc] at k7
        rw [h.vals i s v hp hd hc]
        exact (endOf_eq pre b s i v hp hd (by unfold clVal; rw [hc]) _ a0 List.nodup_range (List.mem_range.2 (hlt i s hd)) (by rw [hN]; simpa using k7) fun j _ hj e => hap i j s (Ne.symm hj) hd e).symm
      | new o =>
        rw [hc] at k7
        rw [(hb1 i s o hp hd hc).1]
        exact (endOf_eq pre b s i _ hp hd (by unfold clVal; rw [hc]) _ a0 List.nodup_range (List.mem_range.2 (hlt i s hd)) (by rw [hN]; simpa using k7) fun j _ hj e => hap i j s (Ne.symm hj) hd e).symm
    · rw [endOf_ne pre b s _ a0 fun i _ hp hd => hx ⟨i, hp, hd⟩]
      exact h.same s fun i hp hd => hx ⟨i, hp, hd⟩
  cases a with
  | mk t d =>
    have hd2 := h.defers
    simp only at ht hd2
    rw [ht, hd2, ← he.1]
/-- THE PASS: every operation of 'pre' shows its claim from the claims of those before it (A: the frame, of which 'old' is known); what follows starts at the frame with all of them. -/
theorem wp_region_J {id : Nat} {w : World} (hm : P.follows .mixedOrders = true) (N : Nat) (old : List (Nat × Value)) (cl : List Cl) (pre : Array Bool) (m : Nat) (hok : regionOk ops cl pre m N = true) (hN : a0.tmps.size = N) (hold : ∀ p ∈ old, a0.tmps[p.1]? = some p.2)
    (hs : ∀ A : Act, A.tmps.size = N → (∀ p ∈ old, A.tmps[p.1]? = some p.2) → ∀ i, i < ops.size → ∀ listed a w', pre.getD i false = true → RJ ops cl A w.drew listed a w' → i ∈ Region.ready .any ops listed → wpOp P ops Q i (RJ ops cl A w.drew (listed.setIfInBounds i true)) a w')
    (hd : ∀ b w', Tch [] w.drew w' → NewOk ops cl pre w.drew b w' → wpAny P .any ops Q m pre (endOf ops cl pre b (List.range ops.size) a0) w') : (Code.region id ops true).wp P Q a0 w := by
  refine wp_region_any hm ?_
  have hok' := hok
  simp only [regionOk, Bool.and_eq_true, beq_iff_eq] at hok'
  obtain ⟨⟨⟨⟨⟨k1, k2⟩, k3⟩, k4⟩, k5⟩, k6⟩ := hok'
  have := wpAny_pass (P := P) (Q := Q) (fun listed a w' => RJ ops cl a0 w.drew listed a w') pre m k5 k1 k2 (fun a w' h => by
    obtain ⟨b, rfl, hb⟩ := h.ends hok hN
    exact hd b w' h.t hb) (fun listed a w' i hp h hr => hs a0 hN hold i (ready_parts hr).1 listed a w' hp h hr) _ (Array.replicate ops.size false) a0 w.drew (by simp) (fun q r hq _ => by
      rw [Array.getD_eq_getD_getElem?] at hq
      rcases Nat.lt_or_ge q ops.size with hx | hx
      · rw [Array.getElem?_eq_getElem (by simpa using hx)] at hq; simp at hq
      · rw [Array.getElem?_eq_none (by simpa using hx)] at hq; cases hq) (fun i hi _ => by
      rw [Array.getD_eq_getD_getElem?, Array.getElem?_eq_getElem (by simpa using hi)]; simp) rfl (RJ.start a0 w.drew ops.size)
  rw [k4] at this
  exact this
/-- What the operations of 'pre' leave, as a list of slots. -/
def ends (ops : Array Oper) (cl : List Cl) (pre : Array Bool) (b : Nat → Nat) (l : List Nat) : List (Nat × Value) :=
  l.filterMap fun i => if pre.getD i false then (match dstOf ops i, clVal cl b i with | some d, some v => some (d, v) | _, _ => none) else none
def putAll (l : List (Nat × Value)) (a : Act) : Act := l.foldl (fun a p => a.put (some p.1) p.2) a
theorem endOf_ends (pre : Array Bool) (b : Nat → Nat) : ∀ (l : List Nat) (a : Act), endOf ops cl pre b l a = putAll (ends ops cl pre b l) a
  | [], _ => rfl
  | i :: l, a => by
    have ih := endOf_ends pre b l (endStep ops cl pre b a i)
    refine ih.trans ?_
    unfold ends endStep
    rw [List.filterMap_cons]
    split
    · split <;> rfl
    · rfl
theorem RJ.isV (h : RJ ops cl a0 w0 listed a w) {pre : Array Bool} {m N : Nat} (hok : regionOk ops cl pre m N = true) (hN : a0.tmps.size = N) {i d : Nat} {v : Value} (hp : pre.getD i false = true) (hr : i ∈ Region.ready .any ops listed) (hd : dstOf ops i = some d) (hc : clOf cl i = .is v) (ht : Tch [] w w') :
    RJ ops cl a0 w0 (listed.setIfInBounds i true) (a.put (some d) v) w' := by
  simp only [regionOk, Bool.and_eq_true] at hok
  have h1 := List.all_eq_true.1 hok.2 i (List.mem_range.2 (ready_parts hr).1)
  rw [hp, hd, hc] at h1
  exact h.put hr hok.1.1.1.2 d hd v ht (.inl hc) (by rw [hN]; simpa using h1)
theorem RJ.newB (h : RJ ops cl a0 w0 listed a w) {pre : Array Bool} {m N : Nat} (hok : regionOk ops cl pre m N = true) (hN : a0.tmps.size = N) {i d : Nat} {o : Obj} (hp : pre.getD i false = true) (hr : i ∈ Region.ready .any ops listed) (hd : dstOf ops i = some d) (hc : clOf cl i = .new o) :
    RJ ops cl a0 w0 (listed.setIfInBounds i true) (a.put (some d) (.pointer (some ⟨w.heap.size, 0, none⟩))) (w.alloc o) := by
  simp only [regionOk, Bool.and_eq_true] at hok
  have h1 := List.all_eq_true.1 hok.2 i (List.mem_range.2 (ready_parts hr).1)
  rw [hp, hd, hc] at h1
  exact h.put hr hok.1.1.1.2 d hd _ ((Tch.refl [] w).alloc o) (.inr ⟨o, hc, rfl, Below.heap_alloc_new' w o⟩) (by rw [hN]; simpa using h1)
/-- THE PASS, with what it leaves written out ('fin'). -/
theorem wp_region_pass {id : Nat} {w : World} (hm : P.follows .mixedOrders = true) (N : Nat) (old : List (Nat × Value)) (cl : List Cl) (pre : Array Bool) (m : Nat) (fin : (Nat → Nat) → List (Nat × Value)) (hok : regionOk ops cl pre m N = true) (hN : a0.tmps.size = N) (hold : ∀ p ∈ old, a0.tmps[p.1]? = some p.2)
    (hfin : ∀ b, ends ops cl pre b (List.range ops.size) = fin b)
    (hs : ∀ A : Act, regionOk ops cl pre m N = true → A.tmps.size = N → (∀ p ∈ old, A.tmps[p.1]? = some p.2) → ∀ i, i < ops.size → ∀ listed a w', pre.getD i false = true → RJ ops cl A w.drew listed a w' → i ∈ Region.ready .any ops listed → wpOp P ops Q i (RJ ops cl A w.drew (listed.setIfInBounds i true)) a w')
    (hd : ∀ b w', Tch [] w.drew w' → NewOk ops cl pre w.drew b w' → wpAny P .any ops Q m pre (putAll (fin b) a0) w') : (Code.region id ops true).wp P Q a0 w :=
  wp_region_J hm N old cl pre m hok hN hold (fun A => hs A hok) fun b w' h1 h2 => by
    rw [endOf_ends, hfin]; exact hd b w' h1 h2
theorem wpAny_end {pre : Array Bool} (hr : Region.ready .any ops pre = []) (h : Q .normal a w) : wpAny P .any ops Q 0 pre a w := ⟨hr, h⟩
/-- A whole box is loaded. -/
theorem up_load_row {o : Oper} {K : Act → World → Prop} (ty : TypeId) (x : Operand) (ho : o.op = .load ty x) (b : Nat) (hx : a.eval x = .pointer (some ⟨b, 0, none⟩)) (cs : Array Value) (t : TypeId) (n : Nat) {d : TypeDesc} (hb : w.heap[b]? = some (.cells cs t (0, 0))) (hs : cs.size = n)
    (hu : P.underlying ty = some d) (hd : (match d with | .struct _ | .array _ _ => true | _ => false) = true) (hi : (P.info? ty).map (·.size) = some n) (h : K (a.put o.dst (.agg cs)) w) : o.upon P a K Q ((execOp a.eval o).run P w) := by
  unfold execOp
  simp only [ho, hx, Instr.loadAt, Instr.sureAddr, Sem.run_bind, Sem.run_pure, Result.andThen_ok, run_loadVar_row w b t ty cs (0, 0) d hb hu hd (by rw [hs]; exact hi)]
  exact h
/-- The frame with a box that the region laid. -/
theorem Fr.with {w1 wb : World} {l : List (Nat × Obj)} (h : Fr w1 w l) {g : Nat} {o : Obj} (hg : w.heap[g]? = some o) (hn : wb.heap.size ≤ g) (hw : w1.heap.size ≤ wb.heap.size) : Fr w1 w (l ++ [(g, o)]) :=
  ⟨fun q hq => by
    rcases List.mem_append.1 hq with hq | hq
    · exact h.row q hq
    · rw [List.mem_singleton.1 hq]; exact hg, fun q hq => by
    rcases List.mem_append.1 hq with hq | hq
    · exact h.new q hq
    · rw [List.mem_singleton.1 hq]; exact Nat.le_trans hw hn, h.t⟩
end

end Go.Proofs.YtmpfgkpimjiecaaDoor
