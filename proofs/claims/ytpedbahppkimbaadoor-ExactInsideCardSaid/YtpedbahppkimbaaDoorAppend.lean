/- A slice that owns a block from its head on; append to it. -/
import Derived.Test.YtpedbahppkimbaaDoorMem
import Derived.Lib.AppendZerosOnto
import Derived.ArgAppend
namespace Go.Proofs.YtpedbahppkimbaaDoor
open Go.RowKit

/-- Block g, of cap cells, begins with the numbers xs. -/
def Own (w : World) (T : TypeId) (k : IntKind) (g cap : Nat) (xs : List Nat) : Prop :=
  ∃ rest : List Value, Win w T k g 0 [] xs rest ∧ xs.length + rest.length = cap ∧ cap ≤ maxLen

section
variable {w w' : World} {T : TypeId} {k : IntKind} {g cap : Nat} {xs : List Nat}

theorem Own.win (h : Own w T k g cap xs) : ∃ rest, Win w T k g 0 [] xs rest := by obtain ⟨r, h1, _⟩ := h; exact ⟨r, h1⟩
theorem Own.lt (h : Own w T k g cap xs) : g < w.heap.size := by obtain ⟨r, h1, _⟩ := h; exact h1.lt
theorem Own.le (h : Own w T k g cap xs) : xs.length ≤ cap := by obtain ⟨r, _, h2, _⟩ := h; omega
theorem Own.le' (h : Own w T k g cap xs) : cap ≤ maxLen := by obtain ⟨r, _, _, h2⟩ := h; exact h2
theorem Own.kept {S : List Nat} (h : Own w T k g cap xs) (ht : Tch S w w') (hn : g ∉ S) : Own w' T k g cap xs := by
  obtain ⟨r, h1, h2, h3⟩ := h; exact ⟨r, h1.kept ht hn, h2, h3⟩
theorem Own.drewN (h : Own w T k g cap xs) (n : Nat) : Own (w.drewN n) T k g cap xs := h

/-- The same block, its numbers written anew. -/
theorem Own.again {rest : List Value} {ys : List Nat} (h : Own w T k g cap xs) (h1 : Win w T k g 0 [] xs rest) (h2 : Win w' T k g 0 [] ys rest) (hl : ys.length = xs.length) : Own w' T k g cap ys := by
  obtain ⟨r, g1, g2, g3⟩ := h
  have e := g1.1.symm.trans h1.1
  simp only [Option.some.injEq, Obj.cells.injEq, List.nil_append] at e
  have e2 := congrArg Array.toList e.1
  simp only [List.append_cancel_left_eq] at e2
  subst e2
  exact ⟨r, h2, by omega, g3⟩

/-- A shorter slice of the same block. -/
theorem Own.take (h : Own w T k g cap xs) (n : Nat) : Own w T k g cap (xs.take n) := by
  obtain ⟨r, h1, h2, h3⟩ := h
  refine ⟨ints k (xs.drop n) ++ r, ⟨?_, h1.2⟩, ?_, h3⟩
  · rw [h1.1]; congr 3; simp only [List.nil_append]; rw [← List.append_assoc, ← ints_append, List.take_append_drop]
  · rw [List.length_append, ints_length, ← Nat.add_assoc, ← List.length_append, List.take_append_drop]; exact h2

theorem Own.row (h : Own w T k g cap xs) : ∃ cur : Array Value, w.heap[g]? = some (.cells cur T (0, 0)) ∧ cur.size = cap ∧ cur.toList.take xs.length = ints k xs := by
  obtain ⟨r, h1, h2, h3⟩ := h
  refine ⟨_, h1.1, ?_, ?_⟩
  · simp [ints_length]; exact h2
  · simp only [List.nil_append]
    rw [List.take_left' (ints_length k xs)]

theorem Own.of_row {cur : Array Value} (h : w.heap[g]? = some (.cells cur T (0, 0))) (hs : cur.size = cap) (hm : cap ≤ maxLen) (ht : cur.toList.take xs.length = ints k xs) (hl : xs.length ≤ cap) : Own w T k g cap xs := by
  refine ⟨cur.toList.drop xs.length, ⟨?_, rfl⟩, ?_, hm⟩
  · rw [h, List.nil_append, ← ht, List.take_append_drop]
  · simp [hs]; omega

theorem Own.of_owns {base n : Nat} {v : Value} (h : w.ownsRow base T 1 v n (ints k xs)) (hn : n = xs.length) (h0 : 0 < n) : ∃ g cap, v = .slice (some ⟨g, 0, none⟩) n cap ∧ base ≤ g ∧ Own w T k g cap xs := by
  obtain ⟨_, h2⟩ := h
  rcases h2 with ⟨_, h3⟩ | ⟨g, cap, cur, hv, hb, hh, hnc, hcm, hcs, ht⟩
  · omega
  · exact ⟨g, cap, hv, hb, Own.of_row hh (by omega) hcm (by rw [← hn, ← ht, Nat.mul_one]) (by omega)⟩
end

/-- What an append leaves: the numbers ys, in the block g or in a new one. -/
def App (w : World) (T : TypeId) (k : IntKind) (g : Nat) (ys : List Nat) (v' : Value) (w' : World) : Prop :=
  ∃ g' cap', v' = .slice (some ⟨g', 0, none⟩) ys.length cap' ∧ Own w' T k g' cap' ys ∧ (g' = g ∨ w.heap.size ≤ g') ∧ Tch [g] w w'

theorem zeroCells_one (v : Value) (n : Nat) : (Builtin.zeroCells #[v] n).toList = List.replicate n v := by
  apply List.ext_getElem
  · simp [Builtin.zeroCells]
  · intro i h1 h2
    simp [Builtin.zeroCells, Nat.mod_one]

theorem ints_replicate (k : IntKind) (n : Nat) : ints k (List.replicate n 0) = List.replicate n (.int k 0) := by simp [ints]

section
variable {P : Program} (w : World) (t ty T : TypeId) (k : IntKind) (i : TypeInfo) (ht : P.underlying t = some (.slice T)) (hi : P.info? T = some i) (hz : i.zero = some (.int k 0)) (hs : i.size = 1) (hb : i.bytes ≤ 8) (g cap : Nat) (xs : List Nat) (hown : Own w T k g cap xs)
include ht hi hz hs hb hown

/-- 'append(xs, ys...)', ys somewhere in memory. -/
theorem app_cells (a : Addr) (c : Nat) (ys : List Nat) (hy : ∀ j u, (ints k ys)[j]? = some u → w.cell? (a.add j) = some u) (hl : xs.length + ys.length ≤ 1000000000000) (hne : 0 < xs.length + ys.length) :
    ∃ v' w', (Builtin.append_ #[t, t] ty #[.slice (some ⟨g, 0, none⟩) xs.length cap, .slice (some a) ys.length c]).run P w = .ok v' w' ∧ App w T k g (xs ++ ys) v' w' := by
  have hmul : (xs.length + ys.length) * i.bytes ≤ (xs.length + ys.length) * 8 := Nat.mul_le_mul_left _ hb
  obtain ⟨cur, h1, h2, h3⟩ := hown.row
  by_cases hroom : xs.length + ys.length ≤ cap
  · have hr := run_append_room (P := P) w t ty T i ht hi g xs.length cap cur h1 a ys.length c (ints k ys) (by rw [ints_length, hs, Nat.mul_one]) hy (by intro u hu; simp [ints] at hu; obtain ⟨_, _, rfl⟩ := hu; rfl) hroom (by rw [ints_length, hs, Nat.mul_one]; omega)
    refine ⟨_, _, hr, g, cap, by rw [List.length_append], ?_, .inl rfl, ?_⟩
    · refine Own.of_row (setRow_heap w g cur _ T _ h1) ?_ hown.le' ?_ (by rw [List.length_append]; exact hroom)
      · simp [hs, ints_length]; omega
      · simp only [hs, Nat.mul_one, h3, ints_append]
        rw [List.take_left' (by simp [ints_length])]
    · exact ⟨rfl, rfl, rfl, by simp, fun k' _ hk => setRow_other w g k' _ (fun e => hk (by simp [e]))⟩
  · have holds : ∀ j u, (ints k xs)[j]? = some u → w.cell? ((⟨g, 0, none⟩ : Addr).add j) = some u := by
      intro j u hu
      rw [Addr.add_lit, Nat.zero_add, cell_of_row w g j cur T (0, 0) h1]
      rw [← h3, List.getElem?_take] at hu
      split at hu
      · simpa using hu
      · cases hu
    obtain ⟨v', w', hr, h4, h5⟩ := run_append_arg_grows (P := P) w t ty T i (.int k 0) 1 i.bytes ht hi hz hs rfl rfl (by omega) ⟨g, 0, none⟩ xs.length cap (ints k xs) (by rw [ints_length, Nat.mul_one]) holds a ys.length c (ints k ys) (by rw [ints_length, Nat.mul_one]) hy (by omega) (by unfold maxLen; omega) (by omega)
    rw [← ints_append] at h4
    obtain ⟨g', cap', hv, hbase, ho⟩ := Own.of_owns h4 (by rw [List.length_append]) hne
    refine ⟨v', w', hr, g', cap', by rw [hv, List.length_append], ho, .inr hbase, ?_⟩
    exact (Tch.refl [g] w).grown h5 (by simp)

/-- 'append(xs, make([]T, n)...)'. -/
theorem app_zeros (tn : TypeId) (kn kq : IntKind) (htn : P.underlying tn = some (.int kn)) (n : Nat) (hl : xs.length + n ≤ 1000000000000) :
    ∃ v' w', (Builtin.append_ #[t, tn] ty #[.slice (some ⟨g, 0, none⟩) xs.length cap, .int kq n]).run P w = .ok v' w' ∧ App w T k g (xs ++ List.replicate n 0) v' w' := by
  obtain ⟨cur, h1, h2, h3⟩ := hown.row
  have hw : IntKind.i64.wrap (n : Int) = n := by rw [IntKind.wrap_i64]; omega
  have hneg : ¬ ((n : Int) < 0) := by omega
  have hmul : n * i.bytes ≤ n * 8 := Nat.mul_le_mul_left _ hb
  have hmul2 : (xs.length + n) * i.bytes ≤ (xs.length + n) * 8 := Nat.mul_le_mul_left _ hb
  have h48i : ¬ (281474976710656 < (n : Int) * (i.bytes : Int)) := by
    rw [← Int.natCast_mul]; omega
  by_cases hroom : xs.length + n ≤ cap
  · have hst := run_storeCells_at P g xs.length T (List.replicate n (.int k 0)) 0 cur w h1 (by simp; omega) (by intro u hu; rw [(List.mem_replicate.1 hu).2]; rfl)
    simp only [Nat.add_zero, List.length_replicate] at hst
    have hrun : (Builtin.append_ #[t, tn] ty #[.slice (some ⟨g, 0, none⟩) xs.length cap, .int kq n]).run P w =
        .ok (.slice (some ⟨g, 0, none⟩) (xs.length + n) cap) (w.setRow g (cur.toList.take xs.length ++ List.replicate n (Value.int k 0) ++ cur.toList.drop (xs.length + n)).toArray) := by
      by_cases hn : n = 0
      · subst hn
        simp only [List.replicate_zero] at hst
        have hw0 : IntKind.i64.wrap 0 = 0 := by decide
        have hr0 : xs.length ≤ cap := by omega
        simp [hw0, Builtin.append_, run_underlying ht, run_underlying htn, sizeOf, typeInfo, hi, asInt, asIntOf, hs, hr0, Addr.add_lit, hst]
      · have hz1 : (Value.int k 0).cells = #[.int k 0] := rfl
        simp [Builtin.append_, run_underlying ht, run_underlying htn, sizeOf, typeInfo, zeroValue, hi, hz, asInt, asIntOf, hs, hw, hneg, hn, h48i, hroom, Addr.add_lit, hz1, zeroCells_one, hst]
    refine ⟨_, _, hrun, g, cap, by simp, ?_, .inl rfl, ?_⟩
    · refine Own.of_row (setRow_heap w g cur _ T _ h1) ?_ hown.le' ?_ (by simpa using hroom)
      · simp; omega
      · simp only [h3, ints_append, ints_replicate]
        rw [List.take_left' (by simp [ints_length])]
    · exact ⟨rfl, rfl, rfl, by simp, fun k' _ hk => setRow_other w g k' _ (fun e => hk (by simp [e]))⟩
  · have holds : ∀ j u, (ints k xs)[j]? = some u → w.cell? ((⟨g, 0, none⟩ : Addr).add j) = some u := by
      intro j u hu
      rw [Addr.add_lit, Nat.zero_add, cell_of_row w g j cur T (0, 0) h1]
      rw [← h3, List.getElem?_take] at hu
      split at hu
      · simpa using hu
      · cases hu
    have hle := hown.le
    have hold := run_firstCells_some (P := P) w.drew i.size xs.length ⟨g, 0, none⟩ xs.length cap (ints k xs) (by rw [ints_length, hs, Nat.mul_one]) holds
    have hr := Lib.run_append_grow_zeros (P := P) w t tn ty T i (.int k 0) kq kn ht htn hi hz (some ⟨g, 0, none⟩) xs.length cap (ints k xs) hold n (by omega) (by omega) (by omega) (by omega) (by omega) (growslice_fits (by omega) (by omega))
    have hge := grownCap_ge w (xs.length + n) cap T
    refine ⟨_, _, hr, w.heap.size, grownCap w (xs.length + n) cap T, by simp, ?_, .inr (Nat.le_refl _), ?_⟩
    · have hz1 : (Value.int k 0).cells = #[.int k 0] := rfl
      refine Own.of_row (Below.heap_alloc_new' w.drew _) ?_ (grownCap_le_maxLen w _ _ _ (by unfold maxLen; omega)) ?_ (by simpa using hge)
      · have e : ∀ m, (Builtin.zeroCells #[Value.int k 0] m).size = m := fun m => by rw [← Array.length_toList, zeroCells_one, List.length_replicate]
        simp only [hz1, Array.size_append, List.size_toArray, ints_length, e]
        omega
      · simp only [hz1, Array.toList_append, zeroCells_one, ints_append, ints_replicate]
        rw [List.take_left' (by simp [ints_length])]
    · exact (Tch.drew (Tch.refl [g] w)).alloc _
end

/-- 'append(xs, y)' in a walk. -/
theorem wpList_app_one {P : Program} (w : World) {ops : Array Oper} {rest : List Oper} {o : Oper} {a : Act} {Q : Exit → Act → World → Prop} (hgd : o.guard = none) (s x : Operand) (t : TypeId)
    (ho : o.op = .call { callee := .builtin .append, args := #[s, x], argTypes := #[t, t] }) (T : TypeId) (k : IntKind) (i : TypeInfo) (ht : P.underlying t = some (.slice T)) (hi : P.info? T = some i) (hz : i.zero = some (.int k 0)) (hs1 : i.size = 1) (hb : i.bytes ≤ 8)
    (g cap n : Nat) (xs : List Nat) (hown : Own w T k g cap xs) (hn : xs.length = n) (hs : a.eval s = .slice (some ⟨g, 0, none⟩) n cap) (ad : Addr) (c y : Nat) (hx : a.eval x = .slice (some ad) 1 c) (hc : w.cell? ad = some (.int k (y : Int))) (hl : n ≤ 100000000000)
    (hK : ∀ v' w', App w T k g (xs ++ [y]) v' w' → wpList P ops Q rest (a.put o.dst v') w') : wpList P ops Q (o :: rest) a w := by
  subst hn
  obtain ⟨v', w', hr, happ⟩ := app_cells w t o.type T k i ht hi hz hs1 hb g cap xs hown ad c [y] (by
    intro j u hu
    match j, hu with
    | 0, hu => simp [ints] at hu; subst hu; rw [show ad.add 0 = ad from by unfold Addr.add; split <;> simp_all]; exact hc) (by simp; omega) (by simp)
  exact Lib.wpList_append_run w hgd s x t t ho _ _ hs hx v' w' hr (hK v' w' happ)

/-- 'append(xs, make([]T, n)...)' in a walk. -/
theorem wpList_app_zeros {P : Program} (w : World) {ops : Array Oper} {rest : List Oper} {o : Oper} {a : Act} {Q : Exit → Act → World → Prop} (hgd : o.guard = none) (s x : Operand) (t tn : TypeId)
    (ho : o.op = .call { callee := .builtin .append, args := #[s, x], argTypes := #[t, tn] }) (T : TypeId) (k kn kq : IntKind) (i : TypeInfo) (ht : P.underlying t = some (.slice T)) (htn : P.underlying tn = some (.int kn)) (hi : P.info? T = some i) (hz : i.zero = some (.int k 0)) (hs1 : i.size = 1) (hb : i.bytes ≤ 8)
    (g cap n m : Nat) (xs : List Nat) (hown : Own w T k g cap xs) (hn : xs.length = n) (hs : a.eval s = .slice (some ⟨g, 0, none⟩) n cap) (M : Int) (hM : M = (m : Int)) (hx : a.eval x = .int kq M) (hl : n + m ≤ 100000000000)
    (hK : ∀ v' w', App w T k g (xs ++ List.replicate m 0) v' w' → wpList P ops Q rest (a.put o.dst v') w') : wpList P ops Q (o :: rest) a w := by
  subst hn
  subst hM
  obtain ⟨v', w', hr, happ⟩ := app_zeros w t o.type T k i ht hi hz hs1 hb g cap xs hown tn kn kq htn m (by omega)
  exact Lib.wpList_append_run w hgd s x t tn ho _ _ hs hx v' w' hr (hK v' w' happ)

/-- 'append(xs, ys...)' in a walk, ys a window somewhere. -/
theorem wpList_app_all {P : Program} (w : World) {ops : Array Oper} {rest : List Oper} {o : Oper} {a : Act} {Q : Exit → Act → World → Prop} (hgd : o.guard = none) (s x : Operand) (t : TypeId)
    (ho : o.op = .call { callee := .builtin .append, args := #[s, x], argTypes := #[t, t] }) (T : TypeId) (k : IntKind) (i : TypeInfo) (ht : P.underlying t = some (.slice T)) (hi : P.info? T = some i) (hz : i.zero = some (.int k 0)) (hs1 : i.size = 1) (hb : i.bytes ≤ 8)
    (g cap n : Nat) (xs : List Nat) (hown : Own w T k g cap xs) (hn : xs.length = n) (hs : a.eval s = .slice (some ⟨g, 0, none⟩) n cap) (gy oy c m : Nat) (pre post : List Value) (ys : List Nat) (hx : a.eval x = .slice (some ⟨gy, oy, none⟩) m c) (hm : ys.length = m) (hc : Win w T k gy oy pre ys post) (hl : n + m ≤ 100000000000) (hne : 0 < n + m)
    (hK : ∀ v' w', App w T k g (xs ++ ys) v' w' → wpList P ops Q rest (a.put o.dst v') w') : wpList P ops Q (o :: rest) a w := by
  subst hn
  subst hm
  obtain ⟨v', w', hr, happ⟩ := app_cells w t o.type T k i ht hi hz hs1 hb g cap xs hown ⟨gy, oy, none⟩ c ys (by
    intro j u hu
    have hj : j < ys.length := by have := (List.getElem?_eq_some_iff.1 hu).1; rwa [ints_length] at this
    rw [ints_get k ys j hj] at hu
    rw [Addr.add_lit, hc.cell hj]; exact hu) (by omega) hne
  exact Lib.wpList_append_run w hgd s x t t ho _ _ hs hx v' w' hr (hK v' w' happ)

/-- A slice that owns its block, made since w of what S holds: what a function returns. -/
def Words (T : TypeId) (k : IntKind) (w : World) (S : List Nat) (v : Value) (xs : List Nat) (w' : World) : Prop :=
  ∃ g cap, v = .slice (some ⟨g, 0, none⟩) xs.length cap ∧ Own w' T k g cap xs ∧ (g ∈ S ∨ w.heap.size ≤ g) ∧ Tch S w w'

theorem App.words {T : TypeId} {k : IntKind} {w wr wa w' : World} {S : List Nat} {g : Nat} {zs : List Nat} {v' : Value} (h : App wa T k g zs v' w') (hT : Tch S w wr) (hg : g ∈ S ∨ w.heap.size ≤ g) (hA : Tch [] wr wa) : Words T k w S v' zs w' := by
  obtain ⟨g', cap', hv, ho, hg', hT'⟩ := h
  have h1 : Tch S w wa := hT.trans hA (by simp)
  refine ⟨g', cap', hv, ho, ?_, h1.trans hT' (by simpa using hg)⟩
  rcases hg' with rfl | hg'
  · exact hg
  · exact .inr (Nat.le_trans h1.size hg')

theorem replicate_snoc (n : Nat) (xs : List Nat) : xs ++ List.replicate n 0 ++ [0] = xs ++ List.replicate (n + 1) 0 := by
  rw [List.append_assoc, List.replicate_succ']

end Go.Proofs.YtpedbahppkimbaaDoor
