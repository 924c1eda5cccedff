/- A slice that owns a block from its head on; append to it. -/
import Derived.Lib.AppendZerosOnto
import Derived.ArgAppend
import Derived.Test.YtmpfgkpimjiecaaDoorMem
namespace Go.Proofs.YtmpfgkpimjiecaaDoor
open Go.RowKit
/-- Block g, of cap cells, begins with the numbers xs. -/
def Own (w : World) (T : TypeId) (k : IntKind) (g cap : Nat) (xs : List Nat) : Prop :=
  ∃ rest : List Value, Win w T k g 0 [] xs rest ∧ xs.length + rest.length = cap ∧ cap ≤ maxLen

section
variable {w w' : World} {T : TypeId} {k : IntKind} {g cap : Nat} {xs : List Nat}
theorem Own.win (h : Own w T k g cap xs) : ∃ rest, Win w T k g 0 [] xs rest := by obtain ⟨r, h1, _⟩ := h; exact ⟨r, h1⟩

theorem Own.lt (h : Own w T k g cap xs) : g < w.heap.size := by obtain ⟨r, h1, _⟩ := h; exact h1.lt

theorem Own.le (h : Own w T k g cap xs) : xs.length ≤ cap := by obtain ⟨r, _, h2, _⟩ := h; omega

theorem Own.le' (h : Own w T k g cap xs) : cap ≤ maxLen := by obtain ⟨r, _, _, h2⟩ := h; exact h2

theorem Own.kept {S : List Nat} (h : Own w T k g cap xs) (ht : Tch S w w') (hn : g ∉ S) : Own w' T k g cap xs := by
  obtain ⟨r, h1, h2, h3⟩ := h; exact ⟨r, h1.kept ht hn, h2, h3⟩

theorem Own.drewN (h : Own w T k g cap xs) (n : Nat) : Own (w.drewN n) T k g cap xs := h

/-- The same block, its numbers written anew. -/
theorem Own.again {rest : List Value} {ys : List Nat} (h : Own w T k g cap xs) (h1 : Win w T k g 0 [] xs rest) (h2 : Win w' T k g 0 [] ys rest) (hl : ys.length = xs.length) : Own w' T k g cap ys := by
  obtain ⟨r, g1, g2, g3⟩ := h
  have e := g1.1.symm.trans h1.1
  simp only [Option.some.injEq, Obj.cells.injEq, List.nil_append] at e
  have e2 := congrArg Array.toList e.1
  simp only [List.append_cancel_left_eq] at e2
  subst e2
  exact ⟨r, h2, by omega, g3⟩

/-- A shorter slice of the same block. -/
theorem Own.take (h : Own w T k g cap xs) (n : Nat) : Own w T k g cap (xs.take n) := by
  obtain ⟨r, h1, h2, h3⟩ := h
  refine ⟨ints k (xs.drop n) ++ r, ⟨?_, h1.2⟩, ?_, h3⟩
  · rw [h1.1]; congr 3; simp only [List.nil_append]; rw [← List.append_assoc, ← ints_append, List.take_append_drop]
  · rw [List.length_append, ints_length, ← Nat.add_assoc, ← List.length_append, List.take_append_drop]; exact h2

theorem Own.row (h : Own w T k g cap xs) : ∃ cur : Array Value, w.heap[g]? = some (.cells cur T (0, 0)) ∧ cur.size = cap ∧ cur.toList.take xs.length = ints k xs := by
  obtain ⟨r, h1, h2, h3⟩ := h
  refine ⟨_, h1.1, ?_, ?_⟩
  · simp [ints_length]; exact h2
  · simp only [List.nil_append]
    rw [List.take_left' (ints_length k xs)]

theorem Own.of_row {cur : Array Value} (h : w.heap[g]? = some (.cells cur T (0, 0))) (hs : cur.size = cap) (hm : cap ≤ maxLen) (ht : cur.toList.take xs.length = ints k xs) (hl : xs.length ≤ cap) : Own w T k g cap xs := by
  refine ⟨cur.toList.drop xs.length, ⟨?_, rfl⟩, ?_, hm⟩
  · rw [h, List.nil_append, ← ht, List.take_append_drop]
  · simp [hs]; omega

theorem Own.of_owns {base n : Nat} {v : Value} (h : w.ownsRow base T 1 v n (ints k xs)) (hn : n = xs.length) (h0 : 0 < n) : ∃ g cap, v = .slice (some ⟨g, 0, none⟩) n cap ∧ base ≤ g ∧ Own w T k g cap xs := by
  obtain ⟨_, h2⟩ := h
  rcases h2 with ⟨_, h3⟩ | ⟨g, cap, cur, hv, hb, hh, hnc, hcm, hcs, ht⟩
  · omega
  · exact ⟨g, cap, hv, hb, Own.of_row hh (by omega) hcm (by rw [← hn, ← ht, Nat.mul_one]) (by omega)⟩

end
/-- What an append leaves: the numbers ys, in the block g or in a new one. -/
def App (w : World) (T : TypeId) (k : IntKind) (g : Nat) (ys : List Nat) (v' : Value) (w' : World) : Prop :=
  ∃ g' cap', v' = .slice (some ⟨g', 0, none⟩) ys.length cap' ∧ Own w' T k g' cap' ys ∧ (g' = g ∨ w.heap.size ≤ g') ∧ Tch [g] w w'

theorem zeroCells_one (v : Value) (n : Nat) : (Builtin.zeroCells #[v] n).toList = List.replicate n v := by
  apply List.ext_getElem
  · simp [Builtin.zeroCells]
  · intro i h1 h2
    simp [Builtin.zeroCells, Nat.mod_one]

theorem ints_replicate (k : IntKind) (n : Nat) : ints k (List.replicate n 0) = List.replicate n (.int k 0) := by simp [ints]

section
variable {P : Program} (w : World) (t ty T : TypeId) (k : IntKind) (i : TypeInfo) (ht : P.underlying t = some (.slice T)) (hi : P.info? T = some i) (hz : i.zero = some (.int k 0)) (hs : i.size = 1) (hb : i.bytes ≤ 8) (g cap : Nat) (xs : List Nat) (hown : Own w T k g cap xs)
include ht hi hz hs hb hown
/-- 'append(xs, ys...)', ys somewhere in memory. -/
theorem app_cells (a : Addr) (c : Nat) (ys : List Nat) (hy : ∀ j u, (ints k ys)[j]? = some u → w.cell? (a.add j) = some u) (hl : xs.length + ys.length ≤ 1000000000000) (hne : 0 < xs.length + ys.length) :
    ∃ v' w', (Builtin.append_ #[t, t] ty #[.slice (some ⟨g, 0, none⟩) xs.length cap, .slice (some a) ys.length c]).run P w = .ok v' w' ∧ App w T k g (xs ++ ys) v' w' := by
  have hmul : (xs.length + ys.length) * i.bytes ≤ (xs.length + ys.length) * 8 := Nat.mul_le_mul_left _ hb
  obtain ⟨cur, h1, h2, h3⟩ := hown.row
  by_cases hroom : xs.length + ys.length ≤ cap
  · have hr := run_append_room (P := P) w t ty T i ht hi g xs.length cap cur h1 a ys.length c (ints k ys) (by rw [ints_length, hs, Nat.mul_one]) hy (by intro u hu; simp [ints] at hu; obtain ⟨_, _, rfl⟩ := hu; rfl) hroom (by rw [ints_length, hs, Nat.mul_one]; omega)
    refine ⟨_, _, hr, g, cap, by rw [List.length_append], ?_, .inl rfl, ?_⟩
    · refine Own.of_row (setRow_heap w g cur _ T _ h1) ?_ hown.le' ?_ (by rw [List.length_append]; exact hroom)
      · simp [hs, ints_length]; omega
      · simp only [hs, Nat.mul_one, h3, ints_append]
        rw [List.take_left' (by simp [ints_length])]
    · exact ⟨rfl, rfl, rfl, by simp, fun k' _ hk => setRow_other w g k' _ (fun e => hk (by simp [e]))⟩
  · have holds : ∀ j u, (ints k xs)[j]? = some u → w.cell? ((⟨g, 0, none⟩ : Addr).add j) = some u := by
      intro j u hu
      rw [Addr.add_lit, Nat.zero_add, cell_of_row w g j cur T (0, 0) h1]
      rw [← h3, List.getElem?_take] at hu
      split at hu
      · simpa using hu
      · cases hu
    obtain ⟨v', w', hr, h4, h5⟩ := run_append_arg_grows (P := P) w t ty T i (.int k 0) 1 i.bytes ht hi hz hs rfl rfl (by omega) ⟨g, 0, none⟩ xs.length cap (ints k xs) (by rw [ints_length, Nat.mul_one]) holds a ys.length c (ints k ys) (by rw [ints_length, Nat.mul_one]) hy (by omega) (by unfold maxLen; omega) (by omega)
    rw [← ints_append] at h4
    obtain ⟨g', cap', hv, hbase, ho⟩ := Own.of_owns h4 (by rw [List.length_append]) hne
    refine ⟨v', w', hr, g', cap', by rw [hv, List.length_append], ho, .inr hbase, ?_⟩
    exact (Tch.refl [g] w).grown h5 (by simp)

/-- 'append(xs, make([]T, n)...)'. -/
theorem app_zeros (tn : TypeId) (kn kq : IntKind) (htn : P.underlying tn = some (.int kn)) (n : Nat) (hl : xs.length + n ≤ 1000000000000) :
    ∃ v' w', (Builtin.append_ #[t, tn] ty #[.slice (some ⟨g, 0, none⟩) xs.length cap, .int kq n]).run P w = .ok v' w' ∧ App w T k g (xs ++ List.replicate n 0) v' w' := by
  obtain ⟨cur, h1, h2, h3⟩ := hown.row
  have hw : IntKind.i64.wrap (n : Int) = n := by rw [IntKind.wrap_i64]; omega
  have hneg : ¬ ((n : Int) < 0) := by omega
  have hmul : n * i.bytes ≤ n * 8 := Nat.mul_le_mul_left _ hb
  have hmul2 : (xs.length + n) * i.bytes ≤ (xs.length + n) * 8 := Nat.mul_le_mul_left _ hb
  have h48i : ¬ (281474976710656 < (n : Int) * (i.bytes : Int)) := by
    rw [← Int.natCast_mul]; omega
  by_cases hroom : xs.length + n ≤ cap
  · have hst := run_storeCells_at P g xs.length T (List.replicate n (.int k 0)) 0 cur w h1 (by simp; omega) (by intro u hu; rw [(List.mem_replicate.1 hu).2]; rfl)
    simp only [Nat.add_zero, List.length_replicate] at hst
    have hrun : (Builtin.append_ #[t, tn] ty #[.slice (some ⟨g, 0, none⟩) xs.length cap, .int kq n]).run P w =
        .ok (.slice (some ⟨g, 0, none⟩) (xs.length + n) cap) (w.setRow g (cur.toList.take xs.length ++ List.replicate n (Value.int k 0) ++ cur.toList.drop (xs.length + n)).toArray) := by
      by_cases hn : n = 0
      · subst hn
        simp only [List.replicate_zero] at hst
        have hw0 : IntKind.i64.wrap 0 = 0 := by decide
        have hr0 : xs.length ≤ cap := by omega
        simp [hw0, Builtin.append_, run_underlying ht, run_underlying htn, sizeOf, typeInfo, hi, asInt, asIntOf, hs, hr0, Addr.add_lit, hst]
      · have hz1 : (Value.int k 0).cells = #[.int k 0] := rfl
        simp [Builtin.append_, run_underlying ht, run_underlying htn, sizeOf, typeInfo, zeroValue, hi, hz, asInt, asIntOf, hs, hw, hneg, hn, h48i, hroom, Addr.add_lit, hz1, zeroCells_one, hst]
    refine ⟨_, _, hrun, g, cap, by simp, ?_, .inl rfl, ?_⟩
    · refine Own.of_row (setRow_heap w g cur _ T _ h1) ?_ hown.le' ?_ (by simpa using hroom)
      · simp; omega
      · simp only [h3, ints_append, ints_replicate]
        rw [List.take_left' (by simp [ints_length])]
    · exact ⟨rfl, rfl, rfl, by simp, fun k' _ hk => setRow_other w g k' _ (fun e => hk (by simp [e]))⟩
  · have holds : ∀ j u, (ints k xs)[j]? = some u → w.cell? ((⟨g, 0, none⟩ : Addr).add j) = some u := by
      intro j u hu
      rw [Addr.add_lit, Nat.zero_add, cell_of_row w g j cur T (0, 0) h1]
      rw [← h3, List.getElem?_take] at hu
      split at hu
      · simpa using hu
      · cases hu
    have hle := hown.le
    have hold := run_firstCells_some (P := P) w.drew i.size xs.length ⟨g, 0, none⟩ xs.length cap (ints k xs) (by rw [ints_length, hs, Nat.mul_one]) holds
    have hr := Lib.run_append_grow_zeros (P := P) w t tn ty T i (.int k 0) kq kn ht htn hi hz (some ⟨g, 0, none⟩) xs.length cap (ints k xs) hold n (by omega) (by omega) (by omega) (by omega) (by omega) (growslice_fits (by omega) (by omega))
    have hge := grownCap_ge w (xs.length + n) cap T
    refine ⟨_, _, hr, w.heap.size, grownCap w (xs.length + n) cap T, by simp, ?_, .inr (Nat.le_refl _), ?_⟩
    · have hz1 : (Value.int k 0).cells = #[.int k 0] := rfl
      refine Own.of_row (Below.heap_alloc_new' w.drew _) ?_ (grownCap_le_maxLen w _ _ _ (by unfold maxLen; omega)) ?_ (by simpa using hge)
      · have e : ∀ m, (Builtin.zeroCells #[Value.int k 0] m).size = m := fun m => by rw [← Array.length_toList, zeroCells_one, List.length_replicate]
        simp only [hz1, Array.size_append, List.size_toArray, ints_length, e]
        omega
      · simp only [hz1, Array.toList_append, zeroCells_one, ints_append, ints_replicate]
        rw [List.take_left' (by simp [ints_length])]
    · exact (Tch.drew (Tch.refl [g] w)).alloc _

end
/-- 'append(xs, y)' in a walk. -/
theorem wpList_app_one {P : Program} (w : World) {ops : Array Oper} {rest : List Oper} {o : Oper} {a : Act} {Q : Exit → Act → World → Prop} (hgd : o.guard = none) (s x : Operand) (t : TypeId)
    (ho : o.op = .call { callee := .builtin .append, args := #[s, x], argTypes := #[t, t] }) (T : TypeId) (k : IntKind) (i : TypeInfo) (ht : P.underlying t = some (.slice T)) (hi : P.info? T = some i) (hz : i.zero = some (.int k 0)) (hs1 : i.size = 1) (hb : i.bytes ≤ 8)
    (g cap n : Nat) (xs : List Nat) (hown : Own w T k g cap xs) (hn : xs.length = n) (hs : a.eval s = .slice (some ⟨g, 0, none⟩) n cap) (ad : Addr) (c y : Nat) (hx : a.eval x = .slice (some ad) 1 c) (hc : w.cell? ad = some (.int k (y : Int))) (hl : n ≤ 100000000000)
    (hK : ∀ v' w', App w T k g (xs ++ [y]) v' w' → wpList P ops Q rest (a.put o.dst v') w') : wpList P ops Q (o :: rest) a w := by
  subst hn
  obtain ⟨v', w', hr, happ⟩ := app_cells w t o.type T k i ht hi hz hs1 hb g cap xs hown ad c [y] (by
    intro j u hu
    match j, hu with
    | 0, hu => simp [ints] at hu; subst hu; rw [show ad.add 0 = ad from by unfold Addr.add; split <;> simp_all]; exact hc) (by simp; omega) (by simp)
  exact Lib.wpList_append_run w hgd s x t t ho _ _ hs hx v' w' hr (hK v' w' happ)

/-- 'append(xs, make([]T, n)...)' in a walk. -/
theorem wpList_app_zeros {P : Program} (w : World) {ops : Array Oper} {rest : List Oper} {o : Oper} {a : Act} {Q : Exit → Act → World → Prop} (hgd : o.guard = none) (s x : Operand) (t tn : TypeId)
    (ho : o.op = .call { callee := .builtin .append, args := #[s, x], argTypes := #[t, tn] }) (T : TypeId) (k kn kq : IntKind) (i : TypeInfo) (ht : P.underlying t = some (.slice T)) (htn : P.underlying tn = some (.int kn)) (hi : P.info? T = some i) (hz : i.zero = some (.int k 0)) (hs1 : i.size = 1) (hb : i.bytes ≤ 8)
    (g cap n m : Nat) (xs : List Nat) (hown : Own w T k g cap xs) (hn : xs.length = n) (hs : a.eval s = .slice (some ⟨g, 0, none⟩) n cap) (M : Int) (hM : M = (m : Int)) (hx : a.eval x = .int kq M) (hl : n + m ≤ 100000000000)
    (hK : ∀ v' w', App w T k g (xs ++ List.replicate m 0) v' w' → wpList P ops Q rest (a.put o.dst v') w') : wpList P ops Q (o :: rest) a w := by
  subst hn
  subst hM
  obtain ⟨v', w', hr, happ⟩ := app_zeros w t o.type T k i ht hi hz hs1 hb g cap xs hown tn kn kq htn m (by omega)
  exact Lib.wpList_append_run w hgd s x t tn ho _ _ hs hx v' w' hr (hK v' w' happ)

/-- 'append(xs, ys...)' in a walk, ys a window somewhere. -/
theorem wpList_app_all {P : Program} (w : World) {ops : Array Oper} {rest : List Oper} {o : Oper} {a : Act} {Q : Exit → Act → World → Prop} (hgd : o.guard = none) (s x : Operand) (t : TypeId)
    (ho : o.op = .call { callee := .builtin .append, args := #[s, x], argTypes := #[t, t] }) (T : TypeId) (k : IntKind) (i : TypeInfo) (ht : P.underlying t = some (.slice T)) (hi : P.info? T = some i) (hz : i.zero = some (.int k 0)) (hs1 : i.size = 1) (hb : i.bytes ≤ 8)
    (g cap n : Nat) (xs : List Nat) (hown : Own w T k g cap xs) (hn : xs.length = n) (hs : a.eval s = .slice (some ⟨g, 0, none⟩) n cap) (gy oy c m : Nat) (pre post : List Value) (ys : List Nat) (hx : a.eval x = .slice (some ⟨gy, oy, none⟩) m c) (hm : ys.length = m) (hc : Win w T k gy oy pre ys post) (hl : n + m ≤ 100000000000) (hne : 0 < n + m)
    (hK : ∀ v' w', App w T k g (xs ++ ys) v' w' → wpList P ops Q rest (a.put o.dst v') w') : wpList P ops Q (o :: rest) a w := by
  subst hn
  subst hm
  obtain ⟨v', w', hr, happ⟩ := app_cells w t o.type T k i ht hi hz hs1 hb g cap xs hown ⟨gy, oy, none⟩ c ys (by
    intro j u hu
    have hj : j < ys.length := by have := (List.getElem?_eq_some_iff.1 hu).1; rwa [ints_length] at this
    rw [ints_get k ys j hj] at hu
    rw [Addr.add_lit, hc.cell hj]; exact hu) (by omega) hne
  exact Lib.wpList_append_run w hgd s x t t ho _ _ hs hx v' w' hr (hK v' w' happ)

/-- A slice that owns its block, made since w of what S holds: what a function returns. -/
def Words (T : TypeId) (k : IntKind) (w : World) (S : List Nat) (v : Value) (xs : List Nat) (w' : World) : Prop :=
  ∃ g cap, v = .slice (some ⟨g, 0, none⟩) xs.length cap ∧ Own w' T k g cap xs ∧ (g ∈ S ∨ w.heap.size ≤ g) ∧ Tch S w w'

theorem App.words {T : TypeId} {k : IntKind} {w wr wa w' : World} {S : List Nat} {g : Nat} {zs : List Nat} {v' : Value} (h : App wa T k g zs v' w') (hT : Tch S w wr) (hg : g ∈ S ∨ w.heap.size ≤ g) (hA : Tch [] wr wa) : Words T k w S v' zs w' := by
  obtain ⟨g', cap', hv, ho, hg', hT'⟩ := h
  have h1 : Tch S w wa := hT.trans hA (by simp)
  refine ⟨g', cap', hv, ho, ?_, h1.trans hT' (by simpa using hg)⟩
  rcases hg' with rfl | hg'
  · exact hg
  · exact .inr (Nat.le_trans h1.size hg')

theorem replicate_snoc (n : Nat) (xs : List Nat) : xs ++ List.replicate n 0 ++ [0] = xs ++ List.replicate (n + 1) 0 := by
  rw [List.append_assoc, List.replicate_succ']

end Go.Proofs.YtmpfgkpimjiecaaDoor
namespace Go.Proofs.YtmpfgkpimjiecaaDoor
open Go.RowKit Dg
def AddPost (w : World) (g o : Nat) (pre : List Value) (xs ys : List Nat) (post : List Value) (e : Ending) (w' : World) : Prop :=
  ∃ (c : Nat) (zs : List Nat), e = .returned (.int .u64 (c : Int)) ∧ AddOut BB xs ys c zs ∧ Win w' 86 .u64 g o pre zs post ∧ Tch [g] w w'

set_option maxHeartbeats 1000000 in
set_option maxRecDepth 100000 in
theorem addInPlace (gx ox capx gy oy capy : Nat) (pre post pre' post' : List Value) (xs ys : List Nat) (w : World) (hgg : gx ≠ gy) (hx : Ok BB xs) (hy : Ok BB ys) (hl : ys.length ≤ xs.length) (hb : xs.length ≤ 1000000000)
    (hX : Win w 86 .u64 gx ox pre xs post) (hY : Win w 86 .u64 gy oy pre' ys post') :
    Calls Tryd.prog 91 #[.slice (some ⟨gx, ox, none⟩) xs.length capx, .slice (some ⟨gy, oy, none⟩) ys.length capy] w (AddPost w gx ox pre xs ys post) := by
  go_enter Tryd.func91, Tryd.ntmps91
  go_wp2
  go_loopw [5, 10] (fun c i wr => ∃ (k cN : Nat) (ws : List Nat), k ≤ ys.length ∧ i = .int .i64 k ∧ c = .int .u64 cN ∧ AddInv BB xs ys k cN ws ∧ Win wr 86 .u64 gx ox pre (ws ++ xs.drop k) post ∧ Tch [gx] w wr)
    (fun _ i _ => ys.length - (intOf i).toNat)
  case atStart => exact ⟨0, 0, [], Nat.zero_le _, rfl, rfl, AddInv.zero _ _ _, hX, Tch.refl _ _⟩
  case round =>
    obtain ⟨k, cN, ws, hk, rfl, rfl, hI, hW, hT⟩ := hrel
    by_cases hlt : k < ys.length
    · have hYr := hY.kept hT (by simp; omega)
      have hkx : k < xs.length := by omega
      obtain ⟨y, ey, cy⟩ := hYr.read hlt
      obtain ⟨x, ex, cx⟩ := hW.readApp hI.len hkx
      have fx := hW.frozen (ox + k)
      obtain ⟨s, t, hst, hs, ht, hrun⟩ := add_run x y cN (ex.out ▸ hx.getD (by decide) k) (ey.out ▸ hy.getD (by decide) k) hI.c1
      have HS := Lib.hid (hI.step hkx (s := s) (t := t) (by rw [ex.out, ey.out]; exact hst) hs ht)
      have HW := Lib.hid (hW.step hI.len hkx s)
      have HT := Lib.hid (hT.setCell (p := ⟨gx, ox + k, none⟩) (by simp) (.int .u64 (s : Int)))
      clear hst hs ht hx hy hX hY hYr hgg
      go_wp2
      go_region
      go_wp2
      go_roundw
      case rel => exact ⟨k + 1, t, ws ++ [s], by omega, by go_num, rfl, HS.out, HW.out.drew, HT.out.drew⟩
      case measure => simp [intOf]; omega
    · obtain rfl : k = ys.length := by omega
      clear hlt hY hX
      go_wp2
      go_loopw [5, 7] (fun c i wr => ∃ (k cN : Nat) (ws : List Nat), ys.length ≤ k ∧ k ≤ xs.length ∧ i = .int .i64 k ∧ c = .int .u64 cN ∧ AddInv BB xs ys k cN ws ∧ Win wr 86 .u64 gx ox pre (ws ++ xs.drop k) post ∧ Tch [gx] w wr)
        (fun _ i _ => xs.length - (intOf i).toNat)
      case atStart => exact ⟨ys.length, cN, ws, Nat.le_refl _, hl, rfl, rfl, hI, hW, hT⟩
      case round =>
        clear hI hW hT
        obtain ⟨k, cN, ws, hk, hkx', rfl, rfl, hI, hW, hT⟩ := hrel
        by_cases hlt : k < xs.length
        · by_cases hc : cN = 0
          · subst hc
            have HO := Lib.hid (hI.out hx hkx' hk (.inr rfl))
            go_wp2
            go_ret
            exact ⟨0, _, rfl, HO.out, hW, hT⟩
          · have hc1 : ((cN : Int) == 0) = false := by simpa using hc
            have hc2 : ((cN : Int) != 0) = true := by simpa using hc
            obtain ⟨x, ex, cx⟩ := hW.readApp hI.len hlt
            have fx := hW.frozen (ox + k)
            obtain ⟨s, t, hst, hs, ht, hrun⟩ := add_mid_run x cN (ex.out ▸ hx.getD (by decide) k) hI.c1
            have HS := Lib.hid (hI.step hlt (s := s) (t := t) (by rw [ex.out, getD_ge hk]; exact hst) hs ht)
            have HW := Lib.hid (hW.step hI.len hlt s)
            have HT := Lib.hid (hT.setCell (p := ⟨gx, ox + k, none⟩) (by simp) (.int .u64 (s : Int)))
            clear hst hs ht hx hy hgg hc
            go_wp2
            go_roundw
            case rel => exact ⟨k + 1, t, ws ++ [s], by omega, by omega, by go_num, rfl, HS.out, HW.out, HT.out⟩
            case measure => simp [intOf]; omega
        · obtain rfl : k = xs.length := by omega
          have HO := Lib.hid (hI.out hx hkx' hk (.inl rfl))
          go_wp2
          go_ret
          exact ⟨cN, _, rfl, HO.out, hW, hT⟩

end Go.Proofs.YtmpfgkpimjiecaaDoor
namespace Go.Proofs.YtmpfgkpimjiecaaDoor
open Go.RowKit Dg
def SubPost (w : World) (g o : Nat) (pre : List Value) (xs ys : List Nat) (post : List Value) (e : Ending) (w' : World) : Prop :=
  ∃ zs : List Nat, e = .returned (.tuple #[]) ∧ SubOut BB xs ys zs ∧ Win w' 86 .u64 g o pre zs post ∧ Tch [g] w w'

set_option maxHeartbeats 1000000 in
set_option maxRecDepth 100000 in
theorem subtractInPlace (gx ox capx gy oy capy : Nat) (pre post pre' post' : List Value) (xs ys : List Nat) (w : World) (hgg : gx ≠ gy) (hx : Ok BB xs) (hy : Ok BB ys) (hl : ys.length ≤ xs.length) (hb : xs.length ≤ 1000000000)
    (hle : dg BB ys ≤ dg BB xs)
    (hX : Win w 86 .u64 gx ox pre xs post) (hY : Win w 86 .u64 gy oy pre' ys post') :
    Calls Tryd.prog 77 #[.slice (some ⟨gx, ox, none⟩) xs.length capx, .slice (some ⟨gy, oy, none⟩) ys.length capy] w (SubPost w gx ox pre xs ys post) := by
  have HLE := Lib.hid hle
  clear hle
  go_enter Tryd.func77, Tryd.ntmps77
  go_wp2
  go_loopw [4, 9] (fun c i wr => ∃ (k cN : Nat) (ws : List Nat), k ≤ ys.length ∧ i = .int .i64 k ∧ c = .int .u64 cN ∧ SubInv BB xs ys k cN ws ∧ Win wr 86 .u64 gx ox pre (ws ++ xs.drop k) post ∧ Tch [gx] w wr)
    (fun _ i _ => ys.length - (intOf i).toNat)
  case atStart => exact ⟨0, 0, [], Nat.zero_le _, rfl, rfl, SubInv.zero _ _ _, hX, Tch.refl _ _⟩
  case round =>
    obtain ⟨k, cN, ws, hk, rfl, rfl, hI, hW, hT⟩ := hrel
    by_cases hlt : k < ys.length
    · have hYr := hY.kept hT (by simp; omega)
      have hkx : k < xs.length := by omega
      obtain ⟨y, ey, cy⟩ := hYr.read hlt
      obtain ⟨x, ex, cx⟩ := hW.readApp hI.len hkx
      have fx := hW.frozen (ox + k)
      obtain ⟨s, t, hst, hs, ht, hrun⟩ := sub_run x y cN (ex.out ▸ hx.getD (by decide) k) (ey.out ▸ hy.getD (by decide) k) hI.c1
      have HS := Lib.hid (hI.step hkx (s := s) (t := t) (by rw [ex.out, ey.out]; exact hst) hs ht)
      have HW := Lib.hid (hW.step hI.len hkx s)
      have HT := Lib.hid (hT.setCell (p := ⟨gx, ox + k, none⟩) (by simp) (.int .u64 (s : Int)))
      clear hst hs ht hx hy hX hY hYr hgg
      go_wp2
      go_region
      go_wp2
      go_roundw
      case rel => exact ⟨k + 1, t, ws ++ [s], by omega, by go_num, rfl, HS.out, HW.out.drew, HT.out.drew⟩
      case measure => simp [intOf]; omega
    · obtain rfl : k = ys.length := by omega
      clear hlt hY hX
      go_wp2
      go_loopw [4, 6] (fun c i wr => ∃ (k cN : Nat) (ws : List Nat), ys.length ≤ k ∧ k ≤ xs.length ∧ i = .int .i64 k ∧ c = .int .u64 cN ∧ SubInv BB xs ys k cN ws ∧ Win wr 86 .u64 gx ox pre (ws ++ xs.drop k) post ∧ Tch [gx] w wr)
        (fun _ i _ => xs.length - (intOf i).toNat)
      case atStart => exact ⟨ys.length, cN, ws, Nat.le_refl _, hl, rfl, rfl, hI, hW, hT⟩
      case round =>
        clear hI hW hT
        obtain ⟨k, cN, ws, hk, hkx', rfl, rfl, hI, hW, hT⟩ := hrel
        by_cases hlt : k < xs.length
        · by_cases hc : cN = 0
          · subst hc
            have HO := Lib.hid (hI.out hx hkx' hk HLE.out (.inr rfl))
            go_wp2
            go_end0
            exact ⟨_, rfl, HO.out, hW, hT⟩
          · have hc1 : ((cN : Int) == 0) = false := by simpa using hc
            have hc2 : ((cN : Int) != 0) = true := by simpa using hc
            obtain ⟨x, ex, cx⟩ := hW.readApp hI.len hlt
            have fx := hW.frozen (ox + k)
            obtain ⟨s, t, hst, hs, ht, hrun⟩ := sub_mid_run x cN (ex.out ▸ hx.getD (by decide) k) hI.c1
            have HS := Lib.hid (hI.step hlt (s := s) (t := t) (by rw [ex.out, getD_ge hk]; exact hst) hs ht)
            have HW := Lib.hid (hW.step hI.len hlt s)
            have HT := Lib.hid (hT.setCell (p := ⟨gx, ox + k, none⟩) (by simp) (.int .u64 (s : Int)))
            clear hst hs ht hx hy hgg hc
            go_wp2
            go_roundw
            case rel => exact ⟨k + 1, t, ws ++ [s], by omega, by omega, by go_num, rfl, HS.out, HW.out, HT.out⟩
            case measure => simp [intOf]; omega
        · obtain rfl : k = xs.length := by omega
          have HO := Lib.hid (hI.out hx hkx' hk HLE.out (.inl rfl))
          go_wp2
          go_end0
          exact ⟨_, rfl, HO.out, hW, hT⟩

def MulPost (w : World) (g o : Nat) (pre : List Value) (ss xs : List Nat) (f : Nat) (post : List Value) (e : Ending) (w' : World) : Prop :=
  ∃ (c : Nat) (zs : List Nat), e = .returned (.int .u64 (c : Int)) ∧ MulOut BB ss xs f c zs ∧ Win w' 86 .u64 g o pre zs post ∧ Tch [g] w w'

set_option maxHeartbeats 1000000 in
set_option maxRecDepth 100000 in
theorem addProduct (gs os caps gx ox capx : Nat) (pre post pre' post' : List Value) (ss xs : List Nat) (f : Nat) (w : World) (hgg : gs ≠ gx) (hs0 : Ok BB ss) (hx : Ok BB xs) (hf : f < BB) (hl : xs.length = ss.length) (hb : ss.length ≤ 1000000000)
    (hS : Win w 86 .u64 gs os pre ss post) (hX : Win w 86 .u64 gx ox pre' xs post') :
    Calls Tryd.prog 73 #[.slice (some ⟨gs, os, none⟩) ss.length caps, .slice (some ⟨gx, ox, none⟩) xs.length capx, .int .u64 f] w (MulPost w gs os pre ss xs f post) := by
  have HL := Lib.hid hl
  have hxs : xs.length ≤ ss.length := by omega
  clear hl
  go_enter Tryd.func73, Tryd.ntmps73
  go_wp2
  go_loopw [7, 13] (fun c i wr => ∃ (k cN : Nat) (ws : List Nat), k ≤ xs.length ∧ i = .int .i64 k ∧ c = .int .u64 cN ∧ MulInv BB ss xs f k cN ws ∧ Win wr 86 .u64 gs os pre (ws ++ ss.drop k) post ∧ Tch [gs] w wr)
    (fun _ i _ => xs.length - (intOf i).toNat)
  case atStart => exact ⟨0, 0, [], Nat.zero_le _, rfl, rfl, MulInv.zero (by decide) _ _ _, hS, Tch.refl _ _⟩
  case round =>
    obtain ⟨k, cN, ws, hk, rfl, rfl, hI, hW, hT⟩ := hrel
    by_cases hlt : k < xs.length
    · have hXr := hX.kept hT (by simp; omega)
      have hkx : k < ss.length := by omega
      obtain ⟨x, ex, cx⟩ := hXr.read hlt
      obtain ⟨a, ea, ca⟩ := hW.readApp hI.len hkx
      have fa := hW.frozen (os + k)
      have xb : x < BB := ex.out ▸ hx.getD (by decide) k
      have ab : a < BB := ea.out ▸ hs0.getD (by decide) k
      have cb := Lib.hid hI.cb
      clear hX hXr hS
      go_wp2_with fail
      refine (multiplyAdd x f cN xb hf cb.out _).mono ?_
      rintro e w' ⟨h, l, E, hh, hlo, rfl, rfl⟩
      obtain ⟨s, t, hst, hs, ht, hrun⟩ := add_zero_run a l ab hlo
      obtain ⟨F1, F2, F3⟩ := prod_nat xb hf cb.out ab E hst
      have HS := Lib.hid (hI.step hkx (s := s) (t := t + h) (by rw [ex.out, ea.out]; exact F1) hs F2)
      have HW := Lib.hid (hW.step hI.len hkx s)
      have HT := Lib.hid (hT.setCell (p := ⟨gs, os + k, none⟩) (by simp) (.int .u64 (s : Int)))
      clear hst hs ht hh hlo E F1 F2 hgg xb ab cb
      go_wp2
      go_roundw
      case rel => exact ⟨k + 1, t + h, ws ++ [s], by omega, by go_num, by first | rfl | rw [F3] | simp [F3], HS.out, HW.out, HT.out⟩
      case measure => simp [intOf]; omega
    · obtain rfl : k = xs.length := by omega
      have HO := Lib.hid ((HL.out ▸ hI : MulInv BB ss xs f ss.length cN ws).out HL.out)
      have HW : Hid (Win wr 86 .u64 gs os pre ws post) := Lib.hid (by rw [HL.out, List.drop_of_length_le (Nat.le_refl _), List.append_nil] at hW; exact hW)
      go_wp2
      go_ret
      exact ⟨cN, _, rfl, HO.out, HW.out, hT⟩

end Go.Proofs.YtmpfgkpimjiecaaDoor
namespace Go.Proofs.YtmpfgkpimjiecaaDoor
open Go.RowKit Dg
def lenOf : Value → Nat | .slice _ n _ => n | _ => 0

set_option maxHeartbeats 1000000 in
set_option maxRecDepth 100000 in
theorem trim (g o cap : Nat) (pre post : List Value) (xs : List Nat) (w : World) (hb : xs.length ≤ 1000000000) (hc : xs.length ≤ cap)
    (hX : Win w 86 .u64 g o pre xs post) :
    Calls Tryd.prog 70 #[.slice (some ⟨g, o, none⟩) xs.length cap] w fun e w' => e = .returned (.slice (some ⟨g, o, none⟩) (cut xs).length cap) ∧ w = w' := by
  go_enter Tryd.func70, Tryd.ntmps70
  go_wp2
  go_loop [0] (fun v => ∃ m : Nat, v = .slice (some ⟨g, o, none⟩) m cap ∧ m ≤ xs.length ∧ Hid (cut (xs.take m) = cut xs)) (fun v => lenOf v)
  case atStart => exact ⟨xs.length, rfl, Nat.le_refl _, Lib.hid (by rw [List.take_of_length_le (Nat.le_refl _)])⟩
  case round =>
    obtain ⟨m, rfl, hm, hC⟩ := hrel
    cases m with
    | zero =>
      have e : Hid ((cut xs).length = 0) := Lib.hid (by have := hC.out; rw [List.take_zero] at this; rw [← this]; rfl)
      go_wp2
      go_ret
      exact ⟨by rw [e.out]; rfl, rfl⟩
    | succ k =>
      have hk : k < xs.length := by omega
      have hkc : k ≤ cap := by omega
      obtain ⟨x, ex, cx⟩ := hX.read hk
      by_cases hx : x = 0
      · subst hx
        have hC' := Lib.hid ((cut_take_zero hk ex.out).symm.trans hC.out)
        go_wp2
        go_round
        case rel => exact ⟨k, by first | rfl | simp, by omega, hC'⟩
        case measure => simp [lenOf]
      · have hx1 : ((x : Int) == 0) = false := by simpa using hx
        have e : Hid ((cut xs).length = k + 1) := Lib.hid (by rw [← hC.out, cut_take_pos hk (by rw [ex.out]; exact hx), List.length_take]; omega)
        clear hx
        go_wp2
        go_ret
        exact ⟨by rw [e.out]; rfl, rfl⟩

end Go.Proofs.YtmpfgkpimjiecaaDoor
namespace Go.Proofs.YtmpfgkpimjiecaaDoor
open Go.RowKit Dg
theorem info_u64 : (Tryd.prog.info? 86).map (fun i => (i.zero, i.size, i.bytes)) = some (some (.int .u64 0), 1, 8) := by kernel_rfl

def AddWPost (w : World) (g : Nat) (xs ys : List Nat) (e : Ending) (w' : World) : Prop :=
  ∃ v zs, e = .returned v ∧ Ok BB zs ∧ dg BB zs = dg BB xs + dg BB ys ∧ zs.length ≤ max xs.length ys.length + 1 ∧ Words 86 .u64 w [g] v zs w'

set_option maxHeartbeats 1000000 in
set_option maxRecDepth 100000 in
theorem addWords (gx capx gy capy : Nat) (pre' post' : List Value) (oy : Nat) (xs ys : List Nat) (w : World) (hgg : gx ≠ gy) (hx : Ok BB xs) (hy : Ok BB ys) (hbx : xs.length ≤ 100000000) (hby : ys.length ≤ 100000000)
    (hX : Own w 86 .u64 gx capx xs) (hY : Win w 86 .u64 gy oy pre' ys post') :
    Calls Tryd.prog 75 #[.slice (some ⟨gx, 0, none⟩) xs.length capx, .slice (some ⟨gy, oy, none⟩) ys.length capy] w (AddWPost w gx xs ys) := by
  obtain ⟨i0, hi, hz0, hz1, hz2⟩ := info_parts info_u64
  go_enter Tryd.func75, Tryd.ntmps75
  go_wp2
  go_loopw [0] (fun v wr => ∃ (g cap n : Nat), v = .slice (some ⟨g, 0, none⟩) (xs.length + n : Nat) cap ∧ n ≤ ys.length ∧ (0 < n → xs.length + n ≤ ys.length) ∧ Own wr 86 .u64 g cap (xs ++ List.replicate n 0) ∧ (g ∈ [gx] ∨ w.heap.size ≤ g) ∧ Tch [gx] w wr)
    (fun v _ => ys.length - lenOf v)
  case atStart => exact ⟨gx, capx, 0, rfl, by omega, by omega, by simpa using hX, .inl (by simp), Tch.refl _ _⟩
  case round =>
    obtain ⟨g, cap, n, rfl, hn, hn2, hO, hg, hT⟩ := hrel
    by_cases hlt : xs.length + n < ys.length
    · have hna : Own (wr.alloc (.cells #[.int .u64 0] 86)) 86 .u64 g cap (xs ++ List.replicate n 0) := hO.kept ((Tch.refl [] wr).alloc _) (by simp)
      go_wp2_with (at_builtin; refine wpList_app_one _ rfl _ _ 79 rfl 86 .u64 i0 Tryd.underlying79 hi hz0 hz1 (by omega) g cap (xs.length + n) (xs ++ List.replicate n 0) hna (by simp) rfl ⟨wr.heap.size, 0, none⟩ 1 0 rfl (by simp) (by omega) ?_)
      intro v' w' happ
      have hW : Words 86 .u64 w [gx] v' (xs ++ List.replicate (n + 1) 0) w' := by
        have h := happ.words hT hg ((Tch.refl [] wr).alloc _)
        rwa [← List.append_assoc, replicate_snoc] at h
      obtain ⟨g', cap', rfl, ho, hg', hT'⟩ := hW
      have HO := Lib.hid ho
      have HL : Hid ((xs ++ List.replicate (n + 1) 0).length = xs.length + (n + 1)) := Lib.hid (by simp)
      clear ho happ hna hO
      go_wp2
      go_roundw
      case rel => exact ⟨g', cap', n + 1, by rw [HL.out], by omega, by omega, HO.out, hg', hT'⟩
      case measure => simp [lenOf]; omega
    · have hle : ys.length ≤ (xs ++ List.replicate n 0).length := by simp; omega
      have hgy : g ≠ gy := by
        rcases hg with h | h
        · simp at h; omega
        · have := hY.lt; omega
      obtain ⟨rest, hW⟩ := hO.win
      have hYr := hY.kept hT (by simp; omega)
      have hlen : (xs ++ List.replicate n 0).length = xs.length + n := by simp
      have hok : Ok BB (xs ++ List.replicate n 0) := hx.append (Ok.replicate n (by decide))
      have cA := fun w1 h1 h2 => addInPlace g 0 cap gy oy capy [] rest pre' post' (xs ++ List.replicate n 0) ys w1 hgy hok hy hle (by rw [hlen]; omega) h1 h2
      rw [hlen] at cA
      have CA := Lib.hid cA
      have HLn := Lib.hid hlen
      clear cA hlen hle
      go_wp2_with fail
      refine (CA.out _ (by exact hW) (by exact hYr)).mono ?_
      rintro e w1 ⟨c, zs, rfl, hA, hW1, hT1⟩
      have hT2 := hT.trans hT1 (by simpa using hg)
      have hO1 : Own w1 86 .u64 g cap zs := hO.again hW hW1 hA.len
      have hzl : zs.length = xs.length + n := hA.len.trans HLn.out
      have hval : dg BB zs + BB ^ zs.length * c = dg BB xs + dg BB ys := by
        have := hA.val
        rw [← hA.len, dg_append, dg_zeros, Nat.mul_zero, Nat.add_zero] at this
        exact this
      have HZ := Lib.hid hzl
      have HV := Lib.hid hval
      have c1 := hA.c1
      have hzok := hA.ok
      clear hA hT1 hzl hval CA
      by_cases hc : c = 0
      · subst hc
        go_wp2
        go_ret
        refine ⟨_, zs, rfl, hzok, by have := HV.out; omega, by rw [HZ.out]; omega, g, cap, by rw [HZ.out]; rfl, hO1, hg, hT2⟩
      · obtain rfl : c = 1 := by omega
        have hc1 : (((1 : Nat) : Int) != 0) = true := by decide
        have hna : Own (w1.alloc (.cells #[.int .u64 1] 86)) 86 .u64 g cap zs := hO1.kept ((Tch.refl [] w1).alloc _) (by simp)
        go_wp2_with (at_builtin; refine wpList_app_one _ rfl _ _ 79 rfl 86 .u64 i0 Tryd.underlying79 hi hz0 hz1 (by omega) g cap (xs.length + n) zs hna HZ.out rfl ⟨w1.heap.size, 0, none⟩ 1 1 rfl (by simp) (by omega) ?_)
        intro v' w' happ
        have hWd := happ.words hT2 hg ((Tch.refl [] w1).alloc _)
        have HWd := Lib.hid hWd
        clear happ hna hWd
        go_wp2
        go_ret
        exact ⟨v', zs ++ [1], rfl, hzok.snoc (by decide), by rw [dg_snoc]; have := HV.out; omega, by rw [List.length_append, HZ.out, List.length_singleton]; omega, HWd.out⟩

end Go.Proofs.YtmpfgkpimjiecaaDoor
