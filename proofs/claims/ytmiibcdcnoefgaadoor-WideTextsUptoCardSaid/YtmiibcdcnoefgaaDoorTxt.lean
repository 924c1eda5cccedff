/- Decimal digits: their lists; wide.writeDigits, wide.digits, wide.Text. -/
import Derived.Test.YtmiibcdcnoefgaaDoorDec
import Derived.Test.YtmiibcdcnoefgaaDoorByWord
import Derived.Test.YtmiibcdcnoefgaaDoorDecode
import Derived.Test.YtmiibcdcnoefgaaDoorRef
namespace Go.Proofs.YtmiibcdcnoefgaaDoor.Dg

/-- The decimal digits of n as bytes, the first one first, none for 0. -/
def dl (n : Nat) : List Nat := if n = 0 then [] else dl (n / 10) ++ [48 + n % 10]
termination_by n
decreasing_by omega

theorem dl_zero : dl 0 = [] := by rw [dl, if_pos rfl]
theorem dl_pos {n : Nat} (h : n ≠ 0) : dl n = dl (n / 10) ++ [48 + n % 10] := by
  conv => lhs; rw [dl, if_neg h]
theorem dl_step {m d : Nat} (h : m ≠ 0 ∨ d ≠ 0) (hd : d < 10) : dl (m * 10 + d) = dl m ++ [48 + d] := by
  rw [dl_pos (by omega), show (m * 10 + d) / 10 = m by omega, show (m * 10 + d) % 10 = d by omega]
theorem dl_nil {n : Nat} (h : dl n = []) : n = 0 := by
  rcases Nat.eq_zero_or_pos n with h0 | h0
  · exact h0
  · rw [dl_pos (by omega)] at h; simp at h

theorem snoc_ind {P : List Nat → Prop} (h0 : P []) (h1 : ∀ l x, P l → P (l ++ [x])) (l : List Nat) : P l := by
  have : ∀ r : List Nat, P r.reverse := by
    intro r
    induction r with
    | nil => exact h0
    | cons x r ih => rw [List.reverse_cons]; exact h1 _ _ ih
  have h := this l.reverse
  rwa [List.reverse_reverse] at h

/-- A string of bytes. -/
def bs (l : List Nat) : ByteArray := strOfNums (l.map fun x : Nat => (x : Int))
end Go.Proofs.YtmiibcdcnoefgaaDoor.Dg

namespace Go.Proofs.YtmiibcdcnoefgaaDoor
open Go.RowKit Dg

theorem decs_ok {l : List Nat} (h : decs l = true) : Ok 256 l := by
  simp only [decs, List.all_eq_true] at h
  intro x hx
  have := h x hx
  simp at this; omega

theorem sb_bs {l : List Nat} (h : Ok 256 l) : sb (bs l) = l := by
  unfold sb bs strOfNums
  simp only [List.map_map]
  conv => rhs; rw [← List.map_id l]
  refine List.map_congr_left fun x hx => ?_
  have := h x hx
  simp; omega

theorem dl_decs (n : Nat) : decs (dl n) = true := by
  induction n using Nat.strongRecOn with
  | ind n ih =>
    rcases Nat.eq_zero_or_pos n with rfl | h0
    · rw [dl_zero]; rfl
    · rw [dl_pos (by omega), decs_snoc, ih (n / 10) (by omega)]; simp; omega

theorem dl_nv (n : Nat) : nv (dl n) = n := by
  induction n using Nat.strongRecOn with
  | ind n ih =>
    rcases Nat.eq_zero_or_pos n with rfl | h0
    · rw [dl_zero]; rfl
    · rw [dl_pos (by omega), nv_snoc, ih (n / 10) (by omega)]; omega

/-- Digits without zeros in front are those of their value. -/
theorem dl_uniq (l : List Nat) : decs l = true → l.dropWhile (· == 48) = dl (nv l) := by
  induction l using snoc_ind with
  | h0 => intro _; rw [show nv [] = 0 from rfl, dl_zero]; rfl
  | h1 l x ih =>
    intro h
    rw [decs_snoc] at h
    have hd : decs l = true := by simp at h; exact h.1
    have hx : 48 ≤ x ∧ x ≤ 57 := by simp at h; exact h.2
    rw [List.dropWhile_append, ih hd, nv_snoc]
    by_cases h0 : nv l = 0
    · rw [h0, dl_zero]
      by_cases h48 : x = 48
      · subst h48; simp [dl_zero]
      · rw [dl_step (.inr (by omega)) (by omega), dl_zero]
        simp [h48]; omega
    · rw [dl_step (.inl h0) (by omega)]
      have : (dl (nv l)).isEmpty = false := by
        rw [List.isEmpty_eq_false_iff]
        exact fun h => h0 (dl_nil h)
      rw [this]
      simp; omega

/-- The last i digits of v are written, V is left of it. -/
structure WtInv (v i V : Nat) (ws : List Nat) : Prop where
  len : ws.length = i
  dec : decs ws = true
  val : nv ws + 10 ^ i * V = v

theorem WtInv.start (v : Nat) : WtInv v 0 v [] := ⟨rfl, rfl, by simp [nv]⟩
theorem WtInv.step {v i V : Nat} {ws : List Nat} (h : WtInv v i V ws) : WtInv v (i + 1) (V / 10) ((48 + V % 10) :: ws) := by
  refine ⟨by simp [h.len], ?_, ?_⟩
  · have h1 := h.dec
    simp only [decs, List.all_cons] at h1 ⊢
    rw [h1]; simp; omega
  · rw [show (48 + V % 10) :: ws = [48 + V % 10] ++ ws from rfl, nv_append, h.len]
    have e : nv [48 + V % 10] = V % 10 := by simp [nv]
    rw [e, ← h.val, Nat.pow_succ]
    have h2 := Nat.div_add_mod V 10
    generalize 10 ^ i = p at *
    have h3 : p * V = p * (10 * (V / 10)) + p * (V % 10) := by rw [← Nat.mul_add, h2]
    rw [h3, Nat.mul_assoc, Nat.mul_comm (V % 10)]
    omega

/-- A chunk has 19 digits. -/
def CH : Nat := 10000000000000000000
theorem CH_eq : CH = 10 ^ 19 := by decide

/-- X is what is left of n, cs are the chunks that were taken off. -/
structure TdInv (n : Nat) (X cs : List Nat) : Prop where
  ok : Ok BB X
  tr : Trim X
  okc : Ok CH cs
  val : dg CH cs + CH ^ cs.length * dg BB X = n

theorem TdInv.step {n r : Nat} {X cs zs : List Nat} (h : TdInv n X cs) (hD : DnOut BB X CH r zs) : TdInv n (cut zs) (cs ++ [r]) := by
  refine ⟨cut_ok hD.ok, cut_trim zs, h.okc.snoc hD.rb, ?_⟩
  rw [dg_snoc, dg_cut, List.length_append, List.length_singleton, Nat.pow_succ, ← h.val, ← hD.val]
  generalize CH ^ cs.length = p
  rw [Nat.mul_add, Nat.mul_assoc]
  omega

theorem TdInv.le {n L : Nat} {X cs : List Nat} (h : TdInv n X cs) (hn : n < BB ^ L) (hX : X ≠ []) : cs.length < 2 * L := by
  have h1 : dg BB X ≠ 0 := dg_ne_zero (by decide) h.tr hX
  have h2 : CH ^ cs.length * 1 ≤ CH ^ cs.length * dg BB X := Nat.mul_le_mul_left _ (by omega)
  have h3 : BB ^ L ≤ CH ^ (2 * L) := by
    rw [Nat.pow_mul]
    exact Nat.pow_le_pow_left (by decide) L
  have h4 := h.val
  refine (Nat.pow_lt_pow_iff_right (a := CH) (by decide)).1 ?_
  omega

/-- The digits of the first i chunks. -/
structure TwInv (cs : List Nat) (i : Nat) (D : List Nat) : Prop where
  len : D.length = 19 * i
  dec : decs D = true
  val : nv D = dg CH (cs.take i)

theorem decs_append {l m : List Nat} (h1 : decs l = true) (h2 : decs m = true) : decs (l ++ m) = true := by
  simp only [decs, List.all_append, Bool.and_eq_true] at *
  exact ⟨h1, h2⟩

theorem TwInv.step {cs D ws : List Nat} {i V : Nat} (h : TwInv cs i D) (hi : i < cs.length) (ho : Ok CH cs) (hw : WtInv (cs.getD i 0) 19 V ws) : TwInv cs (i + 1) (ws ++ D) := by
  have hV : V = 0 := by
    have h1 := hw.val
    have h2 : cs.getD i 0 < CH := ho.getD (by decide) i
    rw [CH_eq] at h2
    rcases Nat.eq_zero_or_pos V with h0 | h0
    · exact h0
    · have := Nat.mul_le_mul_left (10 ^ 19) h0; omega
  have hv := hw.val
  rw [hV, Nat.mul_zero, Nat.add_zero] at hv
  refine ⟨by rw [List.length_append, hw.len, h.len]; omega, decs_append hw.dec h.dec, ?_⟩
  rw [nv_append, h.len, h.val, hv, dg_take_succ CH cs i hi, CH_eq, Nat.pow_mul, Nat.mul_comm]
  omega

end Go.Proofs.YtmiibcdcnoefgaaDoor

namespace Go.Proofs.YtmiibcdcnoefgaaDoor
open Go.RowKit Dg

theorem wd_byte (V : Nat) : IntKind.u8.wrap (48 + IntKind.u8.wrap ((V : Int) % 10)) = ((48 + V % 10 : Nat) : Int) := by
  simp only [IntKind.wrap_u8]; omega

set_option maxHeartbeats 2000000 in
set_option maxRecDepth 100000 in
theorem writeDigits (g o c : Nat) (pre post : List Value) (xs : List Nat) (v : Nat) (hv : v < BB) (w : World) (hb : xs.length ≤ 1000) (hW : Win w 5 .u8 g o pre xs post) :
    Calls Tryd.prog 101 #[.slice (some ⟨g, o, none⟩) xs.length c, .int .u64 v] w fun e w' => (e = .returned (.tuple #[]) ∧ ∃ V ws, WtInv v xs.length V ws ∧ Win w' 5 .u8 g o pre ws post) ∧ Tch [g] w w' := by
  go_enter Tryd.func101, Tryd.ntmps101
  go_wp2
  go_loopw [1, 7] (fun uv ui wr => ∃ (k m V : Nat) (ws : List Nat), ui = .int .i64 (k : Int) ∧ k + m = xs.length ∧ uv = .int .u64 (V : Int) ∧ Hid (WtInv v k V ws) ∧ Hid (V < BB) ∧ Win wr 5 .u8 g o pre (xs.take m ++ ws) post ∧ Hid (Tch [g] w wr)) (fun _ ui _ => xs.length - (intOf ui).toNat)
  case atStart => exact ⟨0, xs.length, v, [], rfl, by omega, rfl, Lib.hid (WtInv.start v), Lib.hid hv, by simpa using hW, Lib.hid (Tch.refl _ _)⟩
  case round =>
    obtain ⟨k, m, V, ws, rfl, hkm, rfl, hI, hVB, hW1, hT⟩ := hrel
    cases m with
    | zero =>
      have hk : k = xs.length := by omega
      subst hk
      have HW : Hid (Win wr 5 .u8 g o pre ws post) := Lib.hid (by simpa using hW1)
      clear hW1 hW
      go_wp2
      go_end0
      exact ⟨⟨rfl, V, ws, hI.out, HW.out⟩, hT.out⟩
    | succ m =>
      have hlt : k < xs.length := by omega
      obtain ⟨x, ex, cx⟩ := hW1.readDn (m := m) (by omega)
      have fx := hW1.frozen (o + m)
      have hsub : ((xs.length : Int) - 1 - (k : Int)) = (m : Int) := by omega
      have HI := Lib.hid hI.out.step
      have HQ : Hid (IntKind.u64.wrap ((V : Int) / 10) = ((V / 10 : Nat) : Int)) := Lib.hid (by have h := hVB.out; rw [BB_eq] at h; rw [IntKind.wrap_u64]; omega)
      have HVB : Hid (V / 10 < BB) := Lib.hid (Nat.lt_of_le_of_lt (Nat.div_le_self _ _) hVB.out)
      have HW := Lib.hid (hW1.stepDn (m := m) (by omega) (48 + V % 10))
      have HT := Lib.hid (hT.out.setCell (p := ⟨g, o + m, none⟩) (by simp) (.int .u8 ((48 + V % 10 : Nat) : Int)))
      have hwb := wd_byte V
      have HB := Lib.hid hwb
      have hml : m < xs.length := by omega
      clear hW1 hW hI hT hwb
      go_wp2
      go_roundw
      case rel => exact ⟨k + 1, m, V / 10, _, by first | rfl | go_num, by omega, by first | rfl | (rw [HQ.out]), HI, HVB, by first | exact HW.out | (rw [HB.out]; exact HW.out), by first | exact HT | (rw [HB.out]; exact HT)⟩
      case measure => first | (simp [intOf]; done) | (simp [intOf]; omega)

end Go.Proofs.YtmiibcdcnoefgaaDoor

namespace Go.Proofs.YtmiibcdcnoefgaaDoor
open Go.RowKit Dg

/-- 'append(xs, y)' in a walk that touches S. -/
theorem wpList_app_rowS {P : Program} {S : List Nat} (w : World) {ops : Array Oper} {rest : List Oper} {o : Oper} {a : Act} {Q : Exit → Act → World → Prop} (hgd : o.guard = none) (s x : Operand) (t : TypeId)
    (ho : o.op = .call { callee := .builtin .append, args := #[s, x], argTypes := #[t, t] }) (T : TypeId) (k : IntKind) (i : TypeInfo) (ht : P.underlying t = some (.slice T)) (hi : P.info? T = some i) (hz : i.zero = some (.int k 0)) (hs1 : i.size = 1) (hb : i.bytes ≤ 8)
    (w0 : World) (v : Value) (xs : List Nat) (hT : Tch S w0 w) (h : Row w0.heap.size w T k v xs) (hs : a.eval s = v) (ad : Addr) (c y : Nat) (hx : a.eval x = .slice (some ad) 1 c) (hc : w.cell? ad = some (.int k (y : Int))) (hl : xs.length ≤ 100000000000)
    (hK : ∀ v' w', Row w0.heap.size w' T k v' (xs ++ [y]) → Tch S w0 w' → (∀ g, g < w0.heap.size → w'.heap[g]? = w.heap[g]?) → wpList P ops Q rest (a.put o.dst v') w') : wpList P ops Q (o :: rest) a w := by
  have hmul : (xs.length + 1) * i.bytes ≤ (xs.length + 1) * 8 := Nat.mul_le_mul_left _ hb
  obtain ⟨v', w', hr, h1, h2, _, _⟩ := run_append_own_at (P := P) w w0.heap.size t o.type T i (.int k 0) 1 i.bytes ht hi hz hs1 rfl rfl (by omega) v xs.length (ints k xs) h.owns ad 1 c (ints k [y]) (by simp [ints])
    (by
      intro j u hu
      match j, hu with
      | 0, hu => simp [ints] at hu; subst hu; rw [show ad.add 0 = ad from by unfold Addr.add; split <;> simp_all]; exact hc)
    (by intro u hu; simp [ints] at hu; rw [hu]; rfl) (by unfold maxLen; omega) (by omega) hT.size
  rw [← ints_append] at h1
  exact Lib.wpList_append_run w hgd s x t t ho _ _ hs hx v' w' hr (hK v' w' (Row.of_owns h1 (by simp)) (hT.grown h2 (fun g hg => .inr (h.block g hg)))
    (fun g hg => h2.block g (Nat.lt_of_lt_of_le hg hT.size) (fun e => by have := h.block g e.symm; omega)))

theorem Row.slice {B : Nat} {w : World} {T : TypeId} {k : IntKind} {v : Value} {xs : List Nat} (h : Row B w T k v xs) : ∃ A c, v = .slice A xs.length c := by
  rcases h with ⟨rfl, rfl⟩ | ⟨g, cap, rfl, hb, ho⟩
  · exact ⟨none, 0, rfl⟩
  · exact ⟨_, _, rfl⟩

theorem Row.read {B n c : Nat} {w : World} {T : TypeId} {k : IntKind} {A : Option Addr} {xs : List Nat} (h : Row B w T k (.slice A n c) xs) {j : Nat} (hj : j < xs.length) :
    ∃ g, A = some ⟨g, 0, none⟩ ∧ g < w.heap.size ∧ ∃ x : Nat, Hid (xs.getD j 0 = x) ∧ w.cell? ⟨g, j, none⟩ = some (.int k (x : Int)) := by
  rcases h with ⟨_, rfl⟩ | ⟨g, cap, he, hb, ho⟩
  · simp at hj
  · simp only [Value.slice.injEq] at he
    obtain ⟨r, W⟩ := ho.win
    obtain ⟨x, ex, cx⟩ := W.read hj
    rw [Nat.zero_add] at cx
    exact ⟨g, he.1, ho.lt, x, ex, cx⟩

theorem make_u8 (n : Nat) (hn : n ≤ 100000) (u : World) : (Instr.makeSlice 22 (.int .i64 (n : Int)) (.int .i64 (n : Int))).run Tryd.prog u =
    .ok (.slice (some ⟨u.heap.size, 0, none⟩) n n) (u.alloc (.cells (madeCells #[.int .u8 0] n) 5)) := by
  obtain ⟨i0, hi, hz0, hz1, hz2⟩ := info_parts info_u8
  have h := run_make (P := Tryd.prog) u 22 5 i0 (.int .u8 0) Tryd.underlying22 hi hz0 .i64 .i64 (n : Int) (n : Int) (by omega) (Int.le_refl _) (by rw [hz2]; omega) (by omega)
  have e : ((n : Int)).toNat = n := by omega
  rw [e] at h
  simpa [hz1, Value.cells] using h

theorem made_u8 (n : Nat) (hn : n ≤ 100000) (u : World) : Own (u.alloc (.cells (madeCells #[.int .u8 0] n) 5)) 5 .u8 u.heap.size n (List.replicate n 0) := by
  refine ⟨[], ⟨?_, rfl⟩, by simp, by unfold maxLen; omega⟩
  rw [Below.heap_alloc_new' u]
  congr 2
  apply Array.ext
  · simp [madeCells, ints]
  · intro i h1 h2
    simp [madeCells, ints, Nat.mod_one]

set_option maxHeartbeats 8000000 in
set_option maxRecDepth 100000 in
theorem textDigits (gx capx : Nat) (xs : List Nat) (w : World) (hx : Ok BB xs) (ht : Trim xs) (hb : xs.length ≤ 1000) (hX : Own w 76 .u64 gx capx xs) :
    Calls Tryd.prog 72 #[.slice (some ⟨gx, 0, none⟩) xs.length capx] w fun e w' => (∃ g c ys, e = .returned (.slice (some ⟨g, 0, none⟩) ys.length c) ∧ Own w' 5 .u8 g c ys ∧ decs ys = true ∧ nv ys = dg BB xs ∧ ys.length ≤ 38000) ∧ Tch [gx] w w' := by
  obtain ⟨i0, hi, hz0, hz1, hz2⟩ := info_parts info_u64
  obtain ⟨n, hn⟩ : ∃ n, dg BB xs = n := ⟨_, rfl⟩
  have HNL : Hid (n < BB ^ xs.length) := Lib.hid (by rw [← hn]; exact dg_lt hx)
  obtain ⟨post0, W0, hcap1, hcap2⟩ := hX
  have hgx : gx < w.heap.size := W0.lt
  have HI0 : Hid (TdInv n xs []) := Lib.hid ⟨hx, ht, Ok.nil _, by simp [dg, hn]⟩
  have hcx : xs.length ≤ capx := by omega
  rw [hn]
  clear hn hx ht hcap1 hcap2
  go_enter Tryd.func72, Tryd.ntmps72
  go_wp2
  go_loopw [0, 3] (fun ux uc wr => ∃ (X cs : List Nat) (v : Value) (post : List Value), ux = .slice (some ⟨gx, 0, none⟩) X.length capx ∧ v = uc ∧ Hid (TdInv n X cs) ∧ Hid (Win wr 76 .u64 gx 0 [] X post) ∧ X.length ≤ xs.length ∧ cs.length ≤ 2 * xs.length ∧ Hid (Row w.heap.size wr 76 .u64 v cs) ∧ Hid (Tch [gx] w wr)) (fun _ uc _ => 2 * xs.length + 1 - rlen uc)
  case atStart => exact ⟨xs, [], _, post0, rfl, rfl, HI0, Lib.hid W0, Nat.le_refl _, by simp, Lib.hid Row.nil, Lib.hid (Tch.refl _ _)⟩
  case round =>
    clear HI0 W0
    obtain ⟨X, cs, v, post, rfl, rfl, hI, hW, hXl, hcl, hR, hT⟩ := hrel
    by_cases h0 : X = []
    · subst h0
      have HCV : Hid (dg CH cs = n) := Lib.hid (by have := hI.out.val; simpa [dg] using this)
      have HCO := Lib.hid hI.out.okc
      obtain ⟨A, ca, rfl⟩ := hR.out.slice
      have hmk := make_u8 (19 * cs.length) (by omega)
      rw [show ((19 * cs.length : Nat) : Int) = 19 * (cs.length : Int) from by omega] at hmk
      clear hI hW hXl
      rw [List.length_nil]
      go_wp2
      obtain ⟨gb, hgb⟩ : ∃ gb, gb = wr.heap.size := ⟨_, rfl⟩
      obtain ⟨w0, hw0⟩ : ∃ w0, w0 = wr.alloc (.cells (madeCells #[.int .u8 0] (19 * cs.length)) 5) := ⟨_, rfl⟩
      have hO0 := made_u8 (19 * cs.length) (by omega) wr
      rw [← hw0, ← hgb] at hO0
      have HT0 : Hid (Tch [] wr w0) := Lib.hid (by rw [hw0]; exact (Tch.refl [] wr).alloc _)
      have HO0 := Lib.hid hO0
      rw [← hw0, ← hgb]
      have HGB := Lib.hid hgb
      have hcsl : cs.length ≤ 2000 := by omega
      clear hgb hw0 hO0 hmk
      obtain ⟨wo, rfl⟩ : ∃ wo : World, wo = wr := ⟨_, rfl⟩
      go_loopw [6, 29] (fun ue ui w2 => ∃ (i j E : Nat) (D : List Nat), ui = .int .i64 (i : Int) ∧ i + j = cs.length ∧ ue = .int .i64 (E : Int) ∧ Hid (E = 19 * j) ∧ Hid (TwInv cs i D) ∧ Hid (Own w2 5 .u8 gb (19 * cs.length) (List.replicate (19 * j) 0 ++ D)) ∧ Hid (Tch [] wo w2)) (fun _ ui _ => cs.length - (intOf ui).toNat)
      case atStart => exact ⟨0, cs.length, 19 * cs.length, [], rfl, by omega, by first | rfl | (congr 1; omega), Lib.hid rfl, Lib.hid ⟨rfl, rfl, by simp [nv, dg]⟩, Lib.hid (by simpa using HO0.out), HT0⟩
      case round =>
        clear HO0 HT0
        obtain ⟨i, j, E, D, rfl, hij, rfl, hE, hTw, hO, hTT⟩ := hrel
        cases j with
        | zero =>
          obtain rfl : i = cs.length := by omega
          have hO2 : Own wr 5 .u8 gb (19 * cs.length) D := by simpa using hO.out
          have hv := hTw.out.val
          rw [List.take_length, HCV.out] at hv
          have hl := hTw.out.len
          have hl2 : D.length ≤ 38000 := by omega
          rw [← hl] at hO2 ⊢
          have HH := Lib.hid (And.intro hO2 (And.intro hTw.out.dec hv))
          clear hO hTw hO2 hv hR
          go_wp2
          go_ret
          exact ⟨⟨gb, _, D, rfl, HH.out.1, HH.out.2.1, HH.out.2.2, hl2⟩, hT.out.trans hTT.out (by simp)⟩
        | succ j =>
          obtain ⟨st, hst⟩ : ∃ st, st = 19 * j := ⟨_, rfl⟩
          obtain rfl : E = st + 19 := by have := hE.out; omega
          have hilt : i < cs.length := by omega
          obtain ⟨gc, rfl, hgc, x, ex, cx0⟩ := hR.out.read hilt
          have cx := cell_kept0 cx0 hTT.out
          have CK := Lib.hid (fun w3 (h : Tch [gb] wr w3) => cell_kept2 (a := ⟨gc, i, none⟩) (by exact cx) h (by simp; have := HGB.out; omega))
          have hxb : x < BB := by
            have h := HCO.out.getD (by decide) i
            rw [ex.out] at h
            exact Nat.lt_trans h (by decide)
          obtain ⟨rest, Wb⟩ := hO.out.win
          have hlen : (List.replicate (19 * (j + 1)) 0 ++ D).length = st + 19 + D.length := by simp; omega
          have WP := Wb.part st 19 (by omega)
          have hz : (((List.replicate (19 * (j + 1)) 0 ++ D).drop st).take 19).length = 19 := by rw [List.length_take, List.length_drop]; omega
          obtain ⟨Z, hZ⟩ : ∃ Z, Z = ((List.replicate (19 * (j + 1)) 0 ++ D).drop st).take 19 := ⟨_, rfl⟩
          rw [← hZ] at WP hz
          have h1 : (List.replicate (19 * (j + 1)) 0 ++ D).take st = List.replicate (19 * j) 0 := by
            rw [List.take_append_of_le_length (by simp; omega), List.take_replicate]; congr 1; omega
          have h2 : (List.replicate (19 * (j + 1)) 0 ++ D).drop (st + 19) = D := by
            rw [show st + 19 = (List.replicate (19 * (j + 1)) 0).length by simp; omega, List.drop_left]
          rw [h1, h2, Nat.zero_add] at WP
          have cW := fun w1 (h : Win w1 5 .u8 gb st ([] ++ ints .u8 (List.replicate (19 * j) 0)) Z (ints .u8 D ++ rest)) => writeDigits gb st 19 _ _ Z x hxb w1 (by omega) h
          rw [hz] at cW
          have CW := Lib.hid cW
          have HB : Hid (∀ ws w3, ws.length = 19 → Win w3 5 .u8 gb st ([] ++ ints .u8 (List.replicate (19 * j) 0)) ws (ints .u8 D ++ rest) → Own w3 5 .u8 gb (19 * cs.length) (List.replicate (19 * j) 0 ++ (ws ++ D))) := Lib.hid (by
            intro ws w3 hl hw
            rw [← Nat.zero_add st] at hw
            refine hO.out.again Wb (hw.whole rfl) ?_
            simp; omega)
          have HTS := Lib.hid (fun V ws h => hTw.out.step (V := V) (ws := ws) hilt HCO.out h)
          rw [show cs.getD i 0 = x from ex.out] at HTS
          have hb1 : (0 : Int) ≤ (st : Int) := by omega
          have hb2 : (st : Int) ≤ (st : Int) + 19 := by omega
          have HSL : Hid (Value.slice (if ((st : Int) + 19).toNat = st then some ⟨gb, 0, none⟩ else some ⟨gb, st, none⟩) (((st : Int) + 19).toNat - st) (((st : Int) + 19).toNat - st) = .slice (some ⟨gb, st, none⟩) 19 19) := Lib.hid (by
            have e : ((st : Int) + 19).toNat = st + 19 := by omega
            rw [e, if_neg (by omega), Nat.add_sub_cancel_left])
          have hb3 : (st : Int) + 19 ≤ 19 * (cs.length : Int) := by omega
          have HWP := Lib.hid WP
          have HST := Lib.hid hst
          clear cW WP hz hZ h1 h2 hlen Wb hO hE hst cx0
          go_wp2_with fail
          go_region_held3 (fun w' => w'.cell? ⟨gc, i, none⟩ = some (.int .u64 (x : Int))) (first | with_reducible exact CK.out _ HT3.out | with_reducible exact CK.out _ ((Tch.refl [gb] wr).drew)) (first | (go_at_call 101; rw [HSL.out]; with_reducible refine (CW.out _ HWP.out.drew).mono ?_; rintro e w3 ⟨⟨rfl, V, ws, hI3, hW3⟩, hT3⟩; have HT3 := Lib.hid (Tch.undrew hT3); have HI3 := Lib.hid hI3; have HW3 := Lib.hid hW3; clear hI3 hW3 hT3))
          go_wp2
          go_roundw
          case rel => exact ⟨i + 1, j, st, ws ++ D, by first | rfl | go_num, by omega, rfl, HST, Lib.hid (HTS.out _ _ HI3.out), Lib.hid (HB.out ws w3 HI3.out.len HW3.out), Lib.hid (hTT.out.trans HT3.out (by simp; have := HGB.out; omega))⟩
          case measure => first | (simp [intOf]; done) | (simp [intOf]; omega)
    · obtain ⟨A, ca, rfl⟩ := hR.out.slice
      have hpos : 0 < X.length := List.length_pos_iff.2 h0
      have hclt := hI.out.le HNL.out h0
      have hd := fun w1 h => divideByWord gx 0 capx [] post X CH (by decide) (by decide) w1 hI.out.ok (by omega) (by omega) h
      rw [show (CH : Int) = 10000000000000000000 from rfl] at hd
      have CD := Lib.hid hd
      have HI := Lib.hid (fun r zs h => hI.out.step (r := r) (zs := zs) h)
      clear hd h0 hI
      go_wp2_with fail
      refine (CD.out _ hW.out).mono ?_
      rintro e w1 ⟨r, zs, rfl, hD, hWz, hT1⟩
      have HI2 := Lib.hid (HI.out r zs hD)
      have hzl : (cut zs).length ≤ xs.length := by have := cut_length_le zs; have := hD.len; omega
      have HWz : Hid (∃ post', Win w1 76 .u64 gx 0 [] (cut zs) post') := Lib.hid ⟨ints .u64 (zs.drop (cut zs).length) ++ post, by
        refine ⟨?_, rfl⟩
        rw [hWz.1, ← List.append_assoc (ints .u64 (cut zs)), ← ints_append]
        conv => lhs; rw [← List.take_append_drop (cut zs).length zs, ← cut_take]⟩
      have hT2 := hT.out.trans hT1 (by simp)
      have hR2 : Row w.heap.size w1 76 .u64 (.slice A cs.length ca) cs := by
        rcases hR.out with h | ⟨g, cap, h1, h2, h3⟩
        · exact .inl h
        · exact .inr ⟨g, cap, h1, h2, h3.kept hT1 (by simp; omega)⟩
      have HR2 := Lib.hid hR2
      have HT2 := Lib.hid hT2
      clear hD hWz hT1 hT2 hR2 CD HI hR hT hW
      go_wp2_with (at_builtin; refine wpList_app_rowS _ rfl _ _ 70 rfl 76 .u64 i0 Tryd.underlying70 hi hz0 hz1 (by omega) w (.slice A cs.length ca) cs (HT2.out.alloc _) (HR2.out.kept ((Tch.refl [] w1).alloc _)) rfl ⟨w1.heap.size, 0, none⟩ 1 r rfl (by simp) (by omega) ?_)
      intro v' w3 hR3 hT3 hB3
      have HR3 := Lib.hid hR3
      have HT3 := Lib.hid hT3
      have HW3 : Hid (∃ post', Win w3 76 .u64 gx 0 [] (cut zs) post') := Lib.hid (by
        obtain ⟨p, h⟩ := HWz.out
        exact ⟨p, (hB3 gx hgx).trans ((h.kept ((Tch.refl [] w1).alloc _) (by simp)).1), rfl⟩)
      obtain ⟨A3, c3, rfl⟩ := hR3.slice
      clear hR3 hT3 hB3
      go_wp2
      obtain ⟨p3, hp3⟩ := HW3.out
      go_roundw
      case rel => exact ⟨cut zs, cs ++ [r], _, p3, rfl, rfl, HI2, Lib.hid hp3, hzl, by simp; omega, HR3, HT3⟩
      case measure => simp [rlen]; omega

/-- A number in decimal. -/
def txt (ng : Bool) (n : Nat) : ByteArray := if n = 0 then ⟨#[48]⟩ else if ng then ⟨#[45]⟩ ++ bs (dl n) else bs (dl n)

theorem digs_len_BB (s : ByteArray) : (digs BB (bv (sb s))).length ≤ s.size := by
  refine digs_length_le (b := BB) (by decide) (Nat.lt_of_lt_of_le (bv_lt (sb_ok s)) ?_)
  rw [sb_length]
  exact Nat.pow_le_pow_left (by decide) _

/-- The digits without zeros in front. -/
theorem trimL_bs {ys : List Nat} (h : decs ys = true) : (⟨(Lib.trimLeftB (bs ys).data.toList 48).toArray⟩ : ByteArray) = bs (dl (nv ys)) := by
  apply sb_inj
  rw [sb_bs (decs_ok (dl_decs _)), ← dl_uniq ys h]
  have e := sb_bs (decs_ok h)
  conv => rhs; rw [← e]
  simp only [sb, Lib.trimLeftB]
  generalize (bs ys).data.toList = L
  clear e h
  induction L with
  | nil => rfl
  | cons b r ih =>
    simp only [List.map_cons, List.dropWhile_cons]
    by_cases h : b = 48
    · subst h
      simpa using ih
    · have h2 : ¬ b.toNat = 48 := fun e => h (UInt8.toNat_inj.1 e)
      simp [h, h2]

theorem bs_size {l : List Nat} : (bs l).size = l.length := by simp [bs, size_strOf]

set_option maxHeartbeats 8000000 in
set_option maxRecDepth 100000 in
theorem Text (ng : Bool) (s : ByteArray) (hs : s.size ≤ 1000) (w : World) :
    Calls Tryd.prog 37 #[.agg #[.bool ng, .string s]] w fun e w' => e = .returned (.string (txt ng (bv (sb s)))) ∧ Tch [] w w' := by
  have hl := digs_len_BB s
  have CD := Lib.hid (fun w1 => decode ng s w1 (by omega))
  obtain ⟨n, hn⟩ : ∃ n, bv (sb s) = n := ⟨_, rfl⟩
  rw [hn] at CD hl ⊢
  obtain ⟨X, hX⟩ : ∃ X, digs BB n = X := ⟨_, rfl⟩
  have hXo : Ok BB X := by rw [← hX]; exact digs_ok (by decide) n
  have hXt : Trim X := by rw [← hX]; exact digs_trim (by decide) n
  have hXv : dg BB X = n := by rw [← hX]; exact dg_digs (by decide) n
  rw [hX] at CD hl
  have HXO := Lib.hid hXo
  have HXT := Lib.hid hXt
  have HXV := Lib.hid hXv
  clear hXo hXt hXv hX hn
  have F := Lib.hid ((Fr.nil w).add (.cells #[.bool ng, .string s] 27) w.heap.size rfl)
  obtain ⟨c0, c1⟩ := F.out.two 0 rfl
  go_enter Tryd.func37, Tryd.ntmps37
  go_wp2_with fail
  refine (CD.out _).mono ?_
  rintro e w1 ⟨g, cap, rfl, hO, hg, h1⟩
  have HH1 := Lib.hid h1
  have CT := Lib.hid (textDigits g cap X w1 HXO.out HXT.out (by omega) hO)
  have hgw : w.heap.size + 1 ≤ g := by simpa using hg
  clear hO h1 c0 c1 hg CD
  go_wp2_with fail
  refine CT.out.mono ?_
  rintro e w2 ⟨⟨gb, cb, ys, rfl, hB, hd, hv, hyl⟩, h2⟩
  have F := Lib.hid (F.out.keep (HH1.out.trans h2 (by simp; omega)))
  obtain ⟨rest, WB⟩ := hB.win
  have hcv := conv_pre WB ys.length cb (Nat.le_refl _)
  rw [List.take_length, show strOfNums (ys.map fun x : Nat => (x : Int)) = bs ys from rfl] at hcv
  have hTL := fun w3 => Tryd.strings_TrimLeft_one (bs ys) 48 (by decide) w3
  rw [trimL_bs hd, hv, HXV.out] at hTL
  have HTL := Lib.hid hTL
  have hdl : (bs (dl n)).size ≤ 38000 := by
    rw [bs_size, ← HXV.out, ← hv, ← dl_uniq ys hd]
    exact Nat.le_trans (List.dropWhile_sublist _).length_le hyl
  obtain ⟨c0, c1⟩ := F.out.two 0 rfl
  clear hTL hd hv hyl h2 hB WB CT HH1 hgw
  go_wp2_with fail
  refine (HTL.out _).mono ?_
  rintro e w3 ⟨rfl, rfl⟩
  by_cases h0 : n = 0
  · have e1 : txt ng n = ⟨#[48]⟩ := by unfold txt; rw [if_pos h0]
    have e2 : bs (dl n) = ⟨#[]⟩ := by rw [h0, dl_zero]; rfl
    have E1 := Lib.hid e1
    rw [e2]
    clear e1 e2 h0
    go_wp2
    go_ret
    exact ⟨by rw [E1.out]; rfl, F.out.t⟩
  · have hp : 0 < (bs (dl n)).size := by rw [bs_size]; exact List.length_pos_iff.2 (fun h => h0 (dl_nil h))
    obtain ⟨Y, hY⟩ : ∃ Y, bs (dl n) = Y := ⟨_, rfl⟩
    rw [hY] at hdl
    have he1 : (!Y.toList.isEmpty) = true := by rw [not_emp, ← hY]; simpa using hp
    have he2 : Y.toList.isEmpty = false := by simpa using he1
    cases ng with
    | false =>
      have e1 : txt false n = Y := by unfold txt; rw [if_neg h0, ← hY]; rfl
      have E1 := Lib.hid e1
      rw [hY]
      clear e1 h0 hp hY
      go_wp2
      go_ret
      exact ⟨by rw [E1.out]; rfl, F.out.t⟩
    | true =>
      have e1 : txt true n = ⟨#[45]⟩ ++ Y := by unfold txt; rw [if_neg h0, if_pos rfl, ← hY]
      have E1 := Lib.hid e1
      rw [hY]
      clear e1 h0 hp hY
      go_wp2
      go_ret
      exact ⟨by rw [E1.out]; rfl, F.out.t⟩

end Go.Proofs.YtmiibcdcnoefgaaDoor
