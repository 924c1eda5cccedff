/- What a conversion of bytes to a string reads. -/
import Derived.Deep.RegionHeld3
import Derived.Deep.AppendLies
import Derived.Maps.AppendAt
import Derived.Test.YtmpfgkpimjiecaaDoorZ
namespace Go.Proofs.YtmpfgkpimjiecaaDoor
open Go.RowKit Dg
/-- 'string(b[:m])'. -/
theorem conv_pre {w : World} {g : Nat} {xs : List Nat} {post : List Value} (h : Win w 5 .u8 g 0 [] xs post) (m c : Nat) (hm : m ≤ xs.length) :
    (convert 85 9 (.slice (some ⟨g, 0, none⟩) m c)).run Tryd.prog w = .ok (.string (strOfNums ((xs.take m).map fun x : Nat => (x : Int)))) w := by
  refine run_convert_bytes_arg w 85 5 Tryd.underlying85 Tryd.underlying5 g 0 m c _ (by simp [hm]) ?_ 9 Tryd.underlying9
  intro i hi
  have hc := h.cell (j := i) (by omega)
  rw [hc]
  congr 2
  have h2 : i < xs.length := by omega
  simp [List.getD, List.getElem?_eq_getElem h2, hi]

end Go.Proofs.YtmpfgkpimjiecaaDoor
namespace Go.Proofs.YtmpfgkpimjiecaaDoor.Dg
/-- Pairs of bytes, least significant first. -/
def pr : List Nat → List Nat
  | [] => []
  | [x] => [x]
  | x :: y :: r => (x + 256 * y) :: pr r

theorem pr_val : ∀ l : List Nat, dg 65536 (pr l) = dg 256 l
  | [] => rfl
  | [x] => by simp [pr, dg]
  | x :: y :: r => by
    simp only [pr, dg_cons]
    rw [pr_val r]
    omega

theorem pr_ok : ∀ {l : List Nat}, Ok 256 l → Ok 65536 (pr l)
  | [], _ => Ok.nil _
  | [x], h => Ok.cons (by have := h.head; omega) (Ok.nil _)
  | x :: y :: r, h => Ok.cons (by have h1 := h.head; have h2 := h.tail.head; omega) (pr_ok h.tail.tail)

/-- Further bytes behind an even number of them. -/
theorem pr_append : ∀ (k : Nat) (a b : List Nat), a.length = 2 * k → pr (a ++ b) = pr a ++ pr b
  | 0, a, b, h => by
    have : a = [] := List.eq_nil_of_length_eq_zero (by omega)
    subst this; rfl
  | k + 1, [], b, h => by simp at h
  | k + 1, [x], b, h => by simp at h; omega
  | k + 1, x :: y :: r, b, h => by
    simp only [List.cons_append, pr]
    rw [pr_append k r b (by simp at h; omega)]

theorem pr_two {l : List Nat} {k : Nat} (h : 2 * k + 1 < l.length) : pr (l.take (2 * (k + 1))) = pr (l.take (2 * k)) ++ [l.getD (2 * k) 0 + 256 * l.getD (2 * k + 1) 0] := by
  rw [show 2 * (k + 1) = 2 * k + 1 + 1 by omega, take_succ_getD l (2 * k + 1) h, take_succ_getD l (2 * k) (by omega), List.append_assoc, pr_append k _ _ (by rw [List.length_take]; omega)]
  rfl

theorem pr_one {l : List Nat} {k : Nat} (h : 2 * k + 1 = l.length) : pr (l.take (2 * (k + 1))) = pr (l.take (2 * k)) ++ [l.getD (2 * k) 0] := by
  have e : l.take (2 * (k + 1)) = l.take (2 * k) ++ [l.getD (2 * k) 0] := by
    rw [← take_succ_getD l (2 * k) (by omega), List.take_of_length_le (by omega), List.take_of_length_le (by omega)]
  rw [e, pr_append k _ _ (by rw [List.length_take]; omega)]
  rfl

theorem pr_length : ∀ l : List Nat, (pr l).length ≤ l.length
  | [] => Nat.le_refl _
  | [_] => Nat.le_refl _
  | _ :: _ :: r => by simp only [pr, List.length_cons]; have := pr_length r; omega

theorem digs_two {x D : Nat} (hD : D ≠ 0) (hx : x < 65536) : digs 256 (x + 65536 * D) = (x % 256) :: (x / 256) :: digs 256 D := by
  rw [digs_pos (by decide) (by omega), digs_pos (by decide) (by omega)]
  rw [show (x + 65536 * D) % 256 = x % 256 by omega, show (x + 65536 * D) / 256 = x / 256 + 256 * D by omega, show (x / 256 + 256 * D) % 256 = x / 256 by omega, show (x / 256 + 256 * D) / 256 = D by omega]

theorem digs_high {x : Nat} (h : 256 ≤ x) (hx : x < 65536) : digs 256 x = [x % 256, x / 256] := by
  rw [digs_pos (by decide) (by omega), digs_pos (by decide) (by omega), show x / 256 / 256 = 0 by omega, digs_zero, show x / 256 % 256 = x / 256 by omega]

theorem digs_low {x : Nat} (h0 : x ≠ 0) (h : x < 256) : digs 256 x = [x] := by
  rw [digs_pos (by decide) h0, show x / 256 = 0 by omega, digs_zero, show x % 256 = x by omega]

/-- The bytes of the digits from the i-th one on. -/
theorem bytes_step {xs : List Nat} {i : Nat} (hi : i < xs.length) (hk : Ok 65536 xs) (ht : Trim xs) :
    digs 256 (dg 65536 (xs.drop i)) = (if i + 1 < xs.length ∨ 256 ≤ xs.getD i 0 then [xs.getD i 0 % 256, xs.getD i 0 / 256] else [xs.getD i 0]) ++ digs 256 (dg 65536 (xs.drop (i + 1))) := by
  have hx : xs.getD i 0 < 65536 := hk.getD (by decide) i
  rw [dg_drop 65536 xs i hi]
  by_cases h1 : i + 1 < xs.length
  · have hne : xs.drop (i + 1) ≠ [] := by
      intro h
      have := congrArg List.length h
      rw [List.length_drop] at this
      simp at this; omega
    have htd : Trim (xs.drop (i + 1)) := by
      intro h0 h2
      rw [List.getLast_drop] at h2
      exact ht (by intro h3; subst h3; simp at hi) h2
    have hD := dg_ne_zero (b := 65536) (by decide) htd hne
    rw [digs_two hD hx, if_pos (.inl h1)]
    rfl
  · have e : xs.drop (i + 1) = [] := List.drop_eq_nil_of_le (by omega)
    rw [e, dg_nil, Nat.mul_zero, Nat.add_zero, digs_zero, List.append_nil]
    have h0 : xs.getD i 0 ≠ 0 := by
      have hne : xs ≠ [] := by intro h3; subst h3; simp at hi
      have h4 := ht hne
      rw [List.getLast_eq_getElem] at h4
      have : xs.length - 1 = i := by omega
      rw [List.getD, List.getElem?_eq_getElem hi]
      simpa [this] using h4
    by_cases h2 : 256 ≤ xs.getD i 0
    · rw [if_pos (.inr h2), digs_high h2 hx]
    · rw [if_neg (by omega), digs_low h0 (by omega)]

end Go.Proofs.YtmpfgkpimjiecaaDoor.Dg
namespace Go.Proofs.YtmpfgkpimjiecaaDoor
open Go.RowKit Dg
/-- A slice of numbers in no block below B, or nil. -/
def Row (B : Nat) (w : World) (T : TypeId) (k : IntKind) (v : Value) (xs : List Nat) : Prop :=
  (v = .slice none 0 0 ∧ xs = []) ∨ ∃ g cap, v = .slice (some ⟨g, 0, none⟩) xs.length cap ∧ B ≤ g ∧ Own w T k g cap xs

section
variable {B : Nat} {w w' : World} {T : TypeId} {k : IntKind} {v : Value} {xs : List Nat}
theorem Row.nil : Row B w T k (.slice none 0 0) [] := .inl ⟨rfl, rfl⟩

theorem Row.kept (h : Row B w T k v xs) (t : Tch [] w w') : Row B w' T k v xs := by
  rcases h with h | ⟨g, cap, h1, h2, h3⟩
  · exact .inl h
  · exact .inr ⟨g, cap, h1, h2, h3.kept t (by simp)⟩

theorem Row.mono {C : Nat} (h : Row B w T k v xs) (hc : C ≤ B) : Row C w T k v xs := by
  rcases h with h | ⟨g, cap, h1, h2, h3⟩
  · exact .inl h
  · exact .inr ⟨g, cap, h1, by omega, h3⟩

theorem Row.owns (h : Row B w T k v xs) : w.ownsRow B T 1 v xs.length (ints k xs) := by
  rcases h with ⟨rfl, rfl⟩ | ⟨g, cap, rfl, hb, ho⟩
  · exact ⟨by simp [ints], .inl ⟨rfl, rfl⟩⟩
  · obtain ⟨cur, h1, h2, h3⟩ := ho.row
    exact ⟨by rw [ints_length, Nat.mul_one], .inr ⟨g, cap, cur, rfl, hb, h1, ho.le, ho.le', by rw [h2, Nat.mul_one], by rw [Nat.mul_one]; exact h3⟩⟩

theorem Row.of_owns {n : Nat} (h : w.ownsRow B T 1 v n (ints k xs)) (hn : n = xs.length) : Row B w T k v xs := by
  obtain ⟨_, h2⟩ := h
  rcases h2 with ⟨hv, h3⟩ | ⟨g, cap, cur, hv, hb, hh, hnc, hcm, hcs, ht⟩
  · exact .inl ⟨hv, List.eq_nil_of_length_eq_zero (by omega)⟩
  · exact .inr ⟨g, cap, by rw [hv, hn], hb, Own.of_row hh (by omega) hcm (by rw [← hn, ← ht, Nat.mul_one]) (by omega)⟩

theorem Row.block (h : Row B w T k v xs) : ∀ g, v.ownBlock = some g → B ≤ g := by
  intro g hg
  rcases h with ⟨rfl, _⟩ | ⟨g', cap, rfl, hb, _⟩
  · cases hg
  · simp [Value.ownBlock] at hg; omega

end
/-- 'append(xs, y)' onto such a slice, in a walk. -/
theorem wpList_app_row {P : Program} (w : World) {ops : Array Oper} {rest : List Oper} {o : Oper} {a : Act} {Q : Exit → Act → World → Prop} (hgd : o.guard = none) (s x : Operand) (t : TypeId)
    (ho : o.op = .call { callee := .builtin .append, args := #[s, x], argTypes := #[t, t] }) (T : TypeId) (k : IntKind) (i : TypeInfo) (ht : P.underlying t = some (.slice T)) (hi : P.info? T = some i) (hz : i.zero = some (.int k 0)) (hs1 : i.size = 1) (hb : i.bytes ≤ 8)
    (w0 : World) (v : Value) (xs : List Nat) (hT : Tch [] w0 w) (h : Row w0.heap.size w T k v xs) (hs : a.eval s = v) (ad : Addr) (c y : Nat) (hx : a.eval x = .slice (some ad) 1 c) (hc : w.cell? ad = some (.int k (y : Int))) (hl : xs.length ≤ 100000000000)
    (hK : ∀ v' w', Row w0.heap.size w' T k v' (xs ++ [y]) → Tch [] w0 w' → wpList P ops Q rest (a.put o.dst v') w') : wpList P ops Q (o :: rest) a w := by
  have hmul : (xs.length + 1) * i.bytes ≤ (xs.length + 1) * 8 := Nat.mul_le_mul_left _ hb
  obtain ⟨v', w', hr, h1, h2, _, _⟩ := run_append_own_at (P := P) w w0.heap.size t o.type T i (.int k 0) 1 i.bytes ht hi hz hs1 rfl rfl (by omega) v xs.length (ints k xs) h.owns ad 1 c (ints k [y]) (by simp [ints])
    (by
      intro j u hu
      match j, hu with
      | 0, hu => simp [ints] at hu; subst hu; rw [show ad.add 0 = ad from by unfold Addr.add; split <;> simp_all]; exact hc)
    (by intro u hu; simp [ints] at hu; rw [hu]; rfl) (by unfold maxLen; omega) (by omega) hT.size
  rw [← ints_append] at h1
  exact Lib.wpList_append_run w hgd s x t t ho _ _ hs hx v' w' hr (hK v' w' (Row.of_owns h1 (by simp)) (hT.grown h2 (fun g hg => .inr (h.block g hg))))

def rlen : Value → Nat | .slice _ n _ => n | _ => 0

set_option maxHeartbeats 4000000 in
set_option maxRecDepth 100000 in
theorem rtrimW (g o cap : Nat) (pre post : List Value) (xs : List Nat) (w : World) (hb : xs.length ≤ 1000000000) (hc : xs.length ≤ cap)
    (hX : Win w 3 .i64 g o pre xs post) :
    Calls Tryd.prog 59 #[.slice (some ⟨g, o, none⟩) xs.length cap] w fun e w' => e = .returned (.slice (some ⟨g, o, none⟩) (cut xs).length cap) ∧ w = w' := by
  go_enter Tryd.func59, Tryd.ntmps59
  go_wp2
  go_loop [0] (fun v => ∃ m : Nat, v = .slice (some ⟨g, o, none⟩) m cap ∧ m ≤ xs.length ∧ Hid (cut (xs.take m) = cut xs)) (fun v => rlen v)
  case atStart => exact ⟨xs.length, rfl, Nat.le_refl _, Lib.hid (by rw [List.take_of_length_le (Nat.le_refl _)])⟩
  case round =>
    obtain ⟨m, rfl, hm, hC⟩ := hrel
    cases m with
    | zero =>
      have e : Hid ((cut xs).length = 0) := Lib.hid (by have := hC.out; rw [List.take_zero] at this; rw [← this]; rfl)
      go_wp2
      go_ret
      exact ⟨by rw [e.out]; rfl, rfl⟩
    | succ k =>
      have hk : k < xs.length := by omega
      have hkc : k ≤ cap := by omega
      obtain ⟨x, ex, cx⟩ := hX.read hk
      by_cases hx : x = 0
      · subst hx
        have hC' := Lib.hid ((cut_take_zero hk ex.out).symm.trans hC.out)
        go_wp2
        go_round
        case rel => exact ⟨k, by first | rfl | simp, by omega, hC'⟩
        case measure => simp [rlen]
      · have hx1 : ((x : Int) == 0) = false := by simpa using hx
        have e : Hid ((cut xs).length = k + 1) := Lib.hid (by rw [← hC.out, cut_take_pos hk (by rw [ex.out]; exact hx), List.length_take]; omega)
        clear hx
        go_wp2
        go_ret
        exact ⟨by rw [e.out]; rfl, rfl⟩

set_option maxHeartbeats 4000000 in
set_option maxRecDepth 100000 in
theorem rtrimN (w : World) :
    Calls Tryd.prog 59 #[.slice none 0 0] w fun e w' => e = .returned (.slice none 0 0) ∧ w = w' := by
  go_enter Tryd.func59, Tryd.ntmps59
  go_wp2
  go_loop [0] (fun v => v = .slice none 0 0) (fun _ => 0)
  case atStart => rfl
  case round =>
    subst hrel
    go_wp2
    go_ret
    exact ⟨rfl, rfl⟩

/-- trim, nil or not. -/
theorem rtrim {B : Nat} {w : World} {v : Value} {xs : List Nat} (h : Row B w 3 .i64 v xs) (hb : xs.length ≤ 1000000000) :
    ∃ v', Row B w 3 .i64 v' (cut xs) ∧ ∀ w1, Tch [] w w1 → Calls Tryd.prog 59 #[v] w1 fun e w' => e = .returned v' ∧ w1 = w' := by
  rcases h with ⟨rfl, rfl⟩ | ⟨g, cap, rfl, hg, ho⟩
  · exact ⟨_, Row.nil, fun w1 _ => rtrimN w1⟩
  · obtain ⟨rest, W⟩ := ho.win
    refine ⟨.slice (some ⟨g, 0, none⟩) (cut xs).length cap, .inr ⟨g, cap, rfl, hg, ?_⟩, fun w1 t => rtrimW g 0 cap [] rest xs w1 hb ho.le (W.kept t (by simp))⟩
    have := ho.take (cut xs).length
    rwa [← cut_take] at this

end Go.Proofs.YtmpfgkpimjiecaaDoor
namespace Go.Proofs.YtmpfgkpimjiecaaDoor
open Go.RowKit Dg
theorem info_int : (Tryd.prog.info? 3).map (fun i => (i.zero, i.size, i.bytes)) = some (some (.int .i64 0), 1, 8) := by kernel_rfl

end Go.Proofs.YtmpfgkpimjiecaaDoor
namespace Go.Proofs.YtmpfgkpimjiecaaDoor
open Go.RowKit Dg
theorem info_u8' : (Tryd.prog.info? 5).map (fun i => (i.zero, i.size, i.bytes)) = some (some (.int .u8 0), 1, 1) := by kernel_rfl

theorem bytes_len (xs : List Nat) (m : Nat) (hk : Ok 65536 xs) (hb : xs.length ≤ 1000000) : (digs 256 (dg 65536 (xs.drop m))).length ≤ 3000000 := by
  have h1 := dg_lt (hk.drop m)
  have h2 : (digs 256 (dg 65536 (xs.drop m))).length ≤ 2 * (xs.drop m).length := by
    refine digs_length_le (by decide) ?_
    rw [Nat.pow_mul]; exact h1
  rw [List.length_drop] at h2
  omega

set_option maxHeartbeats 4000000 in
set_option maxRecDepth 100000 in
theorem rwideW (neg : Bool) (g cap : Nat) (xs : List Nat) (w : World) (hO : Own w 3 .i64 g cap xs) (hb : xs.length ≤ 1000000) (hk : Ok 65536 xs) (ht : Trim xs) (h0 : xs ≠ []) :
    Calls Tryd.prog 37 #[.bool neg, .slice (some ⟨g, 0, none⟩) xs.length cap] w fun e w' => e = .returned (.agg #[.bool neg, .string (mo (dg 65536 xs))]) ∧ Tch [] w w' := by
  obtain ⟨i0, hi, hz0, hz1, hz2⟩ := info_parts info_u8'
  obtain ⟨rest, W⟩ := hO.win
  have hcut : cut xs = xs := cut_of_trim (b := 65536) (by decide) hk ht
  have c1 := fun w1 (t : Tch [] w w1) => rtrimW g 0 cap [] rest xs w1 (by omega) hO.le (W.kept t (by simp))
  rw [hcut] at c1
  have C1 := Lib.hid c1
  have hl0 : 0 < xs.length := List.length_pos_iff.2 h0
  have hne : ((xs.length : Int) == 0) = false := by simp; omega
  clear c1 hcut
  go_enter Tryd.func37, Tryd.ntmps37
  go_wp2_with fail
  refine (C1.out _ ((Tch.refl [] w).alloc _)).mono ?_
  rintro e w1 ⟨rfl, rfl⟩
  obtain ⟨w0, hw0⟩ : ∃ w0, w0 = w.alloc (.cells #[.bool false, .string ⟨#[]⟩] 26) := ⟨_, rfl⟩
  have HW0 := Lib.hid hw0
  have hO0 : Own w0 3 .i64 g cap xs := by rw [hw0]; exact hO.kept ((Tch.refl [] w).alloc _) (by simp)
  have HO := Lib.hid hO0
  have HK := Lib.hid hk
  have HT := Lib.hid ht
  have HN := Lib.hid h0
  have hcl := hO.le
  clear hO hO0 hk ht h0 W hw0
  go_wp2
  rw [← HW0.out]
  go_loopw [5, 6] (fun u i wr => ∃ (m : Nat) (bs : List Nat) (I : Int) (v : Value), v = u ∧ Row w0.heap.size wr 5 .u8 v bs ∧ i = .int .i64 I ∧ Hid (I = (m : Int) - 1) ∧ m ≤ xs.length ∧ Hid (bs = (digs 256 (dg 65536 (xs.drop m))).reverse) ∧ Tch [] w0 wr) (fun _ i _ => (intOf i + 1).toNat)
  case atStart => exact ⟨xs.length, [], _, _, rfl, Row.nil, rfl, Lib.hid rfl, Nat.le_refl _, Lib.hid (by rw [List.drop_length, dg_nil, digs_zero]; rfl), Tch.refl [] w0⟩
  case round =>
    obtain ⟨m, bs, I, v, rfl, hR, rfl, hI, hm, hB, hTr⟩ := hrel
    have HR := Lib.hid hR
    have HTr := Lib.hid hTr
    clear hR hTr
    cases m with
    | zero =>
      obtain rfl : I = -1 := by have := hI.out; omega
      rw [List.drop_zero] at hB
      have hd0 : dg 65536 xs ≠ 0 := dg_ne_zero (by decide) HT.out HN.out
      rcases HR.out with ⟨_, hnil⟩ | ⟨g2, cap2, rfl, hg2, hO2⟩
      · rw [hB.out] at hnil
        have h7 : digs 256 (dg 65536 xs) = [] := by simpa using hnil
        exact absurd ((digs_eq_nil (b := 256) (by decide)).1 h7) hd0
      · obtain ⟨r2, W2⟩ := hO2.win
        have hcv := conv_pre W2 bs.length cap2 (Nat.le_refl _)
        have hmo : strOfNums ((bs.take bs.length).map fun x : Nat => (x : Int)) = mo (dg 65536 xs) := by
          rw [List.take_of_length_le (Nat.le_refl _), hB.out, ← sb_mo, str_sb]
        rw [hmo] at hcv
        obtain ⟨t, ht⟩ : ∃ t, mo (dg 65536 xs) = t := ⟨_, rfl⟩
        rw [ht] at hcv
        have HM := Lib.hid ht
        have hbx := (HTr.out.block w.heap.size (by rw [HW0.out]; simp) (by simp)).trans (show w0.heap[w.heap.size]? = some (.cells #[.bool false, .string ⟨#[]⟩] 26 (0, 0)) from by rw [HW0.out]; exact Below.heap_alloc_new' w _)
        have b0 : wr.cell? ⟨w.heap.size, 0, none⟩ = some (.bool false) := by rw [cell_of_row _ _ _ _ _ _ hbx]; rfl
        have b1 : wr.cell? ⟨w.heap.size, 1, none⟩ = some (.string ⟨#[]⟩) := by rw [cell_of_row _ _ _ _ _ _ hbx]; rfl
        have f0 := frozen_of_row wr w.heap.size 0 _ _ hbx
        have f1 := frozen_of_row wr w.heap.size 1 _ _ hbx
        have HTW : Hid (Tch [] w wr) := Lib.hid (((show Tch [] w w0 from by rw [HW0.out]; exact (Tch.refl [] w).alloc _)).trans HTr.out (by simp))
        clear hmo ht W2 hO2 hbx hd0 hB hI HR
        go_wp2
        refine bodyPost_ret (v := .agg #[.bool neg, .string t]) (by simp [results, Tryd.results37, go_sem, b0, b1]) rfl ⟨by rw [HM.out], ?_⟩
        exact (HTW.out.setCell (.inr (Nat.le_refl _)) _).setCell (.inr (Nat.le_refl _)) _
    | succ j =>
      obtain rfl : I = (j : Int) := by have := hI.out; omega
      have hj : j < xs.length := by omega
      obtain ⟨rest2, W2⟩ := HO.out.win
      obtain ⟨x, ex, cx⟩ := (W2.kept HTr.out (by simp)).read hj
      rw [Nat.zero_add] at cx
      have hstep := bytes_step hj HK.out HT.out
      rw [ex.out] at hstep
      have hx : x < 65536 := by rw [← ex.out]; exact HK.out.getD (by decide) j
      clear W2
      by_cases h2 : j + 1 < xs.length
      · rw [if_pos (.inl h2)] at hstep
        have hst := Lib.hid hstep
        have h3 : (j : Int) < (xs.length : Int) - 1 := by omega
        clear hstep
        have hbl : Hid (bs.length ≤ 3000000) := Lib.hid (by rw [hB.out, List.length_reverse]; exact bytes_len xs (j + 1) HK.out hb)
        have HB2 : Hid (bs ++ [x / 256, x % 256] = (digs 256 (dg 65536 (xs.drop j))).reverse) := Lib.hid (by rw [hst.out, hB.out]; simp)
        clear hst hB hI
        go_wp2_with (at_builtin; refine wpList_app_row _ rfl _ _ 85 rfl 5 .u8 i0 Tryd.underlying85 hi hz0 hz1 (by omega) w0 v bs (HTr.out.alloc _) (HR.out.kept ((Tch.refl [] wr).alloc _)) rfl ⟨wr.heap.size, 0, none⟩ 1 (x / 256) rfl (by simp) (by have := hbl.out; omega) ?_)
        intro v2 w3 hR2 hT2
        have HR2 := Lib.hid hR2
        have HT2 := Lib.hid hT2
        have cx3 : w3.cell? ⟨g, j, none⟩ = some (.int .i64 (x : Int)) := by
          obtain ⟨r3, W3⟩ := HO.out.win
          have h4 := (W3.kept hT2 (by simp)).cell hj
          rwa [Nat.zero_add, ex.out] at h4
        have hbl2 : Hid ((bs ++ [x / 256]).length ≤ 3000001) := Lib.hid (by rw [List.length_append]; have := hbl.out; simp; omega)
        clear hR2 hT2 cx
        go_wp2_with (at_builtin; refine wpList_app_row _ rfl _ _ 85 rfl 5 .u8 i0 Tryd.underlying85 hi hz0 hz1 (by omega) w0 v2 (bs ++ [x / 256]) (HT2.out.alloc _) (HR2.out.kept ((Tch.refl [] w3).alloc _)) rfl ⟨w3.heap.size, 0, none⟩ 1 (x % 256) rfl (by simp) (by have := hbl2.out; omega) ?_)
        intro v4 w4 hR4 hT4
        have HR4 := Lib.hid hR4
        have HT4 := Lib.hid hT4
        clear hR4 hT4 cx3
        go_wp2
        go_roundw
        case rel => exact ⟨j, bs ++ [x / 256, x % 256], (j : Int) - 1, v4, rfl, HR4.out, by first | rfl | go_num, Lib.hid rfl, by omega, HB2, HT4.out⟩
        case measure => simp [intOf]
      · by_cases h5 : 256 ≤ x
        · rw [if_pos (.inr h5)] at hstep
          have hst := Lib.hid hstep
          have h3 : ¬ (j : Int) < (xs.length : Int) - 1 := by omega
          have h6 : (256 : Int) ≤ (x : Int) := by omega
          clear hstep
          have hbl : Hid (bs.length ≤ 3000000) := Lib.hid (by rw [hB.out, List.length_reverse]; exact bytes_len xs (j + 1) HK.out hb)
          have HB2 : Hid (bs ++ [x / 256, x % 256] = (digs 256 (dg 65536 (xs.drop j))).reverse) := Lib.hid (by rw [hst.out, hB.out]; simp)
          clear hst hB hI
          go_wp2_with (at_builtin; refine wpList_app_row _ rfl _ _ 85 rfl 5 .u8 i0 Tryd.underlying85 hi hz0 hz1 (by omega) w0 v bs (HTr.out.alloc _) (HR.out.kept ((Tch.refl [] wr).alloc _)) rfl ⟨wr.heap.size, 0, none⟩ 1 (x / 256) rfl (by simp) (by have := hbl.out; omega) ?_)
          intro v2 w3 hR2 hT2
          have HR2 := Lib.hid hR2
          have HT2 := Lib.hid hT2
          have cx3 : w3.cell? ⟨g, j, none⟩ = some (.int .i64 (x : Int)) := by
            obtain ⟨r3, W3⟩ := HO.out.win
            have h4 := (W3.kept hT2 (by simp)).cell hj
            rwa [Nat.zero_add, ex.out] at h4
          have hbl2 : Hid ((bs ++ [x / 256]).length ≤ 3000001) := Lib.hid (by rw [List.length_append]; have := hbl.out; simp; omega)
          clear hR2 hT2 cx
          go_wp2_with (at_builtin; refine wpList_app_row _ rfl _ _ 85 rfl 5 .u8 i0 Tryd.underlying85 hi hz0 hz1 (by omega) w0 v2 (bs ++ [x / 256]) (HT2.out.alloc _) (HR2.out.kept ((Tch.refl [] w3).alloc _)) rfl ⟨w3.heap.size, 0, none⟩ 1 (x % 256) rfl (by simp) (by have := hbl2.out; omega) ?_)
          intro v4 w4 hR4 hT4
          have HR4 := Lib.hid hR4
          have HT4 := Lib.hid hT4
          clear hR4 hT4 cx3
          go_wp2
          go_roundw
          case rel => exact ⟨j, bs ++ [x / 256, x % 256], (j : Int) - 1, v4, rfl, HR4.out, by first | rfl | go_num, Lib.hid rfl, by omega, HB2, HT4.out⟩
          case measure => simp [intOf]
        · rw [if_neg (by omega)] at hstep
          have hst := Lib.hid hstep
          have h3 : ¬ (j : Int) < (xs.length : Int) - 1 := by omega
          have h6 : ¬ (256 : Int) ≤ (x : Int) := by omega
          clear hstep
          have hbl : Hid (bs.length ≤ 3000000) := Lib.hid (by rw [hB.out, List.length_reverse]; exact bytes_len xs (j + 1) HK.out hb)
          have hxm : x % 256 = x := by omega
          have HB2 : Hid (bs ++ [x % 256] = (digs 256 (dg 65536 (xs.drop j))).reverse) := Lib.hid (by rw [hst.out, hB.out, hxm]; simp)
          clear hst hB hI hxm
          go_wp2_with (at_builtin; refine wpList_app_row _ rfl _ _ 85 rfl 5 .u8 i0 Tryd.underlying85 hi hz0 hz1 (by omega) w0 v bs (HTr.out.alloc _) (HR.out.kept ((Tch.refl [] wr).alloc _)) rfl ⟨wr.heap.size, 0, none⟩ 1 (x % 256) rfl (by simp) (by have := hbl.out; omega) ?_)
          intro v4 w4 hR4 hT4
          have HR4 := Lib.hid hR4
          have HT4 := Lib.hid hT4
          clear hR4 hT4 cx
          go_wp2
          go_roundw
          case rel => exact ⟨j, bs ++ [x % 256], (j : Int) - 1, v4, rfl, HR4.out, by first | rfl | go_num, Lib.hid rfl, by omega, HB2, HT4.out⟩
          case measure => simp [intOf]

end Go.Proofs.YtmpfgkpimjiecaaDoor
namespace Go.Proofs.YtmpfgkpimjiecaaDoor
open Go.RowKit Dg
set_option maxHeartbeats 4000000 in
set_option maxRecDepth 100000 in
theorem rwideZ {B : Nat} (neg : Bool) (v : Value) (w : World) (h : Row B w 3 .i64 v []) :
    Calls Tryd.prog 37 #[.bool neg, v] w fun e w' => e = .returned (.agg #[.bool false, .string ⟨#[]⟩]) ∧ Tch [] w w' := by
  obtain ⟨v', hV, hC⟩ := rtrim h (by simp)
  obtain ⟨A', c', rfl⟩ : ∃ A' c', v' = .slice A' 0 c' := by
    rcases hV with ⟨h1, _⟩ | ⟨g, cap, h1, _⟩
    · exact ⟨_, _, h1⟩
    · exact ⟨_, _, h1⟩
  have HC := Lib.hid hC
  clear hC hV h
  go_enter Tryd.func37, Tryd.ntmps37
  go_wp2_with fail
  refine (HC.out _ ((Tch.refl [] w).alloc _)).mono ?_
  rintro e w1 ⟨rfl, rfl⟩
  go_wp2
  refine bodyPost_ret (v := .agg #[.bool false, .string ⟨#[]⟩]) (by simp [results, Tryd.results37, go_sem]) rfl ⟨rfl, ?_⟩
  exact (Tch.refl [] w).alloc _

theorem rwide {B : Nat} (neg : Bool) (n : Nat) (v : Value) (w : World) (h : Row B w 3 .i64 v (digs 65536 n)) (hn : (digs 65536 n).length ≤ 1000000) :
    Calls Tryd.prog 37 #[.bool neg, v] w fun e w' => e = .returned (wv neg n) ∧ Tch [] w w' := by
  by_cases h0 : n = 0
  · subst h0
    rw [digs_zero] at h
    have h1 := rwideZ neg v w h
    rwa [show wv neg 0 = .agg #[.bool false, .string ⟨#[]⟩] from by simp [wv]]
  · have hne : digs 65536 n ≠ [] := fun h2 => h0 ((digs_eq_nil (b := 65536) (by decide)).1 h2)
    rcases h with ⟨_, h1⟩ | ⟨g, cap, rfl, _, ho⟩
    · exact absurd h1 hne
    · have h1 := rwideW neg g cap (digs 65536 n) w ho hn (digs_ok (by decide) n) (digs_trim (by decide) n) hne
      rw [dg_digs (by decide)] at h1
      unfold wv
      rwa [if_neg h0]

end Go.Proofs.YtmpfgkpimjiecaaDoor
