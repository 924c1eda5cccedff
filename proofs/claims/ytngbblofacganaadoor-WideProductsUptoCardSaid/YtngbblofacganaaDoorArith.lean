/- Plain mathematics: the steps of the arithmetic on digits: carries, borrows, Knuth's estimate, Newton's root. No program is imported. -/
import Derived.Test.YtngbblofacganaaDoorMath
namespace Go.Proofs.YtngbblofacganaaDoor
namespace Dg

theorem set_app {ws xs : List Nat} {i z : Nat} (hw : ws.length = i) (hi : i < xs.length) : (ws ++ xs.drop i).set i z = (ws ++ [z]) ++ xs.drop (i + 1) := by
  subst hw
  rw [List.set_append_right _ _ (Nat.le_refl _), Nat.sub_self, drop_eq_getD_cons xs _ hi, List.set_cons_zero]
  simp

theorem getD_app {ws xs : List Nat} {i : Nat} (hw : ws.length = i) (hi : i < xs.length) : (ws ++ xs.drop i).getD i 0 = xs.getD i 0 := by
  subst hw
  rw [List.getD, List.getElem?_append_right (Nat.le_refl _), Nat.sub_self, drop_eq_getD_cons xs _ hi]
  rfl

theorem len_app {ws xs : List Nat} {i : Nat} (hw : ws.length = i) (hi : i ≤ xs.length) : (ws ++ xs.drop i).length = xs.length := by
  rw [List.length_append, List.length_drop]; omega

theorem getD_ge {ys : List Nat} {i : Nat} (h : ys.length ≤ i) : ys.getD i 0 = 0 := by simp [List.getD, List.getElem?_eq_none h]

theorem take_getD_succ (b : Nat) (ys : List Nat) (i : Nat) : dg b (ys.take (i + 1)) = dg b (ys.take i) + b ^ i * ys.getD i 0 := by
  by_cases h : i < ys.length
  · exact dg_take_succ b ys i h
  · rw [List.take_of_length_le (by omega), List.take_of_length_le (by omega)]
    have : ys.getD i 0 = 0 := by simp [List.getD, List.getElem?_eq_none (show ys.length ≤ i by omega)]
    rw [this]; simp

/-- One step of an addition. -/
theorem add_step {b i c s t : Nat} {ws xs ys : List Nat} (hw : ws.length = i) (hi : i < xs.length) (h : dg b ws + b ^ i * c = dg b (xs.take i) + dg b (ys.take i))
    (hst : s + b * t = xs.getD i 0 + ys.getD i 0 + c) : dg b (ws ++ [s]) + b ^ (i + 1) * t = dg b (xs.take (i + 1)) + dg b (ys.take (i + 1)) := by
  rw [dg_snoc, hw, dg_take_succ b xs i hi, take_getD_succ, Nat.pow_succ]
  have e := congrArg (b ^ i * ·) hst
  simp only [Nat.mul_add, ← Nat.mul_assoc] at e
  omega

theorem add_end {b i : Nat} {ws xs ys : List Nat} (hi : i ≤ xs.length) (hw : ws.length = i) (hy : ys.length ≤ i)
    (h : dg b ws + b ^ i * 0 = dg b (xs.take i) + dg b (ys.take i)) : dg b (ws ++ xs.drop i) = dg b xs + dg b ys := by
  rw [dg_append, hw, dg_split b xs i hi]
  rw [List.take_of_length_le hy] at h
  omega

/-- One step of a subtraction. -/
theorem sub_step {b i c s t : Nat} {ws xs ys : List Nat} (hw : ws.length = i) (hi : i < xs.length) (h : dg b ws + dg b (ys.take i) = dg b (xs.take i) + b ^ i * c)
    (hst : s + ys.getD i 0 + c = xs.getD i 0 + b * t) : dg b (ws ++ [s]) + dg b (ys.take (i + 1)) = dg b (xs.take (i + 1)) + b ^ (i + 1) * t := by
  rw [dg_snoc, hw, dg_take_succ b xs i hi, take_getD_succ, Nat.pow_succ]
  have e := congrArg (b ^ i * ·) hst
  simp only [Nat.mul_add, ← Nat.mul_assoc] at e
  omega

theorem sub_end {b i : Nat} {ws xs ys : List Nat} (hi : i ≤ xs.length) (hw : ws.length = i) (hy : ys.length ≤ i)
    (h : dg b ws + dg b (ys.take i) = dg b (xs.take i) + b ^ i * 0) : dg b (ws ++ xs.drop i) + dg b ys = dg b xs := by
  rw [dg_append, hw, dg_split b xs i hi]
  rw [List.take_of_length_le hy] at h
  omega

/-- One step of 'sum += x f'. -/
theorem mul_step {b i c s t f : Nat} {ws ss xs : List Nat} (hw : ws.length = i) (hi : i < ss.length) (h : dg b ws + b ^ i * c = dg b (ss.take i) + f * dg b (xs.take i))
    (hst : s + b * t = ss.getD i 0 + f * xs.getD i 0 + c) : dg b (ws ++ [s]) + b ^ (i + 1) * t = dg b (ss.take (i + 1)) + f * dg b (xs.take (i + 1)) := by
  rw [dg_snoc, hw, dg_take_succ b ss i hi, take_getD_succ, Nat.pow_succ]
  have e := congrArg (b ^ i * ·) hst
  have e2 : b ^ i * (f * xs.getD i 0) = f * (b ^ i * xs.getD i 0) := by rw [← Nat.mul_assoc, Nat.mul_comm _ f, Nat.mul_assoc]
  simp only [Nat.mul_add, e2, ← Nat.mul_assoc] at e ⊢
  omega

/-- One step of 'x -= y f', the carry and the borrow together. -/
theorem submul_step {b i c s t f : Nat} {ws xs ys : List Nat} (hw : ws.length = i) (hi : i < xs.length) (h : dg b ws + f * dg b (ys.take i) = dg b (xs.take i) + b ^ i * c)
    (hst : s + f * ys.getD i 0 + c = xs.getD i 0 + b * t) : dg b (ws ++ [s]) + f * dg b (ys.take (i + 1)) = dg b (xs.take (i + 1)) + b ^ (i + 1) * t := by
  rw [dg_snoc, hw, dg_take_succ b xs i hi, take_getD_succ, Nat.pow_succ]
  have e := congrArg (b ^ i * ·) hst
  have e2 : b ^ i * (f * ys.getD i 0) = f * (b ^ i * ys.getD i 0) := by rw [← Nat.mul_assoc, Nat.mul_comm _ f, Nat.mul_assoc]
  simp only [Nat.mul_add, e2, ← Nat.mul_assoc] at e ⊢
  omega

/-- The quotient of w and y is not above Knuth's estimate out of the highest digits. -/
theorem knuth_ge {p b w y top v q g : Nat} (hw : w < (top + 1) * p) (hy : v * p ≤ y) (hq : q * y ≤ w) (hqb : q < b) (hv : 0 < v)
    (hg : g = b - 1 ∨ g = top / v) : q ≤ g := by
  rcases hg with rfl | rfl
  · omega
  · have h1 : q * (v * p) ≤ w := Nat.le_trans (Nat.mul_le_mul_left q hy) hq
    have h2 : (q * v) * p < (top + 1) * p := by rw [Nat.mul_assoc]; exact Nat.lt_of_le_of_lt h1 hw
    have h3 : q * v < top + 1 := Nat.lt_of_mul_lt_mul_right h2
    exact (Nat.le_div_iff_mul_le hv).2 (by omega)

/-- .. and not far above it. -/
theorem knuth_le {p b w y top v g : Nat} (hw : top * p ≤ w) (hy : y ≤ v * p + p) (hgv : g * v ≤ top) (hgb : g ≤ b) : g * y ≤ w + b * p := by
  have h1 : g * y ≤ g * (v * p + p) := Nat.mul_le_mul_left g hy
  rw [Nat.mul_add, ← Nat.mul_assoc] at h1
  have h2 : g * v * p ≤ top * p := Nat.mul_le_mul_right p hgv
  have h3 : g * p ≤ b * p := Nat.mul_le_mul_right p hgb
  omega

/-- Newton's step never falls below the root. -/
theorem newton_ge {x r s : Nat} (hr : 0 < r) (hs : s * s ≤ x) : s ≤ (x / r + r) / 2 := by
  have h : 2 * s ≤ x / r + r := by
    by_cases hc : 2 * s ≤ r
    · exact Nat.le_trans hc (Nat.le_add_left _ _)
    · have h1 : (2 * s - r) ≤ x / r := by
        rw [Nat.le_div_iff_mul_le hr]
        refine Nat.le_trans ?_ hs
        obtain ⟨d, hd⟩ : ∃ d, 2 * s = r + d := ⟨2 * s - r, by omega⟩
        have e : 2 * s - r = d := by omega
        rw [e]
        have h4 : 4 * (d * r) ≤ (r + d) * (r + d) := by
          rcases Nat.le_total d r with h | h
          · obtain ⟨k, rfl⟩ := Nat.le.dest h; grind
          · obtain ⟨k, rfl⟩ := Nat.le.dest h; grind
        rw [← hd] at h4
        have h5 : 2 * s * (2 * s) = 4 * (s * s) := by grind
        omega
      omega
  omega

theorem newton_end {x r s : Nat} (hr : 0 < r) (hsx : x < (s + 1) * (s + 1)) (hrs : s ≤ r) (h : r ≤ (x / r + r) / 2) : r = s := by
  have h1 : r ≤ x / r := by omega
  have h2 : r * r ≤ x := (Nat.le_div_iff_mul_le hr).1 h1
  have h3 : r * r < (s + 1) * (s + 1) := Nat.lt_of_le_of_lt h2 hsx
  have h4 : r < s + 1 := by
    rcases Nat.lt_or_ge r (s + 1) with h | h
    · exact h
    · have := Nat.mul_le_mul h h; omega
  omega

/-- After k steps of 'x += y': what has been written, and the carry. -/
structure AddInv (b : Nat) (xs ys : List Nat) (k c : Nat) (ws : List Nat) : Prop where
  len : ws.length = k
  ok : Ok b ws
  c1 : c ≤ 1
  val : dg b ws + b ^ k * c = dg b (xs.take k) + dg b (ys.take k)

theorem AddInv.zero (b : Nat) (xs ys : List Nat) : AddInv b xs ys 0 0 [] := ⟨rfl, Ok.nil b, by omega, by simp [dg]⟩

theorem AddInv.step {b k c s t : Nat} {xs ys ws : List Nat} (h : AddInv b xs ys k c ws) (hk : k < xs.length) (hst : s + b * t = xs.getD k 0 + ys.getD k 0 + c) (hs : s < b) (ht : t ≤ 1) :
    AddInv b xs ys (k + 1) t (ws ++ [s]) :=
  ⟨by simp [h.len], h.ok.snoc hs, ht, add_step h.len hk h.val hst⟩

/-- What 'x += y' leaves: the digits of the sum, and the carry. -/
structure AddOut (b : Nat) (xs ys : List Nat) (c : Nat) (zs : List Nat) : Prop where
  len : zs.length = xs.length
  ok : Ok b zs
  c1 : c ≤ 1
  val : dg b zs + b ^ xs.length * c = dg b xs + dg b ys

theorem AddInv.out {b k c : Nat} {xs ys ws : List Nat} (h : AddInv b xs ys k c ws) (hx : Ok b xs) (hk : k ≤ xs.length) (hy : ys.length ≤ k) (he : k = xs.length ∨ c = 0) : AddOut b xs ys c (ws ++ xs.drop k) := by
  refine ⟨len_app h.len hk, h.ok.append (hx.drop k), h.c1, ?_⟩
  rcases he with rfl | rfl
  · have hv := h.val
    rw [List.take_of_length_le (Nat.le_refl _), List.take_of_length_le hy] at hv
    rw [List.drop_of_length_le (Nat.le_refl _), List.append_nil]
    exact hv
  · have := add_end hk h.len hy h.val
    omega

/-- After k steps of 'x -= y'. -/
structure SubInv (b : Nat) (xs ys : List Nat) (k c : Nat) (ws : List Nat) : Prop where
  len : ws.length = k
  ok : Ok b ws
  c1 : c ≤ 1
  val : dg b ws + dg b (ys.take k) = dg b (xs.take k) + b ^ k * c

theorem SubInv.zero (b : Nat) (xs ys : List Nat) : SubInv b xs ys 0 0 [] := ⟨rfl, Ok.nil b, by omega, by simp [dg]⟩

theorem SubInv.step {b k c s t : Nat} {xs ys ws : List Nat} (h : SubInv b xs ys k c ws) (hk : k < xs.length) (hst : s + ys.getD k 0 + c = xs.getD k 0 + b * t) (hs : s < b) (ht : t ≤ 1) :
    SubInv b xs ys (k + 1) t (ws ++ [s]) :=
  ⟨by simp [h.len], h.ok.snoc hs, ht, sub_step h.len hk h.val hst⟩

/-- What 'x -= y' leaves, where y is not greater. -/
structure SubOut (b : Nat) (xs ys zs : List Nat) : Prop where
  len : zs.length = xs.length
  ok : Ok b zs
  val : dg b zs + dg b ys = dg b xs

theorem SubInv.out {b k c : Nat} {xs ys ws : List Nat} (h : SubInv b xs ys k c ws) (hx : Ok b xs) (hk : k ≤ xs.length) (hy : ys.length ≤ k) (hle : dg b ys ≤ dg b xs) (he : k = xs.length ∨ c = 0) : SubOut b xs ys (ws ++ xs.drop k) := by
  refine ⟨len_app h.len hk, h.ok.append (hx.drop k), ?_⟩
  rcases he with rfl | rfl
  · have hv := h.val
    have hw := dg_lt h.ok
    rw [h.len] at hw
    rw [List.take_of_length_le (Nat.le_refl _), List.take_of_length_le hy] at hv
    rw [List.drop_of_length_le (Nat.le_refl _), List.append_nil]
    have hc : c = 0 ∨ c = 1 := by have := h.c1; omega
    rcases hc with rfl | rfl
    · omega
    · omega
  · exact sub_end hk h.len hy h.val

/-- After k steps of 'sum += x f'. -/
structure MulInv (b : Nat) (ss xs : List Nat) (f k c : Nat) (ws : List Nat) : Prop where
  len : ws.length = k
  ok : Ok b ws
  cb : c < b
  val : dg b ws + b ^ k * c = dg b (ss.take k) + f * dg b (xs.take k)

theorem MulInv.zero {b : Nat} (hb : 0 < b) (ss xs : List Nat) (f : Nat) : MulInv b ss xs f 0 0 [] := ⟨rfl, Ok.nil b, hb, by simp [dg]⟩

theorem MulInv.step {b k c s t f : Nat} {ss xs ws : List Nat} (h : MulInv b ss xs f k c ws) (hk : k < ss.length) (hst : s + b * t = ss.getD k 0 + f * xs.getD k 0 + c) (hs : s < b) (ht : t < b) :
    MulInv b ss xs f (k + 1) t (ws ++ [s]) :=
  ⟨by simp [h.len], h.ok.snoc hs, ht, mul_step h.len hk h.val hst⟩

structure MulOut (b : Nat) (ss xs : List Nat) (f c : Nat) (zs : List Nat) : Prop where
  len : zs.length = ss.length
  ok : Ok b zs
  cb : c < b
  val : dg b zs + b ^ ss.length * c = dg b ss + f * dg b xs

theorem MulInv.out {b c f : Nat} {ss xs ws : List Nat} (h : MulInv b ss xs f ss.length c ws) (hl : xs.length = ss.length) : MulOut b ss xs f c ws := by
  refine ⟨h.len, h.ok, h.cb, ?_⟩
  have hv := h.val
  rwa [List.take_of_length_le (Nat.le_refl _), List.take_of_length_le (by omega)] at hv

/-- After k steps of 'x -= y f', the carry c and the borrow d. -/
structure SmInv (b : Nat) (xs ys : List Nat) (f k c d : Nat) (ws : List Nat) : Prop where
  len : ws.length = k
  ok : Ok b ws
  cb : c < b
  d1 : d ≤ 1
  val : dg b ws + f * dg b (ys.take k) = dg b (xs.take k) + b ^ k * (c + d)

theorem SmInv.zero {b : Nat} (hb : 0 < b) (xs ys : List Nat) (f : Nat) : SmInv b xs ys f 0 0 0 [] := ⟨rfl, Ok.nil b, hb, by omega, by simp [dg]⟩

theorem SmInv.step {b k c d s t u f : Nat} {xs ys ws : List Nat} (h : SmInv b xs ys f k c d ws) (hk : k < xs.length) (hst : s + f * ys.getD k 0 + (c + d) = xs.getD k 0 + b * (t + u)) (hs : s < b) (ht : t < b) (hu : u ≤ 1) :
    SmInv b xs ys f (k + 1) t u (ws ++ [s]) :=
  ⟨by simp [h.len], h.ok.snoc hs, ht, hu, submul_step h.len hk h.val hst⟩

/-- What 'x -= y f' leaves, and the borrow. -/
structure SmOut (b : Nat) (xs ys : List Nat) (f d : Nat) (zs : List Nat) : Prop where
  len : zs.length = xs.length
  ok : Ok b zs
  d1 : d ≤ 1
  val : dg b zs + f * dg b ys = dg b xs + b ^ xs.length * d

theorem SmInv.out {b c d s u f : Nat} {xs ys ws : List Nat} (h : SmInv b xs ys f ys.length c d ws) (hl : xs.length = ys.length + 1) (hst : s + c + d = xs.getD ys.length 0 + b * u) (hs : s < b) (hu : u ≤ 1) : SmOut b xs ys f u (ws ++ [s]) := by
  refine ⟨by simp [h.len, hl], h.ok.snoc hs, hu, ?_⟩
  have hv := submul_step (s := s) (t := u) h.len (by omega) h.val (by rw [getD_ge (Nat.le_refl _)]; omega)
  rw [hl]
  rwa [List.take_of_length_le (show xs.length ≤ ys.length + 1 by omega), List.take_of_length_le (show ys.length ≤ ys.length + 1 by omega)] at hv

/-- After k steps of 'x *= f'. -/
structure ShInv (b : Nat) (xs : List Nat) (f k c : Nat) (ws : List Nat) : Prop where
  len : ws.length = k
  ok : Ok b ws
  cb : c < f
  val : dg b ws + b ^ k * c = f * dg b (xs.take k)

theorem ShInv.zero {b : Nat} (xs : List Nat) {f : Nat} (hf : 0 < f) : ShInv b xs f 0 0 [] := ⟨rfl, Ok.nil b, hf, by simp [dg]⟩

theorem ShInv.step {b k c s t f : Nat} {xs ws : List Nat} (h : ShInv b xs f k c ws) (hk : k < xs.length) (hst : s + b * t = xs.getD k 0 * f + c) (hs : s < b) (ht : t < f) :
    ShInv b xs f (k + 1) t (ws ++ [s]) := by
  refine ⟨by simp [h.len], h.ok.snoc hs, ht, ?_⟩
  have hz : ∀ j, dg b ((List.replicate xs.length 0).take j) = 0 := fun j => by rw [List.take_replicate]; exact dg_zeros b _
  have := mul_step (b := b) (i := k) (c := c) (s := s) (t := t) (f := f) (ws := ws) (ss := List.replicate xs.length 0) (xs := xs) h.len (by simpa using hk) (by rw [hz, Nat.zero_add]; exact h.val)
    (by rw [hst, Nat.mul_comm f]; simp [List.getD, hk])
  rwa [hz, Nat.zero_add] at this

structure ShOut (b : Nat) (xs : List Nat) (f c : Nat) (zs : List Nat) : Prop where
  len : zs.length = xs.length
  ok : Ok b zs
  cb : c < f
  val : dg b zs + b ^ xs.length * c = f * dg b xs

theorem ShInv.out {b c f : Nat} {xs ws : List Nat} (h : ShInv b xs f xs.length c ws) : ShOut b xs f c ws := by
  refine ⟨h.len, h.ok, h.cb, ?_⟩
  have hv := h.val
  rwa [List.take_of_length_le (Nat.le_refl _)] at hv

/-- 'x /= f', from the highest digit down: the digits from m on are done, r is the rest. -/
structure DnInv (b : Nat) (xs : List Nat) (f m r : Nat) (ws : List Nat) : Prop where
  len : m + ws.length = xs.length
  ok : Ok b ws
  rb : r < f
  val : f * dg b ws + r = dg b (xs.drop m)

theorem DnInv.zero {b : Nat} (xs : List Nat) {f : Nat} (hf : 0 < f) : DnInv b xs f xs.length 0 [] := ⟨by simp, Ok.nil b, hf, by simp [dg]⟩

theorem DnInv.step {b m r s t f : Nat} {xs ws : List Nat} (h : DnInv b xs f (m + 1) r ws) (hst : f * s + t = b * r + xs.getD m 0) (hs : s < b) (ht : t < f) :
    DnInv b xs f m t (s :: ws) := by
  have hl := h.len
  refine ⟨by simp; omega, Ok.cons hs h.ok, ht, ?_⟩
  rw [dg_cons, dg_drop b xs m (by omega), ← h.val, Nat.mul_add, Nat.mul_add, ← Nat.mul_assoc, ← Nat.mul_assoc, Nat.mul_comm f b]
  omega

structure DnOut (b : Nat) (xs : List Nat) (f r : Nat) (zs : List Nat) : Prop where
  len : zs.length = xs.length
  ok : Ok b zs
  rb : r < f
  val : f * dg b zs + r = dg b xs

theorem DnInv.out {b r f : Nat} {xs ws : List Nat} (h : DnInv b xs f 0 r ws) : DnOut b xs f r ws := by
  have hl := h.len
  have hv := h.val
  rw [List.drop_zero] at hv
  exact ⟨by omega, h.ok, h.rb, hv⟩

theorem DnOut.eqs {b r f : Nat} {xs zs : List Nat} (h : DnOut b xs f r zs) : dg b zs = dg b xs / f ∧ r = dg b xs % f := by
  have hv := h.val
  have hr := h.rb
  constructor
  · rw [← hv, Nat.mul_comm, Nat.add_comm, Nat.add_mul_div_right _ _ (by omega), Nat.div_eq_of_lt hr, Nat.zero_add]
  · rw [← hv, Nat.mul_comm, Nat.add_comm, Nat.add_mul_mod_self_right, Nat.mod_eq_of_lt hr]

theorem set_dn {xs ws : List Nat} {m z : Nat} (hm : m < xs.length) : (xs.take (m + 1) ++ ws).set m z = xs.take m ++ z :: ws := by
  rw [take_succ_getD xs m hm, List.append_assoc, List.set_append_right _ _ (by rw [List.length_take]; omega), List.length_take, show m - min m xs.length = 0 by omega]
  rfl

theorem getD_dn {xs ws : List Nat} {m : Nat} (hm : m < xs.length) : (xs.take (m + 1) ++ ws).getD m 0 = xs.getD m 0 := by
  rw [List.getD, List.getElem?_append_left (by rw [List.length_take]; omega), List.getElem?_take_of_lt (by omega)]; rfl

theorem cut_take_zero {xs : List Nat} {k : Nat} (hk : k < xs.length) (h : xs.getD k 0 = 0) : cut (xs.take (k + 1)) = cut (xs.take k) := by
  rw [take_succ_getD xs k hk, h, cut_snoc_zero]

theorem cut_take_pos {xs : List Nat} {k : Nat} (hk : k < xs.length) (h : xs.getD k 0 ≠ 0) : cut (xs.take (k + 1)) = xs.take (k + 1) := by
  rw [take_succ_getD xs k hk, cut_snoc_pos _ h]

/-- What is cut off are zeros. -/
theorem cut_take (xs : List Nat) : cut xs = xs.take (cut xs).length := by
  induction xs with
  | nil => rfl
  | cons x r ih =>
    simp only [cut]
    cases h : cut r with
    | nil =>
      simp only []
      by_cases hx : x = 0
      · rw [if_pos hx]; rfl
      · rw [if_neg hx]; rfl
    | cons y s =>
      simp only [List.length_cons, List.take_succ_cons]
      rw [h] at ih
      rw [List.length_cons] at ih
      rw [← ih]

theorem cut_length_le (xs : List Nat) : (cut xs).length ≤ xs.length := by
  have h := congrArg List.length (cut_take xs)
  rw [List.length_take] at h
  omega

end Dg
end Go.Proofs.YtngbblofacganaaDoor
