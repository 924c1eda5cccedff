/- Plain mathematics: numbers as lists of digits to a base, the least significant first. No program is imported. -/
namespace Go.Proofs.YtmpfgkpimjiecaaDoor
namespace Dg
/-- The value of digits to the base b. -/
def dg (b : Nat) : List Nat → Nat
  | [] => 0
  | x :: r => x + b * dg b r

theorem dg_nil (b : Nat) : dg b [] = 0 := rfl

theorem dg_cons (b x : Nat) (r : List Nat) : dg b (x :: r) = x + b * dg b r := rfl

theorem dg_append (b : Nat) (xs ys : List Nat) : dg b (xs ++ ys) = dg b xs + b ^ xs.length * dg b ys := by
  induction xs with
  | nil => simp [dg]
  | cons x r ih =>
    simp only [List.cons_append, dg, ih, List.length_cons, Nat.pow_succ, Nat.mul_add]
    rw [Nat.mul_comm (b ^ r.length) b, Nat.mul_assoc]
    omega

theorem dg_snoc (b : Nat) (xs : List Nat) (y : Nat) : dg b (xs ++ [y]) = dg b xs + b ^ xs.length * y := by
  rw [dg_append]; simp [dg]

/-- All digits are below the base. -/
def Ok (b : Nat) (xs : List Nat) : Prop := ∀ x ∈ xs, x < b

theorem Ok.nil (b : Nat) : Ok b [] := by intro x h; cases h

theorem Ok.tail {b x : Nat} {r : List Nat} (h : Ok b (x :: r)) : Ok b r := fun y hy => h y (List.mem_cons_of_mem _ hy)

theorem Ok.head {b x : Nat} {r : List Nat} (h : Ok b (x :: r)) : x < b := h x (List.mem_cons_self ..)

theorem Ok.cons {b x : Nat} {r : List Nat} (hx : x < b) (h : Ok b r) : Ok b (x :: r) := by
  intro y hy
  rcases List.mem_cons.1 hy with rfl | hy
  · exact hx
  · exact h y hy

theorem Ok.append {b : Nat} {xs ys : List Nat} (hx : Ok b xs) (hy : Ok b ys) : Ok b (xs ++ ys) := by
  intro y h
  rcases List.mem_append.1 h with h | h
  · exact hx y h
  · exact hy y h

theorem Ok.snoc {b : Nat} {xs : List Nat} {y : Nat} (hx : Ok b xs) (hy : y < b) : Ok b (xs ++ [y]) := hx.append (Ok.cons hy (Ok.nil b))

theorem Ok.left {b : Nat} {xs ys : List Nat} (h : Ok b (xs ++ ys)) : Ok b xs := fun y hy => h y (List.mem_append_left _ hy)

theorem Ok.right {b : Nat} {xs ys : List Nat} (h : Ok b (xs ++ ys)) : Ok b ys := fun y hy => h y (List.mem_append_right _ hy)

theorem Ok.take {b : Nat} {xs : List Nat} (h : Ok b xs) (n : Nat) : Ok b (xs.take n) := fun y hy => h y (List.mem_of_mem_take hy)

theorem Ok.drop {b : Nat} {xs : List Nat} (h : Ok b xs) (n : Nat) : Ok b (xs.drop n) := fun y hy => h y (List.mem_of_mem_drop hy)

theorem Ok.set {b : Nat} {xs : List Nat} (h : Ok b xs) (n : Nat) {v : Nat} (hv : v < b) : Ok b (xs.set n v) := by
  intro y hy
  rcases List.mem_or_eq_of_mem_set hy with h1 | h1
  · exact h y h1
  · rw [h1]; exact hv

theorem Ok.replicate {b : Nat} (n : Nat) {v : Nat} (hv : v < b) : Ok b (List.replicate n v) := by
  intro y hy; rw [(List.mem_replicate.1 hy).2]; exact hv

theorem Ok.reverse {b : Nat} {xs : List Nat} (h : Ok b xs) : Ok b xs.reverse := fun y hy => h y (List.mem_reverse.1 hy)

theorem Ok.getD {b : Nat} {xs : List Nat} (h : Ok b xs) (hb : 0 < b) (n : Nat) : xs.getD n 0 < b := by
  rw [List.getD]
  cases e : xs[n]? with
  | none => simpa using hb
  | some y => exact h y (List.mem_of_getElem? e)

theorem dg_lt {b : Nat} {xs : List Nat} (h : Ok b xs) : dg b xs < b ^ xs.length := by
  induction xs with
  | nil => simp [dg]
  | cons x r ih =>
    have hx := h.head
    have hr := ih h.tail
    have h1 : b * (dg b r + 1) ≤ b * b ^ r.length := Nat.mul_le_mul_left b hr
    simp only [dg, List.length_cons, Nat.pow_succ]
    rw [Nat.mul_comm (b ^ r.length) b]
    rw [Nat.mul_add] at h1
    omega

theorem dg_zeros (b n : Nat) : dg b (List.replicate n 0) = 0 := by
  induction n with
  | zero => rfl
  | succ n ih => simp [List.replicate_succ, dg, ih]

theorem dg_split (b : Nat) (xs : List Nat) (k : Nat) (hk : k ≤ xs.length) : dg b xs = dg b (xs.take k) + b ^ k * dg b (xs.drop k) := by
  have h := dg_append b (xs.take k) (xs.drop k)
  rw [List.take_append_drop, List.length_take, Nat.min_eq_left hk] at h
  exact h

theorem take_succ_getD (xs : List Nat) (k : Nat) (hk : k < xs.length) : xs.take (k + 1) = xs.take k ++ [xs.getD k 0] := by
  rw [List.take_add_one, List.getElem?_eq_getElem hk]; simp [List.getD, List.getElem?_eq_getElem hk]

theorem dg_take_succ (b : Nat) (xs : List Nat) (k : Nat) (hk : k < xs.length) : dg b (xs.take (k + 1)) = dg b (xs.take k) + b ^ k * xs.getD k 0 := by
  rw [take_succ_getD xs k hk, dg_snoc, List.length_take, Nat.min_eq_left (by omega)]

theorem drop_eq_getD_cons (xs : List Nat) (k : Nat) (hk : k < xs.length) : xs.drop k = xs.getD k 0 :: xs.drop (k + 1) := by
  rw [List.drop_eq_getElem_cons hk]; simp [List.getD, List.getElem?_eq_getElem hk]

theorem dg_drop (b : Nat) (xs : List Nat) (k : Nat) (hk : k < xs.length) : dg b (xs.drop k) = xs.getD k 0 + b * dg b (xs.drop (k + 1)) := by
  rw [drop_eq_getD_cons xs k hk, dg_cons]

/-- No zero at the end. -/
def Trim (xs : List Nat) : Prop := ∀ h : xs ≠ [], xs.getLast h ≠ 0

theorem Trim.nil : Trim [] := fun h => absurd rfl h

theorem pow_le_of_trim {b : Nat} {xs : List Nat} (ht : Trim xs) (hne : xs ≠ []) : b ^ (xs.length - 1) ≤ dg b xs := by
  have e := List.dropLast_concat_getLast hne
  have h := dg_snoc b xs.dropLast (xs.getLast hne)
  rw [e, List.length_dropLast] at h
  rw [h]
  have h1 : 1 ≤ xs.getLast hne := Nat.one_le_iff_ne_zero.2 (ht hne)
  have h2 := Nat.mul_le_mul_left (b ^ (xs.length - 1)) h1
  omega

/-- The digits of n to the base b (at least 2), without zeros at the end. -/
def digs (b n : Nat) : List Nat :=
  if _h : n = 0 ∨ b < 2 then [] else n % b :: digs b (n / b)
termination_by n
decreasing_by exact Nat.div_lt_self (by omega) (by omega)

theorem digs_zero (b : Nat) : digs b 0 = [] := by unfold digs; simp

theorem digs_pos {b n : Nat} (hb : 2 ≤ b) (hn : n ≠ 0) : digs b n = n % b :: digs b (n / b) := by
  rw [digs, dif_neg (by omega)]

theorem dg_digs {b : Nat} (hb : 2 ≤ b) (n : Nat) : dg b (digs b n) = n := by
  induction n using Nat.strongRecOn with
  | _ n ih =>
    by_cases hn : n = 0
    · subst hn; rw [digs_zero]; rfl
    · rw [digs_pos hb hn, dg_cons, ih (n / b) (Nat.div_lt_self (by omega) (by omega))]
      have := Nat.div_add_mod n b
      omega

theorem digs_ok {b : Nat} (hb : 2 ≤ b) (n : Nat) : Ok b (digs b n) := by
  induction n using Nat.strongRecOn with
  | _ n ih =>
    by_cases hn : n = 0
    · subst hn; rw [digs_zero]; exact Ok.nil b
    · rw [digs_pos hb hn]
      exact Ok.cons (Nat.mod_lt _ (by omega)) (ih (n / b) (Nat.div_lt_self (by omega) (by omega)))

theorem Trim.tail {x : Nat} {r : List Nat} (h : Trim (x :: r)) : Trim r := by
  intro hr
  have := h (by simp)
  rwa [List.getLast_cons hr] at this

theorem dg_ne_zero {b : Nat} (hb : 0 < b) {xs : List Nat} (ht : Trim xs) (hne : xs ≠ []) : dg b xs ≠ 0 := by
  have h := pow_le_of_trim (b := b) ht hne
  have := Nat.pow_pos (n := xs.length - 1) hb
  omega

/-- Digits without zeros at the end are the digits of their value. -/
theorem digs_dg {b : Nat} (hb : 2 ≤ b) {xs : List Nat} (hk : Ok b xs) (ht : Trim xs) : digs b (dg b xs) = xs := by
  induction xs with
  | nil => exact digs_zero b
  | cons x r ih =>
    have hne := dg_ne_zero (b := b) (by omega) ht (by simp)
    rw [digs_pos hb hne, dg_cons]
    have hx := hk.head
    have e1 : (x + b * dg b r) % b = x := by rw [Nat.add_mul_mod_self_left, Nat.mod_eq_of_lt hx]
    have e2 : (x + b * dg b r) / b = dg b r := by rw [Nat.add_mul_div_left _ _ (by omega), Nat.div_eq_of_lt hx, Nat.zero_add]
    rw [e1, e2, ih hk.tail ht.tail]

theorem digs_trim {b : Nat} (hb : 2 ≤ b) (n : Nat) : Trim (digs b n) := by
  induction n using Nat.strongRecOn with
  | _ n ih =>
    by_cases hn : n = 0
    · subst hn; rw [digs_zero]; exact Trim.nil
    · intro hne
      have hlt := Nat.div_lt_self (n := n) (k := b) (by omega) (by omega)
      by_cases hq : n / b = 0
      · have hnb : n < b := by
          rcases Nat.div_eq_zero_iff.1 hq with h | h
          · omega
          · exact h
        simp only [digs_pos hb hn, hq, digs_zero, List.getLast_singleton]
        rw [Nat.mod_eq_of_lt hnb]; exact hn
      · have hd : digs b (n / b) ≠ [] := by rw [digs_pos hb hq]; simp
        simp only [digs_pos hb hn]
        rw [List.getLast_cons hd]
        exact ih (n / b) hlt hd

theorem digs_length_le {b : Nat} (hb : 2 ≤ b) {n k : Nat} (h : n < b ^ k) : (digs b n).length ≤ k := by
  by_cases hne : digs b n = []
  · rw [hne]; exact Nat.zero_le _
  · have h1 := pow_le_of_trim (b := b) (digs_trim hb n) hne
    rw [dg_digs hb] at h1
    have h2 : b ^ ((digs b n).length - 1) < b ^ k := Nat.lt_of_le_of_lt h1 h
    have h3 := (Nat.pow_lt_pow_iff_right (a := b) (by omega)).1 h2
    omega

theorem digs_length_mono {b : Nat} (hb : 2 ≤ b) {m n : Nat} (h : m ≤ n) : (digs b m).length ≤ (digs b n).length := by
  refine digs_length_le hb (Nat.lt_of_le_of_lt h ?_)
  have := dg_lt (digs_ok hb n)
  rwa [dg_digs hb] at this

theorem digs_eq_nil {b n : Nat} (hb : 2 ≤ b) : digs b n = [] ↔ n = 0 := by
  constructor
  · intro h; have := dg_digs hb n; rw [h] at this; exact this.symm
  · rintro rfl; exact digs_zero b

/-- Remove the zeros at the end. -/
def cut : List Nat → List Nat
  | [] => []
  | x :: r => match cut r with
    | [] => if x = 0 then [] else [x]
    | y :: s => x :: y :: s

theorem cut_trim (xs : List Nat) : Trim (cut xs) := by
  induction xs with
  | nil => exact Trim.nil
  | cons x r ih =>
    simp only [cut]
    cases h : cut r with
    | nil =>
      simp only []
      by_cases hx : x = 0
      · rw [if_pos hx]; exact Trim.nil
      · rw [if_neg hx]; intro _; simpa using hx
    | cons y s =>
      simp only []
      intro hne
      rw [List.getLast_cons (by simp)]
      rw [h] at ih
      exact ih (by simp)

theorem dg_cut (b : Nat) (xs : List Nat) : dg b (cut xs) = dg b xs := by
  induction xs with
  | nil => rfl
  | cons x r ih =>
    simp only [cut]
    cases h : cut r with
    | nil =>
      rw [h] at ih
      simp only []
      by_cases hx : x = 0
      · rw [if_pos hx]; simp only [dg_cons, ← ih, hx]; simp [dg]
      · rw [if_neg hx]; simp only [dg_cons, ← ih]
    | cons y s =>
      rw [h] at ih
      simp only []
      rw [dg_cons, ih, dg_cons]

theorem cut_ok {b : Nat} {xs : List Nat} (hk : Ok b xs) : Ok b (cut xs) := by
  induction xs with
  | nil => exact hk
  | cons x r ih =>
    have h2 := ih hk.tail
    simp only [cut]
    cases h : cut r with
    | nil =>
      simp only []
      by_cases hx : x = 0
      · rw [if_pos hx]; exact Ok.nil b
      · rw [if_neg hx]; exact Ok.cons hk.head (Ok.nil b)
    | cons y s => rw [h] at h2; exact Ok.cons hk.head h2

theorem cut_eq {b : Nat} (hb : 2 ≤ b) {xs : List Nat} (hk : Ok b xs) : cut xs = digs b (dg b xs) := by
  have h := digs_dg hb (cut_ok hk) (cut_trim xs)
  rw [dg_cut] at h
  exact h.symm

theorem cut_of_trim {b : Nat} (hb : 2 ≤ b) {xs : List Nat} (hk : Ok b xs) (ht : Trim xs) : cut xs = xs := by
  rw [cut_eq hb hk, digs_dg hb hk ht]

theorem cut_snoc_zero (xs : List Nat) : cut (xs ++ [0]) = cut xs := by
  induction xs with
  | nil => simp [cut]
  | cons x r ih => simp only [List.cons_append, cut, ih]

theorem cut_snoc_pos (xs : List Nat) {y : Nat} (hy : y ≠ 0) : cut (xs ++ [y]) = xs ++ [y] := by
  induction xs with
  | nil => simp [cut, hy]
  | cons x r ih =>
    simp only [List.cons_append, cut, ih]
    cases h : r ++ [y] with
    | nil => simp at h
    | cons a s => rfl

/-- Equal values, equal digits. -/
theorem dg_inj {b : Nat} (hb : 2 ≤ b) {xs ys : List Nat} (hx : Ok b xs) (hy : Ok b ys) (hl : xs.length = ys.length) (h : dg b xs = dg b ys) : xs = ys := by
  induction xs generalizing ys with
  | nil => cases ys with
    | nil => rfl
    | cons y s => simp at hl
  | cons x r ih => cases ys with
    | nil => simp at hl
    | cons y s =>
      simp only [dg_cons] at h
      have e1 : (x + b * dg b r) % b = x := by rw [Nat.add_mul_mod_self_left, Nat.mod_eq_of_lt hx.head]
      have e2 : (y + b * dg b s) % b = y := by rw [Nat.add_mul_mod_self_left, Nat.mod_eq_of_lt hy.head]
      have e : x = y := by rw [← e1, ← e2, h]
      subst e
      have e3 : dg b r = dg b s := Nat.eq_of_mul_eq_mul_left (show 0 < b by omega) (by omega)
      rw [ih hx.tail hy.tail (by simpa using hl) e3]

end Dg
end Go.Proofs.YtmpfgkpimjiecaaDoor
namespace Go.Proofs.YtmpfgkpimjiecaaDoor
namespace Dg
theorem set_app {ws xs : List Nat} {i z : Nat} (hw : ws.length = i) (hi : i < xs.length) : (ws ++ xs.drop i).set i z = (ws ++ [z]) ++ xs.drop (i + 1) := by
  subst hw
  rw [List.set_append_right _ _ (Nat.le_refl _), Nat.sub_self, drop_eq_getD_cons xs _ hi, List.set_cons_zero]
  simp

theorem getD_app {ws xs : List Nat} {i : Nat} (hw : ws.length = i) (hi : i < xs.length) : (ws ++ xs.drop i).getD i 0 = xs.getD i 0 := by
  subst hw
  rw [List.getD, List.getElem?_append_right (Nat.le_refl _), Nat.sub_self, drop_eq_getD_cons xs _ hi]
  rfl

theorem len_app {ws xs : List Nat} {i : Nat} (hw : ws.length = i) (hi : i ≤ xs.length) : (ws ++ xs.drop i).length = xs.length := by
  rw [List.length_append, List.length_drop]; omega

theorem getD_ge {ys : List Nat} {i : Nat} (h : ys.length ≤ i) : ys.getD i 0 = 0 := by simp [List.getD, List.getElem?_eq_none h]

theorem take_getD_succ (b : Nat) (ys : List Nat) (i : Nat) : dg b (ys.take (i + 1)) = dg b (ys.take i) + b ^ i * ys.getD i 0 := by
  by_cases h : i < ys.length
  · exact dg_take_succ b ys i h
  · rw [List.take_of_length_le (by omega), List.take_of_length_le (by omega)]
    have : ys.getD i 0 = 0 := by simp [List.getD, List.getElem?_eq_none (show ys.length ≤ i by omega)]
    rw [this]; simp

/-- One step of an addition. -/
theorem add_step {b i c s t : Nat} {ws xs ys : List Nat} (hw : ws.length = i) (hi : i < xs.length) (h : dg b ws + b ^ i * c = dg b (xs.take i) + dg b (ys.take i))
    (hst : s + b * t = xs.getD i 0 + ys.getD i 0 + c) : dg b (ws ++ [s]) + b ^ (i + 1) * t = dg b (xs.take (i + 1)) + dg b (ys.take (i + 1)) := by
  rw [dg_snoc, hw, dg_take_succ b xs i hi, take_getD_succ, Nat.pow_succ]
  have e := congrArg (b ^ i * ·) hst
  simp only [Nat.mul_add, ← Nat.mul_assoc] at e
  omega

theorem add_end {b i : Nat} {ws xs ys : List Nat} (hi : i ≤ xs.length) (hw : ws.length = i) (hy : ys.length ≤ i)
    (h : dg b ws + b ^ i * 0 = dg b (xs.take i) + dg b (ys.take i)) : dg b (ws ++ xs.drop i) = dg b xs + dg b ys := by
  rw [dg_append, hw, dg_split b xs i hi]
  rw [List.take_of_length_le hy] at h
  omega

/-- One step of a subtraction. -/
theorem sub_step {b i c s t : Nat} {ws xs ys : List Nat} (hw : ws.length = i) (hi : i < xs.length) (h : dg b ws + dg b (ys.take i) = dg b (xs.take i) + b ^ i * c)
    (hst : s + ys.getD i 0 + c = xs.getD i 0 + b * t) : dg b (ws ++ [s]) + dg b (ys.take (i + 1)) = dg b (xs.take (i + 1)) + b ^ (i + 1) * t := by
  rw [dg_snoc, hw, dg_take_succ b xs i hi, take_getD_succ, Nat.pow_succ]
  have e := congrArg (b ^ i * ·) hst
  simp only [Nat.mul_add, ← Nat.mul_assoc] at e
  omega

theorem sub_end {b i : Nat} {ws xs ys : List Nat} (hi : i ≤ xs.length) (hw : ws.length = i) (hy : ys.length ≤ i)
    (h : dg b ws + dg b (ys.take i) = dg b (xs.take i) + b ^ i * 0) : dg b (ws ++ xs.drop i) + dg b ys = dg b xs := by
  rw [dg_append, hw, dg_split b xs i hi]
  rw [List.take_of_length_le hy] at h
  omega

/-- One step of 'sum += x f'. -/
theorem mul_step {b i c s t f : Nat} {ws ss xs : List Nat} (hw : ws.length = i) (hi : i < ss.length) (h : dg b ws + b ^ i * c = dg b (ss.take i) + f * dg b (xs.take i))
    (hst : s + b * t = ss.getD i 0 + f * xs.getD i 0 + c) : dg b (ws ++ [s]) + b ^ (i + 1) * t = dg b (ss.take (i + 1)) + f * dg b (xs.take (i + 1)) := by
  rw [dg_snoc, hw, dg_take_succ b ss i hi, take_getD_succ, Nat.pow_succ]
  have e := congrArg (b ^ i * ·) hst
  have e2 : b ^ i * (f * xs.getD i 0) = f * (b ^ i * xs.getD i 0) := by rw [← Nat.mul_assoc, Nat.mul_comm _ f, Nat.mul_assoc]
  simp only [Nat.mul_add, e2, ← Nat.mul_assoc] at e ⊢
  omega

/-- One step of 'x -= y f', the carry and the borrow together. -/
theorem submul_step {b i c s t f : Nat} {ws xs ys : List Nat} (hw : ws.length = i) (hi : i < xs.length) (h : dg b ws + f * dg b (ys.take i) = dg b (xs.take i) + b ^ i * c)
    (hst : s + f * ys.getD i 0 + c = xs.getD i 0 + b * t) : dg b (ws ++ [s]) + f * dg b (ys.take (i + 1)) = dg b (xs.take (i + 1)) + b ^ (i + 1) * t := by
  rw [dg_snoc, hw, dg_take_succ b xs i hi, take_getD_succ, Nat.pow_succ]
  have e := congrArg (b ^ i * ·) hst
  have e2 : b ^ i * (f * ys.getD i 0) = f * (b ^ i * ys.getD i 0) := by rw [← Nat.mul_assoc, Nat.mul_comm _ f, Nat.mul_assoc]
  simp only [Nat.mul_add, e2, ← Nat.mul_assoc] at e ⊢
  omega

/-- The quotient of w and y is not above Knuth's estimate out of the highest digits. -/
theorem knuth_ge {p b w y top v q g : Nat} (hw : w < (top + 1) * p) (hy : v * p ≤ y) (hq : q * y ≤ w) (hqb : q < b) (hv : 0 < v)
    (hg : g = b - 1 ∨ g = top / v) : q ≤ g := by
  rcases hg with rfl | rfl
  · omega
  · have h1 : q * (v * p) ≤ w := Nat.le_trans (Nat.mul_le_mul_left q hy) hq
    have h2 : (q * v) * p < (top + 1) * p := by rw [Nat.mul_assoc]; exact Nat.lt_of_le_of_lt h1 hw
    have h3 : q * v < top + 1 := Nat.lt_of_mul_lt_mul_right h2
    exact (Nat.le_div_iff_mul_le hv).2 (by omega)

/-- .. and not far above it. -/
theorem knuth_le {p b w y top v g : Nat} (hw : top * p ≤ w) (hy : y ≤ v * p + p) (hgv : g * v ≤ top) (hgb : g ≤ b) : g * y ≤ w + b * p := by
  have h1 : g * y ≤ g * (v * p + p) := Nat.mul_le_mul_left g hy
  rw [Nat.mul_add, ← Nat.mul_assoc] at h1
  have h2 : g * v * p ≤ top * p := Nat.mul_le_mul_right p hgv
  have h3 : g * p ≤ b * p := Nat.mul_le_mul_right p hgb
  omega

/-- Newton's step never falls below the root. -/
theorem newton_ge {x r s : Nat} (hr : 0 < r) (hs : s * s ≤ x) : s ≤ (x / r + r) / 2 := by
  have h : 2 * s ≤ x / r + r := by
    by_cases hc : 2 * s ≤ r
    · exact Nat.le_trans hc (Nat.le_add_left _ _)
    · have h1 : (2 * s - r) ≤ x / r := by
        rw [Nat.le_div_iff_mul_le hr]
        refine Nat.le_trans ?_ hs
        obtain ⟨d, hd⟩ : ∃ d, 2 * s = r + d := ⟨2 * s - r, by omega⟩
        have e : 2 * s - r = d := by omega
        rw [e]
        have h4 : 4 * (d * r) ≤ (r + d) * (r + d) := by
          rcases Nat.le_total d r with h | h
          · obtain ⟨k, rfl⟩ := Nat.le.dest h; grind
          · obtain ⟨k, rfl⟩ := Nat.le.dest h; grind
        rw [← hd] at h4
        have h5 : 2 * s * (2 * s) = 4 * (s * s) := by grind
        omega
      omega
  omega

theorem newton_end {x r s : Nat} (hr : 0 < r) (hsx : x < (s + 1) * (s + 1)) (hrs : s ≤ r) (h : r ≤ (x / r + r) / 2) : r = s := by
  have h1 : r ≤ x / r := by omega
  have h2 : r * r ≤ x := (Nat.le_div_iff_mul_le hr).1 h1
  have h3 : r * r < (s + 1) * (s + 1) := Nat.lt_of_le_of_lt h2 hsx
  have h4 : r < s + 1 := by
    rcases Nat.lt_or_ge r (s + 1) with h | h
    · exact h
    · have := Nat.mul_le_mul h h; omega
  omega

/-- After k steps of 'x += y': what has been written, and the carry. -/
structure AddInv (b : Nat) (xs ys : List Nat) (k c : Nat) (ws : List Nat) : Prop where
  len : ws.length = k
  ok : Ok b ws
  c1 : c ≤ 1
  val : dg b ws + b ^ k * c = dg b (xs.take k) + dg b (ys.take k)

theorem AddInv.zero (b : Nat) (xs ys : List Nat) : AddInv b xs ys 0 0 [] := ⟨rfl, Ok.nil b, by omega, by simp [dg]⟩

theorem AddInv.step {b k c s t : Nat} {xs ys ws : List Nat} (h : AddInv b xs ys k c ws) (hk : k < xs.length) (hst : s + b * t = xs.getD k 0 + ys.getD k 0 + c) (hs : s < b) (ht : t ≤ 1) :
    AddInv b xs ys (k + 1) t (ws ++ [s]) :=
  ⟨by simp [h.len], h.ok.snoc hs, ht, add_step h.len hk h.val hst⟩

/-- What 'x += y' leaves: the digits of the sum, and the carry. -/
structure AddOut (b : Nat) (xs ys : List Nat) (c : Nat) (zs : List Nat) : Prop where
  len : zs.length = xs.length
  ok : Ok b zs
  c1 : c ≤ 1
  val : dg b zs + b ^ xs.length * c = dg b xs + dg b ys

theorem AddInv.out {b k c : Nat} {xs ys ws : List Nat} (h : AddInv b xs ys k c ws) (hx : Ok b xs) (hk : k ≤ xs.length) (hy : ys.length ≤ k) (he : k = xs.length ∨ c = 0) : AddOut b xs ys c (ws ++ xs.drop k) := by
  refine ⟨len_app h.len hk, h.ok.append (hx.drop k), h.c1, ?_⟩
  rcases he with rfl | rfl
  · have hv := h.val
    rw [List.take_of_length_le (Nat.le_refl _), List.take_of_length_le hy] at hv
    rw [List.drop_of_length_le (Nat.le_refl _), List.append_nil]
    exact hv
  · have := add_end hk h.len hy h.val
    omega

/-- After k steps of 'x -= y'. -/
structure SubInv (b : Nat) (xs ys : List Nat) (k c : Nat) (ws : List Nat) : Prop where
  len : ws.length = k
  ok : Ok b ws
  c1 : c ≤ 1
  val : dg b ws + dg b (ys.take k) = dg b (xs.take k) + b ^ k * c

theorem SubInv.zero (b : Nat) (xs ys : List Nat) : SubInv b xs ys 0 0 [] := ⟨rfl, Ok.nil b, by omega, by simp [dg]⟩

theorem SubInv.step {b k c s t : Nat} {xs ys ws : List Nat} (h : SubInv b xs ys k c ws) (hk : k < xs.length) (hst : s + ys.getD k 0 + c = xs.getD k 0 + b * t) (hs : s < b) (ht : t ≤ 1) :
    SubInv b xs ys (k + 1) t (ws ++ [s]) :=
  ⟨by simp [h.len], h.ok.snoc hs, ht, sub_step h.len hk h.val hst⟩

/-- What 'x -= y' leaves, where y is not greater. -/
structure SubOut (b : Nat) (xs ys zs : List Nat) : Prop where
  len : zs.length = xs.length
  ok : Ok b zs
  val : dg b zs + dg b ys = dg b xs

theorem SubInv.out {b k c : Nat} {xs ys ws : List Nat} (h : SubInv b xs ys k c ws) (hx : Ok b xs) (hk : k ≤ xs.length) (hy : ys.length ≤ k) (hle : dg b ys ≤ dg b xs) (he : k = xs.length ∨ c = 0) : SubOut b xs ys (ws ++ xs.drop k) := by
  refine ⟨len_app h.len hk, h.ok.append (hx.drop k), ?_⟩
  rcases he with rfl | rfl
  · have hv := h.val
    have hw := dg_lt h.ok
    rw [h.len] at hw
    rw [List.take_of_length_le (Nat.le_refl _), List.take_of_length_le hy] at hv
    rw [List.drop_of_length_le (Nat.le_refl _), List.append_nil]
    have hc : c = 0 ∨ c = 1 := by have := h.c1; omega
    rcases hc with rfl | rfl
    · omega
    · omega
  · exact sub_end hk h.len hy h.val

/-- After k steps of 'sum += x f'. -/
structure MulInv (b : Nat) (ss xs : List Nat) (f k c : Nat) (ws : List Nat) : Prop where
  len : ws.length = k
  ok : Ok b ws
  cb : c < b
  val : dg b ws + b ^ k * c = dg b (ss.take k) + f * dg b (xs.take k)

theorem MulInv.zero {b : Nat} (hb : 0 < b) (ss xs : List Nat) (f : Nat) : MulInv b ss xs f 0 0 [] := ⟨rfl, Ok.nil b, hb, by simp [dg]⟩

theorem MulInv.step {b k c s t f : Nat} {ss xs ws : List Nat} (h : MulInv b ss xs f k c ws) (hk : k < ss.length) (hst : s + b * t = ss.getD k 0 + f * xs.getD k 0 + c) (hs : s < b) (ht : t < b) :
    MulInv b ss xs f (k + 1) t (ws ++ [s]) :=
  ⟨by simp [h.len], h.ok.snoc hs, ht, mul_step h.len hk h.val hst⟩

structure MulOut (b : Nat) (ss xs : List Nat) (f c : Nat) (zs : List Nat) : Prop where
  len : zs.length = ss.length
  ok : Ok b zs
  cb : c < b
  val : dg b zs + b ^ ss.length * c = dg b ss + f * dg b xs

theorem MulInv.out {b c f : Nat} {ss xs ws : List Nat} (h : MulInv b ss xs f ss.length c ws) (hl : xs.length = ss.length) : MulOut b ss xs f c ws := by
  refine ⟨h.len, h.ok, h.cb, ?_⟩
  have hv := h.val
  rwa [List.take_of_length_le (Nat.le_refl _), List.take_of_length_le (by omega)] at hv

/-- After k steps of 'x -= y f', the carry c and the borrow d. -/
structure SmInv (b : Nat) (xs ys : List Nat) (f k c d : Nat) (ws : List Nat) : Prop where
  len : ws.length = k
  ok : Ok b ws
  cb : c < b
  d1 : d ≤ 1
  val : dg b ws + f * dg b (ys.take k) = dg b (xs.take k) + b ^ k * (c + d)

theorem SmInv.zero {b : Nat} (hb : 0 < b) (xs ys : List Nat) (f : Nat) : SmInv b xs ys f 0 0 0 [] := ⟨rfl, Ok.nil b, hb, by omega, by simp [dg]⟩

theorem SmInv.step {b k c d s t u f : Nat} {xs ys ws : List Nat} (h : SmInv b xs ys f k c d ws) (hk : k < xs.length) (hst : s + f * ys.getD k 0 + (c + d) = xs.getD k 0 + b * (t + u)) (hs : s < b) (ht : t < b) (hu : u ≤ 1) :
    SmInv b xs ys f (k + 1) t u (ws ++ [s]) :=
  ⟨by simp [h.len], h.ok.snoc hs, ht, hu, submul_step h.len hk h.val hst⟩

/-- What 'x -= y f' leaves, and the borrow. -/
structure SmOut (b : Nat) (xs ys : List Nat) (f d : Nat) (zs : List Nat) : Prop where
  len : zs.length = xs.length
  ok : Ok b zs
  d1 : d ≤ 1
  val : dg b zs + f * dg b ys = dg b xs + b ^ xs.length * d

theorem SmInv.out {b c d s u f : Nat} {xs ys ws : List Nat} (h : SmInv b xs ys f ys.length c d ws) (hl : xs.length = ys.length + 1) (hst : s + c + d = xs.getD ys.length 0 + b * u) (hs : s < b) (hu : u ≤ 1) : SmOut b xs ys f u (ws ++ [s]) := by
  refine ⟨by simp [h.len, hl], h.ok.snoc hs, hu, ?_⟩
  have hv := submul_step (s := s) (t := u) h.len (by omega) h.val (by rw [getD_ge (Nat.le_refl _)]; omega)
  rw [hl]
  rwa [List.take_of_length_le (show xs.length ≤ ys.length + 1 by omega), List.take_of_length_le (show ys.length ≤ ys.length + 1 by omega)] at hv

/-- After k steps of 'x *= f'. -/
structure ShInv (b : Nat) (xs : List Nat) (f k c : Nat) (ws : List Nat) : Prop where
  len : ws.length = k
  ok : Ok b ws
  cb : c < f
  val : dg b ws + b ^ k * c = f * dg b (xs.take k)

theorem ShInv.zero {b : Nat} (xs : List Nat) {f : Nat} (hf : 0 < f) : ShInv b xs f 0 0 [] := ⟨rfl, Ok.nil b, hf, by simp [dg]⟩

theorem ShInv.step {b k c s t f : Nat} {xs ws : List Nat} (h : ShInv b xs f k c ws) (hk : k < xs.length) (hst : s + b * t = xs.getD k 0 * f + c) (hs : s < b) (ht : t < f) :
    ShInv b xs f (k + 1) t (ws ++ [s]) := by
  refine ⟨by simp [h.len], h.ok.snoc hs, ht, ?_⟩
  have hz : ∀ j, dg b ((List.replicate xs.length 0).take j) = 0 := fun j => by rw [List.take_replicate]; exact dg_zeros b _
  have := mul_step (b := b) (i := k) (c := c) (s := s) (t := t) (f := f) (ws := ws) (ss := List.replicate xs.length 0) (xs := xs) h.len (by simpa using hk) (by rw [hz, Nat.zero_add]; exact h.val)
    (by rw [hst, Nat.mul_comm f]; simp [List.getD, hk])
  rwa [hz, Nat.zero_add] at this

structure ShOut (b : Nat) (xs : List Nat) (f c : Nat) (zs : List Nat) : Prop where
  len : zs.length = xs.length
  ok : Ok b zs
  cb : c < f
  val : dg b zs + b ^ xs.length * c = f * dg b xs

theorem ShInv.out {b c f : Nat} {xs ws : List Nat} (h : ShInv b xs f xs.length c ws) : ShOut b xs f c ws := by
  refine ⟨h.len, h.ok, h.cb, ?_⟩
  have hv := h.val
  rwa [List.take_of_length_le (Nat.le_refl _)] at hv

/-- 'x /= f', from the highest digit down: the digits from m on are done, r is the rest. -/
structure DnInv (b : Nat) (xs : List Nat) (f m r : Nat) (ws : List Nat) : Prop where
  len : m + ws.length = xs.length
  ok : Ok b ws
  rb : r < f
  val : f * dg b ws + r = dg b (xs.drop m)

theorem DnInv.zero {b : Nat} (xs : List Nat) {f : Nat} (hf : 0 < f) : DnInv b xs f xs.length 0 [] := ⟨by simp, Ok.nil b, hf, by simp [dg]⟩

theorem DnInv.step {b m r s t f : Nat} {xs ws : List Nat} (h : DnInv b xs f (m + 1) r ws) (hst : f * s + t = b * r + xs.getD m 0) (hs : s < b) (ht : t < f) :
    DnInv b xs f m t (s :: ws) := by
  have hl := h.len
  refine ⟨by simp; omega, Ok.cons hs h.ok, ht, ?_⟩
  rw [dg_cons, dg_drop b xs m (by omega), ← h.val, Nat.mul_add, Nat.mul_add, ← Nat.mul_assoc, ← Nat.mul_assoc, Nat.mul_comm f b]
  omega

structure DnOut (b : Nat) (xs : List Nat) (f r : Nat) (zs : List Nat) : Prop where
  len : zs.length = xs.length
  ok : Ok b zs
  rb : r < f
  val : f * dg b zs + r = dg b xs

theorem DnInv.out {b r f : Nat} {xs ws : List Nat} (h : DnInv b xs f 0 r ws) : DnOut b xs f r ws := by
  have hl := h.len
  have hv := h.val
  rw [List.drop_zero] at hv
  exact ⟨by omega, h.ok, h.rb, hv⟩

theorem DnOut.eqs {b r f : Nat} {xs zs : List Nat} (h : DnOut b xs f r zs) : dg b zs = dg b xs / f ∧ r = dg b xs % f := by
  have hv := h.val
  have hr := h.rb
  constructor
  · rw [← hv, Nat.mul_comm, Nat.add_comm, Nat.add_mul_div_right _ _ (by omega), Nat.div_eq_of_lt hr, Nat.zero_add]
  · rw [← hv, Nat.mul_comm, Nat.add_comm, Nat.add_mul_mod_self_right, Nat.mod_eq_of_lt hr]

theorem set_dn {xs ws : List Nat} {m z : Nat} (hm : m < xs.length) : (xs.take (m + 1) ++ ws).set m z = xs.take m ++ z :: ws := by
  rw [take_succ_getD xs m hm, List.append_assoc, List.set_append_right _ _ (by rw [List.length_take]; omega), List.length_take, show m - min m xs.length = 0 by omega]
  rfl

theorem getD_dn {xs ws : List Nat} {m : Nat} (hm : m < xs.length) : (xs.take (m + 1) ++ ws).getD m 0 = xs.getD m 0 := by
  rw [List.getD, List.getElem?_append_left (by rw [List.length_take]; omega), List.getElem?_take_of_lt (by omega)]; rfl

theorem cut_take_zero {xs : List Nat} {k : Nat} (hk : k < xs.length) (h : xs.getD k 0 = 0) : cut (xs.take (k + 1)) = cut (xs.take k) := by
  rw [take_succ_getD xs k hk, h, cut_snoc_zero]

theorem cut_take_pos {xs : List Nat} {k : Nat} (hk : k < xs.length) (h : xs.getD k 0 ≠ 0) : cut (xs.take (k + 1)) = xs.take (k + 1) := by
  rw [take_succ_getD xs k hk, cut_snoc_pos _ h]

/-- What is cut off are zeros. -/
theorem cut_take (xs : List Nat) : cut xs = xs.take (cut xs).length := by
  induction xs with
  | nil => rfl
  | cons x r ih =>
    simp only [cut]
    cases h : cut r with
    | nil =>
      simp only []
      by_cases hx : x = 0
      · rw [if_pos hx]; rfl
      · rw [if_neg hx]; rfl
    | cons y s =>
      simp only [List.length_cons, List.take_succ_cons]
      rw [h] at ih
      rw [List.length_cons] at ih
      rw [← ih]

theorem cut_length_le (xs : List Nat) : (cut xs).length ≤ xs.length := by
  have h := congrArg List.length (cut_take xs)
  rw [List.length_take] at h
  omega

end Dg
end Go.Proofs.YtmpfgkpimjiecaaDoor
namespace Go.Proofs.YtmpfgkpimjiecaaDoor
namespace Dg
/-- One digit (to the base 2^32) of the quotient is estimated. -/
structure Est (U u Y1 Y0 q rh : Nat) : Prop where
  sum : q * Y1 + rh = U
  ge : (U * 4294967296 + u) / (Y1 * 4294967296 + Y0) ≤ q
  rb : rh < 4294967296
  qb : q ≤ 4294967297

theorem est_start {U u Y1 Y0 : Nat} (h1 : 2147483648 ≤ Y1) (h2 : Y1 < 4294967296) (h0 : Y0 < 4294967296) (hu : u < 4294967296) (hU : U < Y1 * 4294967296 + Y0) : Est U u Y1 Y0 (U / Y1) (U % Y1) := by
  have hm := Nat.mod_lt U (show 0 < Y1 by omega)
  have hd := Nat.div_add_mod U Y1
  refine ⟨by rw [Nat.mul_comm]; exact hd, ?_, by omega, ?_⟩
  · rw [Nat.div_le_iff_le_mul_add_pred (by omega)]
    have h3 : U + 1 ≤ Y1 * (U / Y1 + 1) := by rw [Nat.mul_add]; omega
    have h4 := Nat.mul_le_mul_left 4294967296 h3
    have h5 : (Y1 * 4294967296 + Y0) * (U / Y1) = 4294967296 * (Y1 * (U / Y1)) + Y0 * (U / Y1) := by rw [Nat.add_mul, Nat.mul_right_comm, Nat.mul_comm _ 4294967296]
    rw [h5]
    rw [Nat.mul_add, Nat.mul_add Y1] at h4
    generalize Y1 * (U / Y1) = P at *
    generalize Y0 * (U / Y1) = R at *
    omega
  · have h6 : U / Y1 < 4294967298 := by
      rw [Nat.div_lt_iff_lt_mul (by omega)]
      omega
    omega

theorem est_go {U u Y1 Y0 p rh : Nat} (h1 : 2147483648 ≤ Y1) (h0 : Y0 < 4294967296) (hu : u < 4294967296) (hU : U < Y1 * 4294967296 + Y0) (h : Est U u Y1 Y0 (p + 1) rh)
    (hc : 4294967296 ≤ p + 1 ∨ 4294967296 * rh + u < (p + 1) * Y0) : (U * 4294967296 + u) / (Y1 * 4294967296 + Y0) ≤ p ∧ p * Y1 + (rh + Y1) = U := by
  have hs := h.sum
  rw [Nat.add_mul] at hs
  refine ⟨?_, by omega⟩
  have hlt : (U * 4294967296 + u) / (Y1 * 4294967296 + Y0) < p + 1 := by
    rw [Nat.div_lt_iff_lt_mul (by omega)]
    rcases hc with hc | hc
    · have := Nat.mul_le_mul_right (Y1 * 4294967296 + Y0) hc
      omega
    · have e : (p + 1) * (Y1 * 4294967296 + Y0) = 4294967296 * ((p + 1) * Y1) + (p + 1) * Y0 := by rw [Nat.mul_add, ← Nat.mul_assoc, Nat.mul_comm _ 4294967296]
      rw [e]
      have hs' := h.sum
      generalize (p + 1) * Y1 = A at *
      generalize (p + 1) * Y0 = B at *
      omega
  omega

theorem est_pos {U u Y1 Y0 q rh : Nat} (h : Est U u Y1 Y0 q rh) (hc : 4294967296 ≤ q ∨ 4294967296 * rh + u < q * Y0) : ∃ p, q = p + 1 := by
  cases q with
  | zero => rcases hc with hc | hc
            · omega
            · rw [Nat.zero_mul] at hc; omega
  | succ p => exact ⟨p, rfl⟩

theorem est_brk {U u Y1 Y0 p rh : Nat} (h1 : 2147483648 ≤ Y1) (h0 : Y0 < 4294967296) (h : Est U u Y1 Y0 (p + 1) rh) (hg : (U * 4294967296 + u) / (Y1 * 4294967296 + Y0) ≤ p) (hs : p * Y1 + (rh + Y1) = U)
    (hb : 4294967296 ≤ rh + Y1) : p = (U * 4294967296 + u) / (Y1 * 4294967296 + Y0) := by
  refine Nat.le_antisymm ?_ hg
  rw [Nat.le_div_iff_mul_le (by omega)]
  have e : p * (Y1 * 4294967296 + Y0) = 4294967296 * (p * Y1) + p * Y0 := by rw [Nat.mul_add, ← Nat.mul_assoc, Nat.mul_comm _ 4294967296]
  have h2 : p * Y0 ≤ 4294967296 * 4294967296 := Nat.mul_le_mul (by have := h.qb; omega) (by omega)
  rw [e]
  clear h hg e
  generalize p * Y1 = A at *
  generalize p * Y0 = B at *
  omega

theorem est_end {U u Y1 Y0 q rh : Nat} (h1 : 2147483648 ≤ Y1) (h : Est U u Y1 Y0 q rh) (hc : q * Y0 ≤ 4294967296 * rh + u) : q = (U * 4294967296 + u) / (Y1 * 4294967296 + Y0) := by
  refine Nat.le_antisymm ?_ h.ge
  rw [Nat.le_div_iff_mul_le (by omega)]
  have e : q * (Y1 * 4294967296 + Y0) = 4294967296 * (q * Y1) + q * Y0 := by rw [Nat.mul_add, ← Nat.mul_assoc, Nat.mul_comm _ 4294967296]
  have hs := h.sum
  rw [e]
  clear h e
  generalize q * Y1 = A at *
  generalize q * Y0 = B at *
  omega

theorem est_next {U u Y1 Y0 p rh : Nat} (h : Est U u Y1 Y0 (p + 1) rh) (hg : (U * 4294967296 + u) / (Y1 * 4294967296 + Y0) ≤ p) (hs : p * Y1 + (rh + Y1) = U) (hb : rh + Y1 < 4294967296) : Est U u Y1 Y0 p (rh + Y1) :=
  ⟨hs, hg, hb, by have := h.qb; omega⟩

/-- Two digits of a quotient. -/
theorem two_digits {N v Y K : Nat} (hY : 0 < Y) :
    N / Y * K + (N % Y * K + v) / Y = (N * K + v) / Y ∧ (N % Y * K + v) % Y = (N * K + v) % Y := by
  have hd := Nat.div_add_mod N Y
  have e : N * K + v = (N % Y * K + v) + Y * (N / Y * K) := by
    have : N * K = (Y * (N / Y) + N % Y) * K := by rw [hd]
    rw [this, Nat.add_mul, Nat.mul_assoc]
    omega
  constructor
  · rw [e, Nat.add_mul_div_left _ _ hY, Nat.add_comm]
  · rw [e, Nat.add_mul_mod_self_left]

/-- The quotient and the rest stay, when all is shifted. -/
theorem shifted {n y f : Nat} (hf : 0 < f) : n * f / (y * f) = n / y ∧ n * f % (y * f) = n % y * f :=
  ⟨Nat.mul_div_mul_right _ _ hf, Nat.mul_mod_mul_right _ _ _⟩

end Dg
end Go.Proofs.YtmpfgkpimjiecaaDoor
namespace Go.Proofs.YtmpfgkpimjiecaaDoor
namespace Dg
/-- Long division under way: N is divided by Y (n + 1 digits); the digits of the quotient from j on are qs; Z is what is left. -/
structure DvInv (b N Y n j : Nat) (Z qs : List Nat) : Prop where
  okZ : Ok b Z
  okq : Ok b qs
  top : dg b (Z.drop j) < Y
  sum : dg b Z + b ^ j * (Y * dg b qs) = N

theorem part_value {b Y n i : Nat} {Z : List Nat} (hY : Y < b ^ (n + 1)) (ht : dg b (Z.drop (i + 1)) < Y) (hl : i + (n + 2) ≤ Z.length) :
    dg b (Z.drop i) = dg b ((Z.drop i).take (n + 2)) ∧ dg b (Z.drop (i + (n + 2))) = 0 := by
  have h0 : dg b (Z.drop (i + (n + 2))) = 0 := by
    have e := dg_split b (Z.drop (i + 1)) (n + 1) (by rw [List.length_drop]; omega)
    rw [List.drop_drop] at e
    rw [show i + (n + 2) = i + 1 + (n + 1) by omega]
    generalize dg b (Z.drop (i + 1 + (n + 1))) = h at *
    rcases Nat.eq_zero_or_pos h with h1 | h1
    · exact h1
    · have := Nat.mul_le_mul_left (b ^ (n + 1)) h1
      omega
  refine ⟨?_, h0⟩
  have e := dg_split b (Z.drop i) (n + 2) (by rw [List.length_drop]; omega)
  rw [List.drop_drop, h0, Nat.mul_zero, Nat.add_zero] at e
  exact e

theorem DvInv.win {b N Y n i : Nat} {Z qs : List Nat} (hb : 2 ≤ b) (h : DvInv b N Y n (i + 1) Z qs) (hY : Y < b ^ (n + 1)) (hl : i + (n + 2) ≤ Z.length) :
    dg b ((Z.drop i).take (n + 2)) < Y * b := by
  have e := (part_value hY h.top hl).1
  rw [← e, dg_drop b Z i (by omega)]
  have h1 := h.okZ.getD (show 0 < b by omega) i
  have h2 := Nat.mul_le_mul_left b h.top
  rw [Nat.mul_succ, Nat.mul_comm b Y] at h2
  omega

theorem DvInv.step {b N Y n i q : Nat} {Z qs rs : List Nat} (h : DvInv b N Y n (i + 1) Z qs) (hY : Y < b ^ (n + 1)) (hY0 : 0 < Y) (hl : i + (n + 2) ≤ Z.length)
    (hr : Ok b rs) (hrl : rs.length = n + 2) (hq : q = dg b ((Z.drop i).take (n + 2)) / Y) (hrem : dg b rs = dg b ((Z.drop i).take (n + 2)) % Y) (hqb : q < b) :
    DvInv b N Y n i (Z.take i ++ (rs ++ Z.drop (i + (n + 2)))) (q :: qs) := by
  obtain ⟨e1, e0⟩ := part_value hY h.top hl
  have hti : (Z.take i).length = i := by rw [List.length_take]; omega
  refine ⟨(h.okZ.take i).append (hr.append (h.okZ.drop _)), Ok.cons hqb h.okq, ?_, ?_⟩
  · rw [List.drop_left' hti, dg_append, e0, Nat.mul_zero, Nat.add_zero, hrem]
    exact Nat.mod_lt _ hY0
  · have hs := h.sum
    rw [dg_split b Z i (by omega), e1] at hs
    rw [dg_append, hti, dg_append, e0, Nat.mul_zero, Nat.add_zero, dg_cons, ← hs, hrem, hq, Nat.pow_succ]
    have hd := Nat.div_add_mod (dg b ((Z.drop i).take (n + 2))) Y
    generalize dg b ((Z.drop i).take (n + 2)) = W at *
    have e2 : b ^ i * W = b ^ i * (Y * (W / Y)) + b ^ i * (W % Y) := by rw [← Nat.mul_add, hd]
    have e3 : b ^ i * (Y * (W / Y + b * dg b qs)) = b ^ i * (Y * (W / Y)) + b ^ i * b * (Y * dg b qs) := by
      rw [Nat.mul_add, Nat.mul_add, Nat.mul_assoc (b ^ i) b, Nat.mul_left_comm Y b]
    rw [e2, e3]
    omega

theorem DvInv.out {b N Y n : Nat} {Z qs : List Nat} (h : DvInv b N Y n 0 Z qs) : dg b qs = N / Y ∧ dg b Z = N % Y := by
  have hs := h.sum
  have ht := h.top
  rw [List.drop_zero] at ht
  rw [Nat.pow_zero, Nat.one_mul] at hs
  constructor
  · rw [← hs, Nat.add_mul_div_left _ _ (by omega), Nat.div_eq_of_lt ht, Nat.zero_add]
  · rw [← hs, Nat.add_mul_mod_self_left, Nat.mod_eq_of_lt ht]

/-- The beginning: N = 2^c X has m + 1 digits, Y = 2^c Y0. -/
theorem DvInv.first {b X Y0 f n m : Nat} {Z : List Nat} (hb : 2 ≤ b) (hf : 0 < f) (hZ : Ok b Z) (hl : Z.length = m + 1) (hv : dg b Z = f * X) (hX : X < b ^ m) (hY : b ^ n ≤ Y0) (hnm : n ≤ m) :
    DvInv b (f * X) (f * Y0) n (m - n) Z [] := by
  refine ⟨hZ, Ok.nil b, ?_, by rw [dg_nil, Nat.mul_zero, Nat.mul_zero, Nat.add_zero]; exact hv⟩
  have e := dg_split b Z (m - n) (by omega)
  have hp : 0 < b ^ (m - n) := Nat.pow_pos (by omega)
  have h1 : b ^ (m - n) * dg b (Z.drop (m - n)) < b ^ (m - n) * (f * Y0) := by
    have h2 : f * X < f * b ^ m := Nat.mul_lt_mul_of_pos_left hX hf
    have h3 : f * b ^ m ≤ b ^ (m - n) * (f * Y0) := by
      have h4 := Nat.mul_le_mul_left (f * b ^ (m - n)) hY
      have h5 : b ^ m = b ^ (m - n) * b ^ n := by rw [← Nat.pow_add, show m - n + n = m by omega]
      rw [h5, ← Nat.mul_assoc, Nat.mul_left_comm, ← Nat.mul_assoc f]
      exact h4
    omega
  exact Nat.lt_of_mul_lt_mul_left h1

theorem shl_fits {b top n Y : Nat} {f : Nat} (hf : f ∣ b) (hf0 : 0 < f) (ht : top * f < b) (hY : Y < (top + 1) * b ^ n) : f * Y < b ^ (n + 1) := by
  obtain ⟨k, hk⟩ := hf
  have h1 : top < k := by
    rw [hk, Nat.mul_comm f k] at ht
    exact Nat.lt_of_mul_lt_mul_right ht
  have h2 : (top + 1) * f ≤ b := by
    rw [hk, Nat.mul_comm]
    exact Nat.mul_le_mul_left f h1
  have h3 : f * Y < f * ((top + 1) * b ^ n) := Nat.mul_lt_mul_of_pos_left hY hf0
  have h4 : f * ((top + 1) * b ^ n) = (top + 1) * f * b ^ n := by rw [← Nat.mul_assoc, Nat.mul_comm f]
  have h5 := Nat.mul_le_mul_right (b ^ n) h2
  rw [Nat.pow_succ, Nat.mul_comm (b ^ n)]
  omega

theorem dg_lt_top {b n : Nat} {ys : List Nat} (hy : Ok b ys) (hl : ys.length = n + 1) : dg b ys < (ys.getD n 0 + 1) * b ^ n ∧ ys.getD n 0 * b ^ n ≤ dg b ys := by
  have e := dg_take_succ b ys n (by omega)
  rw [List.take_of_length_le (by omega)] at e
  have h := dg_lt (hy.take n)
  rw [List.length_take, Nat.min_eq_left (by omega)] at h
  rw [e, Nat.add_mul, Nat.one_mul, Nat.mul_comm (b ^ n)]
  omega

end Dg
end Go.Proofs.YtmpfgkpimjiecaaDoor
