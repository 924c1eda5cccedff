/- Plain mathematics: numbers as lists of digits to a base, the least significant first. No program is imported. -/
namespace Go.Proofs.YtngbblofacganaaDoor
namespace Dg

/-- The value of digits to the base b. -/
def dg (b : Nat) : List Nat → Nat
  | [] => 0
  | x :: r => x + b * dg b r

theorem dg_nil (b : Nat) : dg b [] = 0 := rfl
theorem dg_cons (b x : Nat) (r : List Nat) : dg b (x :: r) = x + b * dg b r := rfl

theorem dg_append (b : Nat) (xs ys : List Nat) : dg b (xs ++ ys) = dg b xs + b ^ xs.length * dg b ys := by
  induction xs with
  | nil => simp [dg]
  | cons x r ih =>
    simp only [List.cons_append, dg, ih, List.length_cons, Nat.pow_succ, Nat.mul_add]
    rw [Nat.mul_comm (b ^ r.length) b, Nat.mul_assoc]
    omega

theorem dg_snoc (b : Nat) (xs : List Nat) (y : Nat) : dg b (xs ++ [y]) = dg b xs + b ^ xs.length * y := by
  rw [dg_append]; simp [dg]

/-- All digits are below the base. -/
def Ok (b : Nat) (xs : List Nat) : Prop := ∀ x ∈ xs, x < b

theorem Ok.nil (b : Nat) : Ok b [] := by intro x h; cases h
theorem Ok.tail {b x : Nat} {r : List Nat} (h : Ok b (x :: r)) : Ok b r := fun y hy => h y (List.mem_cons_of_mem _ hy)
theorem Ok.head {b x : Nat} {r : List Nat} (h : Ok b (x :: r)) : x < b := h x (List.mem_cons_self ..)
theorem Ok.cons {b x : Nat} {r : List Nat} (hx : x < b) (h : Ok b r) : Ok b (x :: r) := by
  intro y hy
  rcases List.mem_cons.1 hy with rfl | hy
  · exact hx
  · exact h y hy
theorem Ok.append {b : Nat} {xs ys : List Nat} (hx : Ok b xs) (hy : Ok b ys) : Ok b (xs ++ ys) := by
  intro y h
  rcases List.mem_append.1 h with h | h
  · exact hx y h
  · exact hy y h
theorem Ok.snoc {b : Nat} {xs : List Nat} {y : Nat} (hx : Ok b xs) (hy : y < b) : Ok b (xs ++ [y]) := hx.append (Ok.cons hy (Ok.nil b))
theorem Ok.left {b : Nat} {xs ys : List Nat} (h : Ok b (xs ++ ys)) : Ok b xs := fun y hy => h y (List.mem_append_left _ hy)
theorem Ok.right {b : Nat} {xs ys : List Nat} (h : Ok b (xs ++ ys)) : Ok b ys := fun y hy => h y (List.mem_append_right _ hy)
theorem Ok.take {b : Nat} {xs : List Nat} (h : Ok b xs) (n : Nat) : Ok b (xs.take n) := fun y hy => h y (List.mem_of_mem_take hy)
theorem Ok.drop {b : Nat} {xs : List Nat} (h : Ok b xs) (n : Nat) : Ok b (xs.drop n) := fun y hy => h y (List.mem_of_mem_drop hy)
theorem Ok.set {b : Nat} {xs : List Nat} (h : Ok b xs) (n : Nat) {v : Nat} (hv : v < b) : Ok b (xs.set n v) := by
  intro y hy
  rcases List.mem_or_eq_of_mem_set hy with h1 | h1
  · exact h y h1
  · rw [h1]; exact hv
theorem Ok.replicate {b : Nat} (n : Nat) {v : Nat} (hv : v < b) : Ok b (List.replicate n v) := by
  intro y hy; rw [(List.mem_replicate.1 hy).2]; exact hv
theorem Ok.reverse {b : Nat} {xs : List Nat} (h : Ok b xs) : Ok b xs.reverse := fun y hy => h y (List.mem_reverse.1 hy)
theorem Ok.getD {b : Nat} {xs : List Nat} (h : Ok b xs) (hb : 0 < b) (n : Nat) : xs.getD n 0 < b := by
  rw [List.getD]
  cases e : xs[n]? with
  | none => simpa using hb
  | some y => exact h y (List.mem_of_getElem? e)

theorem dg_lt {b : Nat} {xs : List Nat} (h : Ok b xs) : dg b xs < b ^ xs.length := by
  induction xs with
  | nil => simp [dg]
  | cons x r ih =>
    have hx := h.head
    have hr := ih h.tail
    have h1 : b * (dg b r + 1) ≤ b * b ^ r.length := Nat.mul_le_mul_left b hr
    simp only [dg, List.length_cons, Nat.pow_succ]
    rw [Nat.mul_comm (b ^ r.length) b]
    rw [Nat.mul_add] at h1
    omega

theorem dg_zeros (b n : Nat) : dg b (List.replicate n 0) = 0 := by
  induction n with
  | zero => rfl
  | succ n ih => simp [List.replicate_succ, dg, ih]

theorem dg_split (b : Nat) (xs : List Nat) (k : Nat) (hk : k ≤ xs.length) : dg b xs = dg b (xs.take k) + b ^ k * dg b (xs.drop k) := by
  have h := dg_append b (xs.take k) (xs.drop k)
  rw [List.take_append_drop, List.length_take, Nat.min_eq_left hk] at h
  exact h

theorem take_succ_getD (xs : List Nat) (k : Nat) (hk : k < xs.length) : xs.take (k + 1) = xs.take k ++ [xs.getD k 0] := by
  rw [List.take_add_one, List.getElem?_eq_getElem hk]; simp [List.getD, List.getElem?_eq_getElem hk]

theorem dg_take_succ (b : Nat) (xs : List Nat) (k : Nat) (hk : k < xs.length) : dg b (xs.take (k + 1)) = dg b (xs.take k) + b ^ k * xs.getD k 0 := by
  rw [take_succ_getD xs k hk, dg_snoc, List.length_take, Nat.min_eq_left (by omega)]

theorem drop_eq_getD_cons (xs : List Nat) (k : Nat) (hk : k < xs.length) : xs.drop k = xs.getD k 0 :: xs.drop (k + 1) := by
  rw [List.drop_eq_getElem_cons hk]; simp [List.getD, List.getElem?_eq_getElem hk]

theorem dg_drop (b : Nat) (xs : List Nat) (k : Nat) (hk : k < xs.length) : dg b (xs.drop k) = xs.getD k 0 + b * dg b (xs.drop (k + 1)) := by
  rw [drop_eq_getD_cons xs k hk, dg_cons]

/-- No zero at the end. -/
def Trim (xs : List Nat) : Prop := ∀ h : xs ≠ [], xs.getLast h ≠ 0

theorem Trim.nil : Trim [] := fun h => absurd rfl h

theorem pow_le_of_trim {b : Nat} {xs : List Nat} (ht : Trim xs) (hne : xs ≠ []) : b ^ (xs.length - 1) ≤ dg b xs := by
  have e := List.dropLast_concat_getLast hne
  have h := dg_snoc b xs.dropLast (xs.getLast hne)
  rw [e, List.length_dropLast] at h
  rw [h]
  have h1 : 1 ≤ xs.getLast hne := Nat.one_le_iff_ne_zero.2 (ht hne)
  have h2 := Nat.mul_le_mul_left (b ^ (xs.length - 1)) h1
  omega

/-- The digits of n to the base b (at least 2), without zeros at the end. -/
def digs (b n : Nat) : List Nat :=
  if _h : n = 0 ∨ b < 2 then [] else n % b :: digs b (n / b)
termination_by n
decreasing_by exact Nat.div_lt_self (by omega) (by omega)

theorem digs_zero (b : Nat) : digs b 0 = [] := by unfold digs; simp
theorem digs_pos {b n : Nat} (hb : 2 ≤ b) (hn : n ≠ 0) : digs b n = n % b :: digs b (n / b) := by
  rw [digs, dif_neg (by omega)]

theorem dg_digs {b : Nat} (hb : 2 ≤ b) (n : Nat) : dg b (digs b n) = n := by
  induction n using Nat.strongRecOn with
  | _ n ih =>
    by_cases hn : n = 0
    · subst hn; rw [digs_zero]; rfl
    · rw [digs_pos hb hn, dg_cons, ih (n / b) (Nat.div_lt_self (by omega) (by omega))]
      have := Nat.div_add_mod n b
      omega

theorem digs_ok {b : Nat} (hb : 2 ≤ b) (n : Nat) : Ok b (digs b n) := by
  induction n using Nat.strongRecOn with
  | _ n ih =>
    by_cases hn : n = 0
    · subst hn; rw [digs_zero]; exact Ok.nil b
    · rw [digs_pos hb hn]
      exact Ok.cons (Nat.mod_lt _ (by omega)) (ih (n / b) (Nat.div_lt_self (by omega) (by omega)))

theorem Trim.tail {x : Nat} {r : List Nat} (h : Trim (x :: r)) : Trim r := by
  intro hr
  have := h (by simp)
  rwa [List.getLast_cons hr] at this

theorem dg_ne_zero {b : Nat} (hb : 0 < b) {xs : List Nat} (ht : Trim xs) (hne : xs ≠ []) : dg b xs ≠ 0 := by
  have h := pow_le_of_trim (b := b) ht hne
  have := Nat.pow_pos (n := xs.length - 1) hb
  omega

/-- Digits without zeros at the end are the digits of their value. -/
theorem digs_dg {b : Nat} (hb : 2 ≤ b) {xs : List Nat} (hk : Ok b xs) (ht : Trim xs) : digs b (dg b xs) = xs := by
  induction xs with
  | nil => exact digs_zero b
  | cons x r ih =>
    have hne := dg_ne_zero (b := b) (by omega) ht (by simp)
    rw [digs_pos hb hne, dg_cons]
    have hx := hk.head
    have e1 : (x + b * dg b r) % b = x := by rw [Nat.add_mul_mod_self_left, Nat.mod_eq_of_lt hx]
    have e2 : (x + b * dg b r) / b = dg b r := by rw [Nat.add_mul_div_left _ _ (by omega), Nat.div_eq_of_lt hx, Nat.zero_add]
    rw [e1, e2, ih hk.tail ht.tail]

theorem digs_trim {b : Nat} (hb : 2 ≤ b) (n : Nat) : Trim (digs b n) := by
  induction n using Nat.strongRecOn with
  | _ n ih =>
    by_cases hn : n = 0
    · subst hn; rw [digs_zero]; exact Trim.nil
    · intro hne
      have hlt := Nat.div_lt_self (n := n) (k := b) (by omega) (by omega)
      by_cases hq : n / b = 0
      · have hnb : n < b := by
          rcases Nat.div_eq_zero_iff.1 hq with h | h
          · omega
          · exact h
        simp only [digs_pos hb hn, hq, digs_zero, List.getLast_singleton]
        rw [Nat.mod_eq_of_lt hnb]; exact hn
      · have hd : digs b (n / b) ≠ [] := by rw [digs_pos hb hq]; simp
        simp only [digs_pos hb hn]
        rw [List.getLast_cons hd]
        exact ih (n / b) hlt hd

theorem digs_length_le {b : Nat} (hb : 2 ≤ b) {n k : Nat} (h : n < b ^ k) : (digs b n).length ≤ k := by
  by_cases hne : digs b n = []
  · rw [hne]; exact Nat.zero_le _
  · have h1 := pow_le_of_trim (b := b) (digs_trim hb n) hne
    rw [dg_digs hb] at h1
    have h2 : b ^ ((digs b n).length - 1) < b ^ k := Nat.lt_of_le_of_lt h1 h
    have h3 := (Nat.pow_lt_pow_iff_right (a := b) (by omega)).1 h2
    omega

theorem digs_length_mono {b : Nat} (hb : 2 ≤ b) {m n : Nat} (h : m ≤ n) : (digs b m).length ≤ (digs b n).length := by
  refine digs_length_le hb (Nat.lt_of_le_of_lt h ?_)
  have := dg_lt (digs_ok hb n)
  rwa [dg_digs hb] at this

theorem digs_eq_nil {b n : Nat} (hb : 2 ≤ b) : digs b n = [] ↔ n = 0 := by
  constructor
  · intro h; have := dg_digs hb n; rw [h] at this; exact this.symm
  · rintro rfl; exact digs_zero b

/-- Remove the zeros at the end. -/
def cut : List Nat → List Nat
  | [] => []
  | x :: r => match cut r with
    | [] => if x = 0 then [] else [x]
    | y :: s => x :: y :: s

theorem cut_trim (xs : List Nat) : Trim (cut xs) := by
  induction xs with
  | nil => exact Trim.nil
  | cons x r ih =>
    simp only [cut]
    cases h : cut r with
    | nil =>
      simp only []
      by_cases hx : x = 0
      · rw [if_pos hx]; exact Trim.nil
      · rw [if_neg hx]; intro _; simpa using hx
    | cons y s =>
      simp only []
      intro hne
      rw [List.getLast_cons (by simp)]
      rw [h] at ih
      exact ih (by simp)

theorem dg_cut (b : Nat) (xs : List Nat) : dg b (cut xs) = dg b xs := by
  induction xs with
  | nil => rfl
  | cons x r ih =>
    simp only [cut]
    cases h : cut r with
    | nil =>
      rw [h] at ih
      simp only []
      by_cases hx : x = 0
      · rw [if_pos hx]; simp only [dg_cons, ← ih, hx]; simp [dg]
      · rw [if_neg hx]; simp only [dg_cons, ← ih]
    | cons y s =>
      rw [h] at ih
      simp only []
      rw [dg_cons, ih, dg_cons]

theorem cut_ok {b : Nat} {xs : List Nat} (hk : Ok b xs) : Ok b (cut xs) := by
  induction xs with
  | nil => exact hk
  | cons x r ih =>
    have h2 := ih hk.tail
    simp only [cut]
    cases h : cut r with
    | nil =>
      simp only []
      by_cases hx : x = 0
      · rw [if_pos hx]; exact Ok.nil b
      · rw [if_neg hx]; exact Ok.cons hk.head (Ok.nil b)
    | cons y s => rw [h] at h2; exact Ok.cons hk.head h2

theorem cut_eq {b : Nat} (hb : 2 ≤ b) {xs : List Nat} (hk : Ok b xs) : cut xs = digs b (dg b xs) := by
  have h := digs_dg hb (cut_ok hk) (cut_trim xs)
  rw [dg_cut] at h
  exact h.symm

theorem cut_of_trim {b : Nat} (hb : 2 ≤ b) {xs : List Nat} (hk : Ok b xs) (ht : Trim xs) : cut xs = xs := by
  rw [cut_eq hb hk, digs_dg hb hk ht]

theorem cut_snoc_zero (xs : List Nat) : cut (xs ++ [0]) = cut xs := by
  induction xs with
  | nil => simp [cut]
  | cons x r ih => simp only [List.cons_append, cut, ih]

theorem cut_snoc_pos (xs : List Nat) {y : Nat} (hy : y ≠ 0) : cut (xs ++ [y]) = xs ++ [y] := by
  induction xs with
  | nil => simp [cut, hy]
  | cons x r ih =>
    simp only [List.cons_append, cut, ih]
    cases h : r ++ [y] with
    | nil => simp at h
    | cons a s => rfl

/-- Equal values, equal digits. -/
theorem dg_inj {b : Nat} (hb : 2 ≤ b) {xs ys : List Nat} (hx : Ok b xs) (hy : Ok b ys) (hl : xs.length = ys.length) (h : dg b xs = dg b ys) : xs = ys := by
  induction xs generalizing ys with
  | nil => cases ys with
    | nil => rfl
    | cons y s => simp at hl
  | cons x r ih => cases ys with
    | nil => simp at hl
    | cons y s =>
      simp only [dg_cons] at h
      have e1 : (x + b * dg b r) % b = x := by rw [Nat.add_mul_mod_self_left, Nat.mod_eq_of_lt hx.head]
      have e2 : (y + b * dg b s) % b = y := by rw [Nat.add_mul_mod_self_left, Nat.mod_eq_of_lt hy.head]
      have e : x = y := by rw [← e1, ← e2, h]
      subst e
      have e3 : dg b r = dg b s := Nat.eq_of_mul_eq_mul_left (show 0 < b by omega) (by omega)
      rw [ih hx.tail hy.tail (by simpa using hl) e3]

end Dg
end Go.Proofs.YtngbblofacganaaDoor
