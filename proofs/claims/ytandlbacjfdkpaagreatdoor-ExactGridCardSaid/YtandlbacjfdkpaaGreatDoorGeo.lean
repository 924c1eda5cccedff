/- Determinants, normals and the order of points: what the laws say of them. -/
import Derived.Test.YtandlbacjfdkpaaGreatDoorNrm
import Derived.Test.YtandlbacjfdkpaaGreatDoorSide
import Derived.Test.YtandlbacjfdkpaaGreatDoorLess
import Derived.Test.YtandlbacjfdkpaaGreatDoorTou
import Derived.Test.YtandlbacjfdkpaaGreatDoorTri
namespace Go.Proofs.YtandlbacjfdkpaaGreatDoor
open Go Go.RowKit

theorem det_12 (a b c d : P3) : detI b a c d = -detI a b c d := by simp only [detI, dotI, crsI, difI]; grind
theorem det_23 (a b c d : P3) : detI a c b d = -detI a b c d := by simp only [detI, dotI, crsI, difI]; grind
theorem det_34 (a b c d : P3) : detI a b d c = -detI a b c d := by simp only [detI, dotI, crsI, difI]; grind
theorem det_14 (a b c d : P3) : detI d b c a = -detI a b c d := by simp only [detI, dotI, crsI, difI]; grind
theorem det_aa (a c d : P3) : detI a a c d = 0 := by simp only [detI, dotI, crsI, difI]; grind
theorem det_ad (a b c : P3) : detI a b c a = 0 := by simp only [detI, dotI, crsI, difI]; grind
theorem det_bb (a b d : P3) : detI a b b d = 0 := by simp only [detI, dotI, crsI, difI]; grind

/-- The order of points, in words. -/
theorem lessI_eq (a b : P3) : lessI a b = decide (a.x < b.x ∨ a.x = b.x ∧ (a.y < b.y ∨ a.y = b.y ∧ a.z < b.z)) := by
  unfold lessI lst
  simp only
  by_cases h1 : a.x = b.x
  · rw [if_pos h1]
    by_cases h2 : a.y = b.y
    · rw [if_pos h2]
      by_cases h3 : a.z = b.z
      · rw [if_pos h3]; symm; exact decide_eq_false (by omega)
      · rw [if_neg h3]; exact decide_eq_decide.2 (by omega)
    · rw [if_neg h2]; exact decide_eq_decide.2 (by omega)
  · rw [if_neg h1]; exact decide_eq_decide.2 (by omega)
theorem ptE_iff (p q : P3) : ptE p q = decide (p.x = q.x ∧ p.y = q.y ∧ p.z = q.z) := by
  unfold ptE
  by_cases h1 : p.x = q.x <;> by_cases h2 : p.y = q.y <;> by_cases h3 : p.z = q.z <;> simp [h1, h2, h3]
/-- One of two points is less, or they are equal. -/
theorem less_or (a b : P3) : (lessI a b = !lessI b a) ∨ (lessI a b = false ∧ lessI b a = false ∧ ptE a b = true) := by
  rw [lessI_eq, lessI_eq, ptE_iff]
  by_cases h : a.x < b.x ∨ a.x = b.x ∧ (a.y < b.y ∨ a.y = b.y ∧ a.z < b.z)
  · left; rw [decide_eq_true h, decide_eq_false (by omega)]; rfl
  · by_cases g : b.x < a.x ∨ b.x = a.x ∧ (b.y < a.y ∨ b.y = a.y ∧ b.z < a.z)
    · left; rw [decide_eq_false h, decide_eq_true g]; rfl
    · right; exact ⟨decide_eq_false h, decide_eq_false g, decide_eq_true (by omega)⟩
theorem less_trans (a b c : P3) (h : lessI a b = true) (g : lessI b c = true) : lessI a c = true := by
  rw [lessI_eq] at *
  have h' := of_decide_eq_true h
  have g' := of_decide_eq_true g
  exact decide_eq_true (by omega)

/-- The normal is orthogonal to the sides. -/
theorem nrm_ab (a b c : P3) : (nrmI a b c).x * (b.x - a.x) + (nrmI a b c).y * (b.y - a.y) + (nrmI a b c).z * (b.z - a.z) = 0 := by simp only [nrmI, crsI, difI]; grind
theorem nrm_bc (a b c : P3) : (nrmI a b c).x * (c.x - b.x) + (nrmI a b c).y * (c.y - b.y) + (nrmI a b c).z * (c.z - b.z) = 0 := by simp only [nrmI, crsI, difI]; grind
theorem nrm_ca (a b c : P3) : (nrmI a b c).x * (a.x - c.x) + (nrmI a b c).y * (a.y - c.y) + (nrmI a b c).z * (a.z - c.z) = 0 := by simp only [nrmI, crsI, difI]; grind
theorem nrm_swap (a b c : P3) : (nrmI b a c).x = -(nrmI a b c).x ∧ (nrmI b a c).y = -(nrmI a b c).y ∧ (nrmI b a c).z = -(nrmI a b c).z := by
  simp only [nrmI, crsI, difI]; refine ⟨?_, ?_, ?_⟩ <;> grind
theorem flat_swap (a b c : P3) : flatI b a c = flatI a b c := by
  obtain ⟨h1, h2, h3⟩ := nrm_swap a b c
  unfold flatI
  rw [h1, h2, h3]
  have e : ∀ n : Int, (-n == 0) = (n == 0) := fun n => by
    by_cases h : n = 0
    · subst h; rfl
    · rw [beq_eq_false_iff_ne.2 h, beq_eq_false_iff_ne.2 (by omega)]
  rw [e, e, e]
theorem sq_pos_of {n : Int} (h : n ≠ 0) : 0 < n * n := by
  rcases Int.lt_trichotomy n 0 with g | g | g
  · exact Int.mul_pos_of_neg_of_neg g g
  · exact absurd g h
  · exact Int.mul_pos g g
theorem sq_nonneg_of (n : Int) : 0 ≤ n * n := by
  by_cases h : n = 0
  · subst h; simp
  · exact Int.le_of_lt (sq_pos_of h)
/-- The square of a vector is 0 for that of no length alone. -/
theorem dot_self (n : P3) : (dotI n n).sign = if (n.x == 0 && n.y == 0 && n.z == 0) = true then 0 else 1 := by
  have hx := sq_nonneg_of n.x
  have hy := sq_nonneg_of n.y
  have hz := sq_nonneg_of n.z
  unfold dotI
  split
  · rename_i h
    simp only [Bool.and_eq_true, beq_iff_eq] at h
    rw [h.1.1, h.1.2, h.2]; rfl
  · rename_i h
    simp only [Bool.and_eq_true, beq_iff_eq] at h
    apply Int.sign_eq_one_of_pos
    by_cases h1 : n.x = 0
    · by_cases h2 : n.y = 0
      · have := sq_pos_of (fun h3 => h ⟨⟨h1, h2⟩, h3⟩); omega
      · have := sq_pos_of h2; omega
    · have := sq_pos_of h1; omega
theorem facing_self (a b c : P3) : (dotI (nrmI a b c) (nrmI a b c)).sign = if flatI a b c = true then 0 else 1 := dot_self _
theorem facing_swap (a b c : P3) : (dotI (nrmI a b c) (nrmI b a c)).sign = -(dotI (nrmI a b c) (nrmI a b c)).sign := by
  obtain ⟨h1, h2, h3⟩ := nrm_swap a b c
  rw [← Int.sign_neg]
  congr 1
  unfold dotI
  rw [h1, h2, h3]
  grind

end Go.Proofs.YtandlbacjfdkpaaGreatDoor

/- Points that are scaled and moved: no sign changes. -/
namespace Go.Proofs.YtandlbacjfdkpaaGreatDoor
open Go Go.RowKit Dg

/-- A vector that is scaled. -/
def scl (k : Int) (v : P3) : P3 := ⟨k * v.x, k * v.y, k * v.z⟩
theorem dif_mov (p q b : P3) (s : Int) : difI (movI p b s) (movI q b s) = scl s (difI p q) := by
  simp only [difI, movI, scl, P3.mk.injEq]; refine ⟨?_, ?_, ?_⟩ <;> grind
theorem crs_scl (s : Int) (v u : P3) : crsI (scl s v) (scl s u) = scl (s * s) (crsI v u) := by
  simp only [crsI, scl, P3.mk.injEq]; refine ⟨?_, ?_, ?_⟩ <;> grind
theorem dot_scl (s t : Int) (v u : P3) : dotI (scl s v) (scl t u) = s * t * dotI v u := by
  simp only [dotI, scl]; grind
theorem nrm_mov (p q r b : P3) (s : Int) : nrmI (movI p b s) (movI q b s) (movI r b s) = scl (s * s) (nrmI p q r) := by
  unfold nrmI; rw [dif_mov, dif_mov, crs_scl]
theorem sign_pos_mul {k : Int} (hk : 0 < k) (x : Int) : (k * x).sign = x.sign := by
  rw [Int.sign_mul, Int.sign_eq_one_of_pos hk, Int.one_mul]
theorem beq_mul (x : Int) {k : Int} (hk : 0 < k) : (k * x == 0) = (x == 0) := by
  have h := sign_pos_mul hk x
  by_cases e : x = 0
  · subst e; simp
  · rw [beq_eq_false_iff_ne.2 e, beq_eq_false_iff_ne.2 (fun g => by rw [g] at h; exact e (Int.sign_eq_zero_iff_zero.1 (by rw [← h]; rfl)))]
section
variable {s : Int} (hs : 0 < s)
include hs
theorem ss_pos : 0 < s * s := Int.mul_pos hs hs
theorem det_mov (p q r t b : P3) : (detI (movI p b s) (movI q b s) (movI r b s) (movI t b s)).sign = (detI p q r t).sign := by
  unfold detI
  rw [dif_mov, dif_mov, dif_mov, crs_scl, dot_scl, sign_pos_mul (Int.mul_pos (ss_pos hs) hs)]
theorem face_mov (p q r t u v b : P3) : (dotI (nrmI (movI p b s) (movI q b s) (movI r b s)) (nrmI (movI t b s) (movI u b s) (movI v b s))).sign = (dotI (nrmI p q r) (nrmI t u v)).sign := by
  rw [nrm_mov, nrm_mov, dot_scl, sign_pos_mul (Int.mul_pos (ss_pos hs) (ss_pos hs))]
theorem flat_mov (p q r b : P3) : flatI (movI p b s) (movI q b s) (movI r b s) = flatI p q r := by
  unfold flatI
  rw [nrm_mov]
  simp only [scl]
  rw [beq_mul _ (ss_pos hs), beq_mul _ (ss_pos hs), beq_mul _ (ss_pos hs)]
theorem lt_mov (x y t : Int) : x * s + t < y * s + t ↔ x < y := by
  constructor
  · intro h; exact Int.lt_of_mul_lt_mul_right (by omega) (Int.le_of_lt hs)
  · intro h; have := Int.mul_lt_mul_of_pos_right h hs; omega
theorem eq_mov (x y t : Int) : x * s + t = y * s + t ↔ x = y := by
  have h1 := lt_mov hs x y t
  have h2 := lt_mov hs y x t
  omega
theorem less_mov (p q b : P3) : lessI (movI p b s) (movI q b s) = lessI p q := by
  rw [lessI_eq, lessI_eq]
  simp only [movI]
  exact decide_eq_decide.2 (by rw [lt_mov hs, lt_mov hs, lt_mov hs, eq_mov hs, eq_mov hs])
theorem side_mov (p q r t b : P3) : sideI (movI p b s) (movI q b s) (movI r b s) (movI t b s) = sideI p q r t := by
  unfold sideI
  have e := nrm_mov p q r b s
  have e1 : (nrmI (movI p b s) (movI q b s) (movI r b s)).x.sign = (nrmI p q r).x.sign := by rw [e]; exact sign_pos_mul (ss_pos hs) _
  have e2 : (nrmI (movI p b s) (movI q b s) (movI r b s)).y.sign = (nrmI p q r).y.sign := by rw [e]; exact sign_pos_mul (ss_pos hs) _
  have e3 : (nrmI (movI p b s) (movI q b s) (movI r b s)).z.sign = (nrmI p q r).z.sign := by rw [e]; exact sign_pos_mul (ss_pos hs) _
  rw [det_mov hs, e1, e2, e3]
theorem same_mov (p q r t b : P3) : sameI (movI p b s) (movI q b s) (movI r b s) (movI t b s) = sameI p q r t := by
  unfold sameI; rw [face_mov hs]
theorem lo_mov (p q b : P3) : lo (movI p b s) (movI q b s) = movI (lo p q) b s := by
  unfold lo; rw [less_mov hs]; split <;> rfl
theorem hi_mov (p q b : P3) : hi (movI p b s) (movI q b s) = movI (hi p q) b s := by
  unfold hi; rw [less_mov hs]; split <;> rfl
theorem ovl_mov (p q r t b : P3) : ovlI (movI p b s) (movI q b s) (movI r b s) (movI t b s) = ovlI p q r t := by
  unfold ovlI; rw [lo_mov hs, lo_mov hs, hi_mov hs, hi_mov hs, less_mov hs, less_mov hs]
theorem seg_mov (p q r t b : P3) : segI (movI p b s) (movI q b s) (movI r b s) (movI t b s) = segI p q r t := by
  unfold segI
  rw [det_mov hs, flat_mov hs, flat_mov hs, flat_mov hs, flat_mov hs, ovl_mov hs, same_mov hs, same_mov hs]
theorem tip_mov (p q a c d b : P3) : tipI (movI p b s) (movI q b s) (movI a b s) (movI c b s) (movI d b s) = tipI p q a c d := by
  unfold tipI covI turns tipB covB
  simp only [List.any_cons, List.any_nil]
  rw [seg_mov hs, seg_mov hs, seg_mov hs, flat_mov hs, face_mov hs, face_mov hs, face_mov hs]
theorem pierce_mov (p q a c d b : P3) : pierceI (movI p b s) (movI q b s) (movI a b s) (movI c b s) (movI d b s) = pierceI p q a c d := by
  unfold pierceI leftOf rightOf turns
  simp only [List.any_cons, List.any_nil]
  rw [det_mov hs, det_mov hs, det_mov hs]
theorem touch_mov (p q a c d b : P3) : touchI (movI p b s) (movI q b s) (movI a b s) (movI c b s) (movI d b s) = touchI p q a c d := by
  unfold touchI touchN
  rw [det_mov hs, det_mov hs, tip_mov hs, pierce_mov hs]
end

end Go.Proofs.YtandlbacjfdkpaaGreatDoor

/- A point of a triangle, by weights of its corners: what its segments touch (ExactInside). -/
namespace Go.Proofs.YtandlbacjfdkpaaGreatDoor
open Go Go.RowKit Dg

/-- p is the point of the triangle a b c with the weights u v t: all of their sum s times. -/
structure Wgt (p a b c : P3) (u v t : Int) : Prop where
  hu : 0 ≤ u
  hv : 0 ≤ v
  ht : 0 ≤ t
  pos : 0 < u + v + t
  x : (u + v + t) * p.x = u * a.x + v * b.x + t * c.x
  y : (u + v + t) * p.y = u * a.y + v * b.y + t * c.y
  z : (u + v + t) * p.z = u * a.z + v * b.z + t * c.z
theorem Wgt.turn {p a b c : P3} {u v t : Int} (h : Wgt p a b c u v t) : Wgt p b c a v t u :=
  ⟨h.hv, h.ht, h.hu, by have := h.pos; omega, by have := h.x; grind, by have := h.y; grind, by have := h.z; grind⟩

/-- The volumes over an edge, by the weights. -/
theorem det_edge {p a b c q : P3} {u v t : Int} (h : Wgt p a b c u v t) : (u + v + t) * detI p q a b = t * detI a b c q := by
  have hx := h.x
  have hy := h.y
  have hz := h.z
  simp only [detI, dotI, crsI, difI]
  grind
theorem det_plane {p a b c : P3} {u v t : Int} (h : Wgt p a b c u v t) : detI a b c p = 0 := by
  have hx := h.x
  have hy := h.y
  have hz := h.z
  have e : (u + v + t) * detI a b c p = 0 := by
    simp only [detI, dotI, crsI, difI]
    grind
  rcases Int.mul_eq_zero.1 e with g | g
  · have := h.pos; omega
  · exact g

/-- A product with the sign of D, or 0. -/
def Along (x D : Int) : Prop := (0 ≤ D → 0 ≤ x) ∧ (D ≤ 0 → x ≤ 0)
theorem along_of {x D s m : Int} (hs : 0 < s) (hm : 0 ≤ m) (h : s * x = m * D) : Along x D := by
  refine ⟨fun hD => ?_, fun hD => ?_⟩
  · have h1 : 0 ≤ s * x := by rw [h]; exact Int.mul_nonneg hm hD
    exact Int.nonneg_of_mul_nonneg_right h1 hs
  · have h1 : s * x ≤ 0 := by rw [h]; exact Int.mul_nonpos_of_nonneg_of_nonpos hm hD
    rcases Int.lt_or_le 0 x with g | g
    · have := Int.mul_pos hs g; omega
    · exact g
theorem Along.two {x D : Int} (h : Along x D) : Along (2 * x) D := ⟨fun g => by have := h.1 g; omega, fun g => by have := h.2 g; omega⟩
theorem Along.neg {x D : Int} (h : Along x D) : Along (-x) (-D) := ⟨fun g => by have := h.2 (by omega); omega, fun g => by have := h.1 (by omega); omega⟩
theorem sign_nonneg {x : Int} (h : 0 ≤ x) : decide (x.sign < 0) = false := by
  rcases Int.lt_or_eq_of_le h with g | g
  · rw [Int.sign_eq_one_of_pos g]; rfl
  · rw [← g]; rfl
theorem sign_nonpos {x : Int} (h : x ≤ 0) : decide (0 < x.sign) = false := by
  rcases Int.lt_or_eq_of_le h with g | g
  · rw [Int.sign_eq_neg_one_of_neg g]; rfl
  · rw [g]; rfl
theorem pierce_along {p q a b c : P3} {D : Int} (h1 : Along (detI p q a b) D) (h2 : Along (detI p q b c) D) (h3 : Along (detI p q c a) D) : pierceI p q a b c = true := by
  unfold pierceI leftOf rightOf turns
  simp only [List.any_cons, List.any_nil]
  rcases Int.le_total 0 D with g | g
  · rw [sign_nonneg (h1.1 g), sign_nonneg (h2.1 g), sign_nonneg (h3.1 g)]; simp
  · rw [sign_nonpos (h1.2 g), sign_nonpos (h2.2 g), sign_nonpos (h3.2 g)]; simp
/-- The other end of a segment through p. -/
structure Opp (p q r : P3) : Prop where
  x : r.x = 2 * p.x - q.x
  y : r.y = 2 * p.y - q.y
  z : r.z = 2 * p.z - q.z
theorem det_turn (a b c q : P3) : detI b c a q = detI a b c q := by simp only [detI, dotI, crsI, difI]; grind
section
variable {p a b c q r : P3} {u v t : Int} (h : Wgt p a b c u v t)
include h
theorem pierce_p : pierceI p q a b c = true := by
  have e1 := along_of h.pos h.ht (det_edge (q := q) h)
  have e2 := along_of h.turn.pos h.turn.ht (det_edge (q := q) h.turn)
  have e3 := along_of h.turn.turn.pos h.turn.turn.ht (det_edge (q := q) h.turn.turn)
  rw [det_turn a b c q] at e2
  rw [det_turn b c a q, det_turn a b c q] at e3
  exact pierce_along e1 e2 e3
omit h in
theorem det_opp (hr : Opp p q r) : detI r q a b = 2 * detI p q a b := by
  simp only [detI, dotI, crsI, difI, hr.x, hr.y, hr.z]; grind
omit h in
theorem det_opp' (hr : Opp p q r) : detI q r a b = -(2 * detI p q a b) := by
  simp only [detI, dotI, crsI, difI, hr.x, hr.y, hr.z]; grind
theorem pierce_r (hr : Opp p q r) : pierceI r q a b c = true := by
  have e1 := along_of h.pos h.ht (det_edge (q := q) h)
  have e2 := along_of h.turn.pos h.turn.ht (det_edge (q := q) h.turn)
  have e3 := along_of h.turn.turn.pos h.turn.turn.ht (det_edge (q := q) h.turn.turn)
  rw [det_turn a b c q] at e2
  rw [det_turn b c a q, det_turn a b c q] at e3
  exact pierce_along (D := detI a b c q) (by rw [det_opp hr]; exact e1.two) (by rw [det_opp hr]; exact e2.two) (by rw [det_opp hr]; exact e3.two)
theorem pierce_r' (hr : Opp p q r) : pierceI q r a b c = true := by
  have e1 := along_of h.pos h.ht (det_edge (q := q) h)
  have e2 := along_of h.turn.pos h.turn.ht (det_edge (q := q) h.turn)
  have e3 := along_of h.turn.turn.pos h.turn.turn.ht (det_edge (q := q) h.turn.turn)
  rw [det_turn a b c q] at e2
  rw [det_turn b c a q, det_turn a b c q] at e3
  exact pierce_along (D := -detI a b c q) (by rw [det_opp' hr]; exact e1.two.neg) (by rw [det_opp' hr]; exact e2.two.neg) (by rw [det_opp' hr]; exact e3.two.neg)
theorem det_r (hr : Opp p q r) : detI a b c r = -detI a b c q := by
  have e := det_plane h
  have e2 : detI a b c r = 2 * detI a b c p - detI a b c q := by
    simp only [detI, dotI, crsI, difI, hr.x, hr.y, hr.z]; grind
  rw [e2, e]; omega
/-- A segment that ends in the triangle, or passes through a point of it, touches it: where it leaves the plane. -/
theorem touch_out (hq : detI a b c q ≠ 0) : touchI p q a b c = true := by
  have e : (detI a b c q).sign ≠ 0 := fun g => hq (Int.sign_eq_zero_iff_zero.1 g)
  unfold touchI touchN
  rw [det_plane h, if_neg (fun g => e g.2), if_neg (fun g => e (by rw [← g]; rfl))]
  exact pierce_p h
theorem touch_through (hr : Opp p q r) (hq : detI a b c q ≠ 0) : touchI r q a b c = true ∧ touchI q r a b c = true := by
  have e : (detI a b c q).sign ≠ 0 := fun g => hq (Int.sign_eq_zero_iff_zero.1 g)
  have e3 : ¬ -(detI a b c q).sign = (detI a b c q).sign := by omega
  unfold touchI touchN
  rw [det_r h hr, Int.sign_neg, if_neg (fun g => e g.2), if_neg e3, if_neg (fun g => e g.1), if_neg (fun g => e3 g.symm)]
  exact ⟨pierce_r h hr, pierce_r' h hr⟩
/-- A segment on one side does not. -/
theorem touch_beyond {far : P3} (hf : Opp q p far) (hq : detI a b c q ≠ 0) : touchI q far a b c = false := by
  have e : (detI a b c q).sign ≠ 0 := fun g => hq (Int.sign_eq_zero_iff_zero.1 g)
  have e1 : detI a b c far = 2 * detI a b c q - detI a b c p := by
    simp only [detI, dotI, crsI, difI, hf.x, hf.y, hf.z]; grind
  have e2 : (detI a b c far).sign = (detI a b c q).sign := by
    rw [e1, det_plane h, Int.sub_zero]; exact sign_pos_mul (by decide) _
  unfold touchI touchN
  rw [e2, if_neg (fun g => e g.1), if_pos rfl]
end

/-! In the plane. -/
theorem nrm_turn (a b c : P3) : nrmI b c a = nrmI a b c := by
  simp only [nrmI, crsI, difI, P3.mk.injEq]; refine ⟨?_, ?_, ?_⟩ <;> grind
/-- Twice the area over an edge, along the normal. -/
def ovr (a b c x : P3) : Int := dotI (nrmI a b c) (nrmI a b x)
theorem ovr_p {p a b c : P3} {u v t : Int} (h : Wgt p a b c u v t) : (u + v + t) * ovr a b c p = t * dotI (nrmI a b c) (nrmI a b c) := by
  have hx := h.x
  have hy := h.y
  have hz := h.z
  simp only [ovr, nrmI, dotI, crsI, difI]
  grind
theorem dot_nonneg (n : P3) : 0 ≤ dotI n n := by
  have h1 := sq_nonneg_of n.x
  have h2 := sq_nonneg_of n.y
  have h3 := sq_nonneg_of n.z
  unfold dotI; omega
theorem dot_pos {a b c : P3} (h : flatI a b c = false) : 0 < dotI (nrmI a b c) (nrmI a b c) := by
  have e := facing_self a b c
  rw [h, if_neg (by decide)] at e
  exact Int.sign_eq_one_iff_pos.1 e
theorem ovr_nonneg {p a b c : P3} {u v t : Int} (h : Wgt p a b c u v t) : 0 ≤ ovr a b c p := by
  have e := ovr_p h
  have h1 : 0 ≤ (u + v + t) * ovr a b c p := by rw [e]; exact Int.mul_nonneg h.ht (dot_nonneg _)
  exact Int.nonneg_of_mul_nonneg_right h1 h.pos
theorem cov_of {a b c x : P3} (h1 : 0 ≤ ovr a b c x) (h2 : 0 ≤ ovr b c a x) (h3 : 0 ≤ ovr c a b x) : covI a b c x = true := by
  unfold covI covB turns
  unfold ovr at h1 h2 h3
  rw [nrm_turn] at h2
  rw [nrm_turn b c a, nrm_turn] at h3
  simp only [List.any_cons, List.any_nil]
  rw [sign_nonneg h1, sign_nonneg h2, sign_nonneg h3]; rfl
theorem cov_p {p a b c : P3} {u v t : Int} (h : Wgt p a b c u v t) : covI a b c p = true :=
  cov_of (ovr_nonneg h) (ovr_nonneg h.turn) (ovr_nonneg h.turn.turn)
theorem tip_p {p a b c : P3} {u v t : Int} (h : Wgt p a b c u v t) (q : P3) (hf : flatI a b c = false) : tipI p q a b c = true := by
  unfold tipI; rw [cov_p h, hf]; simp
/-- The same multiple of the normal: areas over edges add up. -/
theorem ovr_sum (a b c x : P3) : ovr a b c x + ovr b c a x + ovr c a b x = dotI (nrmI a b c) (nrmI a b c) := by
  unfold ovr
  rw [nrm_turn b c a, nrm_turn a b c]
  simp only [nrmI, dotI, crsI, difI]
  grind
theorem ovr_opp (a b c : P3) {p q r : P3} (hr : Opp p q r) : ovr a b c r = 2 * ovr a b c p - ovr a b c q := by
  simp only [ovr, nrmI, dotI, crsI, difI, hr.x, hr.y, hr.z]; grind

/-- Vectors: a product with a product. -/
theorem crs_crs (n v : P3) : crsI n (crsI v n) = ⟨dotI n n * v.x - dotI n v * n.x, dotI n n * v.y - dotI n v * n.y, dotI n n * v.z - dotI n v * n.z⟩ := by
  simp only [dotI, crsI, P3.mk.injEq]; refine ⟨?_, ?_, ?_⟩ <;> grind
theorem crs_edge (e f g : P3) : crsI (crsI e g) (crsI e f) = scl (-dotI (crsI e f) g) e := by
  simp only [dotI, crsI, scl, P3.mk.injEq]; refine ⟨?_, ?_, ?_⟩ <;> grind
/-- In the plane: a vector by two others. -/
theorem in_plane (e f g : P3) (h : dotI (crsI e f) g = 0) : scl (dotI (crsI e f) (crsI e f)) g = ⟨dotI (crsI e f) (crsI g f) * e.x + dotI (crsI e f) (crsI e g) * f.x, dotI (crsI e f) (crsI g f) * e.y + dotI (crsI e f) (crsI e g) * f.y, dotI (crsI e f) (crsI g f) * e.z + dotI (crsI e f) (crsI e g) * f.z⟩ := by
  simp only [dotI, crsI, scl, P3.mk.injEq] at *; refine ⟨?_, ?_, ?_⟩ <;> grind

theorem crs3 (u v n : P3) : crsI (crsI u v) n = ⟨dotI u n * v.x - dotI v n * u.x, dotI u n * v.y - dotI v n * u.y, dotI u n * v.z - dotI v n * u.z⟩ := by
  simp only [dotI, crsI, P3.mk.injEq]; refine ⟨?_, ?_, ?_⟩ <;> grind
/-- A vector along the normal. -/
theorem par_dot {n v : P3} (u : P3) (h : crsI v n = ⟨0, 0, 0⟩) : dotI n n * dotI v u = dotI n v * dotI n u := by
  have e := crs_crs n v
  rw [h] at e
  have e0 : crsI n ⟨0, 0, 0⟩ = ⟨0, 0, 0⟩ := by simp [crsI]
  rw [e0] at e
  simp only [P3.mk.injEq] at e
  obtain ⟨e1, e2, e3⟩ := e
  have d1 : dotI v u = v.x * u.x + v.y * u.y + v.z * u.z := rfl
  have d2 : dotI n u = n.x * u.x + n.y * u.y + n.z * u.z := rfl
  rw [d1, d2]
  generalize dotI n n = s at *
  generalize dotI n v = t at *
  grind
theorem dot_comm (u v : P3) : dotI u v = dotI v u := by unfold dotI; grind
section
variable {a b c p q r : P3}
/-- Two points of the plane, as they are seen from an edge. -/
theorem same_edge (hr : detI a b c r = 0) : dotI (nrmI a b c) (nrmI a b c) * dotI (nrmI a b r) (nrmI a b q) = ovr a b c r * ovr a b c q := by
  refine par_dot (nrmI a b q) ?_
  have e := crs_edge (difI a b) (difI a c) (difI a r)
  have h0 : dotI (crsI (difI a b) (difI a c)) (difI a r) = 0 := hr
  rw [h0] at e
  show crsI (crsI (difI a b) (difI a r)) (crsI (difI a b) (difI a c)) = _
  rw [e]; simp [scl]
/-- Two corners, as they are seen from a segment in the plane. -/
theorem same_cut (hr : detI a b c r = 0) (hq : detI a b c q = 0) (x y : P3) (hx : detI a b c x = 0) :
    dotI (nrmI a b c) (nrmI a b c) * dotI (nrmI r q x) (nrmI r q y) = dotI (nrmI a b c) (nrmI r q x) * dotI (nrmI a b c) (nrmI r q y) := by
  refine par_dot (nrmI r q y) ?_
  have e := crs3 (difI r q) (difI r x) (nrmI a b c)
  have h1 : dotI (difI r q) (nrmI a b c) = 0 := by
    have : dotI (difI r q) (nrmI a b c) = detI a b c q - detI a b c r := by simp only [detI, nrmI, dotI, crsI, difI]; grind
    rw [this, hq, hr]; rfl
  have h2 : dotI (difI r x) (nrmI a b c) = 0 := by
    have : dotI (difI r x) (nrmI a b c) = detI a b c x - detI a b c r := by simp only [detI, nrmI, dotI, crsI, difI]; grind
    rw [this, hx, hr]; rfl
  show crsI (crsI (difI r q) (difI r x)) (nrmI a b c) = _
  rw [e, h1, h2]; simp
theorem glide (n a b p q r : P3) (s k g m : Int) (hr : Opp p q r) (ex : k * (s * (r.x - a.x)) - g * (s * (p.x - a.x)) = m * (b.x - a.x)) (ey : k * (s * (r.y - a.y)) - g * (s * (p.y - a.y)) = m * (b.y - a.y)) (ez : k * (s * (r.z - a.z)) - g * (s * (p.z - a.z)) = m * (b.z - a.z)) :
    m * dotI n (nrmI r q b) = -((s * (k - g) - m) * dotI n (nrmI r q a)) := by
  have hx := hr.x
  have hy := hr.y
  have hz := hr.z
  have e : m * dotI n (nrmI r q b) - m * dotI n (nrmI r q a) = dotI n (crsI (difI r q) ⟨m * (b.x - a.x), m * (b.y - a.y), m * (b.z - a.z)⟩) := by
    simp only [nrmI, dotI, crsI, difI]; grind
  rw [← ex, ← ey, ← ez] at e
  have e2 : dotI n (crsI (difI r q) ⟨k * (s * (r.x - a.x)) - g * (s * (p.x - a.x)), k * (s * (r.y - a.y)) - g * (s * (p.y - a.y)), k * (s * (r.z - a.z)) - g * (s * (p.z - a.z))⟩) = -(s * (k - g)) * dotI n (nrmI r q a) := by
    have kx : q.x = 2 * p.x - r.x := by omega
    have ky : q.y = 2 * p.y - r.y := by omega
    have kz : q.z = 2 * p.z - r.z := by omega
    simp only [nrmI, dotI, crsI, difI, kx, ky, kz]; grind
  rw [e2, Int.neg_mul] at e
  rw [Int.sub_mul]
  omega
theorem prod_nonpos {m u x y : Int} (hm : 0 ≤ m) (hu : 0 ≤ u) (hp : 0 < m + u) (h : m * y = -(u * x)) : x * y ≤ 0 := by
  rcases Int.lt_or_eq_of_le hm with g | g
  · have e : m * (x * y) = -(u * (x * x)) := by rw [Int.mul_left_comm, h, Int.mul_neg, Int.mul_left_comm]
    have h1 : 0 ≤ u * (x * x) := Int.mul_nonneg hu (sq_nonneg_of x)
    rcases Int.lt_or_le 0 (x * y) with k | k
    · have := Int.mul_pos g k; omega
    · exact k
  · subst g
    have e : u * x = 0 := by rw [Int.zero_mul] at h; omega
    rcases Int.mul_eq_zero.1 e with k | k
    · omega
    · rw [k]; simp
end

/-- Of three ratios the least. -/
theorem pick_trans {p1 p2 p3 r1 r2 r3 : Int} (h1 : r1 < 0) (h2 : r2 < 0) (h3 : r3 < 0) (a : p2 * r1 ≤ p1 * r2) (b : p3 * r2 ≤ p2 * r3) : p3 * r1 ≤ p1 * r3 := by
  have e1 : p2 * r1 * -r3 ≤ p1 * r2 * -r3 := Int.mul_le_mul_of_nonneg_right a (by omega)
  have e2 : p3 * r2 * -r1 ≤ p2 * r3 * -r1 := Int.mul_le_mul_of_nonneg_right b (by omega)
  have e3 : p3 * r1 * -r2 ≤ p1 * r3 * -r2 := by
    have k1 : p3 * r1 * -r2 = p3 * r2 * -r1 := by rw [Int.mul_neg, Int.mul_neg, Int.mul_assoc, Int.mul_assoc, Int.mul_comm r1 r2]
    have k2 : p1 * r3 * -r2 = p1 * r2 * -r3 := by rw [Int.mul_neg, Int.mul_neg, Int.mul_assoc, Int.mul_assoc, Int.mul_comm r2 r3]
    have k3 : p2 * r3 * -r1 = p2 * r1 * -r3 := by rw [Int.mul_neg, Int.mul_neg, Int.mul_assoc, Int.mul_assoc, Int.mul_comm r1 r3]
    rw [k1, k2]
    omega
  exact Int.le_of_mul_le_mul_right e3 (by omega)
theorem pick_far {p1 p2 r1 r2 : Int} (hp1 : 0 ≤ p1) (hp2 : 0 ≤ p2) (h1 : r1 < 0) (h2 : 0 ≤ r2) : p2 * r1 ≤ p1 * r2 := by
  have e1 := Int.mul_nonneg hp1 h2
  have e2 := Int.mul_nonneg hp2 (show 0 ≤ -r1 by omega)
  rw [Int.mul_neg] at e2
  omega
theorem pick {p1 p2 p3 r1 r2 r3 : Int} (hp1 : 0 ≤ p1) (hp2 : 0 ≤ p2) (hp3 : 0 ≤ p3) :
    (0 ≤ r1 ∧ 0 ≤ r2 ∧ 0 ≤ r3) ∨ (r1 < 0 ∧ p2 * r1 ≤ p1 * r2 ∧ p3 * r1 ≤ p1 * r3) ∨ (r2 < 0 ∧ p3 * r2 ≤ p2 * r3 ∧ p1 * r2 ≤ p2 * r1) ∨ (r3 < 0 ∧ p1 * r3 ≤ p3 * r1 ∧ p2 * r3 ≤ p3 * r2) := by
  rcases Int.lt_or_le r1 0 with h1 | h1 <;> rcases Int.lt_or_le r2 0 with h2 | h2 <;> rcases Int.lt_or_le r3 0 with h3 | h3
  · rcases Int.le_total (p2 * r1) (p1 * r2) with a | a
    · rcases Int.le_total (p3 * r1) (p1 * r3) with b | b
      · exact .inr (.inl ⟨h1, a, b⟩)
      · exact .inr (.inr (.inr ⟨h3, b, pick_trans h3 h1 h2 b a⟩))
    · rcases Int.le_total (p3 * r2) (p2 * r3) with b | b
      · exact .inr (.inr (.inl ⟨h2, b, a⟩))
      · exact .inr (.inr (.inr ⟨h3, pick_trans h3 h2 h1 b a, b⟩))
  · rcases Int.le_total (p2 * r1) (p1 * r2) with a | a
    · exact .inr (.inl ⟨h1, a, pick_far hp1 hp3 h1 h3⟩)
    · exact .inr (.inr (.inl ⟨h2, pick_far hp2 hp3 h2 h3, a⟩))
  · rcases Int.le_total (p3 * r1) (p1 * r3) with b | b
    · exact .inr (.inl ⟨h1, pick_far hp1 hp2 h1 h2, b⟩)
    · exact .inr (.inr (.inr ⟨h3, b, pick_far hp3 hp2 h3 h2⟩))
  · exact .inr (.inl ⟨h1, pick_far hp1 hp2 h1 h2, pick_far hp1 hp3 h1 h3⟩)
  · rcases Int.le_total (p3 * r2) (p2 * r3) with b | b
    · exact .inr (.inr (.inl ⟨h2, b, pick_far hp2 hp1 h2 h1⟩))
    · exact .inr (.inr (.inr ⟨h3, pick_far hp3 hp1 h3 h1, b⟩))
  · exact .inr (.inr (.inl ⟨h2, pick_far hp2 hp3 h2 h3, pick_far hp2 hp1 h2 h1⟩))
  · exact .inr (.inr (.inr ⟨h3, pick_far hp3 hp1 h3 h1, pick_far hp3 hp2 h3 h2⟩))
  · exact .inl ⟨h1, h2, h3⟩

theorem ovr_ca (a b c x : P3) : ovr c a b x = dotI (nrmI a b c) (crsI (difI a x) (difI a c)) := by
  simp only [ovr, nrmI, dotI, crsI, difI]; grind
theorem flat_ovr {a b c x : P3} (h : ovr a b c x ≠ 0) : flatI a b x = false := by
  rcases Bool.eq_false_or_eq_true (flatI a b x) with e | e
  · exfalso
    unfold flatI at e
    simp only [Bool.and_eq_true, beq_iff_eq] at e
    apply h
    unfold ovr dotI
    rw [e.1.1, e.1.2, e.2]; simp
  · exact e
theorem pos_of_mul {s x y : Int} (hs : 0 < s) (h : s * x = y) (hy : y ≤ 0) : x ≤ 0 := by
  rcases Int.lt_or_le 0 x with k | k
  · have := Int.mul_pos hs k; omega
  · exact k
theorem edge_hit {p a b c q r : P3} {u v t : Int} (h : Wgt p a b c u v t) (hr : Opp p q r) (hf : flatI a b c = false) (hq : detI a b c q = 0) (h1 : ovr a b c r < 0)
    (k2 : ovr b c a p * ovr a b c r ≤ ovr a b c p * ovr b c a r) (k3 : ovr c a b p * ovr a b c r ≤ ovr a b c p * ovr c a b r) : segI r q a b = true := by
  have hp := det_plane h
  have hdr : detI a b c r = 0 := by rw [det_r h hr, hq]; rfl
  have hN := dot_pos hf
  have hA := ovr_nonneg h
  have d0 : detI r q a b = 0 := by
    have e := det_edge (q := q) h
    rw [hq, Int.mul_zero] at e
    rw [det_opp hr]
    rcases Int.mul_eq_zero.1 e with g | g
    · have := h.pos; omega
    · rw [g]; rfl
  have s1 : sameI a b r q = false := by
    unfold sameI
    refine sign_nonpos (pos_of_mul hN (same_edge hdr) ?_)
    have e := ovr_opp a b c hr
    have := Int.mul_pos (show 0 < -ovr a b c r by omega) (show 0 < ovr a b c q by omega)
    rw [Int.neg_mul] at this
    omega
  have s2 : sameI r q a b = false := by
    unfold sameI
    refine sign_nonpos (pos_of_mul hN (same_cut hdr hq a b (det_ad a b c)) ?_)
    have ip := in_plane (difI a b) (difI a c) (difI a p) hp
    have ir := in_plane (difI a b) (difI a c) (difI a r) hdr
    have e1 : dotI (crsI (difI a b) (difI a c)) (crsI (difI a p) (difI a c)) = ovr c a b p := (ovr_ca a b c p).symm
    have e2 : dotI (crsI (difI a b) (difI a c)) (crsI (difI a r) (difI a c)) = ovr c a b r := (ovr_ca a b c r).symm
    have e3 : dotI (crsI (difI a b) (difI a c)) (crsI (difI a b) (difI a p)) = ovr a b c p := rfl
    have e4 : dotI (crsI (difI a b) (difI a c)) (crsI (difI a b) (difI a r)) = ovr a b c r := rfl
    have e5 : dotI (crsI (difI a b) (difI a c)) (crsI (difI a b) (difI a c)) = dotI (nrmI a b c) (nrmI a b c) := rfl
    have sp := ovr_sum a b c p
    have sr := ovr_sum a b c r
    rw [e5, e1, e3] at ip
    rw [e5, e2, e4] at ir
    simp only [scl, difI, P3.mk.injEq] at ip ir
    obtain ⟨ip1, ip2, ip3⟩ := ip
    obtain ⟨ir1, ir2, ir3⟩ := ir
    clear e1 e2 e3 e4 e5
    have g := glide (nrmI a b c) a b p q r (dotI (nrmI a b c) (nrmI a b c)) (ovr a b c p) (ovr a b c r) (ovr a b c p * ovr c a b r - ovr a b c r * ovr c a b p) hr
      (by rw [ip1, ir1]; grind) (by rw [ip2, ir2]; grind) (by rw [ip3, ir3]; grind)
    have hsum : dotI (nrmI a b c) (nrmI a b c) * (ovr a b c p - ovr a b c r) - (ovr a b c p * ovr c a b r - ovr a b c r * ovr c a b p) = ovr a b c p * ovr b c a r - ovr b c a p * ovr a b c r := by
      have t1 : dotI (nrmI a b c) (nrmI a b c) * ovr a b c p = (ovr a b c r + ovr b c a r + ovr c a b r) * ovr a b c p := by rw [sr]
      have t2 : dotI (nrmI a b c) (nrmI a b c) * ovr a b c r = (ovr a b c p + ovr b c a p + ovr c a b p) * ovr a b c r := by rw [sp]
      rw [Int.mul_sub, t1, t2]
      grind
    have hpos : 0 < dotI (nrmI a b c) (nrmI a b c) * (ovr a b c p - ovr a b c r) := Int.mul_pos hN (by omega)
    rw [Int.mul_comm (ovr a b c r) (ovr c a b p)] at g hsum
    exact prod_nonpos (by omega) (by omega) (by omega) g
  unfold segI
  rw [d0, if_pos (show Int.sign 0 = 0 from rfl), flat_ovr (show ovr a b c r ≠ 0 by omega), s1, s2]
  simp
theorem flat_turn (a b c : P3) : flatI b c a = flatI a b c := by unfold flatI; rw [nrm_turn]
theorem tip_through {p a b c q r : P3} {u v t : Int} (h : Wgt p a b c u v t) (hr : Opp p q r) (hf : flatI a b c = false) (hq : detI a b c q = 0) : tipI r q a b c = true := by
  unfold tipI turns tipB
  simp only [List.any_cons, List.any_nil]
  rcases pick (r1 := ovr a b c r) (r2 := ovr b c a r) (r3 := ovr c a b r) (ovr_nonneg h) (ovr_nonneg h.turn) (ovr_nonneg h.turn.turn) with ⟨g1, g2, g3⟩ | ⟨g1, g2, g3⟩ | ⟨g1, g2, g3⟩ | ⟨g1, g2, g3⟩
  · rw [hf, cov_of g1 g2 g3]; simp
  · rw [edge_hit h hr hf hq g1 g2 g3]; simp
  · rw [edge_hit h.turn hr (by rw [flat_turn]; exact hf) (by rw [det_turn]; exact hq) g1 g2 g3]; simp
  · rw [edge_hit h.turn.turn hr (by rw [flat_turn, flat_turn]; exact hf) (by rw [det_turn, det_turn]; exact hq) g1 g2 g3]; simp


/-! A flat triangle: p lies on an edge. -/
/-- p is the point of the segment x y with the weights k m. -/
structure On (p e f : P3) (k m : Int) : Prop where
  hk : 0 ≤ k
  hm : 0 ≤ m
  pos : 0 < k + m
  x : (k + m) * p.x = k * e.x + m * f.x
  y : (k + m) * p.y = k * e.y + m * f.y
  z : (k + m) * p.z = k * e.z + m * f.z
theorem On.turn {p x y : P3} {k m : Int} (h : On p x y k m) : On p y x m k :=
  ⟨h.hm, h.hk, by have := h.pos; omega, by have := h.x; grind, by have := h.y; grind, by have := h.z; grind⟩
theorem on_left (p q : P3) : On p p q 1 0 := ⟨by decide, by decide, by decide, by omega, by omega, by omega⟩
theorem on_mid {p q r : P3} (h : Opp p q r) : On p r q 1 1 := by
  have hx := h.x
  have hy := h.y
  have hz := h.z
  exact ⟨by decide, by decide, by decide, by omega, by omega, by omega⟩
theorem zero_of {s x : Int} (hs : 0 < s) (h : s * x = 0) : x = 0 := by
  rcases Int.mul_eq_zero.1 h with g | g
  · omega
  · exact g
section
variable {p x y e f : P3} {k m i j : Int} (h : On p x y k m) (g : On p e f i j)
include h
theorem on_det (z : P3) : detI x y p z = 0 := by
  have hx := h.x
  have hy := h.y
  have hz := h.z
  refine zero_of h.pos ?_
  simp only [detI, dotI, crsI, difI]
  grind
theorem on_nrm : nrmI x y p = ⟨0, 0, 0⟩ := by
  have hx := h.x
  have hy := h.y
  have hz := h.z
  simp only [nrmI, crsI, difI, P3.mk.injEq]
  refine ⟨zero_of h.pos ?_, zero_of h.pos ?_, zero_of h.pos ?_⟩ <;> grind
include g
theorem seg_det : detI x y e f = 0 := by
  have hx := g.x
  have hy := g.y
  have hz := g.z
  have e1 : (i + j) * detI x y p f = i * detI x y e f := by
    simp only [detI, dotI, crsI, difI]; grind
  have e2 : (i + j) * detI x y p e = -(j * detI x y e f) := by
    simp only [detI, dotI, crsI, difI]; grind
  rw [on_det h f] at e1
  rw [on_det h e] at e2
  refine zero_of g.pos ?_
  rw [Int.add_mul]
  omega
theorem seg_same : sameI x y e f = false := by
  have hx := g.x
  have hy := g.y
  have hz := g.z
  have n := on_nrm h
  obtain ⟨nx, ny, nz⟩ := P3.mk.inj (n : (⟨_, _, _⟩ : P3) = ⟨0, 0, 0⟩)
  have a1 : (i + j) * (nrmI x y p).x = i * (nrmI x y e).x + j * (nrmI x y f).x := by simp only [nrmI, crsI, difI]; grind
  have a2 : (i + j) * (nrmI x y p).y = i * (nrmI x y e).y + j * (nrmI x y f).y := by simp only [nrmI, crsI, difI]; grind
  have a3 : (i + j) * (nrmI x y p).z = i * (nrmI x y e).z + j * (nrmI x y f).z := by simp only [nrmI, crsI, difI]; grind
  rw [n] at a1 a2 a3
  simp only [Int.mul_zero] at a1 a2 a3
  have b1 := Int.mul_nonneg g.hk (dot_nonneg (nrmI x y e))
  have b2 := Int.mul_nonneg g.hm (dot_nonneg (nrmI x y f))
  have c1 : j * dotI (nrmI x y e) (nrmI x y f) = -(i * dotI (nrmI x y e) (nrmI x y e)) := by unfold dotI; grind
  have c2 : i * dotI (nrmI x y e) (nrmI x y f) = -(j * dotI (nrmI x y f) (nrmI x y f)) := by unfold dotI; grind
  unfold sameI
  refine sign_nonpos (pos_of_mul g.pos rfl ?_)
  rw [Int.add_mul]
  omega
end
/-- In the order of points: between the ends. -/
theorem conv1 {k m α β γ : Int} (hk : 0 < k) (hm : 0 < m) (h : (k + m) * γ = k * α + m * β) : 0 ≤ α → 0 ≤ β → 0 ≤ γ ∧ (γ = 0 → α = 0 ∧ β = 0) := fun ha hb => by
  have h1 := Int.mul_nonneg (show 0 ≤ k by omega) ha
  have h2 := Int.mul_nonneg (show 0 ≤ m by omega) hb
  refine ⟨Int.nonneg_of_mul_nonneg_right (a := k + m) (by omega) (by omega), fun e => ?_⟩
  subst e
  rw [Int.mul_zero] at h
  exact ⟨zero_of hk (by omega), zero_of hm (by omega)⟩
theorem on_end {p x y : P3} {m : Int} (h : On p x y 0 m) : p = y := by
  have hp := h.pos
  have hx := h.x
  have hy := h.y
  have hz := h.z
  have k : ∀ s t u : Int, (0 + m) * s = 0 * u + m * t → s = t := fun s t u e => by
    have e2 : m * (s - t) = 0 := by rw [Int.mul_sub]; rw [Int.zero_add, Int.zero_mul, Int.zero_add] at e; omega
    have := zero_of (by omega) e2
    omega
  obtain ⟨a, b, c⟩ := p
  obtain ⟨d, e, f⟩ := y
  have k1 := k _ _ _ hx
  have k2 := k _ _ _ hy
  have k3 := k _ _ _ hz
  simp only at k1 k2 k3
  rw [k1, k2, k3]
theorem on_below {p x y u : P3} {k m : Int} (h : On p x y k m) (hx : lessI u x = false) (hy : lessI u y = false) : lessI u p = false := by
  rcases Int.lt_or_eq_of_le h.hk with hk | hk
  · rcases Int.lt_or_eq_of_le h.hm with hm | hm
    · have c1 := conv1 (γ := u.x - p.x) (α := u.x - x.x) (β := u.x - y.x) hk hm (by have := h.x; grind)
      have c2 := conv1 (γ := u.y - p.y) (α := u.y - x.y) (β := u.y - y.y) hk hm (by have := h.y; grind)
      have c3 := conv1 (γ := u.z - p.z) (α := u.z - x.z) (β := u.z - y.z) hk hm (by have := h.z; grind)
      rw [lessI_eq] at hx hy ⊢
      rw [decide_eq_false_iff_not] at hx hy ⊢
      omega
    · subst hm
      rw [on_end h.turn]; exact hx
  · subst hk
    rw [on_end h]; exact hy
theorem on_above {p x y u : P3} {k m : Int} (h : On p x y k m) (hx : lessI x u = false) (hy : lessI y u = false) : lessI p u = false := by
  rcases Int.lt_or_eq_of_le h.hk with hk | hk
  · rcases Int.lt_or_eq_of_le h.hm with hm | hm
    · have c1 := conv1 (γ := p.x - u.x) (α := x.x - u.x) (β := y.x - u.x) hk hm (by have := h.x; grind)
      have c2 := conv1 (γ := p.y - u.y) (α := x.y - u.y) (β := y.y - u.y) hk hm (by have := h.y; grind)
      have c3 := conv1 (γ := p.z - u.z) (α := x.z - u.z) (β := y.z - u.z) hk hm (by have := h.z; grind)
      rw [lessI_eq] at hx hy ⊢
      rw [decide_eq_false_iff_not] at hx hy ⊢
      omega
    · subst hm
      rw [on_end h.turn]; exact hx
  · subst hk
    rw [on_end h]; exact hy
theorem on_hi {p x y : P3} {k m : Int} (h : On p x y k m) : lessI (hi x y) p = false := by
  unfold hi
  refine on_below h ?_ ?_ <;> (simp only [lessI_eq]; split <;> rename_i c <;> simp only [decide_eq_true_eq] at c <;> rw [decide_eq_false_iff_not] <;> omega)
theorem on_lo {p x y : P3} {k m : Int} (h : On p x y k m) : lessI p (lo x y) = false := by
  unfold lo
  refine on_above h ?_ ?_ <;> (simp only [lessI_eq]; split <;> rename_i c <;> simp only [decide_eq_true_eq] at c <;> rw [decide_eq_false_iff_not] <;> omega)
theorem not_less {a b c : P3} (h1 : lessI a b = false) (h2 : lessI b c = false) : lessI a c = false := by
  rw [lessI_eq] at *
  rw [decide_eq_false_iff_not] at *
  omega
/-- Segments with a common point. -/
theorem seg_common {p x y e f : P3} {k m i j : Int} (h : On p x y k m) (g : On p e f i j) : segI x y e f = true := by
  unfold segI ovlI
  rw [seg_det h g, if_pos (show Int.sign 0 = 0 from rfl), seg_same h g, seg_same g h, not_less (on_hi h) (on_lo g), not_less (on_hi g) (on_lo h)]
  simp
theorem eq_of_mul {s x y : Int} (hs : 0 < s) (h : s * x = s * y) : x = y := by
  have := zero_of hs (show s * (x - y) = 0 by rw [Int.mul_sub]; omega)
  omega
theorem edge_ids {E G s M u v t a b c p : Int} (hE : 0 < E) (hs : s = u + v + t) (hM : M = E * v + G * t) (h : s * p = u * a + v * b + t * c) (hg : E * (c - a) = G * (b - a)) :
    (E * s - M + M) * p = (E * s - M) * a + M * b ∧ (-M + (M - s * G)) * p = -M * c + (M - s * G) * a ∧ (s * G - M + (M - E * s)) * p = (s * G - M) * b + (M - E * s) * c := by
  have e1 : E * s * (p - a) = M * (b - a) := by
    have : s * (p - a) = v * (b - a) + t * (c - a) := by subst hs; grind
    rw [Int.mul_assoc, this, hM]; grind
  refine ⟨by grind, eq_of_mul hE (by grind), eq_of_mul hE (by grind)⟩
theorem flat_crs {a b c : P3} (hf : flatI a b c = true) : crsI (difI a b) (difI a c) = ⟨0, 0, 0⟩ := by
  unfold flatI nrmI at hf
  simp only [Bool.and_eq_true, beq_iff_eq] at hf
  obtain ⟨⟨f1, f2⟩, f3⟩ := hf
  have : ∀ n : P3, n.x = 0 → n.y = 0 → n.z = 0 → n = ⟨0, 0, 0⟩ := fun n h1 h2 h3 => by cases n; simp only at h1 h2 h3; rw [h1, h2, h3]
  exact this _ f1 f2 f3
theorem flat_edge {p a b c : P3} {u v t : Int} (h : Wgt p a b c u v t) (hf : flatI a b c = true) (hd : 0 < dotI (difI a b) (difI a b)) :
    (∃ k m, On p a b k m) ∨ (∃ k m, On p b c k m) ∨ (∃ k m, On p c a k m) := by
  have e := crs3 (difI a b) (difI a c) (difI a b)
  rw [flat_crs hf] at e
  have e0 : crsI ⟨0, 0, 0⟩ (difI a b) = ⟨0, 0, 0⟩ := by simp [crsI]
  rw [e0] at e
  obtain ⟨E, hE⟩ : ∃ E, E = dotI (difI a b) (difI a b) := ⟨_, rfl⟩
  obtain ⟨G, hG⟩ : ∃ G, G = dotI (difI a c) (difI a b) := ⟨_, rfl⟩
  obtain ⟨s, hs⟩ : ∃ s, s = u + v + t := ⟨_, rfl⟩
  obtain ⟨M, hM⟩ : ∃ M, M = E * v + G * t := ⟨_, rfl⟩
  rw [← hE] at e hd
  rw [← hG] at e
  simp only [difI, P3.mk.injEq] at e
  obtain ⟨e1, e2, e3⟩ := e
  have ix := edge_ids hd hs hM (by rw [hs]; exact h.x) (show E * (c.x - a.x) = G * (b.x - a.x) by omega)
  have iy := edge_ids hd hs hM (by rw [hs]; exact h.y) (show E * (c.y - a.y) = G * (b.y - a.y) by omega)
  have iz := edge_ids hd hs hM (by rw [hs]; exact h.z) (show E * (c.z - a.z) = G * (b.z - a.z) by omega)
  have hs0 : 0 < s := by rw [hs]; exact h.pos
  have hEs := Int.mul_pos hd hs0
  have hEv := Int.mul_nonneg (show 0 ≤ E by omega) h.hv
  have hsG : s * G = G * u + G * v + G * t := by rw [hs, Int.mul_comm, Int.mul_add, Int.mul_add]
  rcases Int.lt_or_le M 0 with m1 | m1
  · have hG0 : G < 0 := by
      rcases Int.lt_or_le G 0 with k | k
      · exact k
      · have := Int.mul_nonneg k h.ht; omega
    have g1 := Int.mul_nonneg (show 0 ≤ -G by omega) h.hu
    have g2 := Int.mul_nonneg (show 0 ≤ -G by omega) h.hv
    have g3 := Int.mul_pos hs0 (show 0 < -G by omega)
    rw [Int.neg_mul] at g1 g2
    rw [Int.mul_neg] at g3
    exact .inr (.inr ⟨-M, M - s * G, by omega, by omega, by omega, ix.2.1, iy.2.1, iz.2.1⟩)
  · rcases Int.lt_or_le (E * s) M with m2 | m2
    · have hG0 : E < G := by
        rcases Int.lt_or_le E G with k | k
        · exact k
        · have k1 := Int.mul_le_mul_of_nonneg_right k h.ht
          have k2 := Int.mul_nonneg (show 0 ≤ E by omega) h.hu
          rw [hs, Int.mul_add, Int.mul_add] at m2
          omega
      have g1 := Int.mul_nonneg (show 0 ≤ G by omega) h.hu
      have g2 := Int.mul_nonneg (show 0 ≤ G - E by omega) h.hv
      have g3 := Int.mul_pos hs0 (show 0 < G - E by omega)
      rw [Int.sub_mul] at g2
      rw [Int.mul_sub, Int.mul_comm s E] at g3
      exact .inr (.inl ⟨s * G - M, M - E * s, by omega, by omega, by omega, ix.2.2, iy.2.2, iz.2.2⟩)
    · exact .inl ⟨E * s - M, M, by omega, by omega, by omega, ix.1, iy.1, iz.1⟩
theorem dif_zero {a b : P3} (h : ¬ 0 < dotI (difI a b) (difI a b)) : a = b := by
  have h1 := sq_nonneg_of (b.x - a.x)
  have h2 := sq_nonneg_of (b.y - a.y)
  have h3 := sq_nonneg_of (b.z - a.z)
  unfold dotI difI at h
  simp only at h
  have z : ∀ n : Int, n * n ≤ 0 → n = 0 := fun n hn => by
    rcases Int.mul_eq_zero.1 (show n * n = 0 by have := sq_nonneg_of n; omega) with k | k <;> exact k
  have z1 := z _ (show (b.x - a.x) * (b.x - a.x) ≤ 0 by omega)
  have z2 := z _ (show (b.y - a.y) * (b.y - a.y) ≤ 0 by omega)
  have z3 := z _ (show (b.z - a.z) * (b.z - a.z) ≤ 0 by omega)
  cases a; cases b
  simp only [P3.mk.injEq] at *
  omega
theorem flat_any {p a b c : P3} {u v t : Int} (h : Wgt p a b c u v t) (hf : flatI a b c = true) :
    (∃ k m, On p a b k m) ∨ (∃ k m, On p b c k m) ∨ (∃ k m, On p c a k m) := by
  by_cases hd : 0 < dotI (difI a b) (difI a b)
  · exact flat_edge h hf hd
  · by_cases hd2 : 0 < dotI (difI b c) (difI b c)
    · rcases flat_edge h.turn (by rw [flat_turn]; exact hf) hd2 with k | k | k
      · exact .inr (.inl k)
      · exact .inr (.inr k)
      · exact .inl k
    · have e1 := dif_zero hd
      have e2 := dif_zero hd2
      subst e1
      subst e2
      exact .inl ⟨u + v + t, 0, by have := h.pos; omega, by decide, by have := h.pos; omega, by have := h.x; grind, by have := h.y; grind, by have := h.z; grind⟩
theorem touch_flat {p a b c x y : P3} {u v t k m : Int} (h : Wgt p a b c u v t) (hf : flatI a b c = true) (g : On p x y k m) : touchI x y a b c = true := by
  have d : ∀ z, detI a b c z = 0 := fun z => by
    show dotI (crsI (difI a b) (difI a c)) (difI a z) = 0
    rw [flat_crs hf]; simp [dotI]
  unfold touchI
  rw [d x, d y, if_pos ⟨rfl, rfl⟩]
  unfold tipI turns tipB
  simp only [List.any_cons, List.any_nil]
  rcases flat_any h hf with ⟨i, j, q⟩ | ⟨i, j, q⟩ | ⟨i, j, q⟩
  · rw [seg_common g q]; simp
  · rw [seg_common g q]; simp
  · rw [seg_common g q]; simp
/-- What ExactInside says. -/
theorem inside_touch {p a b c q r : P3} {u v t : Int} (h : Wgt p a b c u v t) (hr : Opp p q r) : touchI p q a b c = true ∧ touchI r q a b c = true ∧ touchI q r a b c = true := by
  by_cases hq : detI a b c q = 0
  · rcases Bool.eq_false_or_eq_true (flatI a b c) with hf | hf
    · exact ⟨touch_flat h hf (on_left p q), touch_flat h hf (on_mid hr), touch_flat h hf (on_mid hr).turn⟩
    · have dp := det_plane h
      have dr : detI a b c r = 0 := by rw [det_r h hr, hq]; rfl
      have hr' : Opp p r q := ⟨by have := hr.x; omega, by have := hr.y; omega, by have := hr.z; omega⟩
      unfold touchI
      rw [dp, hq, dr, if_pos ⟨rfl, rfl⟩]
      exact ⟨tip_p h q hf, tip_through h hr hf hq, tip_through h hr' hf dr⟩
  · exact ⟨touch_out h hq, (touch_through h hr hq).1, (touch_through h hr hq).2⟩

end Go.Proofs.YtandlbacjfdkpaaGreatDoor

/- Segments by their common points. -/
namespace Go.Proofs.YtandlbacjfdkpaaGreatDoor
open Go Go.RowKit Dg

/-- The segments x y and e f have a common point: its weights. -/
structure Cmn (c d e f : P3) (k m i j : Int) : Prop where
  hk : 0 ≤ k
  hm : 0 ≤ m
  hi : 0 ≤ i
  hj : 0 ≤ j
  eq : k + m = i + j
  pos : 0 < k + m
  x : k * c.x + m * d.x = i * e.x + j * f.x
  y : k * c.y + m * d.y = i * e.y + j * f.y
  z : k * c.z + m * d.z = i * e.z + j * f.z
theorem Cmn.swap {x y e f : P3} {k m i j : Int} (h : Cmn x y e f k m i j) : Cmn y x e f m k i j :=
  ⟨h.hm, h.hk, h.hi, h.hj, by have := h.eq; omega, by have := h.pos; omega, by have := h.x; omega, by have := h.y; omega, by have := h.z; omega⟩
theorem Cmn.other {x y e f : P3} {k m i j : Int} (h : Cmn x y e f k m i j) : Cmn e f x y i j k m :=
  ⟨h.hi, h.hj, h.hk, h.hm, h.eq.symm, by have := h.eq; have := h.pos; omega, h.x.symm, h.y.symm, h.z.symm⟩
theorem Cmn.seg {x y e f : P3} {k m i j : Int} (h : Cmn x y e f k m i j) : segI x y e f = true := by
  have hx := h.x
  have hy := h.y
  have hz := h.z
  have he := h.eq
  rw [← seg_mov h.pos x y e f ⟨0, 0, 0⟩]
  obtain ⟨s, hs⟩ : ∃ s, s = k + m := ⟨_, rfl⟩
  have hs2 : i + j = s := by omega
  rw [← hs]
  refine seg_common (p := ⟨k * x.x + m * y.x, k * x.y + m * y.y, k * x.z + m * y.z⟩) (k := k) (m := m) (i := i) (j := j) ⟨h.hk, h.hm, h.pos, ?_, ?_, ?_⟩ ⟨h.hi, h.hj, by have := h.pos; omega, ?_, ?_, ?_⟩ <;> simp only [movI]
  · rw [← hs]; grind
  · rw [← hs]; grind
  · rw [← hs]; grind
  · rw [hs2, hx]; grind
  · rw [hs2, hy]; grind
  · rw [hs2, hz]; grind
theorem lex_same {E a b : Int} {G : Int} (hE : 0 < E) (hG : 0 < G) (h : E * a = G * b) : (0 < a ↔ 0 < b) ∧ (a < 0 ↔ b < 0) ∧ (a = 0 ↔ b = 0) := by
  have s1 := sign_pos_mul hE a
  have s2 := sign_pos_mul hG b
  have s : a.sign = b.sign := by rw [← s1, ← s2, h]
  refine ⟨?_, ?_, ?_⟩
  · rw [← Int.sign_eq_one_iff_pos, ← Int.sign_eq_one_iff_pos, s]
  · rw [← Int.sign_eq_neg_one_iff_neg, ← Int.sign_eq_neg_one_iff_neg, s]
  · exact ⟨fun g => Int.sign_eq_zero_iff_zero.1 (by rw [← s, g]; rfl), fun g => Int.sign_eq_zero_iff_zero.1 (by rw [s, g]; rfl)⟩
/-- A point of a line, between two others. -/
theorem on_between {x y z : P3} (hf : flatI x y z = true) (h1 : lessI z x = false) (h2 : lessI y z = false) : ∃ k m, On z x y k m := by
  rw [lessI_eq, decide_eq_false_iff_not] at h1 h2
  by_cases hd : 0 < dotI (difI x y) (difI x y)
  · have e := crs3 (difI x y) (difI x z) (difI x y)
    rw [flat_crs hf] at e
    have e0 : crsI ⟨0, 0, 0⟩ (difI x y) = ⟨0, 0, 0⟩ := by simp [crsI]
    rw [e0] at e
    obtain ⟨E, hE⟩ : ∃ E, E = dotI (difI x y) (difI x y) := ⟨_, rfl⟩
    obtain ⟨G, hG⟩ : ∃ G, G = dotI (difI x z) (difI x y) := ⟨_, rfl⟩
    have hv : ¬ (y.x - x.x = 0 ∧ y.y - x.y = 0 ∧ y.z - x.z = 0) := fun g => by
      rw [← hE, hE] at hd
      unfold dotI difI at hd
      simp only [g.1, g.2.1, g.2.2] at hd
      exact absurd hd (by decide)
    rw [← hE] at e hd
    rw [← hG] at e
    simp only [difI, P3.mk.injEq] at e
    obtain ⟨e1, e2, e3⟩ := e
    have hG0 : 0 ≤ G := by
      rcases Int.lt_or_le G 0 with k | k
      · exfalso
        have g1 := lex_same (a := z.x - x.x) (b := x.x - y.x) hd (show 0 < -G by omega) (by grind)
        have g2 := lex_same (a := z.y - x.y) (b := x.y - y.y) hd (show 0 < -G by omega) (by grind)
        have g3 := lex_same (a := z.z - x.z) (b := x.z - y.z) hd (show 0 < -G by omega) (by grind)
        omega
      · exact k
    have hG1 : G ≤ E := by
      rcases Int.lt_or_le E G with k | k
      · exfalso
        have g1 := lex_same (a := z.x - y.x) (b := y.x - x.x) hd (show 0 < G - E by omega) (by grind)
        have g2 := lex_same (a := z.y - y.y) (b := y.y - x.y) hd (show 0 < G - E by omega) (by grind)
        have g3 := lex_same (a := z.z - y.z) (b := y.z - x.z) hd (show 0 < G - E by omega) (by grind)
        omega
      · exact k
    exact ⟨E - G, G, by omega, hG0, by omega, by grind, by grind, by grind⟩
  · have e := dif_zero hd
    subst e
    refine ⟨1, 0, by decide, by decide, by decide, ?_, ?_, ?_⟩ <;> omega
theorem flat_swap' (a b c : P3) : flatI b a c = flatI a b c := flat_swap a b c
theorem flat_lo {x y z : P3} (h : flatI x y z = true) : flatI (lo x y) (hi x y) z = true := by
  unfold lo hi
  split
  · rw [flat_swap]; exact h
  · exact h
theorem On.of_lo {x y z : P3} {k m : Int} (h : On z (lo x y) (hi x y) k m) : ∃ k m, On z x y k m := by
  unfold lo hi at h
  split at h
  · exact ⟨_, _, h.turn⟩
  · exact ⟨_, _, h⟩
theorem On.cmn {z x y e f : P3} {k m i j : Int} (h : On z x y k m) (g : On z e f i j) : ∃ k m i j, Cmn x y e f k m i j := by
  have hx := h.x
  have hy := h.y
  have hz := h.z
  have gx := g.x
  have gy := g.y
  have gz := g.z
  refine ⟨k * (i + j), m * (i + j), i * (k + m), j * (k + m), Int.mul_nonneg h.hk (by have := g.pos; omega), Int.mul_nonneg h.hm (by have := g.pos; omega), Int.mul_nonneg g.hk (by have := h.pos; omega), Int.mul_nonneg g.hm (by have := h.pos; omega), by grind, ?_, by grind, by grind, by grind⟩
  rw [← Int.add_mul]
  exact Int.mul_pos h.pos g.pos
theorem on_self (x y : P3) : On x x y 1 0 := ⟨by decide, by decide, by decide, by omega, by omega, by omega⟩
theorem on_this (x y : P3) : On y x y 0 1 := ⟨by decide, by decide, by decide, by omega, by omega, by omega⟩
theorem lo_le_hi (x y : P3) : lessI (hi x y) (lo x y) = false := by
  unfold hi lo
  split <;> rename_i c <;> rw [lessI_eq] at * <;> rw [decide_eq_false_iff_not]
  · simp only [decide_eq_true_eq] at c; omega
  · simp only [decide_eq_true_eq] at c; exact c
theorem lo_or (x y : P3) : lo x y = x ∨ lo x y = y := by unfold lo; split <;> simp
theorem zero3 {n : P3} (h : ¬ 0 < dotI n n) : n = ⟨0, 0, 0⟩ := by
  have h1 := sq_nonneg_of n.x
  have h2 := sq_nonneg_of n.y
  have h3 := sq_nonneg_of n.z
  unfold dotI at h
  have z : ∀ n : Int, n * n ≤ 0 → n = 0 := fun n hn => by
    rcases Int.mul_eq_zero.1 (show n * n = 0 by have := sq_nonneg_of n; omega) with k | k <;> exact k
  have z1 := z _ (show n.x * n.x ≤ 0 by omega)
  have z2 := z _ (show n.y * n.y ≤ 0 by omega)
  have z3 := z _ (show n.z * n.z ≤ 0 by omega)
  cases n
  simp only at z1 z2 z3
  rw [z1, z2, z3]
theorem flat_of {a b c : P3} (h : nrmI a b c = ⟨0, 0, 0⟩) : flatI a b c = true := by unfold flatI; rw [h]; rfl
theorem nrm_of {a b c : P3} (h : flatI a b c = true) : nrmI a b c = ⟨0, 0, 0⟩ := flat_crs h
theorem not_pos_sign {x : Int} (h : decide (0 < x.sign) = false) : ¬ 0 < x := fun g => by
  rw [decide_eq_false_iff_not, Int.sign_eq_one_of_pos g] at h; exact h (by decide)
/-- Parallel segments: what one normal says, all say. -/
theorem par_nrm {x y e f : P3} (hN : crsI (difI x y) (difI e f) = ⟨0, 0, 0⟩) : nrmI x y f = nrmI x y e ∧ nrmI e f y = nrmI e f x := by
  simp only [crsI, difI, P3.mk.injEq] at hN
  obtain ⟨h1, h2, h3⟩ := hN
  simp only [nrmI, crsI, difI, P3.mk.injEq]
  refine ⟨⟨?_, ?_, ?_⟩, ?_, ?_, ?_⟩ <;> grind
theorem par_det {x y e f : P3} (hN : crsI (difI x y) (difI e f) = ⟨0, 0, 0⟩) : detI x y e f = 0 := by
  simp only [crsI, difI, P3.mk.injEq] at hN
  obtain ⟨h1, h2, h3⟩ := hN
  simp only [detI, dotI, crsI, difI]; grind
theorem par_same {x y e f : P3} (hN : crsI (difI x y) (difI e f) = ⟨0, 0, 0⟩) (s1 : sameI x y e f = false) (s2 : sameI e f x y = false) : flatI x y e = true ∧ flatI x y f = true ∧ flatI e f x = true ∧ flatI e f y = true := by
  obtain ⟨p1, p2⟩ := par_nrm hN
  unfold sameI at s1 s2
  rw [p1] at s1
  rw [p2] at s2
  have z1 := zero3 (not_pos_sign s1)
  have z2 := zero3 (not_pos_sign s2)
  exact ⟨flat_of z1, flat_of (by rw [p1]; exact z1), flat_of z2, flat_of (by rw [p2]; exact z2)⟩
theorem opposite {M a b : Int} (hM : 0 < M) (hab : b = a + M) (h : ¬ 0 < a * b) : a ≤ 0 ∧ 0 ≤ b := by
  constructor
  · rcases Int.lt_or_le 0 a with k | k
    · exact absurd (Int.mul_pos k (by omega)) h
    · exact k
  · rcases Int.lt_or_le b 0 with k | k
    · exact absurd (Int.mul_pos_of_neg_of_neg (show a < 0 by omega) k) h
    · exact k
section
variable {x y e f : P3} (d0 : detI x y e f = 0)
include d0
theorem seg_w : dotI (crsI (difI x y) (difI e f)) (difI x e) = 0 := by
  simp only [detI, dotI, crsI, difI] at *; grind
theorem seg_n1 : dotI (crsI (difI x y) (difI e f)) (crsI (difI x y) (difI e f)) * dotI (nrmI x y e) (nrmI x y f) = dotI (crsI (difI x y) (difI e f)) (nrmI x y e) * dotI (crsI (difI x y) (difI e f)) (nrmI x y f) := by
  refine par_dot (nrmI x y f) ?_
  have h := crs_edge (difI x y) (difI e f) (difI x e)
  rw [seg_w d0] at h
  show crsI (crsI (difI x y) (difI x e)) (crsI (difI x y) (difI e f)) = _
  rw [h]; simp [scl]
theorem seg_v1 : crsI (nrmI x y e) (crsI (difI x y) (difI e f)) = ⟨0, 0, 0⟩ := by
  have h := crs_edge (difI x y) (difI e f) (difI x e)
  rw [seg_w d0] at h
  show crsI (crsI (difI x y) (difI x e)) (crsI (difI x y) (difI e f)) = _
  rw [h]; simp [scl]
theorem seg_v2 : crsI (nrmI x y f) (crsI (difI x y) (difI e f)) = ⟨0, 0, 0⟩ := by
  have h := crs_edge (difI x y) (difI e f) (difI x f)
  have h2 : dotI (crsI (difI x y) (difI e f)) (difI x f) = 0 := by simp only [detI, dotI, crsI, difI] at *; grind
  rw [h2] at h
  show crsI (crsI (difI x y) (difI x f)) (crsI (difI x y) (difI e f)) = _
  rw [h]; simp [scl]
theorem seg_v3 : crsI (nrmI e f x) (crsI (difI x y) (difI e f)) = ⟨0, 0, 0⟩ := by
  have h : crsI (nrmI e f x) (crsI (difI x y) (difI e f)) = scl (dotI (crsI (difI x y) (difI e f)) (difI x e)) (difI e f) := by
    simp only [nrmI, dotI, crsI, difI, scl, P3.mk.injEq]; refine ⟨?_, ?_, ?_⟩ <;> grind
  rw [h, seg_w d0]; simp [scl]
theorem seg_v4 : crsI (nrmI e f y) (crsI (difI x y) (difI e f)) = ⟨0, 0, 0⟩ := by
  have h : crsI (nrmI e f y) (crsI (difI x y) (difI e f)) = scl (dotI (crsI (difI x y) (difI e f)) (difI x e)) (difI e f) := by
    simp only [nrmI, dotI, crsI, difI, scl, P3.mk.injEq]; refine ⟨?_, ?_, ?_⟩ <;> grind
  rw [h, seg_w d0]; simp [scl]
theorem seg_n3 : dotI (crsI (difI x y) (difI e f)) (crsI (difI x y) (difI e f)) * dotI (nrmI e f x) (nrmI e f y) = dotI (crsI (difI x y) (difI e f)) (nrmI e f x) * dotI (crsI (difI x y) (difI e f)) (nrmI e f y) :=
  par_dot (nrmI e f y) (seg_v3 d0)
end
theorem not_flats {x y e f : P3} (hN : 0 < dotI (crsI (difI x y) (difI e f)) (crsI (difI x y) (difI e f))) : (flatI x y e && flatI x y f && flatI e f x && flatI e f y) = false := by
  rcases Bool.eq_false_or_eq_true (flatI x y e && flatI x y f && flatI e f x && flatI e f y) with h | h
  · exfalso
    simp only [Bool.and_eq_true] at h
    have n1 := nrm_of h.1.1.1
    have n2 := nrm_of h.1.1.2
    have hd : ∀ n : P3, n.x = (nrmI x y f).x - (nrmI x y e).x → n.y = (nrmI x y f).y - (nrmI x y e).y → n.z = (nrmI x y f).z - (nrmI x y e).z → dotI n n = 0 := fun n a b c => by
      rw [n1, n2] at a b c
      unfold dotI; rw [a, b, c]; rfl
    have := hd (crsI (difI x y) (difI e f)) (by simp only [nrmI, crsI, difI]; grind) (by simp only [nrmI, crsI, difI]; grind) (by simp only [nrmI, crsI, difI]; grind)
    omega
  · exact h
theorem seg_cmn {x y e f : P3} (h : segI x y e f = true) : ∃ k m i j, Cmn x y e f k m i j := by
  unfold segI at h
  by_cases hd : (detI x y e f).sign = 0
  case neg => rw [if_neg hd] at h; cases h
  rw [if_pos hd] at h
  have d0 : detI x y e f = 0 := Int.sign_eq_zero_iff_zero.1 hd
  by_cases hf : (flatI x y e && flatI x y f && flatI e f x && flatI e f y) = true
  · rw [if_pos hf] at h
    simp only [Bool.and_eq_true] at hf
    obtain ⟨⟨⟨f1, f2⟩, f3⟩, f4⟩ := hf
    unfold ovlI at h
    simp only [Bool.and_eq_true, Bool.not_eq_true'] at h
    obtain ⟨h1, h2⟩ := h
    have f12 : flatI x y (lo e f) = true := by rcases lo_or e f with g | g <;> rw [g] <;> assumption
    have f34 : flatI e f (lo x y) = true := by rcases lo_or x y with g | g <;> rw [g] <;> assumption
    by_cases hl : lessI (lo e f) (lo x y) = true
    · obtain ⟨k, m, g⟩ := on_between (flat_lo f34) (show lessI (lo x y) (lo e f) = false from by
        rw [lessI_eq, decide_eq_true_eq] at hl; rw [lessI_eq, decide_eq_false_iff_not]; omega) h2
      obtain ⟨i, j, g⟩ := g.of_lo
      rcases lo_or x y with c | c <;> rw [c] at g
      · exact (on_self x y).cmn g
      · exact (on_this x y).cmn g
    · rw [Bool.not_eq_true] at hl
      obtain ⟨k, m, g⟩ := on_between (flat_lo f12) hl h1
      obtain ⟨i, j, g⟩ := g.of_lo
      rcases lo_or e f with c | c <;> rw [c] at g
      · exact g.cmn (on_self e f)
      · exact g.cmn (on_this e f)
  · rw [if_neg hf] at h
    simp only [Bool.and_eq_true, Bool.not_eq_true'] at h
    obtain ⟨s1, s2⟩ := h
    by_cases hN : 0 < dotI (crsI (difI x y) (difI e f)) (crsI (difI x y) (difI e f))
    · unfold sameI at s1 s2
      have k1 := not_pos_sign s1
      have k2 := not_pos_sign s2
      have n1 := seg_n1 d0
      have n3 := seg_n3 d0
      have ip := in_plane (difI x y) (difI e f) (difI x e) (seg_w d0)
      have a1 : dotI (crsI (difI x y) (difI e f)) (crsI (difI x e) (difI e f)) = dotI (crsI (difI x y) (difI e f)) (nrmI e f x) := by
        simp only [nrmI, dotI, crsI, difI]; grind
      have a2 : dotI (crsI (difI x y) (difI e f)) (crsI (difI x y) (difI x e)) = dotI (crsI (difI x y) (difI e f)) (nrmI x y e) := rfl
      have b1 : dotI (crsI (difI x y) (difI e f)) (nrmI x y f) = dotI (crsI (difI x y) (difI e f)) (nrmI x y e) + dotI (crsI (difI x y) (difI e f)) (crsI (difI x y) (difI e f)) := by
        simp only [nrmI, dotI, crsI, difI]; grind
      have b2 : dotI (crsI (difI x y) (difI e f)) (nrmI e f x) = dotI (crsI (difI x y) (difI e f)) (nrmI e f y) + dotI (crsI (difI x y) (difI e f)) (crsI (difI x y) (difI e f)) := by
        simp only [nrmI, dotI, crsI, difI]; grind
      rw [a1, a2] at ip
      generalize dotI (crsI (difI x y) (difI e f)) (nrmI x y e) = α at *
      generalize dotI (crsI (difI x y) (difI e f)) (nrmI x y f) = β at *
      generalize dotI (crsI (difI x y) (difI e f)) (nrmI e f x) = γ at *
      generalize dotI (crsI (difI x y) (difI e f)) (nrmI e f y) = δ at *
      generalize dotI (crsI (difI x y) (difI e f)) (crsI (difI x y) (difI e f)) = M at *
      have t1 := opposite hN b1 (fun g => by
        rw [← n1] at g
        exact k1 (Int.pos_of_mul_pos_right g hN))
      have t2 := opposite hN b2 (fun g => by
        rw [Int.mul_comm, ← n3] at g
        exact k2 (Int.pos_of_mul_pos_right g hN))
      simp only [scl, difI, P3.mk.injEq] at ip
      obtain ⟨i1, i2, i3⟩ := ip
      exact ⟨-δ, γ, β, -α, by omega, by omega, by omega, by omega, by omega, by omega, by grind, by grind, by grind⟩
    · exfalso
      have := par_same (zero3 hN) s1 s2
      apply hf
      rw [this.1, this.2.1, this.2.2.1, this.2.2.2]; rfl
/-- Segments meet in any order. -/
theorem seg_iff (x y e f : P3) : segI x y e f = true ↔ ∃ k m i j, Cmn x y e f k m i j := ⟨seg_cmn, fun ⟨_, _, _, _, h⟩ => h.seg⟩
theorem bool_ext {a b : Bool} (h : a = true ↔ b = true) : a = b := by cases a <;> cases b <;> simp_all
theorem seg_swap (x y e f : P3) : segI y x e f = segI x y e f := bool_ext (by
  rw [seg_iff, seg_iff]
  exact ⟨fun ⟨_, _, _, _, h⟩ => ⟨_, _, _, _, h.swap⟩, fun ⟨_, _, _, _, h⟩ => ⟨_, _, _, _, h.swap⟩⟩)
theorem seg_other (x y e f : P3) : segI e f x y = segI x y e f := bool_ext (by
  rw [seg_iff, seg_iff]
  exact ⟨fun ⟨_, _, _, _, h⟩ => ⟨_, _, _, _, h.other⟩, fun ⟨_, _, _, _, h⟩ => ⟨_, _, _, _, h.other⟩⟩)
theorem seg_swap2 (x y e f : P3) : segI x y f e = segI x y e f := by rw [← seg_other, seg_swap, seg_other]

end Go.Proofs.YtandlbacjfdkpaaGreatDoor

/- The reference's geometry of small points is that of exact. -/
namespace Go.Proofs.YtandlbacjfdkpaaGreatDoor
open Go Go.RowKit Dg

/-! What the reference computes of small points. -/
/-- The signs of a vector; its first axis that is not 0; a component. -/
def sgnP (v : P3) : P3 := ⟨v.x.sign, v.y.sign, v.z.sign⟩
def axI (v : P3) : Int := if v.x ≠ 0 then 0 else if v.y ≠ 0 then 1 else if v.z ≠ 0 then 2 else 3
def axc (v : P3) (k : Int) : Int := if k = 0 then v.x else if k = 1 then v.y else v.z
def sgnsI (a b c d : P3) : P3 := sgnP (crsI (difI a b) (difI c d))
def nmsI (a b c : P3) : P3 := sgnP (nrmI a b c)
/-- The least and the greatest of points, one after the other. -/
def lo2 (l p : P3) : P3 := if lessI p l then p else l
def hi2 (h p : P3) : P3 := if lessI h p then p else h
def lineI (lo hi low high : P3) : Bool := if ptE lo hi then flatI low high lo else flatI lo hi low
def crossI (p q r s : P3) : Bool :=
  if axI (sgnsI p q r s) < 3 then
    decide ((detI p q r s).sign = 0 ∧ axc (nmsI p q r) (axI (sgnsI p q r s)) * axc (nmsI p q s) (axI (sgnsI p q r s)) ≤ 0 ∧ axc (nmsI r s p) (axI (sgnsI p q r s)) * axc (nmsI r s q) (axI (sgnsI p q r s)) ≤ 0)
  else lineI (lo2 p q) (hi2 p q) (lo2 r s) (hi2 r s) && !lessI (hi2 p q) (lo2 r s) && !lessI (hi2 r s) (lo2 p q)
def withinI (p a b c : P3) : Bool :=
  decide ((0 ≤ axc (nmsI a b p) (axI (nmsI a b c)) ∧ 0 ≤ axc (nmsI b c p) (axI (nmsI a b c)) ∧ 0 ≤ axc (nmsI c a p) (axI (nmsI a b c))) ∨
    (axc (nmsI a b p) (axI (nmsI a b c)) ≤ 0 ∧ axc (nmsI b c p) (axI (nmsI a b c)) ≤ 0 ∧ axc (nmsI c a p) (axI (nmsI a b c)) ≤ 0))
def rTouchI (p q a b c : P3) : Bool :=
  if flatI a b c then crossI p q (lo2 (lo2 a b) c) (hi2 (hi2 a b) c)
  else if 0 < (detI a b c p).sign * (detI a b c q).sign then false
  else if (detI a b c p).sign = 0 ∧ (detI a b c q).sign = 0 then (crossI p q a b || crossI p q b c || crossI p q c a || withinI p a b c)
  else decide ((0 ≤ (detI p q a b).sign ∧ 0 ≤ (detI p q b c).sign ∧ 0 ≤ (detI p q c a).sign) ∨ ((detI p q a b).sign ≤ 0 ∧ (detI p q b c).sign ≤ 0 ∧ (detI p q c a).sign ≤ 0))

theorem sign_ne {x : Int} : x.sign = 0 ↔ x = 0 := Int.sign_eq_zero_iff_zero
theorem axI_sgn (v : P3) : axI (sgnP v) = axI v := by
  unfold axI sgnP
  simp only [ne_eq, sign_ne]
theorem axc_sgn (v : P3) (k : Int) : axc (sgnP v) k = (axc v k).sign := by
  unfold axc sgnP
  split <;> (try split) <;> rfl
theorem axI_lt (v : P3) : (axI v < 3 ∧ axc v (axI v) ≠ 0) ∨ (axI v = 3 ∧ v = ⟨0, 0, 0⟩) := by
  unfold axI
  by_cases h1 : v.x = 0
  · by_cases h2 : v.y = 0
    · by_cases h3 : v.z = 0
      · right
        cases v
        simp only at h1 h2 h3
        subst h1 h2 h3
        simp
      · left; simp [h1, h2, h3, axc]
    · left; simp [h1, h2, axc]
  · left; simp [h1, axc]
theorem dot_ne {n : P3} (h : n ≠ ⟨0, 0, 0⟩) : 0 < dotI n n := by
  rcases Int.lt_or_le 0 (dotI n n) with k | k
  · exact k
  · exact absurd (zero3 (by omega)) h
theorem dot0 : dotI ⟨0, 0, 0⟩ ⟨0, 0, 0⟩ = 0 := rfl
theorem axc_ne {v : P3} {k : Int} (h : axc v k ≠ 0) : v ≠ ⟨0, 0, 0⟩ := fun g => by
  apply h; rw [g]; unfold axc; split <;> (try split) <;> rfl
/-- A component of a vector along the normal. -/
theorem cmp_par {n v : P3} (h : crsI v n = ⟨0, 0, 0⟩) (k : Int) : dotI n n * axc v k = dotI n v * axc n k := by
  have e := crs_crs n v
  rw [h] at e
  have e0 : crsI n ⟨0, 0, 0⟩ = ⟨0, 0, 0⟩ := by simp [crsI]
  rw [e0] at e
  simp only [P3.mk.injEq] at e
  obtain ⟨e1, e2, e3⟩ := e
  unfold axc
  split
  · omega
  · split <;> omega
theorem sign_prod_pos {M x y P : Int} (hM : 0 < M) (hP : 0 < P) (h : M * x = y * P) : (0 < x ↔ 0 < y) := by
  have := lex_same (a := x) (b := y) hM hP (by rw [h, Int.mul_comm])
  exact this.1
/-- Normals on one line: the sign of their product is that of the products of their components. -/
theorem same_cmp {n v u : P3} {k : Int} (hn : axc n k ≠ 0) (hv : crsI v n = ⟨0, 0, 0⟩) (hu : crsI u n = ⟨0, 0, 0⟩) : (0 < dotI v u) ↔ 0 < (axc v k).sign * (axc u k).sign := by
  have hM := dot_ne (axc_ne hn)
  have c1 := cmp_par hv k
  have c2 := cmp_par hu k
  have c3 := par_dot u hv
  rw [← Int.sign_mul, Int.sign_pos_iff]
  symm
  refine sign_prod_pos hM (sq_pos_of hn) ?_
  have h1 : dotI n n * (dotI n n * (axc v k * axc u k)) = dotI n n * (dotI v u * (axc n k * axc n k)) := by
    have : dotI n n * (dotI n n * (axc v k * axc u k)) = (dotI n n * axc v k) * (dotI n n * axc u k) := by grind
    rw [this, c1, c2, ← Int.mul_assoc (dotI n n) (dotI v u), c3]
    grind
  exact eq_of_mul hM h1
theorem lo2_eq (p q : P3) : lo2 p q = lo p q := rfl
theorem ptE_eq {p q : P3} : ptE p q = true ↔ p = q := by
  rw [ptE_iff, decide_eq_true_eq]
  cases p; cases q; simp
theorem hi2_eq (p q : P3) : hi2 p q = hi p q := by
  unfold hi2 hi
  rcases less_or p q with h | ⟨h1, h2, h3⟩
  · cases g : lessI q p <;> rw [g] at h <;> rw [h] <;> rfl
  · rw [h1, h2]
    have := ptE_eq.1 h3
    simp [this]
theorem lo_hi_eq {p q : P3} : ptE (lo p q) (hi p q) = ptE p q := by
  unfold lo hi
  split
  · exact bool_ext (by rw [ptE_eq, ptE_eq]; exact eq_comm)
  · rfl
theorem nrm_aa (a c : P3) : nrmI a a c = ⟨0, 0, 0⟩ := by simp only [nrmI, crsI, difI, P3.mk.injEq]; refine ⟨?_, ?_, ?_⟩ <;> grind
theorem flat_aa (a c : P3) : flatI a a c = true := flat_of (nrm_aa a c)
theorem flat_low {r s p : P3} : flatI (lo r s) (hi r s) p = flatI r s p := by
  unfold lo hi
  split
  · rw [flat_swap]
  · rfl
/-- Parallel segments: one of the normals says whether all points lie on a line. -/
theorem par_line {p q r s : P3} (hN : crsI (difI p q) (difI r s) = ⟨0, 0, 0⟩) : lineI (lo2 p q) (hi2 p q) (lo2 r s) (hi2 r s) = (flatI p q r && flatI p q s && flatI r s p && flatI r s q) := by
  obtain ⟨p1, p2⟩ := par_nrm hN
  have f1 : flatI p q s = flatI p q r := by unfold flatI; rw [p1]
  have f2 : flatI r s q = flatI r s p := by unfold flatI; rw [p2]
  rw [lo2_eq, lo2_eq, hi2_eq, hi2_eq, f1, f2]
  unfold lineI
  rw [lo_hi_eq]
  by_cases he : ptE p q = true
  · rw [if_pos he]
    have e := ptE_eq.1 he
    subst e
    have : lo p p = p := by unfold lo; split <;> rfl
    rw [this, flat_low, flat_aa]; simp
  · rw [if_neg he]
    have hne : p ≠ q := fun g => he (ptE_eq.2 g)
    have hl : flatI (lo p q) (hi p q) (lo r s) = flatI p q r := by
      rw [flat_low]; rcases lo_or r s with g | g <;> rw [g]; exact f1
    rw [hl]
    have key : flatI p q r = true → flatI r s p = true := fun h => by
      have n := nrm_of h
      have hE : 0 < dotI (difI p q) (difI p q) := by
        rcases Int.lt_or_le 0 (dotI (difI p q) (difI p q)) with k | k
        · exact k
        · exact absurd (dif_zero (by omega)) hne
      have e := crs3 (difI p q) (difI r s) (difI p q)
      rw [hN] at e
      have e0 : crsI ⟨0, 0, 0⟩ (difI p q) = ⟨0, 0, 0⟩ := by simp [crsI]
      rw [e0] at e
      generalize dotI (difI p q) (difI p q) = E at *
      generalize dotI (difI r s) (difI p q) = G at *
      simp only [nrmI, crsI, difI, P3.mk.injEq] at n e
      obtain ⟨n1, n2, n3⟩ := n
      obtain ⟨e1, e2, e3⟩ := e
      apply flat_of
      simp only [nrmI, crsI, difI, P3.mk.injEq]
      refine ⟨zero_of hE ?_, zero_of hE ?_, zero_of hE ?_⟩ <;> grind
    cases h : flatI p q r with
    | false => simp
    | true => simp [key h]
/-- The reference's segments. -/
theorem cross_eq (p q r s : P3) : crossI p q r s = segI p q r s := by
  unfold crossI sgnsI nmsI
  rw [axI_sgn]
  simp only [axc_sgn]
  rcases axI_lt (crsI (difI p q) (difI r s)) with ⟨h1, h2⟩ | ⟨h1, h2⟩
  · rw [if_pos h1]
    have hN := dot_ne (axc_ne h2)
    unfold segI
    by_cases hd : (detI p q r s).sign = 0
    · have d0 := sign_ne.1 hd
      rw [if_pos hd, not_flats hN, if_neg (by decide)]
      have k1 := same_cmp h2 (seg_v1 d0) (seg_v2 d0)
      have k2 := same_cmp h2 (seg_v3 d0) (seg_v4 d0)
      unfold sameI
      rw [← Int.sign_pos_iff] at k1 k2
      generalize (axc (nrmI p q r) (axI (crsI (difI p q) (difI r s)))).sign * (axc (nrmI p q s) (axI (crsI (difI p q) (difI r s)))).sign = u at *
      generalize (axc (nrmI r s p) (axI (crsI (difI p q) (difI r s)))).sign * (axc (nrmI r s q) (axI (crsI (difI p q) (difI r s)))).sign = v at *
      refine bool_ext ?_
      simp only [decide_eq_true_eq, Bool.and_eq_true, Bool.not_eq_true', decide_eq_false_iff_not]
      omega
    · rw [if_neg hd, decide_eq_false (fun g => hd g.1)]
  · rw [if_neg (by omega), par_line h2]
    unfold segI
    rw [par_det h2, if_pos (show Int.sign 0 = 0 from rfl)]
    by_cases hf : (flatI p q r && flatI p q s && flatI r s p && flatI r s q) = true
    · rw [if_pos hf, hf]
      unfold ovlI
      rw [lo2_eq, lo2_eq, hi2_eq, hi2_eq]; simp
    · rw [if_neg hf]
      rw [Bool.not_eq_true] at hf
      rw [hf]
      symm
      rcases Bool.eq_false_or_eq_true (!sameI p q r s && !sameI r s p q) with g | g
      · exfalso
        simp only [Bool.and_eq_true, Bool.not_eq_true'] at g
        have := par_same h2 g.1 g.2
        rw [this.1, this.2.1, this.2.2.1, this.2.2.2] at hf
        exact absurd hf (by decide)
      · rw [g]; rfl
theorem ovr_v {a b c x : P3} (h : detI a b c x = 0) : crsI (nrmI a b x) (nrmI a b c) = ⟨0, 0, 0⟩ := by
  have e := crs_edge (difI a b) (difI a c) (difI a x)
  have h0 : dotI (crsI (difI a b) (difI a c)) (difI a x) = 0 := h
  rw [h0] at e
  show crsI (crsI (difI a b) (difI a x)) (crsI (difI a b) (difI a c)) = _
  rw [e]; simp [scl]
/-- The reference's points of a triangle. -/
theorem within_eq {p a b c : P3} (hf : flatI a b c = false) (hp : detI a b c p = 0) : withinI p a b c = covI a b c p := by
  have hM := dot_pos hf
  unfold withinI nmsI
  rw [axI_sgn]
  simp only [axc_sgn]
  rcases axI_lt (nrmI a b c) with ⟨_, h2⟩ | ⟨_, h2⟩
  case inr => exfalso; rw [flat_of h2] at hf; cases hf
  have c1 := cmp_par (ovr_v hp) (axI (nrmI a b c))
  have c2 := cmp_par (ovr_v (a := b) (b := c) (c := a) (x := p) (by rw [det_turn]; exact hp)) (axI (nrmI a b c))
  have c3 := cmp_par (ovr_v (a := c) (b := a) (c := b) (x := p) (by rw [det_turn, det_turn]; exact hp)) (axI (nrmI a b c))
  rw [nrm_turn a b c] at c2
  rw [nrm_turn b c a, nrm_turn a b c] at c3
  have hs := ovr_sum a b c p
  unfold ovr at hs
  rw [nrm_turn b c a, nrm_turn a b c] at hs
  unfold covI covB turns
  simp only [List.any_cons, List.any_nil]
  generalize axc (nrmI a b p) (axI (nrmI a b c)) = u1 at *
  generalize axc (nrmI b c p) (axI (nrmI a b c)) = u2 at *
  generalize axc (nrmI c a p) (axI (nrmI a b c)) = u3 at *
  generalize axc (nrmI a b c) (axI (nrmI a b c)) = n at *
  generalize dotI (nrmI a b c) (nrmI a b p) = v1 at *
  generalize dotI (nrmI a b c) (nrmI b c p) = v2 at *
  generalize dotI (nrmI a b c) (nrmI c a p) = v3 at *
  generalize dotI (nrmI a b c) (nrmI a b c) = M at *
  refine bool_ext ?_
  simp only [decide_eq_true_eq, Bool.not_eq_true', Bool.or_eq_false_iff, decide_eq_false_iff_not, Bool.or_false]
  have sg : ∀ x : Int, (0 ≤ x.sign ↔ 0 ≤ x) ∧ (x.sign ≤ 0 ↔ x ≤ 0) := fun x => by
    rcases Int.lt_trichotomy x 0 with k | k | k
    · rw [Int.sign_eq_neg_one_of_neg k]; omega
    · subst k; simp
    · rw [Int.sign_eq_one_of_pos k]; omega
  have s1 := sg u1
  have s2 := sg u2
  have s3 := sg u3
  have t1 := sg v1
  have t2 := sg v2
  have t3 := sg v3
  rcases Int.lt_or_le 0 n with k | k
  · have l1 := lex_same (a := u1) (b := v1) hM k (by rw [c1, Int.mul_comm])
    have l2 := lex_same (a := u2) (b := v2) hM k (by rw [c2, Int.mul_comm])
    have l3 := lex_same (a := u3) (b := v3) hM k (by rw [c3, Int.mul_comm])
    omega
  · have k2 : 0 < -n := by omega
    have l1 := lex_same (a := u1) (b := -v1) hM k2 (by rw [c1]; grind)
    have l2 := lex_same (a := u2) (b := -v2) hM k2 (by rw [c2]; grind)
    have l3 := lex_same (a := u3) (b := -v3) hM k2 (by rw [c3]; grind)
    omega
theorem flat_abc {a b c x y z : P3} (h : flatI a b c = true) (hx : x = a ∨ x = b ∨ x = c) (hy : y = a ∨ y = b ∨ y = c) (hz : z = a ∨ z = b ∨ z = c) : flatI x y z = true := by
  have h1 : flatI b c a = true := by rw [flat_turn]; exact h
  have h2 : flatI c a b = true := by rw [flat_turn]; exact h1
  have h3 : flatI b a c = true := by rw [flat_swap]; exact h
  have h4 : flatI a c b = true := by rw [flat_turn b a c]; exact h3
  have h5 : flatI c b a = true := by rw [flat_turn a c b]; exact h4
  have k1 : ∀ u v, flatI u u v = true := flat_aa
  have k2 : ∀ u v, flatI u v u = true := fun u v => by rw [flat_turn u u v]; exact flat_aa u v
  have k3 : ∀ u v, flatI v u u = true := fun u v => by rw [flat_turn u v u]; exact k2 u v
  rcases hx with hx | hx | hx <;> rcases hy with hy | hy | hy <;> rcases hz with hz | hz | hz <;> rw [hx, hy, hz] <;> first | with_reducible assumption | with_reducible exact k1 _ _ | with_reducible exact k2 _ _ | with_reducible exact k3 _ _
theorem lo3_or (a b c : P3) : lo2 (lo2 a b) c = a ∨ lo2 (lo2 a b) c = b ∨ lo2 (lo2 a b) c = c := by
  unfold lo2; split <;> (try split) <;> simp
theorem hi3_or (a b c : P3) : hi2 (hi2 a b) c = a ∨ hi2 (hi2 a b) c = b ∨ hi2 (hi2 a b) c = c := by
  unfold hi2; split <;> (try split) <;> simp
theorem lo3_le {a b c z : P3} (hz : z = a ∨ z = b ∨ z = c) : lessI z (lo2 (lo2 a b) c) = false := by
  have k : ∀ l p x : P3, x = l ∨ x = p → lessI x (lo2 l p) = false := fun l p x h => by
    unfold lo2
    split <;> rename_i g <;> rw [lessI_eq] at * <;> rw [decide_eq_false_iff_not] <;> simp only [decide_eq_true_eq] at g <;> rcases h with rfl | rfl <;> omega
  rcases hz with rfl | rfl | rfl
  · exact not_less (k _ _ _ (.inl rfl)) (k _ _ _ (.inl rfl))
  · exact not_less (k _ _ _ (.inr rfl)) (k _ _ _ (.inl rfl))
  · exact k _ _ _ (.inr rfl)
theorem hi3_le {a b c z : P3} (hz : z = a ∨ z = b ∨ z = c) : lessI (hi2 (hi2 a b) c) z = false := by
  have k : ∀ l p x : P3, x = l ∨ x = p → lessI (hi2 l p) x = false := fun l p x h => by
    unfold hi2
    split <;> rename_i g <;> rw [lessI_eq] at * <;> rw [decide_eq_false_iff_not] <;> simp only [decide_eq_true_eq] at g <;> rcases h with rfl | rfl <;> omega
  rcases hz with rfl | rfl | rfl
  · exact not_less (k _ _ _ (.inl rfl)) (k _ _ _ (.inl rfl))
  · exact not_less (k _ _ _ (.inl rfl)) (k _ _ _ (.inr rfl))
  · exact k _ _ _ (.inr rfl)
/-- A common point with a part is one with the whole. -/
theorem Cmn.wider {x y e f l h : P3} {k m i j : Int} (g : Cmn x y e f k m i j) {a b c d : Int} (he : On e l h a b) (hf : On f l h c d) : ∃ k m i j, Cmn x y l h k m i j := by
  have g1 := g.x
  have g2 := g.y
  have g3 := g.z
  have e1 := he.x
  have e2 := he.y
  have e3 := he.z
  have f1 := hf.x
  have f2 := hf.y
  have f3 := hf.z
  have hs := g.eq
  have pa := he.pos
  have pc := hf.pos
  have pp := Int.mul_pos pa pc
  refine ⟨k * ((a + b) * (c + d)), m * ((a + b) * (c + d)), i * (c + d) * a + j * (a + b) * c, i * (c + d) * b + j * (a + b) * d, Int.mul_nonneg g.hk (by omega), Int.mul_nonneg g.hm (by omega), ?_, ?_, ?_, ?_, ?_, ?_, ?_⟩
  · exact Int.add_nonneg (Int.mul_nonneg (Int.mul_nonneg g.hi (by omega)) he.hk) (Int.mul_nonneg (Int.mul_nonneg g.hj (by omega)) hf.hk)
  · exact Int.add_nonneg (Int.mul_nonneg (Int.mul_nonneg g.hi (by omega)) he.hm) (Int.mul_nonneg (Int.mul_nonneg g.hj (by omega)) hf.hm)
  · rw [← Int.add_mul, hs]; grind
  · rw [← Int.add_mul]; exact Int.mul_pos g.pos pp
  · have : k * ((a + b) * (c + d)) * x.x + m * ((a + b) * (c + d)) * y.x = ((a + b) * (c + d)) * (i * e.x + j * f.x) := by rw [← g1]; grind
    have this2 : ((a + b) * (c + d)) * (i * e.x + j * f.x) = i * (c + d) * ((a + b) * e.x) + j * (a + b) * ((c + d) * f.x) := by grind
    rw [this, this2, e1, f1]; grind
  · have : k * ((a + b) * (c + d)) * x.y + m * ((a + b) * (c + d)) * y.y = ((a + b) * (c + d)) * (i * e.y + j * f.y) := by rw [← g2]; grind
    have this2 : ((a + b) * (c + d)) * (i * e.y + j * f.y) = i * (c + d) * ((a + b) * e.y) + j * (a + b) * ((c + d) * f.y) := by grind
    rw [this, this2, e2, f2]; grind
  · have : k * ((a + b) * (c + d)) * x.z + m * ((a + b) * (c + d)) * y.z = ((a + b) * (c + d)) * (i * e.z + j * f.z) := by rw [← g3]; grind
    have this2 : ((a + b) * (c + d)) * (i * e.z + j * f.z) = i * (c + d) * ((a + b) * e.z) + j * (a + b) * ((c + d) * f.z) := by grind
    rw [this, this2, e3, f3]; grind
theorem flat_wide {p q a b c e f : P3} (hf : flatI a b c = true) (he : e = a ∨ e = b ∨ e = c) (hg : f = a ∨ f = b ∨ f = c) (h : segI p q e f = true) : segI p q (lo2 (lo2 a b) c) (hi2 (hi2 a b) c) = true := by
  obtain ⟨k, m, i, j, g⟩ := seg_cmn h
  obtain ⟨a1, b1, o1⟩ := on_between (flat_abc hf (lo3_or a b c) (hi3_or a b c) he) (lo3_le he) (hi3_le he)
  obtain ⟨a2, b2, o2⟩ := on_between (flat_abc hf (lo3_or a b c) (hi3_or a b c) hg) (lo3_le hg) (hi3_le hg)
  exact (seg_iff _ _ _ _).2 (g.wider o1 o2)
theorem anti_less {a b : P3} (h1 : lessI a b = false) (h2 : lessI b a = false) : a = b := by
  rcases less_or a b with h | ⟨_, _, h⟩
  · rw [h1, h2] at h; cases h
  · exact ptE_eq.1 h
/-- A flat triangle: its longest side says what all say. -/
theorem flat_sides {p q a b c : P3} (hf : flatI a b c = true) : segI p q (lo2 (lo2 a b) c) (hi2 (hi2 a b) c) = (segI p q a b || segI p q b c || segI p q c a) := by
  refine bool_ext ⟨fun h => ?_, fun h => ?_⟩
  · by_cases he : lo2 (lo2 a b) c = hi2 (hi2 a b) c
    · have eq : ∀ z, (z = a ∨ z = b ∨ z = c) → z = lo2 (lo2 a b) c := fun z hz => anti_less (lo3_le hz) (by rw [he]; exact hi3_le hz)
      have ea := eq a (.inl rfl)
      have eb := eq b (.inr (.inl rfl))
      rw [← he] at h
      have : segI p q a b = true := by
        rw [← ea] at h
        rw [← ea] at eb
        rw [eb]; exact h
      rw [this]; rfl
    · rcases lo3_or a b c with l | l | l <;> rcases hi3_or a b c with g | g | g <;> rw [l, g] at h he
      · exact absurd rfl he
      · rw [h]; rfl
      · rw [seg_swap2] at h; rw [h]; simp
      · rw [seg_swap2] at h; rw [h]; rfl
      · exact absurd rfl he
      · rw [h]; simp
      · rw [h]; simp
      · rw [seg_swap2] at h; rw [h]; simp
      · exact absurd rfl he
  · simp only [Bool.or_eq_true] at h
    rcases h with (h | h) | h
    · exact flat_wide hf (.inl rfl) (.inr (.inl rfl)) h
    · exact flat_wide hf (.inr (.inl rfl)) (.inr (.inr rfl)) h
    · exact flat_wide hf (.inr (.inr rfl)) (.inl rfl) h
theorem flat_det {a b c : P3} (hf : flatI a b c = true) (z : P3) : detI a b c z = 0 := by
  show dotI (crsI (difI a b) (difI a c)) (difI a z) = 0
  rw [flat_crs hf]; simp [dotI]
/-- The reference's Touch. -/
theorem rTouch_eq (p q a b c : P3) : rTouchI p q a b c = touchI p q a b c := by
  unfold rTouchI touchI
  by_cases hf : flatI a b c = true
  · rw [if_pos hf, flat_det hf p, flat_det hf q, if_pos ⟨rfl, rfl⟩, cross_eq, flat_sides hf]
    unfold tipI turns tipB
    simp [hf, Bool.or_assoc]
  · rw [if_neg hf]
    rw [Bool.not_eq_true] at hf
    by_cases hz : (detI a b c p).sign = 0 ∧ (detI a b c q).sign = 0
    · rw [if_pos hz, hz.1, hz.2, if_neg (by decide), if_pos ⟨rfl, rfl⟩, cross_eq, cross_eq, cross_eq, within_eq hf (sign_ne.1 hz.1)]
      unfold tipI turns tipB
      simp [hf, Bool.or_assoc]
    · rw [if_neg hz, if_neg hz]
      unfold touchN
      have t : ∀ x : Int, x.sign = -1 ∨ x.sign = 0 ∨ x.sign = 1 := fun x => by
        rcases Int.lt_trichotomy x 0 with k | k | k
        · exact .inl (Int.sign_eq_neg_one_of_neg k)
        · subst k; exact .inr (.inl rfl)
        · exact .inr (.inr (Int.sign_eq_one_of_pos k))
      have h : 0 < (detI a b c p).sign * (detI a b c q).sign ↔ (detI a b c p).sign = (detI a b c q).sign := by
        rcases t (detI a b c p) with k | k | k <;> rcases t (detI a b c q) with g | g | g <;> rw [k, g] at hz ⊢ <;> first | decide | exact absurd ⟨rfl, rfl⟩ hz
      by_cases g : (detI a b c p).sign = (detI a b c q).sign
      · rw [if_pos (h.2 g), if_pos g]
      · rw [if_neg (fun k => g (h.1 k)), if_neg g]
        unfold pierceI leftOf rightOf turns
        simp only [List.any_cons, List.any_nil]
        refine bool_ext ?_
        simp only [decide_eq_true_eq, Bool.or_eq_true, Bool.not_eq_true', Bool.or_eq_false_iff, decide_eq_false_iff_not, Bool.or_false]
        omega
/-! The ends of a segment may be exchanged. -/
theorem bary {a b c x : P3} (h : detI a b c x = 0) : dotI (nrmI a b c) (nrmI a b c) * x.x = ovr b c a x * a.x + ovr c a b x * b.x + ovr a b c x * c.x ∧ dotI (nrmI a b c) (nrmI a b c) * x.y = ovr b c a x * a.y + ovr c a b x * b.y + ovr a b c x * c.y ∧ dotI (nrmI a b c) (nrmI a b c) * x.z = ovr b c a x * a.z + ovr c a b x * b.z + ovr a b c x * c.z := by
  have ip := in_plane (difI a b) (difI a c) (difI a x) h
  have e1 : dotI (crsI (difI a b) (difI a c)) (crsI (difI a x) (difI a c)) = ovr c a b x := (ovr_ca a b c x).symm
  have e2 : dotI (crsI (difI a b) (difI a c)) (crsI (difI a b) (difI a x)) = ovr a b c x := rfl
  have e3 : dotI (crsI (difI a b) (difI a c)) (crsI (difI a b) (difI a c)) = dotI (nrmI a b c) (nrmI a b c) := rfl
  have hs := ovr_sum a b c x
  rw [e3, e1, e2] at ip
  generalize ovr a b c x = u at *
  generalize ovr b c a x = v at *
  generalize ovr c a b x = t at *
  generalize dotI (nrmI a b c) (nrmI a b c) = M at *
  simp only [scl, difI, P3.mk.injEq] at ip
  obtain ⟨i1, i2, i3⟩ := ip
  subst hs
  refine ⟨by grind, by grind, by grind⟩
theorem cov_ovr {a b c x : P3} (h : covI a b c x = true) : 0 ≤ ovr a b c x ∧ 0 ≤ ovr b c a x ∧ 0 ≤ ovr c a b x := by
  unfold covI covB turns at h
  unfold ovr
  rw [nrm_turn b c a, nrm_turn a b c]
  simp only [List.any_cons, List.any_nil, Bool.not_eq_true', Bool.or_eq_false_iff, decide_eq_false_iff_not, Bool.or_false] at h
  have sg : ∀ x : Int, ¬ x.sign < 0 → 0 ≤ x := fun x hx => by
    rcases Int.lt_or_le x 0 with k | k
    · rw [Int.sign_eq_neg_one_of_neg k] at hx; omega
    · exact k
  exact ⟨sg _ h.1, sg _ h.2.1, sg _ h.2.2⟩
theorem edge_out {p q a b c : P3} (hf : flatI a b c = false) (hp : detI a b c p = 0) (hq : detI a b c q = 0) (h1 : 0 ≤ ovr a b c p) (g : ovr a b c q < 0)
    (k2 : ovr b c a p * ovr a b c q ≤ ovr a b c p * ovr b c a q) (k3 : ovr c a b p * ovr a b c q ≤ ovr a b c p * ovr c a b q) : segI p q a b = true := by
  have hM := dot_pos hf
  obtain ⟨p1, p2, p3⟩ := bary hp
  obtain ⟨q1, q2, q3⟩ := bary hq
  have sp := ovr_sum a b c p
  have sq := ovr_sum a b c q
  generalize dotI (nrmI a b c) (nrmI a b c) = M at *
  generalize ovr a b c p = u at *
  generalize ovr b c a p = v at *
  generalize ovr c a b p = t at *
  generalize ovr a b c q = u' at *
  generalize ovr b c a q = v' at *
  generalize ovr c a b q = t' at *
  refine Cmn.seg (k := -u' * M) (m := u * M) (i := u * v' - u' * v) (j := u * t' - u' * t) ⟨?_, ?_, ?_, ?_, ?_, ?_, ?_, ?_, ?_⟩
  · exact Int.mul_nonneg (by omega) (by omega)
  · exact Int.mul_nonneg (by omega) (by omega)
  · rw [Int.mul_comm u' v]; omega
  · rw [Int.mul_comm u' t]; omega
  · have e1 : u' = M - v' - t' := by omega
    have e2 : u = M - v - t := by omega
    subst e1 e2; grind
  · rw [← Int.add_mul]; exact Int.mul_pos (by omega) hM
  · have : -u' * M * p.x + u * M * q.x = -u' * (M * p.x) + u * (M * q.x) := by grind
    rw [this, p1, q1]; grind
  · have : -u' * M * p.y + u * M * q.y = -u' * (M * p.y) + u * (M * q.y) := by grind
    rw [this, p2, q2]; grind
  · have : -u' * M * p.z + u * M * q.z = -u' * (M * p.z) + u * (M * q.z) := by grind
    rw [this, p3, q3]; grind
theorem tip_half {p q a b c : P3} (hp : detI a b c p = 0) (hq : detI a b c q = 0) (h : tipI p q a b c = true) : tipI q p a b c = true := by
  have sw : (turns a b c).any (tipB q p) = (turns a b c).any (tipB p q) := by
    unfold turns tipB
    simp only [List.any_cons, List.any_nil]
    rw [seg_swap p q a b, seg_swap p q b c, seg_swap p q c a]
  unfold tipI at h ⊢
  rw [sw]
  cases hs : (turns a b c).any (tipB p q) with
  | true => rfl
  | false =>
    rw [hs] at h
    simp only [Bool.false_or, Bool.and_eq_true, Bool.not_eq_true'] at h ⊢
    obtain ⟨hf, hc⟩ := h
    refine ⟨hf, ?_⟩
    obtain ⟨c1, c2, c3⟩ := cov_ovr hc
    unfold turns tipB at hs
    simp only [List.any_cons, List.any_nil, Bool.or_eq_false_iff] at hs
    obtain ⟨s1, s2, s3, _⟩ := hs
    rcases pick (r1 := ovr a b c q) (r2 := ovr b c a q) (r3 := ovr c a b q) c1 c2 c3 with ⟨g1, g2, g3⟩ | ⟨g1, g2, g3⟩ | ⟨g1, g2, g3⟩ | ⟨g1, g2, g3⟩
    · exact cov_of g1 g2 g3
    · rw [edge_out hf hp hq c1 g1 g2 g3] at s1; cases s1
    · rw [edge_out (by rw [flat_turn]; exact hf) (by rw [det_turn]; exact hp) (by rw [det_turn]; exact hq) c2 g1 g2 g3] at s2; cases s2
    · rw [edge_out (by rw [flat_turn, flat_turn]; exact hf) (by rw [det_turn, det_turn]; exact hp) (by rw [det_turn, det_turn]; exact hq) c3 g1 g2 g3] at s3; cases s3
theorem det_pq (p q a b : P3) : detI q p a b = -detI p q a b := by simp only [detI, dotI, crsI, difI]; grind
theorem touch_swap (p q a b c : P3) : touchI q p a b c = touchI p q a b c := by
  unfold touchI
  by_cases hz : (detI a b c p).sign = 0 ∧ (detI a b c q).sign = 0
  · rw [if_pos hz, if_pos ⟨hz.2, hz.1⟩]
    have hp := sign_ne.1 hz.1
    have hq := sign_ne.1 hz.2
    exact bool_ext ⟨tip_half hq hp, tip_half hp hq⟩
  · rw [if_neg hz, if_neg (fun g => hz ⟨g.2, g.1⟩)]
    unfold touchN
    by_cases g : (detI a b c p).sign = (detI a b c q).sign
    · rw [if_pos g, if_pos g.symm]
    · rw [if_neg g, if_neg (fun k => g k.symm)]
      unfold pierceI leftOf rightOf turns
      simp only [List.any_cons, List.any_nil]
      rw [det_pq p q a b, det_pq p q b c, det_pq p q c a, Int.sign_neg, Int.sign_neg, Int.sign_neg]
      refine bool_ext ?_
      simp only [Bool.or_eq_true, Bool.not_eq_true', Bool.or_eq_false_iff, decide_eq_false_iff_not, Bool.or_false]
      omega

end Go.Proofs.YtandlbacjfdkpaaGreatDoor

/- A segment touches a triangle: they have a common point, by weights. -/
namespace Go.Proofs.YtandlbacjfdkpaaGreatDoor
open Go Go.RowKit Dg

/-- The segment x y and the triangle a b c have a common point: its weights. -/
structure Hit (p q a b c : P3) (k m u v t : Int) : Prop where
  hk : 0 ≤ k
  hm : 0 ≤ m
  hu : 0 ≤ u
  hv : 0 ≤ v
  ht : 0 ≤ t
  eq : k + m = u + v + t
  pos : 0 < k + m
  x : k * p.x + m * q.x = u * a.x + v * b.x + t * c.x
  y : k * p.y + m * q.y = u * a.y + v * b.y + t * c.y
  z : k * p.z + m * q.z = u * a.z + v * b.z + t * c.z
theorem Hit.turn {x y a b c : P3} {k m u v t : Int} (h : Hit x y a b c k m u v t) : Hit x y b c a k m v t u :=
  ⟨h.hk, h.hm, h.hv, h.ht, h.hu, by have := h.eq; omega, h.pos, by have := h.x; omega, by have := h.y; omega, by have := h.z; omega⟩
theorem Hit.flip {x y a b c : P3} {k m u v t : Int} (h : Hit x y a b c k m u v t) : Hit x y b a c k m v u t :=
  ⟨h.hk, h.hm, h.hv, h.hu, h.ht, by have := h.eq; omega, h.pos, by have := h.x; omega, by have := h.y; omega, by have := h.z; omega⟩

/-- Along a segment through a point of the plane: volumes at the ends. -/
theorem det_lin {p x y a b c : P3} {k m : Int} (g : On p x y k m) : (k + m) * detI a b c p = k * detI a b c x + m * detI a b c y := by
  have e1 := g.x
  have e2 := g.y
  have e3 := g.z
  simp only [detI, dotI, crsI, difI]
  grind
theorem det_on {p x y a b : P3} {k m : Int} (g : On p x y k m) : (k + m) * detI p y a b = k * detI x y a b ∧ (k + m) * detI x p a b = m * detI x y a b := by
  have e1 := g.x
  have e2 := g.y
  have e3 := g.z
  simp only [detI, dotI, crsI, difI]
  exact ⟨by grind, by grind⟩
theorem on_cmn {p x y e f : P3} {k m : Int} (g : On p x y k m) (h : segI p y e f = true) : segI x y e f = true := by
  obtain ⟨k1, m1, i1, j1, h1⟩ := seg_cmn h
  obtain ⟨k2, m2, i2, j2, h2⟩ := h1.other.wider g ⟨by decide, by decide, by decide, by omega, by omega, by omega⟩ (c := 0) (d := 1)
  exact h2.other.seg
theorem hit_on {p x y a b c : P3} {u v t k m : Int} (h : Wgt p a b c u v t) (g : On p x y k m) : touchI x y a b c = true := by
  rcases Bool.eq_false_or_eq_true (flatI a b c) with hf | hf
  · exact touch_flat h hf g
  have dp := det_plane h
  have dl := det_lin (a := a) (b := b) (c := c) g
  rw [dp, Int.mul_zero] at dl
  have hk := g.hk
  have hm := g.hm
  have hpos := g.pos
  unfold touchI
  by_cases hz : (detI a b c x).sign = 0 ∧ (detI a b c y).sign = 0
  · rw [if_pos hz]
    have hx := sign_ne.1 hz.1
    have hy := sign_ne.1 hz.2
    have t1 := tip_half dp hx (tip_p h x hf)
    unfold tipI turns tipB at t1 ⊢
    simp only [List.any_cons, List.any_nil, Bool.or_false, Bool.or_eq_true, Bool.and_eq_true] at t1 ⊢
    have w : ∀ e f, segI x p e f = true → segI x y e f = true := fun e f h => by
      rw [← seg_swap] at h ⊢; exact on_cmn g.turn h
    rcases t1 with (h1 | h1 | h1) | h1
    · exact .inl (.inl (w _ _ h1))
    · exact .inl (.inr (.inl (w _ _ h1)))
    · exact .inl (.inr (.inr (w _ _ h1)))
    · exact .inr h1
  · rw [if_neg hz]
    unfold touchN
    have ne : ¬ (detI a b c x).sign = (detI a b c y).sign := fun e => by
      rcases Int.lt_trichotomy (detI a b c x) 0 with q | q | q
      · rw [Int.sign_eq_neg_one_of_neg q] at e
        have q2 : detI a b c y < 0 := Int.sign_eq_neg_one_iff_neg.1 e.symm
        have p1 : k * detI a b c x ≤ 0 := Int.mul_nonpos_of_nonneg_of_nonpos hk (by omega)
        have p2 : m * detI a b c y ≤ 0 := Int.mul_nonpos_of_nonneg_of_nonpos hm (by omega)
        have z1 : k * detI a b c x = 0 := by omega
        have z2 : m * detI a b c y = 0 := by omega
        rcases Int.mul_eq_zero.1 z1 with r | r <;> rcases Int.mul_eq_zero.1 z2 with r2 | r2 <;> omega
      · rw [q] at e hz; exact hz ⟨rfl, e.symm⟩
      · rw [Int.sign_eq_one_of_pos q] at e
        have q2 : 0 < detI a b c y := Int.sign_eq_one_iff_pos.1 e.symm
        have p1 : 0 ≤ k * detI a b c x := Int.mul_nonneg hk (by omega)
        have p2 : 0 ≤ m * detI a b c y := Int.mul_nonneg hm (by omega)
        have z1 : k * detI a b c x = 0 := by omega
        have z2 : m * detI a b c y = 0 := by omega
        rcases Int.mul_eq_zero.1 z1 with r | r <;> rcases Int.mul_eq_zero.1 z2 with r2 | r2 <;> omega
    rw [if_neg ne]
    have hs := h.pos
    have al : ∀ e f (w : Int), 0 ≤ w → (u + v + t) * detI p y e f = w * detI a b c y → (u + v + t) * detI p x e f = w * detI a b c x → Along (detI x y e f) (if 0 < k then detI a b c y else -detI a b c x) := fun e f w hw e1 e2 => by
      obtain ⟨d1, d2⟩ := det_on (a := e) (b := f) g
      by_cases hk0 : 0 < k
      · rw [if_pos hk0]
        refine along_of (s := (u + v + t) * k) (m := (k + m) * w) (Int.mul_pos hs hk0) (Int.mul_nonneg (by omega) hw) ?_
        rw [Int.mul_assoc, ← d1, ← Int.mul_assoc, Int.mul_comm (u + v + t) (k + m), Int.mul_assoc, e1, Int.mul_assoc]
      · rw [if_neg hk0]
        have hm0 : 0 < m := by omega
        refine along_of (s := (u + v + t) * m) (m := (k + m) * w) (Int.mul_pos hs hm0) (Int.mul_nonneg (by omega) hw) ?_
        rw [Int.mul_assoc, ← d2, ← Int.mul_assoc, Int.mul_comm (u + v + t) (k + m), Int.mul_assoc, det_pq p x, Int.mul_neg, e2, Int.mul_assoc, ← Int.mul_neg]
    have q1 := h.turn
    have q2 := q1.turn
    refine pierce_along (al a b t h.ht (det_edge h) (det_edge h)) (al b c u h.hu ?_ ?_) (al c a v h.hv ?_ ?_)
    · have e := det_edge (q := y) q1; rw [det_turn a b c, show v + t + u = u + v + t by omega] at e; exact e
    · have e := det_edge (q := x) q1; rw [det_turn a b c, show v + t + u = u + v + t by omega] at e; exact e
    · have e := det_edge (q := y) q2; rw [det_turn b c a, det_turn a b c, show t + u + v = u + v + t by omega] at e; exact e
    · have e := det_edge (q := x) q2; rw [det_turn b c a, det_turn a b c, show t + u + v = u + v + t by omega] at e; exact e
/-- Scaled points: a common point that is a point. -/
theorem Hit.touch {x y a b c : P3} {k m u v t : Int} (h : Hit x y a b c k m u v t) : touchI x y a b c = true := by
  obtain ⟨s, hs⟩ : ∃ s, s = k + m := ⟨_, rfl⟩
  have hp : 0 < s := by rw [hs]; exact h.pos
  rw [← touch_mov hp x y a b c ⟨0, 0, 0⟩]
  have e1 := h.x
  have e2 := h.y
  have e3 := h.z
  have e4 := h.eq
  refine hit_on (p := ⟨k * x.x + m * y.x, k * x.y + m * y.y, k * x.z + m * y.z⟩) (u := u) (v := v) (t := t) (k := k) (m := m) ⟨h.hu, h.hv, h.ht, by omega, ?_, ?_, ?_⟩ ⟨h.hk, h.hm, h.pos, ?_, ?_, ?_⟩ <;> simp only [movI]
  · rw [← e4, ← hs, e1]; grind
  · rw [← e4, ← hs, e2]; grind
  · rw [← e4, ← hs, e3]; grind
  · rw [← hs]; grind
  · rw [← hs]; grind
  · rw [← hs]; grind

/-! The other way. -/
theorem dets_sum (x y a b c : P3) : detI x y a b + detI x y b c + detI x y c a = detI a b c y - detI a b c x := by
  simp only [detI, dotI, crsI, difI]; grind
theorem dets_pt (x y a b c : P3) : detI a b c y * x.x - detI a b c x * y.x = detI x y b c * a.x + detI x y c a * b.x + detI x y a b * c.x ∧ detI a b c y * x.y - detI a b c x * y.y = detI x y b c * a.y + detI x y c a * b.y + detI x y a b * c.y ∧ detI a b c y * x.z - detI a b c x * y.z = detI x y b c * a.z + detI x y c a * b.z + detI x y a b * c.z := by
  simp only [detI, dotI, crsI, difI]
  refine ⟨by grind, by grind, by grind⟩
theorem seg_hit {x y a b : P3} (c : P3) (h : segI x y a b = true) : ∃ k m u v t, Hit x y a b c k m u v t := by
  obtain ⟨k, m, i, j, g⟩ := seg_cmn h
  exact ⟨k, m, i, j, 0, g.hk, g.hm, g.hi, g.hj, by decide, by have := g.eq; omega, g.pos, by have := g.x; omega, by have := g.y; omega, by have := g.z; omega⟩
theorem tip_hit {x y a b c : P3} (hx : detI a b c x = 0) (h : tipI x y a b c = true) : ∃ k m u v t, Hit x y a b c k m u v t := by
  unfold tipI turns tipB at h
  simp only [List.any_cons, List.any_nil, Bool.or_false, Bool.or_eq_true, Bool.and_eq_true] at h
  rcases h with (h | h | h) | ⟨hf, hc⟩
  · exact seg_hit c h
  · obtain ⟨k, m, u, v, t, g⟩ := seg_hit a h
    exact ⟨k, m, t, u, v, g.turn.turn⟩
  · obtain ⟨k, m, u, v, t, g⟩ := seg_hit b h
    exact ⟨k, m, v, t, u, g.turn⟩
  · rw [Bool.not_eq_true'] at hf
    have hM := dot_pos hf
    obtain ⟨c1, c2, c3⟩ := cov_ovr hc
    obtain ⟨b1, b2, b3⟩ := bary hx
    have hs := ovr_sum a b c x
    exact ⟨dotI (nrmI a b c) (nrmI a b c), 0, ovr b c a x, ovr c a b x, ovr a b c x, by omega, by decide, c2, c3, c1, by omega, by omega, by omega, by omega, by omega⟩
theorem pierce_hit {x y a b c : P3} (ne : ¬ (detI a b c x).sign = (detI a b c y).sign) (h : pierceI x y a b c = true) : ∃ k m u v t, Hit x y a b c k m u v t := by
  have sm := dets_sum x y a b c
  obtain ⟨p1, p2, p3⟩ := dets_pt x y a b c
  unfold pierceI leftOf rightOf turns at h
  simp only [List.any_cons, List.any_nil, Bool.or_eq_true, Bool.not_eq_true', Bool.or_eq_false_iff, decide_eq_false_iff_not, Bool.or_false] at h
  have sp : ∀ z : Int, ¬ 0 < z.sign ↔ z ≤ 0 := fun z => by
    rcases Int.lt_trichotomy z 0 with q | q | q
    · rw [Int.sign_eq_neg_one_of_neg q]; omega
    · rw [q]; decide
    · rw [Int.sign_eq_one_of_pos q]; omega
  have sn : ∀ z : Int, ¬ z.sign < 0 ↔ 0 ≤ z := fun z => by
    rcases Int.lt_trichotomy z 0 with q | q | q
    · rw [Int.sign_eq_neg_one_of_neg q]; omega
    · rw [q]; decide
    · rw [Int.sign_eq_one_of_pos q]; omega
  simp only [sp, sn] at h
  have sd : (detI a b c x < 0 ∧ 0 ≤ detI a b c y) ∨ (detI a b c x = 0 ∧ detI a b c y ≠ 0) ∨ (0 < detI a b c x ∧ detI a b c y ≤ 0) := by
    rcases Int.lt_trichotomy (detI a b c x) 0 with q | q | q
    · refine .inl ⟨q, ?_⟩
      rcases Int.lt_or_le (detI a b c y) 0 with r | r
      · exact absurd (by rw [Int.sign_eq_neg_one_of_neg q, Int.sign_eq_neg_one_of_neg r]) ne
      · exact r
    · exact .inr (.inl ⟨q, fun r => ne (by rw [q, r])⟩)
    · refine .inr (.inr ⟨q, ?_⟩)
      rcases Int.lt_or_le 0 (detI a b c y) with r | r
      · exact absurd (by rw [Int.sign_eq_one_of_pos q, Int.sign_eq_one_of_pos r]) ne
      · exact r
  generalize detI a b c x = dx at *
  generalize detI a b c y = dy at *
  generalize detI x y a b = X at *
  generalize detI x y b c = Y at *
  generalize detI x y c a = Z at *
  rcases h with ⟨h1, h2, h3⟩ | ⟨h1, h2, h3⟩
  · exact ⟨-dy, dx, -Y, -Z, -X, by omega, by omega, by omega, by omega, by omega, by omega, by omega, by rw [Int.neg_mul, Int.neg_mul, Int.neg_mul, Int.neg_mul]; omega, by rw [Int.neg_mul, Int.neg_mul, Int.neg_mul, Int.neg_mul]; omega, by rw [Int.neg_mul, Int.neg_mul, Int.neg_mul, Int.neg_mul]; omega⟩
  · exact ⟨dy, -dx, Y, Z, X, by omega, by omega, by omega, by omega, by omega, by omega, by omega, by rw [Int.neg_mul]; omega, by rw [Int.neg_mul]; omega, by rw [Int.neg_mul]; omega⟩
/-- A segment touches a triangle if and only if they have a common point. -/
theorem touch_iff (x y a b c : P3) : touchI x y a b c = true ↔ ∃ k m u v t, Hit x y a b c k m u v t := by
  refine ⟨fun h => ?_, fun ⟨_, _, _, _, _, h⟩ => h.touch⟩
  unfold touchI at h
  by_cases hz : (detI a b c x).sign = 0 ∧ (detI a b c y).sign = 0
  · rw [if_pos hz] at h
    exact tip_hit (sign_ne.1 hz.1) h
  · rw [if_neg hz] at h
    unfold touchN at h
    by_cases g : (detI a b c x).sign = (detI a b c y).sign
    · rw [if_pos g] at h; cases h
    · rw [if_neg g] at h
      exact pierce_hit g h
theorem touch_turn (x y a b c : P3) : touchI x y b c a = touchI x y a b c := bool_ext (by
  rw [touch_iff, touch_iff]
  exact ⟨fun ⟨k, m, u, v, t, h⟩ => ⟨k, m, t, u, v, h.turn.turn⟩, fun ⟨k, m, u, v, t, h⟩ => ⟨k, m, v, t, u, h.turn⟩⟩)
theorem touch_flip (x y a b c : P3) : touchI x y b a c = touchI x y a b c := bool_ext (by
  rw [touch_iff, touch_iff]
  exact ⟨fun ⟨k, m, u, v, t, h⟩ => ⟨k, m, v, u, t, h.flip⟩, fun ⟨k, m, u, v, t, h⟩ => ⟨k, m, v, u, t, h.flip⟩⟩)
/-- A segment that begins at a corner. -/
theorem touch_at (y a b c : P3) : touchI a y a b c = true := (touch_iff _ _ _ _ _).2 ⟨1, 0, 1, 0, 0, by decide, by decide, by decide, by decide, by decide, by decide, by decide, by omega, by omega, by omega⟩

end Go.Proofs.YtandlbacjfdkpaaGreatDoor

/- When triangles meet: exact's Meet and the reference's are one, in any order of the triangles and of their corners. -/
namespace Go.Proofs.YtandlbacjfdkpaaGreatDoor
open Go Go.RowKit Dg

/-- The least and the greatest of three numbers. -/
def mn3 (x y z : Int) : Int := min (min x y) z
def mx3 (x y z : Int) : Int := max (max x y) z
/-- The boxes around two triangles are apart along an axis. -/
def offI (a b c p q r : Int) : Bool := decide (mx3 a b c < mn3 p q r) || decide (mx3 p q r < mn3 a b c)
def apartI (a b c p q r : P3) : Bool := offI a.x b.x c.x p.x q.x r.x || offI a.y b.y c.y p.y q.y r.y || offI a.z b.z c.z p.z q.z r.z
/-- An edge of the first triangle touches the second. -/
def edgB (p q r : P3) (x : T3) : Bool := touchI x.a x.b p q r
def edgI (a b c p q r : P3) : Bool := (turns a b c).any (edgB p q r)
def havI (a b c p q r : P3) : Bool := !apartI a b c p q r && (edgI a b c p q r || edgI p q r a b c)
/-- exact.Meet behind its cases. -/
def met1I (s t : T3) : Bool := touchI s.b s.c t.a t.b t.c || touchI t.b t.c s.a s.b s.c
def met2I (s t : T3) : Bool := ((detI s.a s.b s.c t.c).sign == 0) && sameI s.a s.b s.c t.c
def meetI (a b c p q r : P3) : Bool :=
  if comI a b c p q r = 0 then havI a b c p q r
  else if comI a b c p q r = 3 ∨ flatI a b c = true ∨ flatI p q r = true then true
  else if comI a b c p q r = 1 then met1I (cfI a b c p q r) (cfI p q r a b c)
  else met2I (cfI a b c p q r) (cfI p q r a b c)

/-- The reference's Meet. -/
def bothI (a b c p q r : P3) : List P3 := [a, b, c].filter (isC p q r)
def ownI (a b c p q r : P3) : List P3 := [a, b, c].filter (fun x => !isC p q r x)
def cmnI (a b c p q r : P3) : Bool :=
  (touchI a b p q r || touchI p q a b c) || (touchI b c p q r || touchI q r a b c) || (touchI c a p q r || touchI r p a b c)
def at0 (l : List P3) : P3 := l.getD 0 ⟨0, 0, 0⟩
def at1 (l : List P3) : P3 := l.getD 1 ⟨0, 0, 0⟩
theorem at0_cons (x : P3) (l : List P3) : at0 (x :: l) = x := rfl
theorem at1_cons (x y : P3) (l : List P3) : at1 (x :: y :: l) = y := rfl
def rMeetI (a b c p q r : P3) : Bool :=
  if (bothI a b c p q r).length = 0 ∨ flatI a b c = true ∨ flatI p q r = true then cmnI a b c p q r
  else if (bothI a b c p q r).length = 1 then touchI (at0 (ownI a b c p q r)) (at1 (ownI a b c p q r)) p q r || touchI (at0 (ownI p q r a b c)) (at1 (ownI p q r a b c)) a b c
  else if (bothI a b c p q r).length = 2 then ((detI (at0 (bothI a b c p q r)) (at1 (bothI a b c p q r)) (at0 (ownI a b c p q r)) (at0 (ownI p q r a b c))).sign == 0) && ptE (nmsI (at0 (bothI a b c p q r)) (at1 (bothI a b c p q r)) (at0 (ownI a b c p q r))) (nmsI (at0 (bothI a b c p q r)) (at1 (bothI a b c p q r)) (at0 (ownI p q r a b c)))
  else true

/-! Orders of corners. -/
/-- x y z is a b c in some order. -/
inductive Prm (a b c : P3) : P3 → P3 → P3 → Prop
  | abc : Prm a b c a b c
  | bca : Prm a b c b c a
  | cab : Prm a b c c a b
  | bac : Prm a b c b a c
  | acb : Prm a b c a c b
  | cba : Prm a b c c b a
theorem Prm.symm {a b c x y z : P3} (h : Prm a b c x y z) : Prm x y z a b c := by
  cases h
  · exact .abc
  · exact .cab
  · exact .bca
  · exact .bac
  · exact .acb
  · exact .cba
theorem Prm.trans {a b c x y z u v w : P3} (h : Prm a b c x y z) (g : Prm x y z u v w) : Prm a b c u v w := by
  cases h <;> cases g <;> constructor
theorem Prm.swap23 {a b c x y z : P3} (h : Prm a b c x y z) : Prm a b c x z y := h.trans .acb
theorem Prm.swap12 {a b c x y z : P3} (h : Prm a b c x y z) : Prm a b c y x z := h.trans .bac
theorem touch_prm {a b c x y z : P3} (h : Prm a b c x y z) (u v : P3) : touchI u v a b c = touchI u v x y z := by
  cases h
  · rfl
  · exact (touch_turn u v a b c).symm
  · exact (touch_turn u v c a b)
  · exact (touch_flip u v a b c).symm
  · exact (touch_turn u v c a b).trans (touch_flip u v c a b).symm
  · exact (touch_turn u v a b c).symm.trans (touch_flip u v b c a).symm
theorem flat_flip (a b c : P3) : flatI b a c = flatI a b c := flat_swap a b c
theorem flat_prm {a b c x y z : P3} (h : Prm a b c x y z) : flatI a b c = flatI x y z := by
  cases h
  · rfl
  · exact (flat_turn a b c).symm
  · exact (flat_turn c a b)
  · exact (flat_flip a b c).symm
  · exact (flat_turn c a b).trans (flat_flip c a b).symm
  · exact (flat_turn a b c).symm.trans (flat_flip b c a).symm
theorem isC_prm {a b c x y z : P3} (h : Prm a b c x y z) (u : P3) : isC a b c u = isC x y z u := by
  unfold isC
  cases h <;> cases ptE u a <;> cases ptE u b <;> cases ptE u c <;> rfl
theorem com_prm {a b c x y z : P3} (h : Prm a b c x y z) (p q r : P3) : comI a b c p q r = comI x y z p q r := by
  unfold comI
  cases h <;> cases isC p q r a <;> cases isC p q r b <;> cases isC p q r c <;> rfl
theorem isC_iff (a b c u : P3) : isC a b c u = true ↔ u = a ∨ u = b ∨ u = c := by
  unfold isC; simp only [Bool.or_eq_true, ptE_eq]; exact or_assoc
theorem com_prm2 {p q r x y z : P3} (h : Prm p q r x y z) (a b c : P3) : comI a b c p q r = comI a b c x y z := by
  unfold comI; rw [isC_prm h, isC_prm h, isC_prm h]
theorem cf_prm2 {p q r x y z : P3} (h : Prm p q r x y z) (a b c : P3) : cfI a b c p q r = cfI a b c x y z := by
  unfold cfI; rw [show cfB p q r = cfB x y z from funext fun t => by unfold cfB; rw [isC_prm h, isC_prm h]]
theorem both_prm2 {p q r x y z : P3} (h : Prm p q r x y z) (a b c : P3) : bothI a b c p q r = bothI a b c x y z := by
  unfold bothI; rw [show isC p q r = isC x y z from funext fun t => isC_prm h t]
theorem own_prm2 {p q r x y z : P3} (h : Prm p q r x y z) (a b c : P3) : ownI a b c p q r = ownI a b c x y z := by
  unfold ownI; rw [show isC p q r = isC x y z from funext fun t => isC_prm h t]

/-! The common corners first. -/
section
variable {a b c x y z p q r : P3}
theorem cf1 (h : Prm a b c x y z) (hx : isC p q r x = true) (hy : isC p q r y = false) (hz : isC p q r z = false) : cfI a b c p q r = ⟨x, y, z⟩ ∨ cfI a b c p q r = ⟨x, z, y⟩ := by
  unfold cfI turns cfB
  cases h <;> simp [hx, hy, hz]
theorem cf2 (h : Prm a b c x y z) (hx : isC p q r x = true) (hy : isC p q r y = true) (hz : isC p q r z = false) : cfI a b c p q r = ⟨x, y, z⟩ ∨ cfI a b c p q r = ⟨y, x, z⟩ := by
  unfold cfI turns cfB
  cases h <;> simp [hx, hy, hz]
theorem own1 (h : Prm a b c x y z) (hx : isC p q r x = true) (hy : isC p q r y = false) (hz : isC p q r z = false) : (bothI a b c p q r = [x]) ∧ (ownI a b c p q r = [y, z] ∨ ownI a b c p q r = [z, y]) := by
  unfold bothI ownI
  cases h <;> simp [hx, hy, hz]
theorem own2 (h : Prm a b c x y z) (hx : isC p q r x = true) (hy : isC p q r y = true) (hz : isC p q r z = false) : (bothI a b c p q r = [x, y] ∨ bothI a b c p q r = [y, x]) ∧ (ownI a b c p q r = [z]) := by
  unfold bothI ownI
  cases h <;> simp [hx, hy, hz]
end
theorem both_len (a b c p q r : P3) : (bothI a b c p q r).length = comI a b c p q r := by
  unfold bothI comI cnt
  cases h1 : isC p q r a <;> cases h2 : isC p q r b <;> cases h3 : isC p q r c <;> simp [h1, h2, h3]

/-! Distinct corners. -/
theorem flat_aba (a b : P3) : flatI a b a = true := by rw [← flat_turn a b a, ← flat_turn b a a, flat_aa]
theorem flat_abb (a b : P3) : flatI a b b = true := by rw [← flat_turn a b b, flat_aa]
theorem ne_of_flat {a b c : P3} (h : flatI a b c = false) : a ≠ b ∧ b ≠ c ∧ a ≠ c := by
  refine ⟨fun e => ?_, fun e => ?_, fun e => ?_⟩
  · rw [e, flat_aa] at h; cases h
  · rw [e, flat_abb] at h; cases h
  · rw [e] at h; rw [flat_aba] at h; cases h

/-- One common corner: the others are none. -/
structure One (a b c p q r x y z u v w : P3) : Prop where
  s : Prm a b c x y z
  t : Prm p q r u v w
  eq : x = u
  hx : isC p q r x = true
  hy : isC p q r y = false
  hz : isC p q r z = false
  hu : isC a b c u = true
  hv : isC a b c v = false
  hw : isC a b c w = false
/-- Two. -/
structure Two (a b c p q r x y z u v w : P3) : Prop where
  s : Prm a b c x y z
  t : Prm p q r u v w
  eq : x = u
  eq2 : y = v
  hx : isC p q r x = true
  hy : isC p q r y = true
  hz : isC p q r z = false
  hu : isC a b c u = true
  hv : isC a b c v = true
  hw : isC a b c w = false
theorem not_isC {a b c u : P3} (h1 : u ≠ a) (h2 : u ≠ b) (h3 : u ≠ c) : isC a b c u = false := by
  cases h : isC a b c u
  · rfl
  · rcases (isC_iff _ _ _ _).1 h with g | g | g
    · exact absurd g h1
    · exact absurd g h2
    · exact absurd g h3
theorem ne_isC {a b c u : P3} (h : isC a b c u = false) : u ≠ a ∧ u ≠ b ∧ u ≠ c := by
  refine ⟨fun e => ?_, fun e => ?_, fun e => ?_⟩
  · rw [(isC_iff _ _ _ _).2 (.inl e)] at h; cases h
  · rw [(isC_iff _ _ _ _).2 (.inr (.inl e))] at h; cases h
  · rw [(isC_iff _ _ _ _).2 (.inr (.inr e))] at h; cases h
theorem prm_of {p q r x : P3} (h : isC p q r x = true) : ∃ v w, Prm p q r x v w := by
  rcases (isC_iff _ _ _ _).1 h with e | e | e
  · rw [e]; exact ⟨q, r, .abc⟩
  · rw [e]; exact ⟨r, p, .bca⟩
  · rw [e]; exact ⟨p, q, .cab⟩
theorem one_of {a b c p q r : P3} (_hs : flatI a b c = false) (ht : flatI p q r = false) (hc : comI a b c p q r = 1) : ∃ x y z u v w, One a b c p q r x y z u v w := by
  have main : ∀ x y z, Prm a b c x y z → isC p q r x = true → isC p q r y = false → isC p q r z = false → ∃ x y z u v w, One a b c p q r x y z u v w := fun x y z h hx hy hz => by
    obtain ⟨v, w, g⟩ := prm_of hx
    have ft := ht
    rw [flat_prm g] at ft
    obtain ⟨n1, n2, n3⟩ := ne_of_flat ft
    rw [isC_prm g] at hy hz
    obtain ⟨y1, y2, y3⟩ := ne_isC hy
    obtain ⟨z1, z2, z3⟩ := ne_isC hz
    rw [← isC_prm g] at hy hz
    refine ⟨x, y, z, x, v, w, h, g, rfl, hx, hy, hz, ?_, ?_, ?_⟩
    · rw [isC_prm h]; exact (isC_iff _ _ _ _).2 (.inl rfl)
    · rw [isC_prm h]; exact not_isC n1.symm y2.symm z2.symm
    · rw [isC_prm h]; exact not_isC n3.symm y3.symm z3.symm
  unfold comI cnt at hc
  cases h1 : isC p q r a <;> cases h2 : isC p q r b <;> cases h3 : isC p q r c <;> simp [h1, h2, h3] at hc
  · exact main c a b .cab h3 h1 h2
  · exact main b c a .bca h2 h3 h1
  · exact main a b c .abc h1 h2 h3
theorem two_of {a b c p q r : P3} (hs : flatI a b c = false) (ht : flatI p q r = false) (hc : comI a b c p q r = 2) : ∃ x y z u v w, Two a b c p q r x y z u v w := by
  have main : ∀ x y z, Prm a b c x y z → isC p q r x = true → isC p q r y = true → isC p q r z = false → ∃ x y z u v w, Two a b c p q r x y z u v w := fun x y z h hx hy hz => by
    obtain ⟨v, w, g⟩ := prm_of hx
    have fs := hs
    have ft := ht
    rw [flat_prm h] at fs
    rw [flat_prm g] at ft
    obtain ⟨n1, n2, n3⟩ := ne_of_flat ft
    obtain ⟨m1, m2, m3⟩ := ne_of_flat fs
    have hy2 := hy
    rw [isC_prm g] at hy2 hz
    obtain ⟨z1, z2, z3⟩ := ne_isC hz
    rw [← isC_prm g] at hz
    have fin : ∀ v w, Prm p q r x v w → y = v → x ≠ w → v ≠ w → z ≠ w → ∃ x y z u v w, Two a b c p q r x y z u v w := fun v w g e k1 k2 k3 => by
      refine ⟨x, y, z, x, v, w, h, g, rfl, e, hx, hy, hz, ?_, ?_, ?_⟩
      · rw [isC_prm h]; exact (isC_iff _ _ _ _).2 (.inl rfl)
      · rw [isC_prm h, ← e]; exact (isC_iff _ _ _ _).2 (.inr (.inl rfl))
      · rw [isC_prm h]; exact not_isC k1.symm (by rw [e]; exact k2.symm) k3.symm
    rcases (isC_iff _ _ _ _).1 hy2 with e | e | e
    · exact absurd e.symm m1
    · exact fin v w g e n3 n2 z3
    · exact fin w v g.swap23 e n1 n2.symm z2
  unfold comI cnt at hc
  cases h1 : isC p q r a <;> cases h2 : isC p q r b <;> cases h3 : isC p q r c <;> simp [h1, h2, h3] at hc
  · exact main b c a .bca h2 h3 h1
  · exact main c a b .cab h3 h1 h2
  · exact main a b c .abc h1 h2 h3

/-! What they say. -/
section
variable {a b c p q r x y z u v w : P3}
theorem One.com (h : One a b c p q r x y z u v w) : comI a b c p q r = 1 := by
  rw [com_prm h.s]; unfold comI cnt; rw [h.hx, h.hy, h.hz]; rfl
theorem One.swap (h : One a b c p q r x y z u v w) : One p q r a b c u v w x y z := ⟨h.t, h.s, h.eq.symm, h.hu, h.hv, h.hw, h.hx, h.hy, h.hz⟩
theorem Two.com (h : Two a b c p q r x y z u v w) : comI a b c p q r = 2 := by
  rw [com_prm h.s]; unfold comI cnt; rw [h.hx, h.hy, h.hz]; rfl
theorem Two.swap (h : Two a b c p q r x y z u v w) : Two p q r a b c u v w x y z := ⟨h.t, h.s, h.eq.symm, h.eq2.symm, h.hu, h.hv, h.hw, h.hx, h.hy, h.hz⟩
theorem One.prm {a' b' c' p' q' r' : P3} (h : One a b c p q r x y z u v w) (g : Prm a b c a' b' c') (k : Prm p q r p' q' r') : One a' b' c' p' q' r' x y z u v w :=
  ⟨g.symm.trans h.s, k.symm.trans h.t, h.eq, by rw [← isC_prm k]; exact h.hx, by rw [← isC_prm k]; exact h.hy, by rw [← isC_prm k]; exact h.hz, by rw [← isC_prm g]; exact h.hu, by rw [← isC_prm g]; exact h.hv, by rw [← isC_prm g]; exact h.hw⟩
theorem Two.prm {a' b' c' p' q' r' : P3} (h : Two a b c p q r x y z u v w) (g : Prm a b c a' b' c') (k : Prm p q r p' q' r') : Two a' b' c' p' q' r' x y z u v w :=
  ⟨g.symm.trans h.s, k.symm.trans h.t, h.eq, h.eq2, by rw [← isC_prm k]; exact h.hx, by rw [← isC_prm k]; exact h.hy, by rw [← isC_prm k]; exact h.hz, by rw [← isC_prm g]; exact h.hu, by rw [← isC_prm g]; exact h.hv, by rw [← isC_prm g]; exact h.hw⟩
theorem One.met (h : One a b c p q r x y z u v w) : met1I (cfI a b c p q r) (cfI p q r a b c) = (touchI y z u v w || touchI v w x y z) := by
  unfold met1I
  have t1 := touch_prm (Prm.acb (a := u) (b := v) (c := w))
  have t2 := touch_prm (Prm.acb (a := x) (b := y) (c := z))
  rcases cf1 h.s h.hx h.hy h.hz with e | e <;> rcases cf1 h.t h.hu h.hv h.hw with g | g <;> rw [e, g] <;> dsimp only
  · rw [← t1, touch_swap v w]
  · rw [← t2, touch_swap y z]
  · rw [← t1, ← t2, touch_swap v w, touch_swap y z]
theorem neg_beq0 (i : Int) : (-i == 0) = (i == 0) := bool_ext (by rw [beq_iff_eq, beq_iff_eq]; omega)
theorem nrm_flip (x y z : P3) : nrmI y x z = scl (-1) (nrmI x y z) := by
  simp only [nrmI, crsI, difI, scl, P3.mk.injEq]; refine ⟨by grind, by grind, by grind⟩
theorem same_flip (x y z w : P3) : sameI y x z w = sameI x y z w := by
  unfold sameI; rw [nrm_flip x y z, nrm_flip x y w, dot_scl]; simp
theorem Two.met (h : Two a b c p q r x y z u v w) : met2I (cfI a b c p q r) (cfI p q r a b c) = (((detI x y z w).sign == 0) && sameI x y z w) := by
  unfold met2I
  rcases cf2 h.s h.hx h.hy h.hz with e | e <;> rcases cf2 h.t h.hu h.hv h.hw with g | g <;> rw [e, g] <;> dsimp only
  · rw [same_flip, det_12 x y z w, Int.sign_neg, neg_beq0]
  · rw [same_flip, det_12 x y z w, Int.sign_neg, neg_beq0]
/-- Coplanar triangles at one edge lie on the same side exactly if their normals have the same signs. -/
theorem par_of_det (h : detI x y z w = 0) : crsI (nrmI x y w) (nrmI x y z) = ⟨0, 0, 0⟩ := by
  have e : crsI (nrmI x y w) (nrmI x y z) = scl (-detI x y z w) (difI x y) := by
    simp only [nrmI, crsI, difI, scl, detI, dotI, P3.mk.injEq]; refine ⟨by grind, by grind, by grind⟩
  rw [e, h]; simp [scl]
theorem crs_self (n : P3) : crsI n n = ⟨0, 0, 0⟩ := by
  simp only [crsI, P3.mk.injEq]; refine ⟨by grind, by grind, by grind⟩
theorem same_nms (h : detI x y z w = 0) (hf : flatI x y z = false) : sameI x y z w = true ↔ nmsI x y z = nmsI x y w := by
  have hd := dot_pos hf
  have hp := par_of_det h
  have pw : 0 < (dotI (nrmI x y z) (nrmI x y w)).sign ↔ 0 < dotI (nrmI x y z) (nrmI x y w) := Int.sign_pos_iff
  unfold sameI nmsI
  rw [decide_eq_true_eq, pw]
  refine ⟨fun g => ?_, fun g => ?_⟩
  · have c := cmp_par hp
    have key : ∀ k, (axc (nrmI x y z) k).sign = (axc (nrmI x y w) k).sign := fun k => by
      rw [← sign_pos_mul g, ← c k, sign_pos_mul hd]
    have k0 := key 0
    have k1 := key 1
    have k2 := key 2
    unfold sgnP
    simp only [axc] at k0 k1 k2
    simp at k0 k1 k2
    rw [k0, k1, k2]
  · have ne : ∃ k, axc (nrmI x y z) k ≠ 0 := by
      rcases axI_lt (nrmI x y z) with ⟨_, k⟩ | ⟨_, k⟩
      · exact ⟨_, k⟩
      · rw [k, dot0] at hd; omega
    obtain ⟨k, hk⟩ := ne
    refine (same_cmp hk (crs_self _) hp).2 ?_
    rw [← axc_sgn, ← axc_sgn, ← g, axc_sgn]
    rcases Int.lt_trichotomy (axc (nrmI x y z) k) 0 with q | q | q
    · rw [Int.sign_eq_neg_one_of_neg q]; decide
    · exact absurd q hk
    · rw [Int.sign_eq_one_of_pos q]; decide
theorem nms_flip (x y z w : P3) : nmsI y x z = nmsI y x w ↔ nmsI x y z = nmsI x y w := by
  unfold nmsI
  rw [nrm_flip x y z, nrm_flip x y w]
  unfold sgnP scl
  simp only [P3.mk.injEq, Int.neg_mul, Int.one_mul, Int.sign_neg]
  omega
/-- Any edge that touches: no coordinate is apart. -/
theorem hit_near {x y a b c : Int} {k m u v t M N : Int} (hk : 0 ≤ k) (hm : 0 ≤ m) (hu : 0 ≤ u) (hv : 0 ≤ v) (ht : 0 ≤ t) (eq : k + m = u + v + t) (pos : 0 < k + m) (h : k * x + m * y = u * a + v * b + t * c)
    (x1 : x ≤ M) (y1 : y ≤ M) (a1 : N ≤ a) (b1 : N ≤ b) (c1 : N ≤ c) : N ≤ M := by
  have e1 := Int.mul_le_mul_of_nonneg_left x1 hk
  have e2 := Int.mul_le_mul_of_nonneg_left y1 hm
  have e3 := Int.mul_le_mul_of_nonneg_left a1 hu
  have e4 := Int.mul_le_mul_of_nonneg_left b1 hv
  have e5 := Int.mul_le_mul_of_nonneg_left c1 ht
  have e6 : (k + m) * N ≤ (k + m) * M := by
    have h1 : (k + m) * M = k * M + m * M := Int.add_mul _ _ _
    have h2 : (k + m) * N = u * N + v * N + t * N := by rw [eq, Int.add_mul, Int.add_mul]
    omega
  exact Int.le_of_mul_le_mul_left e6 pos
theorem mx3_le (x y z : Int) : x ≤ mx3 x y z ∧ y ≤ mx3 x y z ∧ z ≤ mx3 x y z := by unfold mx3; omega
theorem mn3_le (x y z : Int) : mn3 x y z ≤ x ∧ mn3 x y z ≤ y ∧ mn3 x y z ≤ z := by unfold mn3; omega
theorem off_near {x y a b c s1 s2 s3 : Int} {k m u v t : Int} (hk : 0 ≤ k) (hm : 0 ≤ m) (hu : 0 ≤ u) (hv : 0 ≤ v) (ht : 0 ≤ t) (eq : k + m = u + v + t) (pos : 0 < k + m) (h : k * x + m * y = u * a + v * b + t * c)
    (hx : x = s1 ∨ x = s2 ∨ x = s3) (hy : y = s1 ∨ y = s2 ∨ y = s3) : offI s1 s2 s3 a b c = false := by
  obtain ⟨m1, m2, m3⟩ := mx3_le s1 s2 s3
  obtain ⟨n1, n2, n3⟩ := mn3_le s1 s2 s3
  obtain ⟨o1, o2, o3⟩ := mx3_le a b c
  obtain ⟨r1, r2, r3⟩ := mn3_le a b c
  have g1 := hit_near hk hm hu hv ht eq pos h (M := mx3 s1 s2 s3) (N := mn3 a b c) (by omega) (by omega) r1 r2 r3
  have g2 := hit_near (x := -x) (y := -y) (a := -a) (b := -b) (c := -c) hk hm hu hv ht eq pos (by rw [Int.mul_neg, Int.mul_neg, Int.mul_neg, Int.mul_neg, Int.mul_neg]; omega) (M := -mn3 s1 s2 s3) (N := -mx3 a b c) (by omega) (by omega) (by omega) (by omega) (by omega)
  unfold offI
  rw [decide_eq_false (by omega), decide_eq_false (by omega)]; rfl
theorem touch_near (hx : x = a ∨ x = b ∨ x = c) (hy : y = a ∨ y = b ∨ y = c) (h : touchI x y p q r = true) : apartI a b c p q r = false := by
  obtain ⟨k, m, u, v, t, g⟩ := (touch_iff _ _ _ _ _).1 h
  have ex : ∀ f : P3 → Int, (f x = f a ∨ f x = f b ∨ f x = f c) ∧ (f y = f a ∨ f y = f b ∨ f y = f c) := fun f => by
    refine ⟨?_, ?_⟩
    · rcases hx with e | e | e <;> rw [e] <;> simp
    · rcases hy with e | e | e <;> rw [e] <;> simp
  unfold apartI
  rw [off_near g.hk g.hm g.hu g.hv g.ht g.eq g.pos g.x (ex P3.x).1 (ex P3.x).2, off_near g.hk g.hm g.hu g.hv g.ht g.eq g.pos g.y (ex P3.y).1 (ex P3.y).2, off_near g.hk g.hm g.hu g.hv g.ht g.eq g.pos g.z (ex P3.z).1 (ex P3.z).2]; rfl
theorem apart_swap (a b c p q r : P3) : apartI p q r a b c = apartI a b c p q r := by
  unfold apartI offI; rw [Bool.or_comm (decide (mx3 p.x q.x r.x < _)), Bool.or_comm (decide (mx3 p.y q.y r.y < _)), Bool.or_comm (decide (mx3 p.z q.z r.z < _))]
theorem edg_near (h : edgI a b c p q r = true) : apartI a b c p q r = false := by
  unfold edgI turns edgB at h
  simp only [List.any_cons, List.any_nil, Bool.or_false, Bool.or_eq_true] at h
  rcases h with h | h | h
  · exact touch_near (.inl rfl) (.inr (.inl rfl)) h
  · exact touch_near (.inr (.inl rfl)) (.inr (.inr rfl)) h
  · exact touch_near (.inr (.inr rfl)) (.inl rfl) h
theorem hav_eq (a b c p q r : P3) : havI a b c p q r = (edgI a b c p q r || edgI p q r a b c) := by
  unfold havI
  cases h1 : edgI a b c p q r
  · cases h2 : edgI p q r a b c
    · simp
    · have := edg_near h2; rw [apart_swap] at this; rw [this]; rfl
  · rw [edg_near h1]; rfl
theorem cmn_eq (a b c p q r : P3) : cmnI a b c p q r = (edgI a b c p q r || edgI p q r a b c) := by
  unfold cmnI edgI turns edgB
  simp only [List.any_cons, List.any_nil, Bool.or_false]
  cases touchI a b p q r <;> cases touchI b c p q r <;> cases touchI c a p q r <;> cases touchI p q a b c <;> cases touchI q r a b c <;> rfl
theorem edg_turn (a b c p q r : P3) : edgI b c a p q r = edgI a b c p q r := by
  unfold edgI turns edgB
  simp only [List.any_cons, List.any_nil, Bool.or_false]
  cases touchI a b p q r <;> cases touchI b c p q r <;> cases touchI c a p q r <;> rfl
theorem edg_flip (a b c p q r : P3) : edgI b a c p q r = edgI a b c p q r := by
  unfold edgI turns edgB
  simp only [List.any_cons, List.any_nil, Bool.or_false]
  rw [touch_swap a b, touch_swap c a, touch_swap b c]
  cases touchI a b p q r <;> cases touchI b c p q r <;> cases touchI c a p q r <;> rfl
theorem edg_prm (h : Prm a b c x y z) : edgI a b c p q r = edgI x y z p q r := by
  cases h
  · rfl
  · exact (edg_turn a b c p q r).symm
  · exact (edg_turn c a b p q r)
  · exact (edg_flip a b c p q r).symm
  · exact (edg_turn c a b p q r).trans (edg_flip c a b p q r).symm
  · exact (edg_turn a b c p q r).symm.trans (edg_flip b c a p q r).symm
theorem edg_prm2 (h : Prm p q r x y z) : edgI a b c p q r = edgI a b c x y z := by
  unfold edgI; rw [show edgB p q r = edgB x y z from funext fun t => touch_prm h _ _]
theorem hav_prm {a' b' c' p' q' r' : P3} (g : Prm a b c a' b' c') (k : Prm p q r p' q' r') : havI a b c p q r = havI a' b' c' p' q' r' := by
  rw [hav_eq, hav_eq, edg_prm g, edg_prm2 k, edg_prm k, edg_prm2 g]
theorem hav_swap (a b c p q r : P3) : havI p q r a b c = havI a b c p q r := by rw [hav_eq, hav_eq, Bool.or_comm]
/-- A common corner touches. -/
theorem cmn_of_com (h : comI a b c p q r ≠ 0) : cmnI a b c p q r = true := by
  have hit : ∀ x y, isC p q r x = true → touchI x y p q r = true := fun x y hx => by
    obtain ⟨v, w, g⟩ := prm_of hx
    rw [touch_prm g]; exact touch_at y x v w
  unfold comI cnt at h
  unfold cmnI
  cases h1 : isC p q r a
  · cases h2 : isC p q r b
    · cases h3 : isC p q r c
      · rw [h1, h2, h3] at h; exact absurd rfl h
      · rw [hit c a h3]; simp
    · rw [hit b c h2]; simp
  · rw [hit a b h1]; simp
theorem com_swap0 (a b c p q r : P3) : comI p q r a b c = 0 ↔ comI a b c p q r = 0 := by
  have key : ∀ a b c p q r : P3, comI a b c p q r = 0 → comI p q r a b c = 0 := fun a b c p q r h => by
    have nz : isC p q r a = false ∧ isC p q r b = false ∧ isC p q r c = false := by
      unfold comI cnt at h
      cases h1 : isC p q r a <;> cases h2 : isC p q r b <;> cases h3 : isC p q r c <;> simp [h1, h2, h3] at h ⊢
    obtain ⟨h1, h2, h3⟩ := nz
    obtain ⟨a1, a2, a3⟩ := ne_isC h1
    obtain ⟨b1, b2, b3⟩ := ne_isC h2
    obtain ⟨c1, c2, c3⟩ := ne_isC h3
    unfold comI cnt
    rw [not_isC a1.symm b1.symm c1.symm, not_isC a2.symm b2.symm c2.symm, not_isC a3.symm b3.symm c3.symm]; rfl
  exact ⟨key _ _ _ _ _ _, key _ _ _ _ _ _⟩
theorem com_le (a b c p q r : P3) : comI a b c p q r ≤ 3 := by
  unfold comI cnt; split <;> split <;> split <;> omega
end

/-- exact's Meet is the reference's. -/
theorem meet_eq (a b c p q r : P3) : meetI a b c p q r = rMeetI a b c p q r := by
  unfold meetI rMeetI
  rw [both_len]
  by_cases h0 : comI a b c p q r = 0
  · rw [if_pos h0, if_pos (.inl h0), hav_eq, cmn_eq]
  rw [if_neg h0]
  by_cases hf : flatI a b c = true ∨ flatI p q r = true
  · have n1 : comI a b c p q r = 3 ∨ flatI a b c = true ∨ flatI p q r = true := .inr hf
    have n2 : comI a b c p q r = 0 ∨ flatI a b c = true ∨ flatI p q r = true := .inr hf
    rw [if_pos n1, if_pos n2, cmn_of_com h0]
  have hs : flatI a b c = false := by cases h : flatI a b c; rfl; exact absurd (.inl h) hf
  have ht : flatI p q r = false := by cases h : flatI p q r; rfl; exact absurd (.inr h) hf
  have n2 : ¬ (comI a b c p q r = 0 ∨ flatI a b c = true ∨ flatI p q r = true) := fun g => by
    rcases g with g | g
    · exact h0 g
    · exact hf g
  rw [if_neg n2]
  by_cases h3 : comI a b c p q r = 3
  · have n1 : comI a b c p q r = 3 ∨ flatI a b c = true ∨ flatI p q r = true := .inl h3
    have n3 : ¬ comI a b c p q r = 1 := by omega
    have n4 : ¬ comI a b c p q r = 2 := by omega
    rw [if_pos n1, if_neg n3, if_neg n4]
  have n1 : ¬ (comI a b c p q r = 3 ∨ flatI a b c = true ∨ flatI p q r = true) := fun g => by
    rcases g with g | g
    · exact h3 g
    · exact hf g
  rw [if_neg n1]
  by_cases h1 : comI a b c p q r = 1
  · rw [if_pos h1, if_pos h1]
    obtain ⟨x, y, z, u, v, w, o⟩ := one_of hs ht h1
    rw [o.met, touch_prm o.t, touch_prm o.s]
    obtain ⟨_, e | e⟩ := own1 o.s o.hx o.hy o.hz <;> obtain ⟨_, g | g⟩ := own1 o.t o.hu o.hv o.hw <;> rw [e, g] <;> simp only [at0_cons, at1_cons]
    · rw [touch_swap v w]
    · rw [touch_swap y z]
    · rw [touch_swap v w, touch_swap y z]
  · have h2 : comI a b c p q r = 2 := by have := com_le a b c p q r; omega
    rw [if_neg h1, if_neg h1, if_pos h2]
    obtain ⟨x, y, z, u, v, w, o⟩ := two_of hs ht h2
    have fx : flatI x y z = false := by rw [← flat_prm o.s]; exact hs
    have fin : (((detI x y z w).sign == 0) && sameI x y z w) = (((detI x y z w).sign == 0) && ptE (nmsI x y z) (nmsI x y w)) := by
      refine bool_ext ?_
      rw [Bool.and_eq_true, Bool.and_eq_true, beq_iff_eq, ptE_eq]
      exact ⟨fun ⟨k, l⟩ => ⟨k, (same_nms (sign_ne.1 k) fx).1 l⟩, fun ⟨k, l⟩ => ⟨k, (same_nms (sign_ne.1 k) fx).2 l⟩⟩
    rw [o.met, fin]
    obtain ⟨e | e, e2⟩ := own2 o.s o.hx o.hy o.hz <;> obtain ⟨_, g2⟩ := own2 o.t o.hu o.hv o.hw <;> rw [e, e2, g2] <;> simp only [at0_cons, at1_cons]
    refine bool_ext ?_
    rw [Bool.and_eq_true, Bool.and_eq_true, beq_iff_eq, beq_iff_eq, ptE_eq, ptE_eq, det_12 x y z w, Int.sign_neg, nms_flip]
    exact ⟨fun ⟨k, l⟩ => ⟨by omega, l⟩, fun ⟨k, l⟩ => ⟨by omega, l⟩⟩
/-- In any order of the corners. -/
theorem meet_prm {a b c p q r a' b' c' p' q' r' : P3} (g : Prm a b c a' b' c') (k : Prm p q r p' q' r') : meetI a' b' c' p' q' r' = meetI a b c p q r := by
  unfold meetI
  rw [← com_prm g, ← com_prm2 k, ← flat_prm g, ← flat_prm k]
  by_cases h0 : comI a b c p q r = 0
  · rw [if_pos h0, if_pos h0, hav_prm g k]
  rw [if_neg h0, if_neg h0]
  by_cases h3 : comI a b c p q r = 3 ∨ flatI a b c = true ∨ flatI p q r = true
  · rw [if_pos h3, if_pos h3]
  rw [if_neg h3, if_neg h3]
  have hs : flatI a b c = false := by cases h : flatI a b c; rfl; exact absurd (.inr (.inl h)) h3
  have ht : flatI p q r = false := by cases h : flatI p q r; rfl; exact absurd (.inr (.inr h)) h3
  by_cases h1 : comI a b c p q r = 1
  · rw [if_pos h1, if_pos h1]
    obtain ⟨x, y, z, u, v, w, o⟩ := one_of hs ht h1
    rw [o.met, (o.prm g k).met]
  · have h2 : comI a b c p q r = 2 := by
      have := com_le a b c p q r
      have : comI a b c p q r ≠ 3 := fun h => h3 (.inl h)
      omega
    rw [if_neg h1, if_neg h1]
    obtain ⟨x, y, z, u, v, w, o⟩ := two_of hs ht h2
    rw [o.met, (o.prm g k).met]
theorem com_swap3 {a b c p q r : P3} (hs : flatI a b c = false) (ht : flatI p q r = false) : comI p q r a b c = comI a b c p q r := by
  have h0 := com_swap0 a b c p q r
  have l1 := com_le a b c p q r
  have l2 := com_le p q r a b c
  by_cases h1 : comI a b c p q r = 1
  · obtain ⟨x, y, z, u, v, w, o⟩ := one_of hs ht h1; rw [o.com, o.swap.com]
  by_cases h2 : comI a b c p q r = 2
  · obtain ⟨x, y, z, u, v, w, o⟩ := two_of hs ht h2; rw [o.com, o.swap.com]
  by_cases k1 : comI p q r a b c = 1
  · obtain ⟨x, y, z, u, v, w, o⟩ := one_of ht hs k1; rw [o.com, o.swap.com]
  by_cases k2 : comI p q r a b c = 2
  · obtain ⟨x, y, z, u, v, w, o⟩ := two_of ht hs k2; rw [o.com, o.swap.com]
  omega
/-- And of the triangles. -/
theorem meet_swap (a b c p q r : P3) : meetI p q r a b c = meetI a b c p q r := by
  unfold meetI
  have h0 := com_swap0 a b c p q r
  by_cases hz : comI a b c p q r = 0
  · rw [if_pos hz, if_pos (h0.2 hz), hav_swap]
  rw [if_neg hz, if_neg (fun g => hz (h0.1 g))]
  by_cases hf : flatI a b c = true ∨ flatI p q r = true
  · have n1 : comI a b c p q r = 3 ∨ flatI a b c = true ∨ flatI p q r = true := .inr hf
    have n2 : comI p q r a b c = 3 ∨ flatI p q r = true ∨ flatI a b c = true := .inr hf.symm
    rw [if_pos n1, if_pos n2]
  have hs : flatI a b c = false := by cases h : flatI a b c; rfl; exact absurd (.inl h) hf
  have ht : flatI p q r = false := by cases h : flatI p q r; rfl; exact absurd (.inr h) hf
  rw [com_swap3 hs ht]
  by_cases h3 : comI a b c p q r = 3
  · rw [if_pos (.inl h3), if_pos (.inl h3)]
  have n1 : ¬ (comI a b c p q r = 3 ∨ flatI a b c = true ∨ flatI p q r = true) := fun g => by
    rcases g with g | g
    · exact h3 g
    · exact hf g
  have n2 : ¬ (comI a b c p q r = 3 ∨ flatI p q r = true ∨ flatI a b c = true) := fun g => by
    rcases g with g | g
    · exact h3 g
    · exact hf g.symm
  rw [if_neg n1, if_neg n2]
  by_cases h1 : comI a b c p q r = 1
  · rw [if_pos h1, if_pos h1]
    obtain ⟨x, y, z, u, v, w, o⟩ := one_of hs ht h1
    rw [o.met, o.swap.met, Bool.or_comm]
  · have h2 : comI a b c p q r = 2 := by have := com_le a b c p q r; omega
    rw [if_neg h1, if_neg h1]
    obtain ⟨x, y, z, u, v, w, o⟩ := two_of hs ht h2
    rw [o.met, o.swap.met, o.eq, o.eq2]
    have d : detI u v w z = -detI u v z w := det_34 u v z w
    have s : sameI u v w z = sameI u v z w := by unfold sameI; rw [dot_comm]
    rw [d, s, Int.sign_neg]
    refine bool_ext ?_
    rw [Bool.and_eq_true, Bool.and_eq_true, beq_iff_eq, beq_iff_eq]
    exact ⟨fun ⟨k, l⟩ => ⟨by omega, l⟩, fun ⟨k, l⟩ => ⟨by omega, l⟩⟩
/-- Scaled and moved. -/
theorem ptE_mov {s : Int} (hs : 0 < s) (p q b : P3) : ptE (movI p b s) (movI q b s) = ptE p q := by
  unfold ptE movI
  have e : ∀ x y t : Int, (x * s + t == y * s + t) = (x == y) := fun x y t => by
    by_cases h : x = y
    · rw [h, beq_self_eq_true, beq_self_eq_true]
    · rw [beq_eq_false_iff_ne.2 h, beq_eq_false_iff_ne.2 (fun g => h ((eq_mov hs x y t).1 g))]
  rw [e, e, e]
theorem isC_mov {s : Int} (hs : 0 < s) (a c d p b : P3) : isC (movI a b s) (movI c b s) (movI d b s) (movI p b s) = isC a c d p := by
  unfold isC; rw [ptE_mov hs, ptE_mov hs, ptE_mov hs]
theorem com_mov {s : Int} (hs : 0 < s) (a c d p q r b : P3) : comI (movI a b s) (movI c b s) (movI d b s) (movI p b s) (movI q b s) (movI r b s) = comI a c d p q r := by
  unfold comI; rw [isC_mov hs, isC_mov hs, isC_mov hs]
def movT (t : T3) (b : P3) (s : Int) : T3 := ⟨movI t.a b s, movI t.b b s, movI t.c b s⟩
theorem cf_mov {s : Int} (hs : 0 < s) (a c d p q r b : P3) : cfI (movI a b s) (movI c b s) (movI d b s) (movI p b s) (movI q b s) (movI r b s) = movT (cfI a c d p q r) b s := by
  unfold cfI turns cfB
  simp only [List.find?_cons, List.find?_nil]
  rw [isC_mov hs, isC_mov hs, isC_mov hs]
  cases isC p q r a <;> cases isC p q r c <;> cases isC p q r d <;> rfl
theorem edg_mov {s : Int} (hs : 0 < s) (a c d p q r b : P3) : edgI (movI a b s) (movI c b s) (movI d b s) (movI p b s) (movI q b s) (movI r b s) = edgI a c d p q r := by
  unfold edgI turns edgB
  simp only [List.any_cons, List.any_nil]
  rw [touch_mov hs, touch_mov hs, touch_mov hs]
theorem meet_mov {s : Int} (hs : 0 < s) (a c d p q r b : P3) : meetI (movI a b s) (movI c b s) (movI d b s) (movI p b s) (movI q b s) (movI r b s) = meetI a c d p q r := by
  unfold meetI
  rw [com_mov hs, cf_mov hs, cf_mov hs, flat_mov hs, flat_mov hs, hav_eq, hav_eq, edg_mov hs, edg_mov hs]
  unfold met1I met2I movT
  rw [touch_mov hs, touch_mov hs, det_mov hs, same_mov hs]
/-- A triangle meets itself. -/
theorem meet_self (a b c : P3) : meetI a b c a b c = true := by
  have h : comI a b c a b c = 3 := by
    unfold comI cnt
    rw [(isC_iff a b c a).2 (.inl rfl), (isC_iff a b c b).2 (.inr (.inl rfl)), (isC_iff a b c c).2 (.inr (.inr rfl))]; rfl
  unfold meetI
  rw [if_neg (by omega), if_pos (.inl h)]

end Go.Proofs.YtandlbacjfdkpaaGreatDoor
