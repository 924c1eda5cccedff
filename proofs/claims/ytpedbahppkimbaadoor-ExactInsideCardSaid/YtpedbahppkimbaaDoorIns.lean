/- A point of a triangle, by weights of its corners: what its segments touch (ExactInside). -/
import Derived.Test.YtpedbahppkimbaaDoorMvd
namespace Go.Proofs.YtpedbahppkimbaaDoor
open Go Go.RowKit Dg

/-- p is the point of the triangle a b c with the weights u v t: all of their sum s times. -/
structure Wgt (p a b c : P3) (u v t : Int) : Prop where
  hu : 0 ≤ u
  hv : 0 ≤ v
  ht : 0 ≤ t
  pos : 0 < u + v + t
  x : (u + v + t) * p.x = u * a.x + v * b.x + t * c.x
  y : (u + v + t) * p.y = u * a.y + v * b.y + t * c.y
  z : (u + v + t) * p.z = u * a.z + v * b.z + t * c.z
theorem Wgt.turn {p a b c : P3} {u v t : Int} (h : Wgt p a b c u v t) : Wgt p b c a v t u :=
  ⟨h.hv, h.ht, h.hu, by have := h.pos; omega, by have := h.x; grind, by have := h.y; grind, by have := h.z; grind⟩

/-- The volumes over an edge, by the weights. -/
theorem det_edge {p a b c q : P3} {u v t : Int} (h : Wgt p a b c u v t) : (u + v + t) * detI p q a b = t * detI a b c q := by
  have hx := h.x
  have hy := h.y
  have hz := h.z
  simp only [detI, dotI, crsI, difI]
  grind
theorem det_plane {p a b c : P3} {u v t : Int} (h : Wgt p a b c u v t) : detI a b c p = 0 := by
  have hx := h.x
  have hy := h.y
  have hz := h.z
  have e : (u + v + t) * detI a b c p = 0 := by
    simp only [detI, dotI, crsI, difI]
    grind
  rcases Int.mul_eq_zero.1 e with g | g
  · have := h.pos; omega
  · exact g

/-- A product with the sign of D, or 0. -/
def Along (x D : Int) : Prop := (0 ≤ D → 0 ≤ x) ∧ (D ≤ 0 → x ≤ 0)
theorem along_of {x D s m : Int} (hs : 0 < s) (hm : 0 ≤ m) (h : s * x = m * D) : Along x D := by
  refine ⟨fun hD => ?_, fun hD => ?_⟩
  · have h1 : 0 ≤ s * x := by rw [h]; exact Int.mul_nonneg hm hD
    exact Int.nonneg_of_mul_nonneg_right h1 hs
  · have h1 : s * x ≤ 0 := by rw [h]; exact Int.mul_nonpos_of_nonneg_of_nonpos hm hD
    rcases Int.lt_or_le 0 x with g | g
    · have := Int.mul_pos hs g; omega
    · exact g
theorem Along.two {x D : Int} (h : Along x D) : Along (2 * x) D := ⟨fun g => by have := h.1 g; omega, fun g => by have := h.2 g; omega⟩
theorem Along.neg {x D : Int} (h : Along x D) : Along (-x) (-D) := ⟨fun g => by have := h.2 (by omega); omega, fun g => by have := h.1 (by omega); omega⟩
theorem sign_nonneg {x : Int} (h : 0 ≤ x) : decide (x.sign < 0) = false := by
  rcases Int.lt_or_eq_of_le h with g | g
  · rw [Int.sign_eq_one_of_pos g]; rfl
  · rw [← g]; rfl
theorem sign_nonpos {x : Int} (h : x ≤ 0) : decide (0 < x.sign) = false := by
  rcases Int.lt_or_eq_of_le h with g | g
  · rw [Int.sign_eq_neg_one_of_neg g]; rfl
  · rw [g]; rfl
theorem pierce_along {p q a b c : P3} {D : Int} (h1 : Along (detI p q a b) D) (h2 : Along (detI p q b c) D) (h3 : Along (detI p q c a) D) : pierceI p q a b c = true := by
  unfold pierceI leftOf rightOf turns
  simp only [List.any_cons, List.any_nil]
  rcases Int.le_total 0 D with g | g
  · rw [sign_nonneg (h1.1 g), sign_nonneg (h2.1 g), sign_nonneg (h3.1 g)]; simp
  · rw [sign_nonpos (h1.2 g), sign_nonpos (h2.2 g), sign_nonpos (h3.2 g)]; simp
/-- The other end of a segment through p. -/
structure Opp (p q r : P3) : Prop where
  x : r.x = 2 * p.x - q.x
  y : r.y = 2 * p.y - q.y
  z : r.z = 2 * p.z - q.z
theorem det_turn (a b c q : P3) : detI b c a q = detI a b c q := by simp only [detI, dotI, crsI, difI]; grind
section
variable {p a b c q r : P3} {u v t : Int} (h : Wgt p a b c u v t)
include h
theorem pierce_p : pierceI p q a b c = true := by
  have e1 := along_of h.pos h.ht (det_edge (q := q) h)
  have e2 := along_of h.turn.pos h.turn.ht (det_edge (q := q) h.turn)
  have e3 := along_of h.turn.turn.pos h.turn.turn.ht (det_edge (q := q) h.turn.turn)
  rw [det_turn a b c q] at e2
  rw [det_turn b c a q, det_turn a b c q] at e3
  exact pierce_along e1 e2 e3
omit h in
theorem det_opp (hr : Opp p q r) : detI r q a b = 2 * detI p q a b := by
  simp only [detI, dotI, crsI, difI, hr.x, hr.y, hr.z]; grind
omit h in
theorem det_opp' (hr : Opp p q r) : detI q r a b = -(2 * detI p q a b) := by
  simp only [detI, dotI, crsI, difI, hr.x, hr.y, hr.z]; grind
theorem pierce_r (hr : Opp p q r) : pierceI r q a b c = true := by
  have e1 := along_of h.pos h.ht (det_edge (q := q) h)
  have e2 := along_of h.turn.pos h.turn.ht (det_edge (q := q) h.turn)
  have e3 := along_of h.turn.turn.pos h.turn.turn.ht (det_edge (q := q) h.turn.turn)
  rw [det_turn a b c q] at e2
  rw [det_turn b c a q, det_turn a b c q] at e3
  exact pierce_along (D := detI a b c q) (by rw [det_opp hr]; exact e1.two) (by rw [det_opp hr]; exact e2.two) (by rw [det_opp hr]; exact e3.two)
theorem pierce_r' (hr : Opp p q r) : pierceI q r a b c = true := by
  have e1 := along_of h.pos h.ht (det_edge (q := q) h)
  have e2 := along_of h.turn.pos h.turn.ht (det_edge (q := q) h.turn)
  have e3 := along_of h.turn.turn.pos h.turn.turn.ht (det_edge (q := q) h.turn.turn)
  rw [det_turn a b c q] at e2
  rw [det_turn b c a q, det_turn a b c q] at e3
  exact pierce_along (D := -detI a b c q) (by rw [det_opp' hr]; exact e1.two.neg) (by rw [det_opp' hr]; exact e2.two.neg) (by rw [det_opp' hr]; exact e3.two.neg)
theorem det_r (hr : Opp p q r) : detI a b c r = -detI a b c q := by
  have e := det_plane h
  have e2 : detI a b c r = 2 * detI a b c p - detI a b c q := by
    simp only [detI, dotI, crsI, difI, hr.x, hr.y, hr.z]; grind
  rw [e2, e]; omega
/-- A segment that ends in the triangle, or passes through a point of it, touches it: where it leaves the plane. -/
theorem touch_out (hq : detI a b c q ≠ 0) : touchI p q a b c = true := by
  have e : (detI a b c q).sign ≠ 0 := fun g => hq (Int.sign_eq_zero_iff_zero.1 g)
  unfold touchI touchN
  rw [det_plane h, if_neg (fun g => e g.2), if_neg (fun g => e (by rw [← g]; rfl))]
  exact pierce_p h
theorem touch_through (hr : Opp p q r) (hq : detI a b c q ≠ 0) : touchI r q a b c = true ∧ touchI q r a b c = true := by
  have e : (detI a b c q).sign ≠ 0 := fun g => hq (Int.sign_eq_zero_iff_zero.1 g)
  have e3 : ¬ -(detI a b c q).sign = (detI a b c q).sign := by omega
  unfold touchI touchN
  rw [det_r h hr, Int.sign_neg, if_neg (fun g => e g.2), if_neg e3, if_neg (fun g => e g.1), if_neg (fun g => e3 g.symm)]
  exact ⟨pierce_r h hr, pierce_r' h hr⟩
/-- A segment on one side does not. -/
theorem touch_beyond {far : P3} (hf : Opp q p far) (hq : detI a b c q ≠ 0) : touchI q far a b c = false := by
  have e : (detI a b c q).sign ≠ 0 := fun g => hq (Int.sign_eq_zero_iff_zero.1 g)
  have e1 : detI a b c far = 2 * detI a b c q - detI a b c p := by
    simp only [detI, dotI, crsI, difI, hf.x, hf.y, hf.z]; grind
  have e2 : (detI a b c far).sign = (detI a b c q).sign := by
    rw [e1, det_plane h, Int.sub_zero]; exact sign_pos_mul (by decide) _
  unfold touchI touchN
  rw [e2, if_neg (fun g => e g.1), if_pos rfl]
end

/-! In the plane. -/
theorem nrm_turn (a b c : P3) : nrmI b c a = nrmI a b c := by
  simp only [nrmI, crsI, difI, P3.mk.injEq]; refine ⟨?_, ?_, ?_⟩ <;> grind
/-- Twice the area over an edge, along the normal. -/
def ovr (a b c x : P3) : Int := dotI (nrmI a b c) (nrmI a b x)
theorem ovr_p {p a b c : P3} {u v t : Int} (h : Wgt p a b c u v t) : (u + v + t) * ovr a b c p = t * dotI (nrmI a b c) (nrmI a b c) := by
  have hx := h.x
  have hy := h.y
  have hz := h.z
  simp only [ovr, nrmI, dotI, crsI, difI]
  grind
theorem dot_nonneg (n : P3) : 0 ≤ dotI n n := by
  have h1 := sq_nonneg_of n.x
  have h2 := sq_nonneg_of n.y
  have h3 := sq_nonneg_of n.z
  unfold dotI; omega
theorem dot_pos {a b c : P3} (h : flatI a b c = false) : 0 < dotI (nrmI a b c) (nrmI a b c) := by
  have e := facing_self a b c
  rw [h, if_neg (by decide)] at e
  exact Int.sign_eq_one_iff_pos.1 e
theorem ovr_nonneg {p a b c : P3} {u v t : Int} (h : Wgt p a b c u v t) : 0 ≤ ovr a b c p := by
  have e := ovr_p h
  have h1 : 0 ≤ (u + v + t) * ovr a b c p := by rw [e]; exact Int.mul_nonneg h.ht (dot_nonneg _)
  exact Int.nonneg_of_mul_nonneg_right h1 h.pos
theorem cov_of {a b c x : P3} (h1 : 0 ≤ ovr a b c x) (h2 : 0 ≤ ovr b c a x) (h3 : 0 ≤ ovr c a b x) : covI a b c x = true := by
  unfold covI covB turns
  unfold ovr at h1 h2 h3
  rw [nrm_turn] at h2
  rw [nrm_turn b c a, nrm_turn] at h3
  simp only [List.any_cons, List.any_nil]
  rw [sign_nonneg h1, sign_nonneg h2, sign_nonneg h3]; rfl
theorem cov_p {p a b c : P3} {u v t : Int} (h : Wgt p a b c u v t) : covI a b c p = true :=
  cov_of (ovr_nonneg h) (ovr_nonneg h.turn) (ovr_nonneg h.turn.turn)
theorem tip_p {p a b c : P3} {u v t : Int} (h : Wgt p a b c u v t) (q : P3) (hf : flatI a b c = false) : tipI p q a b c = true := by
  unfold tipI; rw [cov_p h, hf]; simp
/-- The same multiple of the normal: areas over edges add up. -/
theorem ovr_sum (a b c x : P3) : ovr a b c x + ovr b c a x + ovr c a b x = dotI (nrmI a b c) (nrmI a b c) := by
  unfold ovr
  rw [nrm_turn b c a, nrm_turn a b c]
  simp only [nrmI, dotI, crsI, difI]
  grind
theorem ovr_opp (a b c : P3) {p q r : P3} (hr : Opp p q r) : ovr a b c r = 2 * ovr a b c p - ovr a b c q := by
  simp only [ovr, nrmI, dotI, crsI, difI, hr.x, hr.y, hr.z]; grind

/-- Vectors: a product with a product. -/
theorem crs_crs (n v : P3) : crsI n (crsI v n) = ⟨dotI n n * v.x - dotI n v * n.x, dotI n n * v.y - dotI n v * n.y, dotI n n * v.z - dotI n v * n.z⟩ := by
  simp only [dotI, crsI, P3.mk.injEq]; refine ⟨?_, ?_, ?_⟩ <;> grind
theorem crs_edge (e f g : P3) : crsI (crsI e g) (crsI e f) = scl (-dotI (crsI e f) g) e := by
  simp only [dotI, crsI, scl, P3.mk.injEq]; refine ⟨?_, ?_, ?_⟩ <;> grind
/-- In the plane: a vector by two others. -/
theorem in_plane (e f g : P3) (h : dotI (crsI e f) g = 0) : scl (dotI (crsI e f) (crsI e f)) g = ⟨dotI (crsI e f) (crsI g f) * e.x + dotI (crsI e f) (crsI e g) * f.x, dotI (crsI e f) (crsI g f) * e.y + dotI (crsI e f) (crsI e g) * f.y, dotI (crsI e f) (crsI g f) * e.z + dotI (crsI e f) (crsI e g) * f.z⟩ := by
  simp only [dotI, crsI, scl, P3.mk.injEq] at *; refine ⟨?_, ?_, ?_⟩ <;> grind

theorem crs3 (u v n : P3) : crsI (crsI u v) n = ⟨dotI u n * v.x - dotI v n * u.x, dotI u n * v.y - dotI v n * u.y, dotI u n * v.z - dotI v n * u.z⟩ := by
  simp only [dotI, crsI, P3.mk.injEq]; refine ⟨?_, ?_, ?_⟩ <;> grind
/-- A vector along the normal. -/
theorem par_dot {n v : P3} (u : P3) (h : crsI v n = ⟨0, 0, 0⟩) : dotI n n * dotI v u = dotI n v * dotI n u := by
  have e := crs_crs n v
  rw [h] at e
  have e0 : crsI n ⟨0, 0, 0⟩ = ⟨0, 0, 0⟩ := by simp [crsI]
  rw [e0] at e
  simp only [P3.mk.injEq] at e
  obtain ⟨e1, e2, e3⟩ := e
  have d1 : dotI v u = v.x * u.x + v.y * u.y + v.z * u.z := rfl
  have d2 : dotI n u = n.x * u.x + n.y * u.y + n.z * u.z := rfl
  rw [d1, d2]
  generalize dotI n n = s at *
  generalize dotI n v = t at *
  grind
theorem dot_comm (u v : P3) : dotI u v = dotI v u := by unfold dotI; grind
section
variable {a b c p q r : P3}
/-- Two points of the plane, as they are seen from an edge. -/
theorem same_edge (hr : detI a b c r = 0) : dotI (nrmI a b c) (nrmI a b c) * dotI (nrmI a b r) (nrmI a b q) = ovr a b c r * ovr a b c q := by
  refine par_dot (nrmI a b q) ?_
  have e := crs_edge (difI a b) (difI a c) (difI a r)
  have h0 : dotI (crsI (difI a b) (difI a c)) (difI a r) = 0 := hr
  rw [h0] at e
  show crsI (crsI (difI a b) (difI a r)) (crsI (difI a b) (difI a c)) = _
  rw [e]; simp [scl]
/-- Two corners, as they are seen from a segment in the plane. -/
theorem same_cut (hr : detI a b c r = 0) (hq : detI a b c q = 0) (x y : P3) (hx : detI a b c x = 0) :
    dotI (nrmI a b c) (nrmI a b c) * dotI (nrmI r q x) (nrmI r q y) = dotI (nrmI a b c) (nrmI r q x) * dotI (nrmI a b c) (nrmI r q y) := by
  refine par_dot (nrmI r q y) ?_
  have e := crs3 (difI r q) (difI r x) (nrmI a b c)
  have h1 : dotI (difI r q) (nrmI a b c) = 0 := by
    have : dotI (difI r q) (nrmI a b c) = detI a b c q - detI a b c r := by simp only [detI, nrmI, dotI, crsI, difI]; grind
    rw [this, hq, hr]; rfl
  have h2 : dotI (difI r x) (nrmI a b c) = 0 := by
    have : dotI (difI r x) (nrmI a b c) = detI a b c x - detI a b c r := by simp only [detI, nrmI, dotI, crsI, difI]; grind
    rw [this, hx, hr]; rfl
  show crsI (crsI (difI r q) (difI r x)) (nrmI a b c) = _
  rw [e, h1, h2]; simp
theorem glide (n a b p q r : P3) (s k g m : Int) (hr : Opp p q r) (ex : k * (s * (r.x - a.x)) - g * (s * (p.x - a.x)) = m * (b.x - a.x)) (ey : k * (s * (r.y - a.y)) - g * (s * (p.y - a.y)) = m * (b.y - a.y)) (ez : k * (s * (r.z - a.z)) - g * (s * (p.z - a.z)) = m * (b.z - a.z)) :
    m * dotI n (nrmI r q b) = -((s * (k - g) - m) * dotI n (nrmI r q a)) := by
  have hx := hr.x
  have hy := hr.y
  have hz := hr.z
  have e : m * dotI n (nrmI r q b) - m * dotI n (nrmI r q a) = dotI n (crsI (difI r q) ⟨m * (b.x - a.x), m * (b.y - a.y), m * (b.z - a.z)⟩) := by
    simp only [nrmI, dotI, crsI, difI]; grind
  rw [← ex, ← ey, ← ez] at e
  have e2 : dotI n (crsI (difI r q) ⟨k * (s * (r.x - a.x)) - g * (s * (p.x - a.x)), k * (s * (r.y - a.y)) - g * (s * (p.y - a.y)), k * (s * (r.z - a.z)) - g * (s * (p.z - a.z))⟩) = -(s * (k - g)) * dotI n (nrmI r q a) := by
    have kx : q.x = 2 * p.x - r.x := by omega
    have ky : q.y = 2 * p.y - r.y := by omega
    have kz : q.z = 2 * p.z - r.z := by omega
    simp only [nrmI, dotI, crsI, difI, kx, ky, kz]; grind
  rw [e2, Int.neg_mul] at e
  rw [Int.sub_mul]
  omega
theorem prod_nonpos {m u x y : Int} (hm : 0 ≤ m) (hu : 0 ≤ u) (hp : 0 < m + u) (h : m * y = -(u * x)) : x * y ≤ 0 := by
  rcases Int.lt_or_eq_of_le hm with g | g
  · have e : m * (x * y) = -(u * (x * x)) := by rw [Int.mul_left_comm, h, Int.mul_neg, Int.mul_left_comm]
    have h1 : 0 ≤ u * (x * x) := Int.mul_nonneg hu (sq_nonneg_of x)
    rcases Int.lt_or_le 0 (x * y) with k | k
    · have := Int.mul_pos g k; omega
    · exact k
  · subst g
    have e : u * x = 0 := by rw [Int.zero_mul] at h; omega
    rcases Int.mul_eq_zero.1 e with k | k
    · omega
    · rw [k]; simp
end

/-- Of three ratios the least. -/
theorem pick_trans {p1 p2 p3 r1 r2 r3 : Int} (h1 : r1 < 0) (h2 : r2 < 0) (h3 : r3 < 0) (a : p2 * r1 ≤ p1 * r2) (b : p3 * r2 ≤ p2 * r3) : p3 * r1 ≤ p1 * r3 := by
  have e1 : p2 * r1 * -r3 ≤ p1 * r2 * -r3 := Int.mul_le_mul_of_nonneg_right a (by omega)
  have e2 : p3 * r2 * -r1 ≤ p2 * r3 * -r1 := Int.mul_le_mul_of_nonneg_right b (by omega)
  have e3 : p3 * r1 * -r2 ≤ p1 * r3 * -r2 := by
    have k1 : p3 * r1 * -r2 = p3 * r2 * -r1 := by rw [Int.mul_neg, Int.mul_neg, Int.mul_assoc, Int.mul_assoc, Int.mul_comm r1 r2]
    have k2 : p1 * r3 * -r2 = p1 * r2 * -r3 := by rw [Int.mul_neg, Int.mul_neg, Int.mul_assoc, Int.mul_assoc, Int.mul_comm r2 r3]
    have k3 : p2 * r3 * -r1 = p2 * r1 * -r3 := by rw [Int.mul_neg, Int.mul_neg, Int.mul_assoc, Int.mul_assoc, Int.mul_comm r1 r3]
    rw [k1, k2]
    omega
  exact Int.le_of_mul_le_mul_right e3 (by omega)
theorem pick_far {p1 p2 r1 r2 : Int} (hp1 : 0 ≤ p1) (hp2 : 0 ≤ p2) (h1 : r1 < 0) (h2 : 0 ≤ r2) : p2 * r1 ≤ p1 * r2 := by
  have e1 := Int.mul_nonneg hp1 h2
  have e2 := Int.mul_nonneg hp2 (show 0 ≤ -r1 by omega)
  rw [Int.mul_neg] at e2
  omega
theorem pick {p1 p2 p3 r1 r2 r3 : Int} (hp1 : 0 ≤ p1) (hp2 : 0 ≤ p2) (hp3 : 0 ≤ p3) :
    (0 ≤ r1 ∧ 0 ≤ r2 ∧ 0 ≤ r3) ∨ (r1 < 0 ∧ p2 * r1 ≤ p1 * r2 ∧ p3 * r1 ≤ p1 * r3) ∨ (r2 < 0 ∧ p3 * r2 ≤ p2 * r3 ∧ p1 * r2 ≤ p2 * r1) ∨ (r3 < 0 ∧ p1 * r3 ≤ p3 * r1 ∧ p2 * r3 ≤ p3 * r2) := by
  rcases Int.lt_or_le r1 0 with h1 | h1 <;> rcases Int.lt_or_le r2 0 with h2 | h2 <;> rcases Int.lt_or_le r3 0 with h3 | h3
  · rcases Int.le_total (p2 * r1) (p1 * r2) with a | a
    · rcases Int.le_total (p3 * r1) (p1 * r3) with b | b
      · exact .inr (.inl ⟨h1, a, b⟩)
      · exact .inr (.inr (.inr ⟨h3, b, pick_trans h3 h1 h2 b a⟩))
    · rcases Int.le_total (p3 * r2) (p2 * r3) with b | b
      · exact .inr (.inr (.inl ⟨h2, b, a⟩))
      · exact .inr (.inr (.inr ⟨h3, pick_trans h3 h2 h1 b a, b⟩))
  · rcases Int.le_total (p2 * r1) (p1 * r2) with a | a
    · exact .inr (.inl ⟨h1, a, pick_far hp1 hp3 h1 h3⟩)
    · exact .inr (.inr (.inl ⟨h2, pick_far hp2 hp3 h2 h3, a⟩))
  · rcases Int.le_total (p3 * r1) (p1 * r3) with b | b
    · exact .inr (.inl ⟨h1, pick_far hp1 hp2 h1 h2, b⟩)
    · exact .inr (.inr (.inr ⟨h3, b, pick_far hp3 hp2 h3 h2⟩))
  · exact .inr (.inl ⟨h1, pick_far hp1 hp2 h1 h2, pick_far hp1 hp3 h1 h3⟩)
  · rcases Int.le_total (p3 * r2) (p2 * r3) with b | b
    · exact .inr (.inr (.inl ⟨h2, b, pick_far hp2 hp1 h2 h1⟩))
    · exact .inr (.inr (.inr ⟨h3, pick_far hp3 hp1 h3 h1, b⟩))
  · exact .inr (.inr (.inl ⟨h2, pick_far hp2 hp3 h2 h3, pick_far hp2 hp1 h2 h1⟩))
  · exact .inr (.inr (.inr ⟨h3, pick_far hp3 hp1 h3 h1, pick_far hp3 hp2 h3 h2⟩))
  · exact .inl ⟨h1, h2, h3⟩

theorem ovr_ca (a b c x : P3) : ovr c a b x = dotI (nrmI a b c) (crsI (difI a x) (difI a c)) := by
  simp only [ovr, nrmI, dotI, crsI, difI]; grind
theorem flat_ovr {a b c x : P3} (h : ovr a b c x ≠ 0) : flatI a b x = false := by
  rcases Bool.eq_false_or_eq_true (flatI a b x) with e | e
  · exfalso
    unfold flatI at e
    simp only [Bool.and_eq_true, beq_iff_eq] at e
    apply h
    unfold ovr dotI
    rw [e.1.1, e.1.2, e.2]; simp
  · exact e
theorem pos_of_mul {s x y : Int} (hs : 0 < s) (h : s * x = y) (hy : y ≤ 0) : x ≤ 0 := by
  rcases Int.lt_or_le 0 x with k | k
  · have := Int.mul_pos hs k; omega
  · exact k
theorem edge_hit {p a b c q r : P3} {u v t : Int} (h : Wgt p a b c u v t) (hr : Opp p q r) (hf : flatI a b c = false) (hq : detI a b c q = 0) (h1 : ovr a b c r < 0)
    (k2 : ovr b c a p * ovr a b c r ≤ ovr a b c p * ovr b c a r) (k3 : ovr c a b p * ovr a b c r ≤ ovr a b c p * ovr c a b r) : segI r q a b = true := by
  have hp := det_plane h
  have hdr : detI a b c r = 0 := by rw [det_r h hr, hq]; rfl
  have hN := dot_pos hf
  have hA := ovr_nonneg h
  have d0 : detI r q a b = 0 := by
    have e := det_edge (q := q) h
    rw [hq, Int.mul_zero] at e
    rw [det_opp hr]
    rcases Int.mul_eq_zero.1 e with g | g
    · have := h.pos; omega
    · rw [g]; rfl
  have s1 : sameI a b r q = false := by
    unfold sameI
    refine sign_nonpos (pos_of_mul hN (same_edge hdr) ?_)
    have e := ovr_opp a b c hr
    have := Int.mul_pos (show 0 < -ovr a b c r by omega) (show 0 < ovr a b c q by omega)
    rw [Int.neg_mul] at this
    omega
  have s2 : sameI r q a b = false := by
    unfold sameI
    refine sign_nonpos (pos_of_mul hN (same_cut hdr hq a b (det_ad a b c)) ?_)
    have ip := in_plane (difI a b) (difI a c) (difI a p) hp
    have ir := in_plane (difI a b) (difI a c) (difI a r) hdr
    have e1 : dotI (crsI (difI a b) (difI a c)) (crsI (difI a p) (difI a c)) = ovr c a b p := (ovr_ca a b c p).symm
    have e2 : dotI (crsI (difI a b) (difI a c)) (crsI (difI a r) (difI a c)) = ovr c a b r := (ovr_ca a b c r).symm
    have e3 : dotI (crsI (difI a b) (difI a c)) (crsI (difI a b) (difI a p)) = ovr a b c p := rfl
    have e4 : dotI (crsI (difI a b) (difI a c)) (crsI (difI a b) (difI a r)) = ovr a b c r := rfl
    have e5 : dotI (crsI (difI a b) (difI a c)) (crsI (difI a b) (difI a c)) = dotI (nrmI a b c) (nrmI a b c) := rfl
    have sp := ovr_sum a b c p
    have sr := ovr_sum a b c r
    rw [e5, e1, e3] at ip
    rw [e5, e2, e4] at ir
    simp only [scl, difI, P3.mk.injEq] at ip ir
    obtain ⟨ip1, ip2, ip3⟩ := ip
    obtain ⟨ir1, ir2, ir3⟩ := ir
    clear e1 e2 e3 e4 e5
    have g := glide (nrmI a b c) a b p q r (dotI (nrmI a b c) (nrmI a b c)) (ovr a b c p) (ovr a b c r) (ovr a b c p * ovr c a b r - ovr a b c r * ovr c a b p) hr
      (by rw [ip1, ir1]; grind) (by rw [ip2, ir2]; grind) (by rw [ip3, ir3]; grind)
    have hsum : dotI (nrmI a b c) (nrmI a b c) * (ovr a b c p - ovr a b c r) - (ovr a b c p * ovr c a b r - ovr a b c r * ovr c a b p) = ovr a b c p * ovr b c a r - ovr b c a p * ovr a b c r := by
      have t1 : dotI (nrmI a b c) (nrmI a b c) * ovr a b c p = (ovr a b c r + ovr b c a r + ovr c a b r) * ovr a b c p := by rw [sr]
      have t2 : dotI (nrmI a b c) (nrmI a b c) * ovr a b c r = (ovr a b c p + ovr b c a p + ovr c a b p) * ovr a b c r := by rw [sp]
      rw [Int.mul_sub, t1, t2]
      grind
    have hpos : 0 < dotI (nrmI a b c) (nrmI a b c) * (ovr a b c p - ovr a b c r) := Int.mul_pos hN (by omega)
    rw [Int.mul_comm (ovr a b c r) (ovr c a b p)] at g hsum
    exact prod_nonpos (by omega) (by omega) (by omega) g
  unfold segI
  rw [d0, if_pos (show Int.sign 0 = 0 from rfl), flat_ovr (show ovr a b c r ≠ 0 by omega), s1, s2]
  simp
theorem flat_turn (a b c : P3) : flatI b c a = flatI a b c := by unfold flatI; rw [nrm_turn]
theorem tip_through {p a b c q r : P3} {u v t : Int} (h : Wgt p a b c u v t) (hr : Opp p q r) (hf : flatI a b c = false) (hq : detI a b c q = 0) : tipI r q a b c = true := by
  unfold tipI turns tipB
  simp only [List.any_cons, List.any_nil]
  rcases pick (r1 := ovr a b c r) (r2 := ovr b c a r) (r3 := ovr c a b r) (ovr_nonneg h) (ovr_nonneg h.turn) (ovr_nonneg h.turn.turn) with ⟨g1, g2, g3⟩ | ⟨g1, g2, g3⟩ | ⟨g1, g2, g3⟩ | ⟨g1, g2, g3⟩
  · rw [hf, cov_of g1 g2 g3]; simp
  · rw [edge_hit h hr hf hq g1 g2 g3]; simp
  · rw [edge_hit h.turn hr (by rw [flat_turn]; exact hf) (by rw [det_turn]; exact hq) g1 g2 g3]; simp
  · rw [edge_hit h.turn.turn hr (by rw [flat_turn, flat_turn]; exact hf) (by rw [det_turn, det_turn]; exact hq) g1 g2 g3]; simp


/-! A flat triangle: p lies on an edge. -/
/-- p is the point of the segment x y with the weights k m. -/
structure On (p e f : P3) (k m : Int) : Prop where
  hk : 0 ≤ k
  hm : 0 ≤ m
  pos : 0 < k + m
  x : (k + m) * p.x = k * e.x + m * f.x
  y : (k + m) * p.y = k * e.y + m * f.y
  z : (k + m) * p.z = k * e.z + m * f.z
theorem On.turn {p x y : P3} {k m : Int} (h : On p x y k m) : On p y x m k :=
  ⟨h.hm, h.hk, by have := h.pos; omega, by have := h.x; grind, by have := h.y; grind, by have := h.z; grind⟩
theorem on_left (p q : P3) : On p p q 1 0 := ⟨by decide, by decide, by decide, by omega, by omega, by omega⟩
theorem on_mid {p q r : P3} (h : Opp p q r) : On p r q 1 1 := by
  have hx := h.x
  have hy := h.y
  have hz := h.z
  exact ⟨by decide, by decide, by decide, by omega, by omega, by omega⟩
theorem zero_of {s x : Int} (hs : 0 < s) (h : s * x = 0) : x = 0 := by
  rcases Int.mul_eq_zero.1 h with g | g
  · omega
  · exact g
section
variable {p x y e f : P3} {k m i j : Int} (h : On p x y k m) (g : On p e f i j)
include h
theorem on_det (z : P3) : detI x y p z = 0 := by
  have hx := h.x
  have hy := h.y
  have hz := h.z
  refine zero_of h.pos ?_
  simp only [detI, dotI, crsI, difI]
  grind
theorem on_nrm : nrmI x y p = ⟨0, 0, 0⟩ := by
  have hx := h.x
  have hy := h.y
  have hz := h.z
  simp only [nrmI, crsI, difI, P3.mk.injEq]
  refine ⟨zero_of h.pos ?_, zero_of h.pos ?_, zero_of h.pos ?_⟩ <;> grind
include g
theorem seg_det : detI x y e f = 0 := by
  have hx := g.x
  have hy := g.y
  have hz := g.z
  have e1 : (i + j) * detI x y p f = i * detI x y e f := by
    simp only [detI, dotI, crsI, difI]; grind
  have e2 : (i + j) * detI x y p e = -(j * detI x y e f) := by
    simp only [detI, dotI, crsI, difI]; grind
  rw [on_det h f] at e1
  rw [on_det h e] at e2
  refine zero_of g.pos ?_
  rw [Int.add_mul]
  omega
theorem seg_same : sameI x y e f = false := by
  have hx := g.x
  have hy := g.y
  have hz := g.z
  have n := on_nrm h
  obtain ⟨nx, ny, nz⟩ := P3.mk.inj (n : (⟨_, _, _⟩ : P3) = ⟨0, 0, 0⟩)
  have a1 : (i + j) * (nrmI x y p).x = i * (nrmI x y e).x + j * (nrmI x y f).x := by simp only [nrmI, crsI, difI]; grind
  have a2 : (i + j) * (nrmI x y p).y = i * (nrmI x y e).y + j * (nrmI x y f).y := by simp only [nrmI, crsI, difI]; grind
  have a3 : (i + j) * (nrmI x y p).z = i * (nrmI x y e).z + j * (nrmI x y f).z := by simp only [nrmI, crsI, difI]; grind
  rw [n] at a1 a2 a3
  simp only [Int.mul_zero] at a1 a2 a3
  have b1 := Int.mul_nonneg g.hk (dot_nonneg (nrmI x y e))
  have b2 := Int.mul_nonneg g.hm (dot_nonneg (nrmI x y f))
  have c1 : j * dotI (nrmI x y e) (nrmI x y f) = -(i * dotI (nrmI x y e) (nrmI x y e)) := by unfold dotI; grind
  have c2 : i * dotI (nrmI x y e) (nrmI x y f) = -(j * dotI (nrmI x y f) (nrmI x y f)) := by unfold dotI; grind
  unfold sameI
  refine sign_nonpos (pos_of_mul g.pos rfl ?_)
  rw [Int.add_mul]
  omega
end
/-- In the order of points: between the ends. -/
theorem conv1 {k m α β γ : Int} (hk : 0 < k) (hm : 0 < m) (h : (k + m) * γ = k * α + m * β) : 0 ≤ α → 0 ≤ β → 0 ≤ γ ∧ (γ = 0 → α = 0 ∧ β = 0) := fun ha hb => by
  have h1 := Int.mul_nonneg (show 0 ≤ k by omega) ha
  have h2 := Int.mul_nonneg (show 0 ≤ m by omega) hb
  refine ⟨Int.nonneg_of_mul_nonneg_right (a := k + m) (by omega) (by omega), fun e => ?_⟩
  subst e
  rw [Int.mul_zero] at h
  exact ⟨zero_of hk (by omega), zero_of hm (by omega)⟩
theorem on_end {p x y : P3} {m : Int} (h : On p x y 0 m) : p = y := by
  have hp := h.pos
  have hx := h.x
  have hy := h.y
  have hz := h.z
  have k : ∀ s t u : Int, (0 + m) * s = 0 * u + m * t → s = t := fun s t u e => by
    have e2 : m * (s - t) = 0 := by rw [Int.mul_sub]; rw [Int.zero_add, Int.zero_mul, Int.zero_add] at e; omega
    have := zero_of (by omega) e2
    omega
  obtain ⟨a, b, c⟩ := p
  obtain ⟨d, e, f⟩ := y
  have k1 := k _ _ _ hx
  have k2 := k _ _ _ hy
  have k3 := k _ _ _ hz
  simp only at k1 k2 k3
  rw [k1, k2, k3]
theorem on_below {p x y u : P3} {k m : Int} (h : On p x y k m) (hx : lessI u x = false) (hy : lessI u y = false) : lessI u p = false := by
  rcases Int.lt_or_eq_of_le h.hk with hk | hk
  · rcases Int.lt_or_eq_of_le h.hm with hm | hm
    · have c1 := conv1 (γ := u.x - p.x) (α := u.x - x.x) (β := u.x - y.x) hk hm (by have := h.x; grind)
      have c2 := conv1 (γ := u.y - p.y) (α := u.y - x.y) (β := u.y - y.y) hk hm (by have := h.y; grind)
      have c3 := conv1 (γ := u.z - p.z) (α := u.z - x.z) (β := u.z - y.z) hk hm (by have := h.z; grind)
      rw [lessI_eq] at hx hy ⊢
      rw [decide_eq_false_iff_not] at hx hy ⊢
      omega
    · subst hm
      rw [on_end h.turn]; exact hx
  · subst hk
    rw [on_end h]; exact hy
theorem on_above {p x y u : P3} {k m : Int} (h : On p x y k m) (hx : lessI x u = false) (hy : lessI y u = false) : lessI p u = false := by
  rcases Int.lt_or_eq_of_le h.hk with hk | hk
  · rcases Int.lt_or_eq_of_le h.hm with hm | hm
    · have c1 := conv1 (γ := p.x - u.x) (α := x.x - u.x) (β := y.x - u.x) hk hm (by have := h.x; grind)
      have c2 := conv1 (γ := p.y - u.y) (α := x.y - u.y) (β := y.y - u.y) hk hm (by have := h.y; grind)
      have c3 := conv1 (γ := p.z - u.z) (α := x.z - u.z) (β := y.z - u.z) hk hm (by have := h.z; grind)
      rw [lessI_eq] at hx hy ⊢
      rw [decide_eq_false_iff_not] at hx hy ⊢
      omega
    · subst hm
      rw [on_end h.turn]; exact hx
  · subst hk
    rw [on_end h]; exact hy
theorem on_hi {p x y : P3} {k m : Int} (h : On p x y k m) : lessI (hi x y) p = false := by
  unfold hi
  refine on_below h ?_ ?_ <;> (simp only [lessI_eq]; split <;> rename_i c <;> simp only [decide_eq_true_eq] at c <;> rw [decide_eq_false_iff_not] <;> omega)
theorem on_lo {p x y : P3} {k m : Int} (h : On p x y k m) : lessI p (lo x y) = false := by
  unfold lo
  refine on_above h ?_ ?_ <;> (simp only [lessI_eq]; split <;> rename_i c <;> simp only [decide_eq_true_eq] at c <;> rw [decide_eq_false_iff_not] <;> omega)
theorem not_less {a b c : P3} (h1 : lessI a b = false) (h2 : lessI b c = false) : lessI a c = false := by
  rw [lessI_eq] at *
  rw [decide_eq_false_iff_not] at *
  omega
/-- Segments with a common point. -/
theorem seg_common {p x y e f : P3} {k m i j : Int} (h : On p x y k m) (g : On p e f i j) : segI x y e f = true := by
  unfold segI ovlI
  rw [seg_det h g, if_pos (show Int.sign 0 = 0 from rfl), seg_same h g, seg_same g h, not_less (on_hi h) (on_lo g), not_less (on_hi g) (on_lo h)]
  simp
theorem eq_of_mul {s x y : Int} (hs : 0 < s) (h : s * x = s * y) : x = y := by
  have := zero_of hs (show s * (x - y) = 0 by rw [Int.mul_sub]; omega)
  omega
theorem edge_ids {E G s M u v t a b c p : Int} (hE : 0 < E) (hs : s = u + v + t) (hM : M = E * v + G * t) (h : s * p = u * a + v * b + t * c) (hg : E * (c - a) = G * (b - a)) :
    (E * s - M + M) * p = (E * s - M) * a + M * b ∧ (-M + (M - s * G)) * p = -M * c + (M - s * G) * a ∧ (s * G - M + (M - E * s)) * p = (s * G - M) * b + (M - E * s) * c := by
  have e1 : E * s * (p - a) = M * (b - a) := by
    have : s * (p - a) = v * (b - a) + t * (c - a) := by subst hs; grind
    rw [Int.mul_assoc, this, hM]; grind
  refine ⟨by grind, eq_of_mul hE (by grind), eq_of_mul hE (by grind)⟩
theorem flat_crs {a b c : P3} (hf : flatI a b c = true) : crsI (difI a b) (difI a c) = ⟨0, 0, 0⟩ := by
  unfold flatI nrmI at hf
  simp only [Bool.and_eq_true, beq_iff_eq] at hf
  obtain ⟨⟨f1, f2⟩, f3⟩ := hf
  have : ∀ n : P3, n.x = 0 → n.y = 0 → n.z = 0 → n = ⟨0, 0, 0⟩ := fun n h1 h2 h3 => by cases n; simp only at h1 h2 h3; rw [h1, h2, h3]
  exact this _ f1 f2 f3
theorem flat_edge {p a b c : P3} {u v t : Int} (h : Wgt p a b c u v t) (hf : flatI a b c = true) (hd : 0 < dotI (difI a b) (difI a b)) :
    (∃ k m, On p a b k m) ∨ (∃ k m, On p b c k m) ∨ (∃ k m, On p c a k m) := by
  have e := crs3 (difI a b) (difI a c) (difI a b)
  rw [flat_crs hf] at e
  have e0 : crsI ⟨0, 0, 0⟩ (difI a b) = ⟨0, 0, 0⟩ := by simp [crsI]
  rw [e0] at e
  obtain ⟨E, hE⟩ : ∃ E, E = dotI (difI a b) (difI a b) := ⟨_, rfl⟩
  obtain ⟨G, hG⟩ : ∃ G, G = dotI (difI a c) (difI a b) := ⟨_, rfl⟩
  obtain ⟨s, hs⟩ : ∃ s, s = u + v + t := ⟨_, rfl⟩
  obtain ⟨M, hM⟩ : ∃ M, M = E * v + G * t := ⟨_, rfl⟩
  rw [← hE] at e hd
  rw [← hG] at e
  simp only [difI, P3.mk.injEq] at e
  obtain ⟨e1, e2, e3⟩ := e
  have ix := edge_ids hd hs hM (by rw [hs]; exact h.x) (show E * (c.x - a.x) = G * (b.x - a.x) by omega)
  have iy := edge_ids hd hs hM (by rw [hs]; exact h.y) (show E * (c.y - a.y) = G * (b.y - a.y) by omega)
  have iz := edge_ids hd hs hM (by rw [hs]; exact h.z) (show E * (c.z - a.z) = G * (b.z - a.z) by omega)
  have hs0 : 0 < s := by rw [hs]; exact h.pos
  have hEs := Int.mul_pos hd hs0
  have hEv := Int.mul_nonneg (show 0 ≤ E by omega) h.hv
  have hsG : s * G = G * u + G * v + G * t := by rw [hs, Int.mul_comm, Int.mul_add, Int.mul_add]
  rcases Int.lt_or_le M 0 with m1 | m1
  · have hG0 : G < 0 := by
      rcases Int.lt_or_le G 0 with k | k
      · exact k
      · have := Int.mul_nonneg k h.ht; omega
    have g1 := Int.mul_nonneg (show 0 ≤ -G by omega) h.hu
    have g2 := Int.mul_nonneg (show 0 ≤ -G by omega) h.hv
    have g3 := Int.mul_pos hs0 (show 0 < -G by omega)
    rw [Int.neg_mul] at g1 g2
    rw [Int.mul_neg] at g3
    exact .inr (.inr ⟨-M, M - s * G, by omega, by omega, by omega, ix.2.1, iy.2.1, iz.2.1⟩)
  · rcases Int.lt_or_le (E * s) M with m2 | m2
    · have hG0 : E < G := by
        rcases Int.lt_or_le E G with k | k
        · exact k
        · have k1 := Int.mul_le_mul_of_nonneg_right k h.ht
          have k2 := Int.mul_nonneg (show 0 ≤ E by omega) h.hu
          rw [hs, Int.mul_add, Int.mul_add] at m2
          omega
      have g1 := Int.mul_nonneg (show 0 ≤ G by omega) h.hu
      have g2 := Int.mul_nonneg (show 0 ≤ G - E by omega) h.hv
      have g3 := Int.mul_pos hs0 (show 0 < G - E by omega)
      rw [Int.sub_mul] at g2
      rw [Int.mul_sub, Int.mul_comm s E] at g3
      exact .inr (.inl ⟨s * G - M, M - E * s, by omega, by omega, by omega, ix.2.2, iy.2.2, iz.2.2⟩)
    · exact .inl ⟨E * s - M, M, by omega, by omega, by omega, ix.1, iy.1, iz.1⟩
theorem dif_zero {a b : P3} (h : ¬ 0 < dotI (difI a b) (difI a b)) : a = b := by
  have h1 := sq_nonneg_of (b.x - a.x)
  have h2 := sq_nonneg_of (b.y - a.y)
  have h3 := sq_nonneg_of (b.z - a.z)
  unfold dotI difI at h
  simp only at h
  have z : ∀ n : Int, n * n ≤ 0 → n = 0 := fun n hn => by
    rcases Int.mul_eq_zero.1 (show n * n = 0 by have := sq_nonneg_of n; omega) with k | k <;> exact k
  have z1 := z _ (show (b.x - a.x) * (b.x - a.x) ≤ 0 by omega)
  have z2 := z _ (show (b.y - a.y) * (b.y - a.y) ≤ 0 by omega)
  have z3 := z _ (show (b.z - a.z) * (b.z - a.z) ≤ 0 by omega)
  cases a; cases b
  simp only [P3.mk.injEq] at *
  omega
theorem flat_any {p a b c : P3} {u v t : Int} (h : Wgt p a b c u v t) (hf : flatI a b c = true) :
    (∃ k m, On p a b k m) ∨ (∃ k m, On p b c k m) ∨ (∃ k m, On p c a k m) := by
  by_cases hd : 0 < dotI (difI a b) (difI a b)
  · exact flat_edge h hf hd
  · by_cases hd2 : 0 < dotI (difI b c) (difI b c)
    · rcases flat_edge h.turn (by rw [flat_turn]; exact hf) hd2 with k | k | k
      · exact .inr (.inl k)
      · exact .inr (.inr k)
      · exact .inl k
    · have e1 := dif_zero hd
      have e2 := dif_zero hd2
      subst e1
      subst e2
      exact .inl ⟨u + v + t, 0, by have := h.pos; omega, by decide, by have := h.pos; omega, by have := h.x; grind, by have := h.y; grind, by have := h.z; grind⟩
theorem touch_flat {p a b c x y : P3} {u v t k m : Int} (h : Wgt p a b c u v t) (hf : flatI a b c = true) (g : On p x y k m) : touchI x y a b c = true := by
  have d : ∀ z, detI a b c z = 0 := fun z => by
    show dotI (crsI (difI a b) (difI a c)) (difI a z) = 0
    rw [flat_crs hf]; simp [dotI]
  unfold touchI
  rw [d x, d y, if_pos ⟨rfl, rfl⟩]
  unfold tipI turns tipB
  simp only [List.any_cons, List.any_nil]
  rcases flat_any h hf with ⟨i, j, q⟩ | ⟨i, j, q⟩ | ⟨i, j, q⟩
  · rw [seg_common g q]; simp
  · rw [seg_common g q]; simp
  · rw [seg_common g q]; simp
/-- What ExactInside says. -/
theorem inside_touch {p a b c q r : P3} {u v t : Int} (h : Wgt p a b c u v t) (hr : Opp p q r) : touchI p q a b c = true ∧ touchI r q a b c = true ∧ touchI q r a b c = true := by
  by_cases hq : detI a b c q = 0
  · rcases Bool.eq_false_or_eq_true (flatI a b c) with hf | hf
    · exact ⟨touch_flat h hf (on_left p q), touch_flat h hf (on_mid hr), touch_flat h hf (on_mid hr).turn⟩
    · have dp := det_plane h
      have dr : detI a b c r = 0 := by rw [det_r h hr, hq]; rfl
      have hr' : Opp p r q := ⟨by have := hr.x; omega, by have := hr.y; omega, by have := hr.z; omega⟩
      unfold touchI
      rw [dp, hq, dr, if_pos ⟨rfl, rfl⟩]
      exact ⟨tip_p h q hf, tip_through h hr hf hq, tip_through h hr' hf dr⟩
  · exact ⟨touch_out h hq, (touch_through h hr hq).1, (touch_through h hr hq).2⟩

end Go.Proofs.YtpedbahppkimbaaDoor
