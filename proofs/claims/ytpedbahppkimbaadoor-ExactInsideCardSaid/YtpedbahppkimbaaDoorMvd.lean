/- Points that are scaled and moved: no sign changes. -/
import Derived.Test.YtpedbahppkimbaaDoorTou
import Derived.Test.YtpedbahppkimbaaDoorGrd
import Derived.Test.YtpedbahppkimbaaDoorGeo
namespace Go.Proofs.YtpedbahppkimbaaDoor
open Go Go.RowKit Dg

/-- A vector that is scaled. -/
def scl (k : Int) (v : P3) : P3 := ⟨k * v.x, k * v.y, k * v.z⟩
theorem dif_mov (p q b : P3) (s : Int) : difI (movI p b s) (movI q b s) = scl s (difI p q) := by
  simp only [difI, movI, scl, P3.mk.injEq]; refine ⟨?_, ?_, ?_⟩ <;> grind
theorem crs_scl (s : Int) (v u : P3) : crsI (scl s v) (scl s u) = scl (s * s) (crsI v u) := by
  simp only [crsI, scl, P3.mk.injEq]; refine ⟨?_, ?_, ?_⟩ <;> grind
theorem dot_scl (s t : Int) (v u : P3) : dotI (scl s v) (scl t u) = s * t * dotI v u := by
  simp only [dotI, scl]; grind
theorem nrm_mov (p q r b : P3) (s : Int) : nrmI (movI p b s) (movI q b s) (movI r b s) = scl (s * s) (nrmI p q r) := by
  unfold nrmI; rw [dif_mov, dif_mov, crs_scl]
theorem sign_pos_mul {k : Int} (hk : 0 < k) (x : Int) : (k * x).sign = x.sign := by
  rw [Int.sign_mul, Int.sign_eq_one_of_pos hk, Int.one_mul]
theorem beq_mul (x : Int) {k : Int} (hk : 0 < k) : (k * x == 0) = (x == 0) := by
  have h := sign_pos_mul hk x
  by_cases e : x = 0
  · subst e; simp
  · rw [beq_eq_false_iff_ne.2 e, beq_eq_false_iff_ne.2 (fun g => by rw [g] at h; exact e (Int.sign_eq_zero_iff_zero.1 (by rw [← h]; rfl)))]
section
variable {s : Int} (hs : 0 < s)
include hs
theorem ss_pos : 0 < s * s := Int.mul_pos hs hs
theorem det_mov (p q r t b : P3) : (detI (movI p b s) (movI q b s) (movI r b s) (movI t b s)).sign = (detI p q r t).sign := by
  unfold detI
  rw [dif_mov, dif_mov, dif_mov, crs_scl, dot_scl, sign_pos_mul (Int.mul_pos (ss_pos hs) hs)]
theorem face_mov (p q r t u v b : P3) : (dotI (nrmI (movI p b s) (movI q b s) (movI r b s)) (nrmI (movI t b s) (movI u b s) (movI v b s))).sign = (dotI (nrmI p q r) (nrmI t u v)).sign := by
  rw [nrm_mov, nrm_mov, dot_scl, sign_pos_mul (Int.mul_pos (ss_pos hs) (ss_pos hs))]
theorem flat_mov (p q r b : P3) : flatI (movI p b s) (movI q b s) (movI r b s) = flatI p q r := by
  unfold flatI
  rw [nrm_mov]
  simp only [scl]
  rw [beq_mul _ (ss_pos hs), beq_mul _ (ss_pos hs), beq_mul _ (ss_pos hs)]
theorem lt_mov (x y t : Int) : x * s + t < y * s + t ↔ x < y := by
  constructor
  · intro h; exact Int.lt_of_mul_lt_mul_right (by omega) (Int.le_of_lt hs)
  · intro h; have := Int.mul_lt_mul_of_pos_right h hs; omega
theorem eq_mov (x y t : Int) : x * s + t = y * s + t ↔ x = y := by
  have h1 := lt_mov hs x y t
  have h2 := lt_mov hs y x t
  omega
theorem less_mov (p q b : P3) : lessI (movI p b s) (movI q b s) = lessI p q := by
  rw [lessI_eq, lessI_eq]
  simp only [movI]
  exact decide_eq_decide.2 (by rw [lt_mov hs, lt_mov hs, lt_mov hs, eq_mov hs, eq_mov hs])
theorem side_mov (p q r t b : P3) : sideI (movI p b s) (movI q b s) (movI r b s) (movI t b s) = sideI p q r t := by
  unfold sideI
  have e := nrm_mov p q r b s
  have e1 : (nrmI (movI p b s) (movI q b s) (movI r b s)).x.sign = (nrmI p q r).x.sign := by rw [e]; exact sign_pos_mul (ss_pos hs) _
  have e2 : (nrmI (movI p b s) (movI q b s) (movI r b s)).y.sign = (nrmI p q r).y.sign := by rw [e]; exact sign_pos_mul (ss_pos hs) _
  have e3 : (nrmI (movI p b s) (movI q b s) (movI r b s)).z.sign = (nrmI p q r).z.sign := by rw [e]; exact sign_pos_mul (ss_pos hs) _
  rw [det_mov hs, e1, e2, e3]
theorem same_mov (p q r t b : P3) : sameI (movI p b s) (movI q b s) (movI r b s) (movI t b s) = sameI p q r t := by
  unfold sameI; rw [face_mov hs]
theorem lo_mov (p q b : P3) : lo (movI p b s) (movI q b s) = movI (lo p q) b s := by
  unfold lo; rw [less_mov hs]; split <;> rfl
theorem hi_mov (p q b : P3) : hi (movI p b s) (movI q b s) = movI (hi p q) b s := by
  unfold hi; rw [less_mov hs]; split <;> rfl
theorem ovl_mov (p q r t b : P3) : ovlI (movI p b s) (movI q b s) (movI r b s) (movI t b s) = ovlI p q r t := by
  unfold ovlI; rw [lo_mov hs, lo_mov hs, hi_mov hs, hi_mov hs, less_mov hs, less_mov hs]
theorem seg_mov (p q r t b : P3) : segI (movI p b s) (movI q b s) (movI r b s) (movI t b s) = segI p q r t := by
  unfold segI
  rw [det_mov hs, flat_mov hs, flat_mov hs, flat_mov hs, flat_mov hs, ovl_mov hs, same_mov hs, same_mov hs]
theorem tip_mov (p q a c d b : P3) : tipI (movI p b s) (movI q b s) (movI a b s) (movI c b s) (movI d b s) = tipI p q a c d := by
  unfold tipI covI turns tipB covB
  simp only [List.any_cons, List.any_nil]
  rw [seg_mov hs, seg_mov hs, seg_mov hs, flat_mov hs, face_mov hs, face_mov hs, face_mov hs]
theorem pierce_mov (p q a c d b : P3) : pierceI (movI p b s) (movI q b s) (movI a b s) (movI c b s) (movI d b s) = pierceI p q a c d := by
  unfold pierceI leftOf rightOf turns
  simp only [List.any_cons, List.any_nil]
  rw [det_mov hs, det_mov hs, det_mov hs]
theorem touch_mov (p q a c d b : P3) : touchI (movI p b s) (movI q b s) (movI a b s) (movI c b s) (movI d b s) = touchI p q a c d := by
  unfold touchI touchN
  rw [det_mov hs, det_mov hs, tip_mov hs, pierce_mov hs]
end

theorem and_i64 (x : Int) : 0 ≤ bits .and .i64 x 1073741823 ∧ bits .and .i64 x 1073741823 ≤ 1073741823 := by
  have h : um x &&& um 1073741823 ≤ um 1073741823 := Nat.and_le_right
  have h2 : um 1073741823 = 1073741823 := by decide
  have e : bits .and .i64 x 1073741823 = IntKind.i64.wrap (((um x &&& um 1073741823 : Nat)) : Int) := by
    show IntKind.i64.wrap ((BitVec.ofInt 64 x &&& BitVec.ofInt 64 1073741823).toNat : Int) = _
    rw [BitVec.toNat_and, bv_um, bv_um]
  rw [e, IntKind.wrap_i64]
  rw [h2] at h ⊢
  omega
/-- Points of a grid of 1000, moved: in range. -/
theorem mov_ok {p b : P3} {s : Int} (hp : (0 ≤ p.x ∧ p.x < 1000) ∧ (0 ≤ p.y ∧ p.y < 1000) ∧ 0 ≤ p.z ∧ p.z < 1000) (hs : 0 < s ∧ s ≤ 1073741824) (hb : (-1099511627776 < b.x ∧ b.x < 1099511627776) ∧ (-1099511627776 < b.y ∧ b.y < 1099511627776) ∧ -1099511627776 < b.z ∧ b.z < 1099511627776) : MovOk p b s ∧ (movI p b s).Ok := by
  have key : ∀ x : Int, 0 ≤ x ∧ x < 1000 → 0 ≤ x * s ∧ x * s ≤ 1072668082176 := fun x h => by
    refine ⟨Int.mul_nonneg h.1 (by omega), ?_⟩
    have h1 : x * s ≤ 999 * s := Int.mul_le_mul_of_nonneg_right (by omega) (by omega)
    omega
  have kx := key _ hp.1
  have ky := key _ hp.2.1
  have kz := key _ hp.2.2
  refine ⟨⟨⟨⟨by omega, by omega⟩, ⟨by omega, by omega⟩⟩, ⟨⟨by omega, by omega⟩, ⟨by omega, by omega⟩⟩, ⟨⟨by omega, by omega⟩, ⟨by omega, by omega⟩⟩⟩, ⟨⟨?_, ?_⟩, ⟨?_, ?_⟩, ⟨?_, ?_⟩⟩⟩ <;> simp only [movI] <;> omega

end Go.Proofs.YtpedbahppkimbaaDoor
