/- Determinants, normals and the order of points: what the laws say of them. -/
import Derived.Test.YtpedbahppkimbaaDoorCom
import Derived.Test.YtpedbahppkimbaaDoorSide
import Derived.Test.YtpedbahppkimbaaDoorLess
import Derived.Test.YtpedbahppkimbaaDoorFlt
namespace Go.Proofs.YtpedbahppkimbaaDoor
open Go Go.RowKit

theorem det_12 (a b c d : P3) : detI b a c d = -detI a b c d := by simp only [detI, dotI, crsI, difI]; grind
theorem det_23 (a b c d : P3) : detI a c b d = -detI a b c d := by simp only [detI, dotI, crsI, difI]; grind
theorem det_34 (a b c d : P3) : detI a b d c = -detI a b c d := by simp only [detI, dotI, crsI, difI]; grind
theorem det_14 (a b c d : P3) : detI d b c a = -detI a b c d := by simp only [detI, dotI, crsI, difI]; grind
theorem det_aa (a c d : P3) : detI a a c d = 0 := by simp only [detI, dotI, crsI, difI]; grind
theorem det_ad (a b c : P3) : detI a b c a = 0 := by simp only [detI, dotI, crsI, difI]; grind
theorem det_bb (a b d : P3) : detI a b b d = 0 := by simp only [detI, dotI, crsI, difI]; grind

/-- The order of points, in words. -/
theorem lessI_eq (a b : P3) : lessI a b = decide (a.x < b.x ∨ a.x = b.x ∧ (a.y < b.y ∨ a.y = b.y ∧ a.z < b.z)) := by
  unfold lessI lst
  simp only
  by_cases h1 : a.x = b.x
  · rw [if_pos h1]
    by_cases h2 : a.y = b.y
    · rw [if_pos h2]
      by_cases h3 : a.z = b.z
      · rw [if_pos h3]; symm; exact decide_eq_false (by omega)
      · rw [if_neg h3]; exact decide_eq_decide.2 (by omega)
    · rw [if_neg h2]; exact decide_eq_decide.2 (by omega)
  · rw [if_neg h1]; exact decide_eq_decide.2 (by omega)
theorem ptE_iff (p q : P3) : ptE p q = decide (p.x = q.x ∧ p.y = q.y ∧ p.z = q.z) := by
  unfold ptE
  by_cases h1 : p.x = q.x <;> by_cases h2 : p.y = q.y <;> by_cases h3 : p.z = q.z <;> simp [h1, h2, h3]
/-- One of two points is less, or they are equal. -/
theorem less_or (a b : P3) : (lessI a b = !lessI b a) ∨ (lessI a b = false ∧ lessI b a = false ∧ ptE a b = true) := by
  rw [lessI_eq, lessI_eq, ptE_iff]
  by_cases h : a.x < b.x ∨ a.x = b.x ∧ (a.y < b.y ∨ a.y = b.y ∧ a.z < b.z)
  · left; rw [decide_eq_true h, decide_eq_false (by omega)]; rfl
  · by_cases g : b.x < a.x ∨ b.x = a.x ∧ (b.y < a.y ∨ b.y = a.y ∧ b.z < a.z)
    · left; rw [decide_eq_false h, decide_eq_true g]; rfl
    · right; exact ⟨decide_eq_false h, decide_eq_false g, decide_eq_true (by omega)⟩
theorem less_trans (a b c : P3) (h : lessI a b = true) (g : lessI b c = true) : lessI a c = true := by
  rw [lessI_eq] at *
  have h' := of_decide_eq_true h
  have g' := of_decide_eq_true g
  exact decide_eq_true (by omega)

/-- The normal is orthogonal to the sides. -/
theorem nrm_ab (a b c : P3) : (nrmI a b c).x * (b.x - a.x) + (nrmI a b c).y * (b.y - a.y) + (nrmI a b c).z * (b.z - a.z) = 0 := by simp only [nrmI, crsI, difI]; grind
theorem nrm_bc (a b c : P3) : (nrmI a b c).x * (c.x - b.x) + (nrmI a b c).y * (c.y - b.y) + (nrmI a b c).z * (c.z - b.z) = 0 := by simp only [nrmI, crsI, difI]; grind
theorem nrm_ca (a b c : P3) : (nrmI a b c).x * (a.x - c.x) + (nrmI a b c).y * (a.y - c.y) + (nrmI a b c).z * (a.z - c.z) = 0 := by simp only [nrmI, crsI, difI]; grind
theorem nrm_swap (a b c : P3) : (nrmI b a c).x = -(nrmI a b c).x ∧ (nrmI b a c).y = -(nrmI a b c).y ∧ (nrmI b a c).z = -(nrmI a b c).z := by
  simp only [nrmI, crsI, difI]; refine ⟨?_, ?_, ?_⟩ <;> grind
theorem flat_swap (a b c : P3) : flatI b a c = flatI a b c := by
  obtain ⟨h1, h2, h3⟩ := nrm_swap a b c
  unfold flatI
  rw [h1, h2, h3]
  have e : ∀ n : Int, (-n == 0) = (n == 0) := fun n => by
    by_cases h : n = 0
    · subst h; rfl
    · rw [beq_eq_false_iff_ne.2 h, beq_eq_false_iff_ne.2 (by omega)]
  rw [e, e, e]
theorem sq_pos_of {n : Int} (h : n ≠ 0) : 0 < n * n := by
  rcases Int.lt_trichotomy n 0 with g | g | g
  · exact Int.mul_pos_of_neg_of_neg g g
  · exact absurd g h
  · exact Int.mul_pos g g
theorem sq_nonneg_of (n : Int) : 0 ≤ n * n := by
  by_cases h : n = 0
  · subst h; simp
  · exact Int.le_of_lt (sq_pos_of h)
/-- The square of a vector is 0 for that of no length alone. -/
theorem dot_self (n : P3) : (dotI n n).sign = if (n.x == 0 && n.y == 0 && n.z == 0) = true then 0 else 1 := by
  have hx := sq_nonneg_of n.x
  have hy := sq_nonneg_of n.y
  have hz := sq_nonneg_of n.z
  unfold dotI
  split
  · rename_i h
    simp only [Bool.and_eq_true, beq_iff_eq] at h
    rw [h.1.1, h.1.2, h.2]; rfl
  · rename_i h
    simp only [Bool.and_eq_true, beq_iff_eq] at h
    apply Int.sign_eq_one_of_pos
    by_cases h1 : n.x = 0
    · by_cases h2 : n.y = 0
      · have := sq_pos_of (fun h3 => h ⟨⟨h1, h2⟩, h3⟩); omega
      · have := sq_pos_of h2; omega
    · have := sq_pos_of h1; omega
theorem facing_self (a b c : P3) : (dotI (nrmI a b c) (nrmI a b c)).sign = if flatI a b c = true then 0 else 1 := dot_self _
theorem facing_swap (a b c : P3) : (dotI (nrmI a b c) (nrmI b a c)).sign = -(dotI (nrmI a b c) (nrmI a b c)).sign := by
  obtain ⟨h1, h2, h3⟩ := nrm_swap a b c
  rw [← Int.sign_neg]
  congr 1
  unfold dotI
  rw [h1, h2, h3]
  grind

end Go.Proofs.YtpedbahppkimbaaDoor
