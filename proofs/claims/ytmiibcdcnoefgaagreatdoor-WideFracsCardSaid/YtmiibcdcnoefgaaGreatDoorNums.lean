/- Arguments that are arrays of numbers, opened. -/
import Derived.Test.YtmiibcdcnoefgaaGreatDoorFrame
import Derived.Deep.Strs
namespace Go.Proofs.YtmiibcdcnoefgaaGreatDoor
open Go.ChangeShapes Go.WideShapes Go.ChangeAt Go.RowKit Dg
open Go.Joins

/-- Three cells are a number's argument of at most B bytes. -/
def NumOk (W : World) (B : Nat) (c0 c1 c2 : Value) : Prop :=
  ∃ (b : Bool) (A : Option Addr) (len cap : Nat) (z : Int) (ys : List Nat), c0 = .bool b ∧ c1 = .slice A len cap ∧ c2 = .int .i64 z ∧ ys.length = len ∧ Src W A ys ∧ len ≤ B ∧ len ≤ cap ∧ cap ≤ maxLen

set_option maxRecDepth 100000 in
theorem num_row {H : Type} {enc : TypeId × Value → H} {W : World} {fuel : Nat} {c0 c1 c2 : Value} {x : DataW H × List MemPlace}
    (h : DataW.trod enc Tryz.prog W 0 (fun _ => true) true fuel 24 [c0, c1, c2] = some x) : NumOk W (Rows.uptoBulk x.1) c0 c1 c2 := by
  obtain ⟨y0, y1, y2, n, rfl, _, h0, h1, h2⟩ := Go.Deep.trod_struct3 Tryz.underlying24 h
  have k0 : Tryz.prog.cellsOf 4 = 1 := by kernel_rfl
  have k1 : Tryz.prog.cellsOf 22 = 1 := by kernel_rfl
  have k2 : Tryz.prog.cellsOf 3 = 1 := by kernel_rfl
  replace h0 : DataW.trod enc Tryz.prog W 0 (fun _ => true) true n 4 [c0] = some y0 := by simpa [k0] using h0
  replace h1 : DataW.trod enc Tryz.prog W 0 (fun _ => true) true n 22 [c1] = some y1 := by simpa [k1] using h1
  replace h2 : DataW.trod enc Tryz.prog W 0 (fun _ => true) true n 3 [c2] = some y2 := by simpa [k2] using h2
  obtain ⟨b, e0, rfl⟩ := DataW.trod_bool Tryz.underlying4 h0
  obtain ⟨z, e2, rfl, _⟩ := DataW.trod_int Tryz.underlying3 h2
  have hc1 : Tryz.prog.cellsOf 5 = 1 := by kernel_rfl
  rcases open_ints Tryz.underlying22 Tryz.underlying5 hc1 h1 with ⟨e1, rfl⟩ | ⟨a, len, cap, zs, e1, _, hl, hm, hz, rfl, hcell, hwf⟩
  · simp only [List.cons.injEq, and_true] at e0 e1 e2
    subst e0 e1 e2
    exact ⟨b, none, 0, 0, z, [], rfl, rfl, rfl, rfl, fun j u hu => by simp [ints] at hu, Nat.zero_le _, Nat.le_refl _, Nat.zero_le _⟩
  · simp only [List.cons.injEq, and_true] at e0 e1 e2
    subst e0 e1 e2
    have hz' : len ≤ zs.length := by rw [hz]; simp; omega
    refine ⟨b, some a, len, cap, z, (zs.take len).map Int.toNat, rfl, rfl, rfl, by simp; omega, fun j u hu => ⟨a, rfl, ?_⟩, ?_, hl, hm⟩
    · have hj : j < len := by have := (List.getElem?_eq_some_iff.1 hu).1; simp [ints] at this; omega
      rw [hcell j (by omega)]
      have hw := hwf (zs.getD j 0) (by rw [List.getD, List.getElem?_eq_getElem (by omega)]; exact List.getElem_mem (by omega))
      obtain ⟨q, hq⟩ : ∃ q, zs.getD j 0 = q := ⟨_, rfl⟩
      rw [hq] at hw ⊢
      have hr : 0 ≤ q := by simp [Lit.wf, IntKind.min, IntKind.max, IntKind.signed, IntKind.bits] at hw; omega
      rw [ints_get .u8 _ j (by simp; omega)] at hu
      rw [← hu]
      congr 2
      have e : ((zs.take len).map Int.toNat).getD j 0 = q.toNat := by
        rw [← hq]
        simp [List.getD, hj, List.getElem?_eq_getElem (show j < zs.length by omega)]
      rw [e]; omega
    · have h3 := bulk_all (lits (H := H) .u8 (zs.take len))
      have h4 : (lits (H := H) .u8 (zs.take len)).length = len := by simp [lits]; omega
      simp only [Rows.uptoBulk, Rows.uptoBulkAll]
      omega

theorem okWide_array {P : Program} {w : World} {r : Reach} {base : Nat} {t e : TypeId} {n : Nat} {v : Value} (ht : P.underlying t = some (.array n e)) (h : Value.okWide P w r base t v) : ∃ cs, v = .agg cs ∧ cs.size = P.cellsOf t := by
  simp only [Value.okWide, ht] at h
  obtain ⟨cs, h1, h2, _⟩ := h
  exact ⟨cs, h1, h2⟩

theorem bulk_mem {H : Type} {l : List (DataW H)} {d : DataW H} (h : d ∈ l) : Rows.uptoBulk d ≤ Rows.uptoBulkAll l := by
  induction l with
  | nil => cases h
  | cons x r ih =>
    simp only [Rows.uptoBulkAll]
    rcases List.mem_cons.1 h with rfl | h
    · omega
    · have := ih h; omega

theorem NumOk.mono {W : World} {B C : Nat} {c0 c1 c2 : Value} (h : NumOk W B c0 c1 c2) (hl : B ≤ C) : NumOk W C c0 c1 c2 := by
  obtain ⟨b, A, len, cap, z, ys, h0, h1, h2, h3, h4, h5, h6⟩ := h
  exact ⟨b, A, len, cap, z, ys, h0, h1, h2, h3, h4, by omega, h6⟩

set_option maxRecDepth 100000 in
/-- A number's argument, its capacity told. -/
theorem open_numc {H : Type} {enc : TypeId × Value → H} {W : World} {b0 : Nat} {v : Value} {d : DataW H} {p : List MemPlace}
    (hv : Value.okWide Tryz.prog W .any b0 24 v) (h : DataW.Trod enc Tryz.prog W 0 (fun _ => true) true 24 v d p) :
    ∃ c0 c1 c2 : Value, v = .agg #[c0, c1, c2] ∧ NumOk W (Rows.uptoBulk d) c0 c1 c2 := by
  obtain ⟨cs, rfl, hs⟩ := okWide_struct Tryz.underlying24 hv
  obtain ⟨c0, c1, c2, rfl⟩ := array3 (hs.trans (show Tryz.prog.cellsOf 24 = 3 by kernel_rfl))
  obtain ⟨fuel, hf⟩ := h
  exact ⟨c0, c1, c2, rfl, num_row (x := (d, p)) (by simpa [Value.cells] using hf)⟩

end Go.Proofs.YtmiibcdcnoefgaaGreatDoor
