/- What the laws over numbers share: their arguments opened; what is left behind. -/
import Derived.Test.YtmiibcdcnoefgaaGreatDoorNum
import Derived.Test.YtmiibcdcnoefgaaGreatDoorCards
import Derived.Test.YtmiibcdcnoefgaaGreatDoorTie
import Derived.ProofKit
import Derived.OpenShut
import Derived.Carry
import Derived.Lib.SmallJoins
import Derived.Deep.DeepHandedRow
import Derived.Lay
import Derived.JoinedCond
namespace Go.Proofs.YtmiibcdcnoefgaaGreatDoor
open Go.ChangeShapes Go.WideShapes Go.ChangeAt Go.RowKit Dg
open Go.Joins (open_agg3)

theorem own : ownKnob Tryz.prog.godebug = none := by kernel_rfl
theorem laidOut : laidOutB Tryz.prog = true := by kernel_rfl

theorem bulk_all {H : Type} (l : List (DataW H)) : l.length ≤ Rows.uptoBulkAll l := by
  induction l with
  | nil => simp [Rows.uptoBulkAll]
  | cons x r ih =>
    have : 1 ≤ Rows.uptoBulk x := by
      cases x with
      | lit l => cases l <;> simp [Rows.uptoBulk]
      | _ => simp [Rows.uptoBulk]
    simp only [Rows.uptoBulkAll, List.length_cons]; omega

set_option maxRecDepth 100000 in
/-- A number's argument: a sign, bytes, zeros. -/
theorem open_num {H : Type} {enc : TypeId × Value → H} {W : World} {b0 : Nat} {v : Value} {d : DataW H} {p : List MemPlace}
    (hv : Value.okWide Tryz.prog W .any b0 24 v) (h : DataW.Trod enc Tryz.prog W 0 (fun _ => true) true 24 v d p) :
    ∃ (b : Bool) (A : Option Addr) (len cap : Nat) (z : Int) (ys : List Nat), v = .agg #[.bool b, .slice A len cap, .int .i64 z] ∧ ys.length = len ∧ Src W A ys ∧ len ≤ Rows.uptoBulk d := by
  obtain ⟨v0, v1, v2, y0, y1, y2, n, rfl, rfl, rfl, h0, h1, h2⟩ := open_agg3 Tryz.underlying24 (by kernel_rfl) (by kernel_rfl) hv h
  obtain ⟨b, e0, rfl⟩ := DataW.trod_bool Tryz.underlying4 h0
  obtain ⟨z, e2, rfl, _⟩ := DataW.trod_int Tryz.underlying3 h2
  have hc1 : Tryz.prog.cellsOf 5 = 1 := by kernel_rfl
  rcases open_ints Tryz.underlying22 Tryz.underlying5 hc1 h1 with ⟨e1, rfl⟩ | ⟨a, len, cap, zs, e1, _, hl, _, hz, rfl, hcell, hwf⟩
  · simp only [List.cons.injEq, and_true] at e0 e1 e2
    subst e0 e1 e2
    exact ⟨b, none, 0, 0, z, [], rfl, rfl, fun j u hu => by simp [ints] at hu, Nat.zero_le _⟩
  · simp only [List.cons.injEq, and_true] at e0 e1 e2
    subst e0 e1 e2
    have hz' : len ≤ zs.length := by rw [hz]; simp; omega
    refine ⟨b, some a, len, cap, z, (zs.take len).map Int.toNat, rfl, by simp; omega, fun j u hu => ⟨a, rfl, ?_⟩, ?_⟩
    · have hj : j < len := by have := (List.getElem?_eq_some_iff.1 hu).1; simp [ints] at this; omega
      rw [hcell j (by omega)]
      have hw := hwf (zs.getD j 0) (by rw [List.getD, List.getElem?_eq_getElem (by omega)]; exact List.getElem_mem (by omega))
      obtain ⟨q, hq⟩ : ∃ q, zs.getD j 0 = q := ⟨_, rfl⟩
      rw [hq] at hw ⊢
      have hr : 0 ≤ q := by simp [Lit.wf, IntKind.min, IntKind.max, IntKind.signed, IntKind.bits] at hw; omega
      rw [ints_get .u8 _ j (by simp; omega)] at hu
      rw [← hu]
      congr 2
      have e : ((zs.take len).map Int.toNat).getD j 0 = q.toNat := by
        rw [← hq]
        simp [List.getD, hj, List.getElem?_eq_getElem (show j < zs.length by omega)]
      rw [e]; omega
    · have h3 := bulk_all (lits (H := H) .u8 (zs.take len))
      have h4 : (lits (H := H) .u8 (zs.take len)).length = len := by simp [lits]; omega
      simp only [Rows.uptoBulk, Rows.uptoBulkAll]
      omega

/-- There is an input that fits: a world whose listed variables are laid. -/
theorem row_witness {H : Type} {enc : TypeId × Value → H} {C : Checked} {os : Os} {f : FuncId} {fn : Func} {s : OpenSpec} {conds : List PathCond} {apart : Bool} {laid : List (String × DataW Unit)} (w0 : World) (args : Array Value) (hos : w0.os = os)
    (hsh : (w0.forCall (fun _ _ => 0) ⟨#[], args, []⟩).Shaped C.prog) (hok : Input.okWideB C.prog (w0.forCall (fun _ _ => 0) ⟨#[], args, []⟩) f ⟨#[], args, []⟩ = true)
    (hrow : s.preRow enc C.prog fn conds apart laid (w0.forCall (fun _ _ => 0) ⟨#[], args, []⟩).memory args) :
    ∃ (w : World) (tape : Tape) (i : Input), w.os = os ∧ (w.forCall tape i).Shaped C.prog ∧ i.vars = [] ∧ Input.okWide C.prog (w.forCall tape i) .any w.heap.size f i ∧
      s.preRow enc C.prog fn conds apart laid (w.forCall tape i).memory i.args ∧ ({} : Assume).holds C.prog (lone (Frame.enter C.prog f i.args .normal) [] (w.forCall tape i)) := by
  have h := Input.okWide_of_okWideB (base := w0.heap.size) hok
  refine ⟨w0, fun _ _ => 0, ⟨#[], args, []⟩, hos, hsh, h.1, h.2, hrow, ?_⟩
  simp [Assume.holds]

end Go.Proofs.YtmiibcdcnoefgaaGreatDoor
