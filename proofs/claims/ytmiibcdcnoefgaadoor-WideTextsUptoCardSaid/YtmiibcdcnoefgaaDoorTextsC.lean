/- WideTexts: for all numbers, Text returns what the reference model returns, and Parse undoes it, whatever zeros stand in front of the digits: for all arguments of together at most 1,048,576 values and letters, the call returns true and leaves its arguments as they were; what the program's text lays in the listed variables is tied. -/
import Derived.Test.YtmiibcdcnoefgaaDoorFrame
import Derived.Test.YtmiibcdcnoefgaaDoorTexts
namespace Go.Proofs.YtmiibcdcnoefgaaDoor
open Go.ChangeShapes Go.WideShapes Go.ChangeAt Go.RowKit Dg

set_option maxRecDepth 100000 in
theorem txs_contract (H : Type) (enc : TypeId × Value → H) (W : World) (base : Nat) (args : Array Value) (ds gs : List (DataW H)) (before : List MemPlace)
    (hval : ∀ (j : Nat) t v, Tryd.f10.params[j]? = some t → args[j]? = some v → Value.okWide Tryd.prog W .any base t v)
    (hW : DataW.Whole enc Tryd.prog Tryd.f10.params.toList Rows.wideTextsSpec.vars false W args.toList ds gs before) (hk : Rows.uptoSmall H (ds ++ gs) = true) :
    Calls Tryd.prog 10 args W fun e W' => ∃ v, e = .returned v ∧ Rows.wideTextsSpec.post enc Tryd.prog Tryd.f10 false true false false W args v W' := by
  have hW' := hW
  obtain ⟨p, q, hA0, hV, rfl, hfz, hnd⟩ := hW
  have hA : DataW.TrodAll enc Tryd.prog W 0 (fun _ => true) true Tryd.f10.params.toList args.toList ds p := hA0
  rw [Tryd.params10] at hA hval
  obtain ⟨v0, v1, d0, d1, p0, p1, rfl, rfl, rfl, h0, h1⟩ := trodAll_two hA
  obtain ⟨rfl, rfl⟩ := trodVars_none hV
  have k0 := h0
  have k1 := h1
  obtain ⟨n1, A1, len1, cap1, z1, ys1, rfl, hy1, hA1, hl1⟩ := open_num (hval 0 _ v0 rfl rfl) h0
  obtain ⟨off, rfl, hdo, _, _⟩ := open_int Tryd.underlying3 (hval 1 _ v1 rfl rfl) h1
  have hb : Rows.uptoBulkAll ([d0, d1] ++ ([] : List (DataW H))) ≤ 1048576 := of_decide_eq_true hk
  simp only [List.append_nil, Rows.uptoBulkAll] at hb
  clear hA0
  simp only [List.append_nil] at hW'
  refine (texts_walk W n1 A1 len1 cap1 z1 ys1 hy1 (by omega) hA1 off).mono fun e W' ⟨he, hT⟩ => ?_
  subst he
  have hB := hT.below
  have hlt : ∀ x ∈ p0 ++ p1, x.block < W.heap.size := fun x hx => hW'.lt x (by simpa using hx)
  refine ⟨_, rfl, _, _, _, [], _, [], hW', trodAll_mk1 (shut_bool Tryd.underlying4 _),
    trodAll_mk2 (Below.trod laidOut (by kernel_rfl) (of_decide_eq_true (by kernel_rfl)) k0 hB (fun x hx => hlt x (by simp [hx]))) (Below.trod laidOut (by kernel_rfl) (of_decide_eq_true (by kernel_rfl)) k1 hB (fun x hx => hlt x (by simp [hx]))),
    rfl, World.keptBut_mono (fun p hp => ⟨hp, ?_⟩) (hB.frame _), fun h => by cases h⟩
  exact .inr (.inl (by simpa using hp))

set_option maxRecDepth 100000 in
theorem txs_laid (os : Os) (args : Array Value) : laidMetH Tryd.prog Rows.wideTextsUptoRow.laid ((World.laidAll Tryd.prog os Rows.wideTextsUptoRow.laid).forCall (fun _ _ => 0) ⟨#[], args, []⟩).memory := by
  rw [MakeChecks.laidMetH_plain _ _ _ (by kernel_rfl)]
  exact laidMet_laidAll _ (by kernel_rfl) (by kernel_rfl)

def num0 : Value := .agg #[.bool false, .slice none 0 0, .int .i64 0]
def dat0 {H : Type} : DataW H := .agg [.lit (.bool false), .nil, .lit (.int .i64 0)]

set_option maxRecDepth 100000 in
theorem txs_reads (os : Os) {H : Type} (enc : TypeId × Value → H) : DataW.whole enc Tryd.prog ((World.laidAll Tryd.prog os Rows.wideTextsUptoRow.laid).forCall (fun _ _ => 0) ⟨#[], #[num0, .int .i64 0], []⟩).memory Tryd.f10.params.toList Rows.wideTextsSpec.vars false #[num0, .int .i64 0].toList 8 =
    some ([dat0, .lit (.int .i64 0)], [], []) := by kernel_rfl

set_option maxRecDepth 100000 in
theorem txs_sized (os : Os) {H : Type} (enc : TypeId × Value → H) : (Rows.OpenSpec.upto Rows.wideTextsSpec).bare.sizedB enc Tryd.prog Tryd.f10 false ((World.laidAll Tryd.prog os Rows.wideTextsUptoRow.laid).forCall (fun _ _ => 0) ⟨#[], #[num0, .int .i64 0], []⟩).memory #[num0, .int .i64 0] 8 = true := by kernel_rfl
set_option maxRecDepth 100000 in
theorem txs_small {H : Type} : Rows.uptoSmall H [dat0, .lit (.int .i64 0)] = true := by kernel_rfl
set_option maxRecDepth 100000 in
theorem txs_row (os : Os) {H : Type} (enc : TypeId × Value → H) : (Rows.OpenSpec.upto Rows.wideTextsSpec).preRow enc Tryd.prog Tryd.f10 Rows.wideTextsUptoRow.domain false Rows.wideTextsUptoRow.laid ((World.laidAll Tryd.prog os Rows.wideTextsUptoRow.laid).forCall (fun _ _ => 0) ⟨#[], #[num0, .int .i64 0], []⟩).memory #[num0, .int .i64 0] :=
  OpenSpec.preRow_of_cond 8 (txs_reads os enc) rfl (fun k hk => by cases hk; exact txs_small) (txs_sized os enc) (txs_laid os _)
set_option maxRecDepth 100000 in
theorem txs_zip (os : Os) : ((World.laidAll Tryd.prog os Rows.wideTextsUptoRow.laid).forCall (fun _ _ => 0) ⟨#[], #[num0, .int .i64 0], []⟩).variablesZipB Tryd.checked.prog = true := by kernel_rfl
set_option maxRecDepth 100000 in
theorem txs_rest (os : Os) : (((World.laidAll Tryd.prog os Rows.wideTextsUptoRow.laid).forCall (fun _ _ => 0) ⟨#[], #[num0, .int .i64 0], []⟩).heap.toList.drop Tryd.checked.prog.globals.size).take ((begin Tryd.checked.prog (fun _ _ => 0) default).world.heap.size - Tryd.checked.prog.globals.size) = (begin Tryd.checked.prog (fun _ _ => 0) default).world.heap.toList.drop Tryd.checked.prog.globals.size := by kernel_rfl
set_option maxRecDepth 100000 in
theorem txs_okw (os : Os) : Input.okWideB Tryd.checked.prog ((World.laidAll Tryd.prog os Rows.wideTextsUptoRow.laid).forCall (fun _ _ => 0) ⟨#[], #[num0, .int .i64 0], []⟩) 10 ⟨#[], #[num0, .int .i64 0], []⟩ = true := by kernel_rfl

set_option maxRecDepth 100000 in
theorem txs_lifted (os : Os) (started : os.Started) (H : Type) (enc : TypeId × Value → H) (F : Stop.Interp) :
    ReturnsInHanded {} Tryd.checked os 10 .any ((Rows.OpenSpec.upto Rows.wideTextsSpec).preRow enc Tryd.prog Tryd.f10 Rows.wideTextsUptoRow.domain false Rows.wideTextsUptoRow.laid) (((Rows.OpenSpec.upto Rows.wideTextsSpec).at F).post enc Tryd.prog Tryd.f10 false true false false) := by
  refine returnsInHanded_of_row (C := Tryd.checked) (s := Rows.OpenSpec.upto Rows.wideTextsSpec) own started (by kernel_rfl) Tryd.func10
    (row_witness (enc := enc) (C := Tryd.checked) (s := Rows.OpenSpec.upto Rows.wideTextsSpec) (World.laidAll Tryd.prog os Rows.wideTextsUptoRow.laid) #[num0, .int .i64 0] (World.laidAll_os _ _ _) (World.shaped_of_ZipB (txs_zip os) (txs_rest os)) (txs_okw os) (txs_row os enc)) ?_
  intro W base args ds gs before hval hW _ hcond _ _ _ _
  exact txs_contract H enc W base args ds gs before hval hW (hcond _ rfl)

theorem txs_said : Rows.WideTextsUptoSaid :=
  OpenClaim.holds_of_cond 10 Tryd.f10 rfl rfl rfl rfl rfl rfl rfl ⟨rfl, rfl, rfl, rfl, rfl⟩ rfl rfl rfl rfl rfl (by kernel_rfl) Tryd.func10 (by kernel_rfl)
    (of_decide_eq_true (by kernel_rfl)) (by unfold Func.isWrapper; first | (rw [if_pos (by decide +kernel)]; kernel_rfl) | (rw [if_neg (by decide +kernel)]; exact ⟨rfl, rfl⟩))
    (fun os started H enc _ F => by rw [OpenClaim.pre_eq_preRow]; exact txs_lifted os started H enc F)

theorem txs_plain (f : FuncId) (fn : Func) (hf : Tryd.pinned.checked.prog.funcNamed "lithophane/lithophanelaw01.WideTexts" = some f) (hfn : Tryd.pinned.checked.prog.funcs[f]? = some fn) :
    false = Tryd.pinned.checked.prog.looks [] ∧ ∀ (j : Nat) t, fn.params[j]? = some t → Tryd.pinned.checked.prog.wantsStandIn t = false := by
  obtain rfl : f = 10 := Option.some.inj ((show Tryd.prog.funcNamed "lithophane/lithophanelaw01.WideTexts" = some 10 by kernel_rfl).symm.trans hf) |>.symm
  obtain rfl : fn = Tryd.f10 := (Option.some.inj (Tryd.func10.symm.trans hfn)).symm
  refine ⟨by kernel_rfl, fun j t ht => ?_⟩
  rw [Tryd.params10] at ht
  have hm := Array.mem_of_getElem? ht
  simp at hm
  rcases hm with rfl | rfl
  · exact (show Tryd.prog.wantsStandIn 24 = false by kernel_rfl)
  · exact (show Tryd.prog.wantsStandIn 3 = false by kernel_rfl)

theorem txs_card : Rows.WideTextsUptoCardSaid :=
  Claim7.holds_tied_plain_at .later [] _ _ _ _ txs_said (fun _ h => by cases h) (by kernel_rfl) (fun _ h => by cases h) wideTextsUpto_row_tie rfl ⟨rfl, rfl⟩ (by kernel_rfl) rfl txs_plain (by kernel_rfl)

end Go.Proofs.YtmiibcdcnoefgaaDoor
