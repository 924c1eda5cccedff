/- WideRoots: the square of the root is not greater than the number, and that of the next integer is; negative numbers have none: for all arguments of together at most 1,048,576 values and letters, the call returns true and leaves its arguments as they were; what the program's text lays in the listed variables is tied. -/
import Derived.Test.YtmiibcdcnoefgaaDoorFrame
import Derived.Test.YtmiibcdcnoefgaaDoorRoots
namespace Go.Proofs.YtmiibcdcnoefgaaDoor
open Go.ChangeShapes Go.WideShapes Go.ChangeAt Go.RowKit Dg

set_option maxRecDepth 100000 in
theorem rts_contract (H : Type) (enc : TypeId × Value → H) (W : World) (base : Nat) (args : Array Value) (ds gs : List (DataW H)) (before : List MemPlace)
    (hval : ∀ (j : Nat) t v, Tryd.f7.params[j]? = some t → args[j]? = some v → Value.okWide Tryd.prog W .any base t v)
    (hW : DataW.Whole enc Tryd.prog Tryd.f7.params.toList Rows.wideRootsSpec.vars false W args.toList ds gs before) (hk : Rows.uptoSmall H (ds ++ gs) = true) :
    Calls Tryd.prog 7 args W fun e W' => ∃ v, e = .returned v ∧ Rows.wideRootsSpec.post enc Tryd.prog Tryd.f7 false true false false W args v W' := by
  have hW' := hW
  obtain ⟨p, q, hA0, hV, rfl, hfz, hnd⟩ := hW
  have hA : DataW.TrodAll enc Tryd.prog W 0 (fun _ => true) true Tryd.f7.params.toList args.toList ds p := hA0
  rw [Tryd.params7] at hA hval
  obtain ⟨v0, v1, d0, d1, p0, p1, rfl, rfl, rfl, h0, h1⟩ := trodAll_two hA
  obtain ⟨rfl, rfl⟩ := trodVars_none hV
  have k0 := h0
  have k1 := h1
  obtain ⟨n1, A1, len1, cap1, z1, ys1, rfl, hy1, hA1, hl1⟩ := open_num (hval 0 _ v0 rfl rfl) h0
  obtain ⟨off, rfl, hdo, _, _⟩ := open_int Tryd.underlying3 (hval 1 _ v1 rfl rfl) h1
  have hb : Rows.uptoBulkAll ([d0, d1] ++ ([] : List (DataW H))) ≤ 1048576 := of_decide_eq_true hk
  simp only [List.append_nil, Rows.uptoBulkAll] at hb
  clear hA0
  simp only [List.append_nil] at hW'
  refine (roots_walk W n1 A1 len1 cap1 z1 ys1 hy1 (by omega) hA1 off).mono fun e W' ⟨he, hT⟩ => ?_
  subst he
  have hB := hT.below
  have hlt : ∀ x ∈ p0 ++ p1, x.block < W.heap.size := fun x hx => hW'.lt x (by simpa using hx)
  refine ⟨_, rfl, _, _, _, [], _, [], hW', trodAll_mk1 (shut_bool Tryd.underlying4 _),
    trodAll_mk2 (Below.trod laidOut (by kernel_rfl) (of_decide_eq_true (by kernel_rfl)) k0 hB (fun x hx => hlt x (by simp [hx]))) (Below.trod laidOut (by kernel_rfl) (of_decide_eq_true (by kernel_rfl)) k1 hB (fun x hx => hlt x (by simp [hx]))),
    rfl, World.keptBut_mono (fun p hp => ⟨hp, ?_⟩) (hB.frame _), fun h => by cases h⟩
  exact .inr (.inl (by simpa using hp))

set_option maxRecDepth 100000 in
theorem rts_laid (os : Os) (args : Array Value) : laidMetH Tryd.prog Rows.wideRootsUptoRow.laid ((World.laidAll Tryd.prog os Rows.wideRootsUptoRow.laid).forCall (fun _ _ => 0) ⟨#[], args, []⟩).memory := by
  rw [MakeChecks.laidMetH_plain _ _ _ (by kernel_rfl)]
  exact laidMet_laidAll _ (by kernel_rfl) (by kernel_rfl)

def num0 : Value := .agg #[.bool false, .slice none 0 0, .int .i64 0]
def dat0 {H : Type} : DataW H := .agg [.lit (.bool false), .nil, .lit (.int .i64 0)]

set_option maxRecDepth 100000 in
theorem rts_reads (os : Os) {H : Type} (enc : TypeId × Value → H) : DataW.whole enc Tryd.prog ((World.laidAll Tryd.prog os Rows.wideRootsUptoRow.laid).forCall (fun _ _ => 0) ⟨#[], #[num0, .int .i64 0], []⟩).memory Tryd.f7.params.toList Rows.wideRootsSpec.vars false #[num0, .int .i64 0].toList 8 =
    some ([dat0, .lit (.int .i64 0)], [], []) := by kernel_rfl

set_option maxRecDepth 100000 in
theorem rts_sized (os : Os) {H : Type} (enc : TypeId × Value → H) : (Rows.OpenSpec.upto Rows.wideRootsSpec).bare.sizedB enc Tryd.prog Tryd.f7 false ((World.laidAll Tryd.prog os Rows.wideRootsUptoRow.laid).forCall (fun _ _ => 0) ⟨#[], #[num0, .int .i64 0], []⟩).memory #[num0, .int .i64 0] 8 = true := by kernel_rfl
set_option maxRecDepth 100000 in
theorem rts_small {H : Type} : Rows.uptoSmall H [dat0, .lit (.int .i64 0)] = true := by kernel_rfl
set_option maxRecDepth 100000 in
theorem rts_row (os : Os) {H : Type} (enc : TypeId × Value → H) : (Rows.OpenSpec.upto Rows.wideRootsSpec).preRow enc Tryd.prog Tryd.f7 Rows.wideRootsUptoRow.domain false Rows.wideRootsUptoRow.laid ((World.laidAll Tryd.prog os Rows.wideRootsUptoRow.laid).forCall (fun _ _ => 0) ⟨#[], #[num0, .int .i64 0], []⟩).memory #[num0, .int .i64 0] :=
  OpenSpec.preRow_of_cond 8 (rts_reads os enc) rfl (fun k hk => by cases hk; exact rts_small) (rts_sized os enc) (rts_laid os _)
set_option maxRecDepth 100000 in
theorem rts_zip (os : Os) : ((World.laidAll Tryd.prog os Rows.wideRootsUptoRow.laid).forCall (fun _ _ => 0) ⟨#[], #[num0, .int .i64 0], []⟩).variablesZipB Tryd.checked.prog = true := by kernel_rfl
set_option maxRecDepth 100000 in
theorem rts_rest (os : Os) : (((World.laidAll Tryd.prog os Rows.wideRootsUptoRow.laid).forCall (fun _ _ => 0) ⟨#[], #[num0, .int .i64 0], []⟩).heap.toList.drop Tryd.checked.prog.globals.size).take ((begin Tryd.checked.prog (fun _ _ => 0) default).world.heap.size - Tryd.checked.prog.globals.size) = (begin Tryd.checked.prog (fun _ _ => 0) default).world.heap.toList.drop Tryd.checked.prog.globals.size := by kernel_rfl
set_option maxRecDepth 100000 in
theorem rts_okw (os : Os) : Input.okWideB Tryd.checked.prog ((World.laidAll Tryd.prog os Rows.wideRootsUptoRow.laid).forCall (fun _ _ => 0) ⟨#[], #[num0, .int .i64 0], []⟩) 7 ⟨#[], #[num0, .int .i64 0], []⟩ = true := by kernel_rfl

set_option maxRecDepth 100000 in
theorem rts_lifted (os : Os) (started : os.Started) (H : Type) (enc : TypeId × Value → H) (F : Stop.Interp) :
    ReturnsInHanded {} Tryd.checked os 7 .any ((Rows.OpenSpec.upto Rows.wideRootsSpec).preRow enc Tryd.prog Tryd.f7 Rows.wideRootsUptoRow.domain false Rows.wideRootsUptoRow.laid) (((Rows.OpenSpec.upto Rows.wideRootsSpec).at F).post enc Tryd.prog Tryd.f7 false true false false) := by
  refine returnsInHanded_of_row (C := Tryd.checked) (s := Rows.OpenSpec.upto Rows.wideRootsSpec) own started (by kernel_rfl) Tryd.func7
    (row_witness (enc := enc) (C := Tryd.checked) (s := Rows.OpenSpec.upto Rows.wideRootsSpec) (World.laidAll Tryd.prog os Rows.wideRootsUptoRow.laid) #[num0, .int .i64 0] (World.laidAll_os _ _ _) (World.shaped_of_ZipB (rts_zip os) (rts_rest os)) (rts_okw os) (rts_row os enc)) ?_
  intro W base args ds gs before hval hW _ hcond _ _ _ _
  exact rts_contract H enc W base args ds gs before hval hW (hcond _ rfl)

theorem rts_said : Rows.WideRootsUptoSaid :=
  OpenClaim.holds_of_cond 7 Tryd.f7 rfl rfl rfl rfl rfl rfl rfl ⟨rfl, rfl, rfl, rfl, rfl⟩ rfl rfl rfl rfl rfl (by kernel_rfl) Tryd.func7 (by kernel_rfl)
    (of_decide_eq_true (by kernel_rfl)) (by unfold Func.isWrapper; first | (rw [if_pos (by decide +kernel)]; kernel_rfl) | (rw [if_neg (by decide +kernel)]; exact ⟨rfl, rfl⟩))
    (fun os started H enc _ F => by rw [OpenClaim.pre_eq_preRow]; exact rts_lifted os started H enc F)

theorem rts_plain (f : FuncId) (fn : Func) (hf : Tryd.pinned.checked.prog.funcNamed "lithophane/lithophanelaw01.WideRoots" = some f) (hfn : Tryd.pinned.checked.prog.funcs[f]? = some fn) :
    false = Tryd.pinned.checked.prog.looks [] ∧ ∀ (j : Nat) t, fn.params[j]? = some t → Tryd.pinned.checked.prog.wantsStandIn t = false := by
  obtain rfl : f = 7 := Option.some.inj ((show Tryd.prog.funcNamed "lithophane/lithophanelaw01.WideRoots" = some 7 by kernel_rfl).symm.trans hf) |>.symm
  obtain rfl : fn = Tryd.f7 := (Option.some.inj (Tryd.func7.symm.trans hfn)).symm
  refine ⟨by kernel_rfl, fun j t ht => ?_⟩
  rw [Tryd.params7] at ht
  have hm := Array.mem_of_getElem? ht
  simp at hm
  rcases hm with rfl | rfl
  · exact (show Tryd.prog.wantsStandIn 24 = false by kernel_rfl)
  · exact (show Tryd.prog.wantsStandIn 3 = false by kernel_rfl)

theorem rts_card : Rows.WideRootsUptoCardSaid :=
  Claim7.holds_tied_plain_at .later [] _ _ _ _ rts_said (fun _ h => by cases h) (by kernel_rfl) (fun _ h => by cases h) wideRootsUpto_row_tie rfl ⟨rfl, rfl⟩ (by kernel_rfl) rfl rts_plain (by kernel_rfl)

end Go.Proofs.YtmiibcdcnoefgaaDoor
