/- ExactDistances: Dist2 is symmetric, 0 only for equal points, and the sum of the squares of the differences: for all arguments, the call returns true and leaves its arguments as they were; what the program's text lays in the listed variables is tied. -/
import Derived.Test.YtfcdggliongkkaaDoorArr
import Derived.Test.YtfcdggliongkkaaDoorDis
namespace Go.Proofs.YtfcdggliongkkaaDoor
open Go Go.ChangeShapes Go.WideShapes Go.ChangeAt Go.RowKit Dg

set_option maxRecDepth 100000 in
theorem di_contract (H : Type) (enc : TypeId × Value → H) (W : World) (base : Nat) (args : Array Value) (ds gs : List (DataW H)) (before : List MemPlace)
    (hval : ∀ (j : Nat) t v, Tryd.f7.params[j]? = some t → args[j]? = some v → Value.okWide Tryd.prog W .any base t v)
    (hW : DataW.Whole enc Tryd.prog Tryd.f7.params.toList Rows.exactDistancesSpec.vars false W args.toList ds gs before) :
    Calls Tryd.prog 7 args W fun e W' => ∃ v, e = .returned v ∧ Rows.exactDistancesSpec.post enc Tryd.prog Tryd.f7 false true false false W args v W' := by
  have hW' := hW
  obtain ⟨p, q, hA0, hV, rfl, hfz, hnd⟩ := hW
  have hA : DataW.TrodAll enc Tryd.prog W 0 (fun _ => true) true Tryd.f7.params.toList args.toList ds p := hA0
  rw [Tryd.params7] at hA hval
  obtain ⟨v0, v1, d0, d1, p0, p1, rfl, rfl, rfl, h0, h1⟩ := trodAll_two hA
  obtain ⟨rfl, rfl⟩ := trodVars_none hV
  have k0 := h0
  have k1 := h1
  obtain ⟨z0, rfl, l0, w0⟩ := open_iarr Tryd.underlying22 Tryd.underlying3 (by kernel_rfl) (by kernel_rfl) (hval 0 _ v0 rfl rfl) h0
  obtain ⟨a, ha, rfl⟩ := list3 z0 l0 w0
  obtain ⟨z1, rfl, l1, w1⟩ := open_iarr Tryd.underlying22 Tryd.underlying3 (by kernel_rfl) (by kernel_rfl) (hval 1 _ v1 rfl rfl) h1
  obtain ⟨b, hb, rfl⟩ := list3 z1 l1 w1
  clear hA0
  simp only [List.append_nil] at hW'
  refine (dis_walk a b ha hb W).mono fun e W' ⟨he, hT⟩ => ?_
  subst he
  have hB := hT.below
  have hlt : ∀ x ∈ p0 ++ (p1), x.block < W.heap.size := fun x hx => hW'.lt x (by simpa using hx)
  refine ⟨_, rfl, _, _, _, [], _, [], hW', trodAll_mk1 (shut_bool Tryd.underlying4 _),
    trodAll_mk2 (Below.trod laidOut (by kernel_rfl) (of_decide_eq_true (by kernel_rfl)) k0 hB (fun x hx => hlt x (by simp [hx]))) (Below.trod laidOut (by kernel_rfl) (of_decide_eq_true (by kernel_rfl)) k1 hB (fun x hx => hlt x (by simp [hx]))),
    rfl, World.keptBut_mono (fun p hp => ⟨hp, ?_⟩) (hB.frame _), fun h => by cases h⟩
  exact .inr (.inl (by simpa using hp))

set_option maxRecDepth 100000 in
theorem di_laid (os : Os) (args : Array Value) : laidMetH Tryd.prog Rows.exactDistancesRow.laid ((World.laidAll Tryd.prog os Rows.exactDistancesRow.laid).forCall (fun _ _ => 0) ⟨#[], args, []⟩).memory := by
  rw [MakeChecks.laidMetH_plain _ _ _ (by kernel_rfl)]
  exact laidMet_laidAll _ (by kernel_rfl) (by kernel_rfl)

set_option maxRecDepth 100000 in
theorem di_reads (os : Os) {H : Type} (enc : TypeId × Value → H) : DataW.whole enc Tryd.prog ((World.laidAll Tryd.prog os Rows.exactDistancesRow.laid).forCall (fun _ _ => 0) ⟨#[], #[.agg #[.int .i64 0, .int .i64 0, .int .i64 0], .agg #[.int .i64 0, .int .i64 0, .int .i64 0]], []⟩).memory Tryd.f7.params.toList Rows.exactDistancesSpec.vars false #[.agg #[.int .i64 0, .int .i64 0, .int .i64 0], .agg #[.int .i64 0, .int .i64 0, .int .i64 0]].toList 8 =
    some ([.agg [.lit (.int .i64 0), .lit (.int .i64 0), .lit (.int .i64 0)], .agg [.lit (.int .i64 0), .lit (.int .i64 0), .lit (.int .i64 0)]], [], []) := by kernel_rfl

set_option maxRecDepth 100000 in
theorem di_sized (os : Os) {H : Type} (enc : TypeId × Value → H) : (OpenSpec.ofChange Rows.exactDistancesSpec).bare.sizedB enc Tryd.prog Tryd.f7 false ((World.laidAll Tryd.prog os Rows.exactDistancesRow.laid).forCall (fun _ _ => 0) ⟨#[], #[.agg #[.int .i64 0, .int .i64 0, .int .i64 0], .agg #[.int .i64 0, .int .i64 0, .int .i64 0]], []⟩).memory #[.agg #[.int .i64 0, .int .i64 0, .int .i64 0], .agg #[.int .i64 0, .int .i64 0, .int .i64 0]] 8 = true := by kernel_rfl
set_option maxRecDepth 100000 in
theorem di_row (os : Os) {H : Type} (enc : TypeId × Value → H) : (OpenSpec.ofChange Rows.exactDistancesSpec).preRow enc Tryd.prog Tryd.f7 Rows.exactDistancesRow.domain false Rows.exactDistancesRow.laid ((World.laidAll Tryd.prog os Rows.exactDistancesRow.laid).forCall (fun _ _ => 0) ⟨#[], #[.agg #[.int .i64 0, .int .i64 0, .int .i64 0], .agg #[.int .i64 0, .int .i64 0, .int .i64 0]], []⟩).memory #[.agg #[.int .i64 0, .int .i64 0, .int .i64 0], .agg #[.int .i64 0, .int .i64 0, .int .i64 0]] :=
  OpenSpec.preRow_of_cond 8 (di_reads os enc) rfl (fun k hk => by cases hk) (di_sized os enc) (di_laid os _)
set_option maxRecDepth 100000 in
theorem di_zip (os : Os) : ((World.laidAll Tryd.prog os Rows.exactDistancesRow.laid).forCall (fun _ _ => 0) ⟨#[], #[.agg #[.int .i64 0, .int .i64 0, .int .i64 0], .agg #[.int .i64 0, .int .i64 0, .int .i64 0]], []⟩).variablesZipB Tryd.checked.prog = true := by kernel_rfl
set_option maxRecDepth 100000 in
theorem di_rest (os : Os) : (((World.laidAll Tryd.prog os Rows.exactDistancesRow.laid).forCall (fun _ _ => 0) ⟨#[], #[.agg #[.int .i64 0, .int .i64 0, .int .i64 0], .agg #[.int .i64 0, .int .i64 0, .int .i64 0]], []⟩).heap.toList.drop Tryd.checked.prog.globals.size).take ((begin Tryd.checked.prog (fun _ _ => 0) default).world.heap.size - Tryd.checked.prog.globals.size) = (begin Tryd.checked.prog (fun _ _ => 0) default).world.heap.toList.drop Tryd.checked.prog.globals.size := by kernel_rfl
set_option maxRecDepth 100000 in
theorem di_okw (os : Os) : Input.okWideB Tryd.checked.prog ((World.laidAll Tryd.prog os Rows.exactDistancesRow.laid).forCall (fun _ _ => 0) ⟨#[], #[.agg #[.int .i64 0, .int .i64 0, .int .i64 0], .agg #[.int .i64 0, .int .i64 0, .int .i64 0]], []⟩) 7 ⟨#[], #[.agg #[.int .i64 0, .int .i64 0, .int .i64 0], .agg #[.int .i64 0, .int .i64 0, .int .i64 0]], []⟩ = true := by kernel_rfl

set_option maxRecDepth 100000 in
theorem di_lifted (os : Os) (started : os.Started) (H : Type) (enc : TypeId × Value → H) (F : Stop.Interp) :
    ReturnsInHanded {} Tryd.checked os 7 .any ((OpenSpec.ofChange Rows.exactDistancesSpec).preRow enc Tryd.prog Tryd.f7 Rows.exactDistancesRow.domain false Rows.exactDistancesRow.laid) (((OpenSpec.ofChange Rows.exactDistancesSpec).at F).post enc Tryd.prog Tryd.f7 false true false false) := by
  refine returnsInHanded_of_row (C := Tryd.checked) (s := OpenSpec.ofChange Rows.exactDistancesSpec) own started (by kernel_rfl) Tryd.func7
    (row_witness (enc := enc) (C := Tryd.checked) (s := OpenSpec.ofChange Rows.exactDistancesSpec) (World.laidAll Tryd.prog os Rows.exactDistancesRow.laid) #[.agg #[.int .i64 0, .int .i64 0, .int .i64 0], .agg #[.int .i64 0, .int .i64 0, .int .i64 0]] (World.laidAll_os _ _ _) (World.shaped_of_ZipB (di_zip os) (di_rest os)) (di_okw os) (di_row os enc)) ?_
  intro W base args ds gs before hval hW _ _ _ _ _ _
  exact di_contract H enc W base args ds gs before hval hW

theorem di_said : Rows.ExactDistancesSaid :=
  OpenClaim.holds_of_cond 7 Tryd.f7 rfl rfl rfl rfl rfl rfl rfl ⟨rfl, rfl, rfl, rfl, rfl⟩ rfl rfl rfl rfl rfl (by kernel_rfl) Tryd.func7 (by kernel_rfl)
    (of_decide_eq_true (by kernel_rfl)) (by unfold Func.isWrapper; first | (rw [if_pos (by decide +kernel)]; kernel_rfl) | (rw [if_neg (by decide +kernel)]; exact ⟨rfl, rfl⟩))
    (fun os started H enc _ F => by rw [OpenClaim.pre_eq_preRow]; exact di_lifted os started H enc F)

theorem di_plain (f : FuncId) (fn : Func) (hf : Tryd.pinned.checked.prog.funcNamed "lithophane/lithophanelaw02.ExactDistances" = some f) (hfn : Tryd.pinned.checked.prog.funcs[f]? = some fn) :
    false = Tryd.pinned.checked.prog.looks [] ∧ ∀ (j : Nat) t, fn.params[j]? = some t → Tryd.pinned.checked.prog.wantsStandIn t = false := by
  obtain rfl : f = 7 := Option.some.inj ((show Tryd.prog.funcNamed "lithophane/lithophanelaw02.ExactDistances" = some 7 by kernel_rfl).symm.trans hf) |>.symm
  obtain rfl : fn = Tryd.f7 := (Option.some.inj (Tryd.func7.symm.trans hfn)).symm
  refine ⟨by kernel_rfl, fun j t ht => ?_⟩
  rw [Tryd.params7] at ht
  have hm := Array.mem_of_getElem? ht
  simp at hm
  rcases hm with rfl
  · exact (show Tryd.prog.wantsStandIn 22 = false by kernel_rfl)

theorem di_card : Rows.ExactDistancesCardSaid :=
  Claim7.holds_tied_plain_at .later [] _ _ _ _ di_said (fun _ h => by cases h) (by kernel_rfl) (fun _ h => by cases h) exactDistances_row_tie rfl ⟨rfl, rfl⟩ (by kernel_rfl) rfl di_plain (by kernel_rfl)

end Go.Proofs.YtfcdggliongkkaaDoor
