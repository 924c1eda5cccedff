/- WideFracRules: AddFrac and MulFrac satisfy the rules of a commutative ring, and CmpFrac is an order that agrees with them: for all arguments, the call returns true and leaves its arguments as they were; what the program's text lays in the listed variables is tied. -/
import Derived.Test.YtjknmcmniemigaaDoorNums
import Derived.Test.YtjknmcmniemigaaDoorFc
namespace Go.Proofs.YtjknmcmniemigaaDoor
open Go.ChangeShapes Go.WideShapes Go.ChangeAt Go.RowKit Dg

set_option maxRecDepth 100000 in
theorem fc_contract (H : Type) (enc : TypeId × Value → H) (W : World) (base : Nat) (args : Array Value) (ds gs : List (DataW H)) (before : List MemPlace)
    (hval : ∀ (j : Nat) t v, Tryd.f11.params[j]? = some t → args[j]? = some v → Value.okWide Tryd.prog W .any base t v)
    (hW : DataW.Whole enc Tryd.prog Tryd.f11.params.toList Rows.wideFracRulesSpec.vars false W args.toList ds gs before) :
    Calls Tryd.prog 11 args W fun e W' => ∃ v, e = .returned v ∧ Rows.wideFracRulesSpec.post enc Tryd.prog Tryd.f11 false true false false W args v W' := by
  have hW' := hW
  obtain ⟨p, q, hA0, hV, rfl, hfz, hnd⟩ := hW
  have hA : DataW.TrodAll enc Tryd.prog W 0 (fun _ => true) true Tryd.f11.params.toList args.toList ds p := hA0
  rw [Tryd.params11] at hA hval
  obtain ⟨v0, v1, d0, d1, p0, p1, rfl, rfl, rfl, h0, h1⟩ := trodAll_two hA
  obtain ⟨rfl, rfl⟩ := trodVars_none hV
  have k0 := h0
  have k1 := h1
  obtain ⟨_, _, _, _, _, _, _, _, _, rfl, U1, U2, U3⟩ := open_num3 (hval 0 _ v0 rfl rfl) h0
  obtain ⟨_, _, _, _, _, _, _, _, _, rfl, V1, V2, V3⟩ := open_num3 (hval 1 _ v1 rfl rfl) h1
  obtain ⟨a1, A1, len1, cap1, z1, xs1, rfl, rfl, rfl, hx1, hA1, _, hc1, hm1⟩ := U1
  obtain ⟨a2, A2, len2, cap2, z2, xs2, rfl, rfl, rfl, hx2, hA2, _, hc2, hm2⟩ := U2
  obtain ⟨a3, A3, len3, cap3, z3, xs3, rfl, rfl, rfl, hx3, hA3, _, hc3, hm3⟩ := U3
  obtain ⟨d1, B1, lem1, cbp1, y1, ys1, rfl, rfl, rfl, hy1, hB1, _, hd1, hn1⟩ := V1
  obtain ⟨d2, B2, lem2, cbp2, y2, ys2, rfl, rfl, rfl, hy2, hB2, _, hd2, hn2⟩ := V2
  obtain ⟨d3, B3, lem3, cbp3, y3, ys3, rfl, rfl, rfl, hy3, hB3, _, hd3, hn3⟩ := V3
  unfold maxLen at hm1 hm2 hm3 hn1 hn2 hn3
  clear hA0
  simp only [List.append_nil] at hW'
  refine (fc_walk W a1 A1 len1 cap1 z1 xs1 hx1 hc1 hm1 hA1 d1 B1 lem1 cbp1 y1 ys1 hy1 hd1 hn1 hB1 a2 A2 len2 cap2 z2 xs2 hx2 hc2 hm2 hA2 d2 B2 lem2 cbp2 y2 ys2 hy2 hd2 hn2 hB2 a3 A3 len3 cap3 z3 xs3 hx3 hc3 hm3 hA3 d3 B3 lem3 cbp3 y3 ys3 hy3 hd3 hn3 hB3).mono fun e W' ⟨he, hT⟩ => ?_
  subst he
  have hBl := hT.below
  have hlt : ∀ x ∈ p0 ++ p1, x.block < W.heap.size := fun x hx => hW'.lt x (by simpa using hx)
  refine ⟨_, rfl, _, _, _, [], _, [], hW', trodAll_mk1 (shut_bool Tryd.underlying4 _),
    trodAll_mk2 (Below.trod laidOut (by kernel_rfl) (of_decide_eq_true (by kernel_rfl)) k0 hBl (fun x hx => hlt x (by simp [hx]))) (Below.trod laidOut (by kernel_rfl) (of_decide_eq_true (by kernel_rfl)) k1 hBl (fun x hx => hlt x (by simp [hx]))),
    rfl, World.keptBut_mono (fun p hp => ⟨hp, ?_⟩) (hBl.frame _), fun h => by cases h⟩
  exact .inr (.inl (by simpa using hp))

set_option maxRecDepth 100000 in
theorem fc_laid (os : Os) (args : Array Value) : laidMetH Tryd.prog Rows.wideFracRulesRow.laid ((World.laidAll Tryd.prog os Rows.wideFracRulesRow.laid).forCall (fun _ _ => 0) ⟨#[], args, []⟩).memory := by
  rw [MakeChecks.laidMetH_plain _ _ _ (by kernel_rfl)]
  exact laidMet_laidAll _ (by kernel_rfl) (by kernel_rfl)

def num0 : Value := .agg #[.bool false, .slice none 0 0, .int .i64 0, .bool false, .slice none 0 0, .int .i64 0, .bool false, .slice none 0 0, .int .i64 0]
def dat1 {H : Type} : DataW H := .agg [.lit (.bool false), .nil, .lit (.int .i64 0)]
def dat0 {H : Type} : DataW H := .agg [dat1, dat1, dat1]

set_option maxRecDepth 100000 in
theorem fc_reads (os : Os) {H : Type} (enc : TypeId × Value → H) : DataW.whole enc Tryd.prog ((World.laidAll Tryd.prog os Rows.wideFracRulesRow.laid).forCall (fun _ _ => 0) ⟨#[], #[num0, num0], []⟩).memory Tryd.f11.params.toList Rows.wideFracRulesSpec.vars false #[num0, num0].toList 8 =
    some ([dat0, dat0], [], []) := by kernel_rfl

set_option maxRecDepth 100000 in
theorem fc_sized (os : Os) {H : Type} (enc : TypeId × Value → H) : (OpenSpec.ofChange Rows.wideFracRulesSpec).bare.sizedB enc Tryd.prog Tryd.f11 false ((World.laidAll Tryd.prog os Rows.wideFracRulesRow.laid).forCall (fun _ _ => 0) ⟨#[], #[num0, num0], []⟩).memory #[num0, num0] 8 = true := by kernel_rfl
set_option maxRecDepth 100000 in
theorem fc_row (os : Os) {H : Type} (enc : TypeId × Value → H) : (OpenSpec.ofChange Rows.wideFracRulesSpec).preRow enc Tryd.prog Tryd.f11 Rows.wideFracRulesRow.domain false Rows.wideFracRulesRow.laid ((World.laidAll Tryd.prog os Rows.wideFracRulesRow.laid).forCall (fun _ _ => 0) ⟨#[], #[num0, num0], []⟩).memory #[num0, num0] :=
  OpenSpec.preRow_of_cond 8 (fc_reads os enc) rfl (fun k hk => by cases hk) (fc_sized os enc) (fc_laid os _)
set_option maxRecDepth 100000 in
theorem fc_zip (os : Os) : ((World.laidAll Tryd.prog os Rows.wideFracRulesRow.laid).forCall (fun _ _ => 0) ⟨#[], #[num0, num0], []⟩).variablesZipB Tryd.checked.prog = true := by kernel_rfl
set_option maxRecDepth 100000 in
theorem fc_rest (os : Os) : (((World.laidAll Tryd.prog os Rows.wideFracRulesRow.laid).forCall (fun _ _ => 0) ⟨#[], #[num0, num0], []⟩).heap.toList.drop Tryd.checked.prog.globals.size).take ((begin Tryd.checked.prog (fun _ _ => 0) default).world.heap.size - Tryd.checked.prog.globals.size) = (begin Tryd.checked.prog (fun _ _ => 0) default).world.heap.toList.drop Tryd.checked.prog.globals.size := by kernel_rfl
set_option maxRecDepth 100000 in
theorem fc_okw (os : Os) : Input.okWideB Tryd.checked.prog ((World.laidAll Tryd.prog os Rows.wideFracRulesRow.laid).forCall (fun _ _ => 0) ⟨#[], #[num0, num0], []⟩) 11 ⟨#[], #[num0, num0], []⟩ = true := by kernel_rfl

set_option maxRecDepth 100000 in
theorem fc_lifted (os : Os) (started : os.Started) (H : Type) (enc : TypeId × Value → H) (F : Stop.Interp) :
    ReturnsInHanded {} Tryd.checked os 11 .any ((OpenSpec.ofChange Rows.wideFracRulesSpec).preRow enc Tryd.prog Tryd.f11 Rows.wideFracRulesRow.domain false Rows.wideFracRulesRow.laid) (((OpenSpec.ofChange Rows.wideFracRulesSpec).at F).post enc Tryd.prog Tryd.f11 false true false false) := by
  refine returnsInHanded_of_row (C := Tryd.checked) (s := OpenSpec.ofChange Rows.wideFracRulesSpec) own started (by kernel_rfl) Tryd.func11
    (row_witness (enc := enc) (C := Tryd.checked) (s := OpenSpec.ofChange Rows.wideFracRulesSpec) (World.laidAll Tryd.prog os Rows.wideFracRulesRow.laid) #[num0, num0] (World.laidAll_os _ _ _) (World.shaped_of_ZipB (fc_zip os) (fc_rest os)) (fc_okw os) (fc_row os enc)) ?_
  intro W base args ds gs before hval hW _ _ _ _ _ _
  exact fc_contract H enc W base args ds gs before hval hW

theorem fc_said : Rows.WideFracRulesSaid :=
  OpenClaim.holds_of_cond 11 Tryd.f11 rfl rfl rfl rfl rfl rfl rfl ⟨rfl, rfl, rfl, rfl, rfl⟩ rfl rfl rfl rfl rfl (by kernel_rfl) Tryd.func11 (by kernel_rfl)
    (of_decide_eq_true (by kernel_rfl)) (by unfold Func.isWrapper; first | (rw [if_pos (by decide +kernel)]; kernel_rfl) | (rw [if_neg (by decide +kernel)]; exact ⟨rfl, rfl⟩))
    (fun os started H enc _ F => by rw [OpenClaim.pre_eq_preRow]; exact fc_lifted os started H enc F)

theorem fc_plain (f : FuncId) (fn : Func) (hf : Tryd.pinned.checked.prog.funcNamed "lithophane/lithophanelaw01.WideFracRules" = some f) (hfn : Tryd.pinned.checked.prog.funcs[f]? = some fn) :
    false = Tryd.pinned.checked.prog.looks [] ∧ ∀ (j : Nat) t, fn.params[j]? = some t → Tryd.pinned.checked.prog.wantsStandIn t = false := by
  obtain rfl : f = 11 := Option.some.inj ((show Tryd.prog.funcNamed "lithophane/lithophanelaw01.WideFracRules" = some 11 by kernel_rfl).symm.trans hf) |>.symm
  obtain rfl : fn = Tryd.f11 := (Option.some.inj (Tryd.func11.symm.trans hfn)).symm
  refine ⟨by kernel_rfl, fun j t ht => ?_⟩
  rw [Tryd.params11] at ht
  obtain rfl : t = 50 := by simpa using Array.mem_of_getElem? ht
  exact (show Tryd.prog.wantsStandIn 50 = false by kernel_rfl)

theorem fc_card : Rows.WideFracRulesCardSaid :=
  Claim7.holds_tied_plain_at .later [] _ _ _ _ fc_said (fun _ h => by cases h) (by kernel_rfl) (fun _ h => by cases h) wideFracRules_row_tie rfl ⟨rfl, rfl⟩ (by kernel_rfl) rfl fc_plain (by kernel_rfl)

end Go.Proofs.YtjknmcmniemigaaDoor
