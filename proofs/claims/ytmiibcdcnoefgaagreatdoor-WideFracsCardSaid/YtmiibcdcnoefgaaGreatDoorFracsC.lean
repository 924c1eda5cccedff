/- WideFracs: for all fractions, Frac, CmpFrac, AddFrac and MulFrac return what the reference model returns, also where denominators are not positive: for all arguments, the call returns true and leaves its arguments as they were; what the program's text lays in the listed variables is tied. -/
import Derived.Test.YtmiibcdcnoefgaaGreatDoorNums2
import Derived.Test.YtmiibcdcnoefgaaGreatDoorFracs
namespace Go.Proofs.YtmiibcdcnoefgaaGreatDoor
open Go.ChangeShapes Go.WideShapes Go.ChangeAt Go.RowKit Dg

set_option maxRecDepth 100000 in
theorem fz_contract (H : Type) (enc : TypeId × Value → H) (W : World) (base : Nat) (args : Array Value) (ds gs : List (DataW H)) (before : List MemPlace)
    (hval : ∀ (j : Nat) t v, Tryz.f3.params[j]? = some t → args[j]? = some v → Value.okWide Tryz.prog W .any base t v)
    (hW : DataW.Whole enc Tryz.prog Tryz.f3.params.toList Rows.wideFracsSpec.vars false W args.toList ds gs before) :
    Calls Tryz.prog 3 args W fun e W' => ∃ v, e = .returned v ∧ Rows.wideFracsSpec.post enc Tryz.prog Tryz.f3 false true false false W args v W' := by
  have hW' := hW
  obtain ⟨p, q, hA0, hV, rfl, hfz, hnd⟩ := hW
  have hA : DataW.TrodAll enc Tryz.prog W 0 (fun _ => true) true Tryz.f3.params.toList args.toList ds p := hA0
  rw [Tryz.params3] at hA hval
  obtain ⟨v0, v1, d0, d1, p0, p1, rfl, rfl, rfl, h0, h1⟩ := trodAll_two hA
  obtain ⟨rfl, rfl⟩ := trodVars_none hV
  have k0 := h0
  have k1 := h1
  obtain ⟨_, _, _, _, _, _, rfl, U1, U2⟩ := open_num2 (hval 0 _ v0 rfl rfl) h0
  obtain ⟨_, _, _, _, _, _, rfl, V1, V2⟩ := open_num2 (hval 1 _ v1 rfl rfl) h1
  obtain ⟨a1, A1, len1, cap1, z1, xs1, rfl, rfl, rfl, hx1, hA1, _, hc1, hm1⟩ := U1
  obtain ⟨a2, A2, len2, cap2, z2, xs2, rfl, rfl, rfl, hx2, hA2, _, hc2, hm2⟩ := U2
  obtain ⟨d1, B1, lem1, cbp1, y1, ys1, rfl, rfl, rfl, hy1, hB1, _, hd1, hn1⟩ := V1
  obtain ⟨d2, B2, lem2, cbp2, y2, ys2, rfl, rfl, rfl, hy2, hB2, _, hd2, hn2⟩ := V2
  unfold maxLen at hm1 hm2 hn1 hn2
  clear hA0
  simp only [List.append_nil] at hW'
  refine (fracs_walk W a1 A1 len1 cap1 z1 xs1 hx1 hc1 hm1 hA1 d1 B1 lem1 cbp1 y1 ys1 hy1 hd1 hn1 hB1 a2 A2 len2 cap2 z2 xs2 hx2 hc2 hm2 hA2 d2 B2 lem2 cbp2 y2 ys2 hy2 hd2 hn2 hB2).mono fun e W' ⟨he, hT⟩ => ?_
  subst he
  have hBl := hT.below
  have hlt : ∀ x ∈ p0 ++ p1, x.block < W.heap.size := fun x hx => hW'.lt x (by simpa using hx)
  refine ⟨_, rfl, _, _, _, [], _, [], hW', trodAll_mk1 (shut_bool Tryz.underlying4 _),
    trodAll_mk2 (Below.trod laidOut (by kernel_rfl) (of_decide_eq_true (by kernel_rfl)) k0 hBl (fun x hx => hlt x (by simp [hx]))) (Below.trod laidOut (by kernel_rfl) (of_decide_eq_true (by kernel_rfl)) k1 hBl (fun x hx => hlt x (by simp [hx]))),
    rfl, World.keptBut_mono (fun p hp => ⟨hp, ?_⟩) (hBl.frame _), fun h => by cases h⟩
  exact .inr (.inl (by simpa using hp))

set_option maxRecDepth 100000 in
theorem fz_laid (os : Os) (args : Array Value) : laidMetH Tryz.prog Rows.wideFracsRow.laid ((World.laidAll Tryz.prog os Rows.wideFracsRow.laid).forCall (fun _ _ => 0) ⟨#[], args, []⟩).memory := by
  rw [MakeChecks.laidMetH_plain _ _ _ (by kernel_rfl)]
  exact laidMet_laidAll _ (by kernel_rfl) (by kernel_rfl)

def num0 : Value := .agg #[.bool false, .slice none 0 0, .int .i64 0, .bool false, .slice none 0 0, .int .i64 0]
def dat1 {H : Type} : DataW H := .agg [.lit (.bool false), .nil, .lit (.int .i64 0)]
def dat0 {H : Type} : DataW H := .agg [dat1, dat1]

set_option maxRecDepth 100000 in
theorem fz_reads (os : Os) {H : Type} (enc : TypeId × Value → H) : DataW.whole enc Tryz.prog ((World.laidAll Tryz.prog os Rows.wideFracsRow.laid).forCall (fun _ _ => 0) ⟨#[], #[num0, num0], []⟩).memory Tryz.f3.params.toList Rows.wideFracsSpec.vars false #[num0, num0].toList 8 =
    some ([dat0, dat0], [], []) := by kernel_rfl

set_option maxRecDepth 100000 in
theorem fz_sized (os : Os) {H : Type} (enc : TypeId × Value → H) : (OpenSpec.ofChange Rows.wideFracsSpec).bare.sizedB enc Tryz.prog Tryz.f3 false ((World.laidAll Tryz.prog os Rows.wideFracsRow.laid).forCall (fun _ _ => 0) ⟨#[], #[num0, num0], []⟩).memory #[num0, num0] 8 = true := by kernel_rfl
set_option maxRecDepth 100000 in
theorem fz_row (os : Os) {H : Type} (enc : TypeId × Value → H) : (OpenSpec.ofChange Rows.wideFracsSpec).preRow enc Tryz.prog Tryz.f3 Rows.wideFracsRow.domain false Rows.wideFracsRow.laid ((World.laidAll Tryz.prog os Rows.wideFracsRow.laid).forCall (fun _ _ => 0) ⟨#[], #[num0, num0], []⟩).memory #[num0, num0] :=
  OpenSpec.preRow_of_cond 8 (fz_reads os enc) rfl (fun k hk => by cases hk) (fz_sized os enc) (fz_laid os _)
set_option maxRecDepth 100000 in
theorem fz_zip (os : Os) : ((World.laidAll Tryz.prog os Rows.wideFracsRow.laid).forCall (fun _ _ => 0) ⟨#[], #[num0, num0], []⟩).variablesZipB Tryz.checked.prog = true := by kernel_rfl
set_option maxRecDepth 100000 in
theorem fz_rest (os : Os) : (((World.laidAll Tryz.prog os Rows.wideFracsRow.laid).forCall (fun _ _ => 0) ⟨#[], #[num0, num0], []⟩).heap.toList.drop Tryz.checked.prog.globals.size).take ((begin Tryz.checked.prog (fun _ _ => 0) default).world.heap.size - Tryz.checked.prog.globals.size) = (begin Tryz.checked.prog (fun _ _ => 0) default).world.heap.toList.drop Tryz.checked.prog.globals.size := by kernel_rfl
set_option maxRecDepth 100000 in
theorem fz_okw (os : Os) : Input.okWideB Tryz.checked.prog ((World.laidAll Tryz.prog os Rows.wideFracsRow.laid).forCall (fun _ _ => 0) ⟨#[], #[num0, num0], []⟩) 3 ⟨#[], #[num0, num0], []⟩ = true := by kernel_rfl

set_option maxRecDepth 100000 in
theorem fz_lifted (os : Os) (started : os.Started) (H : Type) (enc : TypeId × Value → H) (F : Stop.Interp) :
    ReturnsInHanded {} Tryz.checked os 3 .any ((OpenSpec.ofChange Rows.wideFracsSpec).preRow enc Tryz.prog Tryz.f3 Rows.wideFracsRow.domain false Rows.wideFracsRow.laid) (((OpenSpec.ofChange Rows.wideFracsSpec).at F).post enc Tryz.prog Tryz.f3 false true false false) := by
  refine returnsInHanded_of_row (C := Tryz.checked) (s := OpenSpec.ofChange Rows.wideFracsSpec) own started (by kernel_rfl) Tryz.func3
    (row_witness (enc := enc) (C := Tryz.checked) (s := OpenSpec.ofChange Rows.wideFracsSpec) (World.laidAll Tryz.prog os Rows.wideFracsRow.laid) #[num0, num0] (World.laidAll_os _ _ _) (World.shaped_of_ZipB (fz_zip os) (fz_rest os)) (fz_okw os) (fz_row os enc)) ?_
  intro W base args ds gs before hval hW _ _ _ _ _ _
  exact fz_contract H enc W base args ds gs before hval hW

theorem fz_said : Rows.WideFracsSaid :=
  OpenClaim.holds_of_cond 3 Tryz.f3 rfl rfl rfl rfl rfl rfl rfl ⟨rfl, rfl, rfl, rfl, rfl⟩ rfl rfl rfl rfl rfl (by kernel_rfl) Tryz.func3 (by kernel_rfl)
    (of_decide_eq_true (by kernel_rfl)) (by unfold Func.isWrapper; first | (rw [if_pos (by decide +kernel)]; kernel_rfl) | (rw [if_neg (by decide +kernel)]; exact ⟨rfl, rfl⟩))
    (fun os started H enc _ F => by rw [OpenClaim.pre_eq_preRow]; exact fz_lifted os started H enc F)

theorem fz_plain (f : FuncId) (fn : Func) (hf : Tryz.pinned.checked.prog.funcNamed "lithophane/lithophanelaw01.WideFracs" = some f) (hfn : Tryz.pinned.checked.prog.funcs[f]? = some fn) :
    false = Tryz.pinned.checked.prog.looks [] ∧ ∀ (j : Nat) t, fn.params[j]? = some t → Tryz.pinned.checked.prog.wantsStandIn t = false := by
  obtain rfl : f = 3 := Option.some.inj ((show Tryz.prog.funcNamed "lithophane/lithophanelaw01.WideFracs" = some 3 by kernel_rfl).symm.trans hf) |>.symm
  obtain rfl : fn = Tryz.f3 := (Option.some.inj (Tryz.func3.symm.trans hfn)).symm
  refine ⟨by kernel_rfl, fun j t ht => ?_⟩
  rw [Tryz.params3] at ht
  obtain rfl : t = 25 := by simpa using Array.mem_of_getElem? ht
  exact (show Tryz.prog.wantsStandIn 25 = false by kernel_rfl)

theorem fz_card : Rows.WideFracsCardSaid :=
  Claim7.holds_tied_plain_at .later [] _ _ _ _ fz_said (fun _ h => by cases h) (by kernel_rfl) (fun _ h => by cases h) wideFracs_row_tie rfl ⟨rfl, rfl⟩ (by kernel_rfl) rfl fz_plain (by kernel_rfl)

end Go.Proofs.YtmiibcdcnoefgaaGreatDoor
