/- WideDivisors: for all numbers, Gcd returns what the reference model returns, divides both, and grows with a common factor: for all arguments of together at most 1,048,576 values and letters, the call returns true and leaves its arguments as they were; what the program's text lays in the listed variables is tied. -/
import Derived.Test.YtjknmcmniemigaaDoorNums
import Derived.Test.YtjknmcmniemigaaDoorDvs
namespace Go.Proofs.YtjknmcmniemigaaDoor
open Go.ChangeShapes Go.WideShapes Go.ChangeAt Go.RowKit Dg

set_option maxRecDepth 100000 in
theorem dv_contract (H : Type) (enc : TypeId × Value → H) (W : World) (base : Nat) (args : Array Value) (ds gs : List (DataW H)) (before : List MemPlace)
    (hval : ∀ (j : Nat) t v, Tryd.f7.params[j]? = some t → args[j]? = some v → Value.okWide Tryd.prog W .any base t v)
    (hW : DataW.Whole enc Tryd.prog Tryd.f7.params.toList Rows.wideDivisorsSpec.vars false W args.toList ds gs before) (hk : Rows.uptoSmall H (ds ++ gs) = true) :
    Calls Tryd.prog 7 args W fun e W' => ∃ v, e = .returned v ∧ Rows.wideDivisorsSpec.post enc Tryd.prog Tryd.f7 false true false false W args v W' := by
  have hW' := hW
  obtain ⟨p, q, hA0, hV, rfl, hfz, hnd⟩ := hW
  have hA : DataW.TrodAll enc Tryd.prog W 0 (fun _ => true) true Tryd.f7.params.toList args.toList ds p := hA0
  rw [Tryd.params7] at hA hval
  obtain ⟨v0, v1, v2, d0, d1, d2, p0, p1, p2, rfl, rfl, rfl, h0, h1, h2⟩ := trodAll_three hA
  obtain ⟨rfl, rfl⟩ := trodVars_none hV
  have k0 := h0
  have k1 := h1
  have k2 := h2
  obtain ⟨n1, A1, len1, cap1, z1, ys1, rfl, hy1, hA1, hl1⟩ := open_num (hval 0 _ v0 rfl rfl) h0
  obtain ⟨n2, A2, len2, cap2, z2, ys2, rfl, hy2, hA2, hl2⟩ := open_num (hval 1 _ v1 rfl rfl) h1
  obtain ⟨_, _, _, rfl, V3⟩ := open_numc (hval 2 _ v2 rfl rfl) h2
  obtain ⟨n3, A3, len3, cap3, z3, ys3, rfl, rfl, rfl, hy3, hA3, hl3, hc3, hm3⟩ := V3
  unfold maxLen at hm3
  have hb : Rows.uptoBulkAll ([d0, d1, d2] ++ ([] : List (DataW H))) ≤ 1048576 := of_decide_eq_true hk
  simp only [List.append_nil, Rows.uptoBulkAll] at hb
  clear hA0
  simp only [List.append_nil] at hW'
  refine (dv_walk W n1 A1 len1 cap1 z1 ys1 hy1 (by omega) hA1 n2 A2 len2 cap2 z2 ys2 hy2 (by omega) hA2 n3 A3 len3 cap3 z3 ys3 hy3 (by omega) hA3 hc3 hm3).mono fun e W' ⟨he, hT⟩ => ?_
  subst he
  have hB := hT.below
  have hlt : ∀ x ∈ p0 ++ (p1 ++ p2), x.block < W.heap.size := fun x hx => hW'.lt x (by simpa using hx)
  refine ⟨_, rfl, _, _, _, [], _, [], hW', trodAll_mk1 (shut_bool Tryd.underlying4 _),
    trodAll_mk3 (Below.trod laidOut (by kernel_rfl) (of_decide_eq_true (by kernel_rfl)) k0 hB (fun x hx => hlt x (by simp [hx]))) (Below.trod laidOut (by kernel_rfl) (of_decide_eq_true (by kernel_rfl)) k1 hB (fun x hx => hlt x (by simp [hx]))) (Below.trod laidOut (by kernel_rfl) (of_decide_eq_true (by kernel_rfl)) k2 hB (fun x hx => hlt x (by simp [hx]))),
    rfl, World.keptBut_mono (fun p hp => ⟨hp, ?_⟩) (hB.frame _), fun h => by cases h⟩
  exact .inr (.inl (by simpa using hp))

set_option maxRecDepth 100000 in
theorem dv_laid (os : Os) (args : Array Value) : laidMetH Tryd.prog Rows.wideDivisorsUptoRow.laid ((World.laidAll Tryd.prog os Rows.wideDivisorsUptoRow.laid).forCall (fun _ _ => 0) ⟨#[], args, []⟩).memory := by
  rw [MakeChecks.laidMetH_plain _ _ _ (by kernel_rfl)]
  exact laidMet_laidAll _ (by kernel_rfl) (by kernel_rfl)

def num0 : Value := .agg #[.bool false, .slice none 0 0, .int .i64 0]
def dat0 {H : Type} : DataW H := .agg [.lit (.bool false), .nil, .lit (.int .i64 0)]

set_option maxRecDepth 100000 in
theorem dv_reads (os : Os) {H : Type} (enc : TypeId × Value → H) : DataW.whole enc Tryd.prog ((World.laidAll Tryd.prog os Rows.wideDivisorsUptoRow.laid).forCall (fun _ _ => 0) ⟨#[], #[num0, num0, num0], []⟩).memory Tryd.f7.params.toList Rows.wideDivisorsSpec.vars false #[num0, num0, num0].toList 8 =
    some ([dat0, dat0, dat0], [], []) := by kernel_rfl

set_option maxRecDepth 100000 in
theorem dv_sized (os : Os) {H : Type} (enc : TypeId × Value → H) : (Rows.OpenSpec.upto Rows.wideDivisorsSpec).bare.sizedB enc Tryd.prog Tryd.f7 false ((World.laidAll Tryd.prog os Rows.wideDivisorsUptoRow.laid).forCall (fun _ _ => 0) ⟨#[], #[num0, num0, num0], []⟩).memory #[num0, num0, num0] 8 = true := by kernel_rfl
set_option maxRecDepth 100000 in
theorem dv_small {H : Type} : Rows.uptoSmall H [dat0, dat0, dat0] = true := by kernel_rfl
set_option maxRecDepth 100000 in
theorem dv_row (os : Os) {H : Type} (enc : TypeId × Value → H) : (Rows.OpenSpec.upto Rows.wideDivisorsSpec).preRow enc Tryd.prog Tryd.f7 Rows.wideDivisorsUptoRow.domain false Rows.wideDivisorsUptoRow.laid ((World.laidAll Tryd.prog os Rows.wideDivisorsUptoRow.laid).forCall (fun _ _ => 0) ⟨#[], #[num0, num0, num0], []⟩).memory #[num0, num0, num0] :=
  OpenSpec.preRow_of_cond 8 (dv_reads os enc) rfl (fun k hk => by cases hk; exact dv_small) (dv_sized os enc) (dv_laid os _)
set_option maxRecDepth 100000 in
theorem dv_zip (os : Os) : ((World.laidAll Tryd.prog os Rows.wideDivisorsUptoRow.laid).forCall (fun _ _ => 0) ⟨#[], #[num0, num0, num0], []⟩).variablesZipB Tryd.checked.prog = true := by kernel_rfl
set_option maxRecDepth 100000 in
theorem dv_rest (os : Os) : (((World.laidAll Tryd.prog os Rows.wideDivisorsUptoRow.laid).forCall (fun _ _ => 0) ⟨#[], #[num0, num0, num0], []⟩).heap.toList.drop Tryd.checked.prog.globals.size).take ((begin Tryd.checked.prog (fun _ _ => 0) default).world.heap.size - Tryd.checked.prog.globals.size) = (begin Tryd.checked.prog (fun _ _ => 0) default).world.heap.toList.drop Tryd.checked.prog.globals.size := by kernel_rfl
set_option maxRecDepth 100000 in
theorem dv_okw (os : Os) : Input.okWideB Tryd.checked.prog ((World.laidAll Tryd.prog os Rows.wideDivisorsUptoRow.laid).forCall (fun _ _ => 0) ⟨#[], #[num0, num0, num0], []⟩) 7 ⟨#[], #[num0, num0, num0], []⟩ = true := by kernel_rfl

set_option maxRecDepth 100000 in
theorem dv_lifted (os : Os) (started : os.Started) (H : Type) (enc : TypeId × Value → H) (F : Stop.Interp) :
    ReturnsInHanded {} Tryd.checked os 7 .any ((Rows.OpenSpec.upto Rows.wideDivisorsSpec).preRow enc Tryd.prog Tryd.f7 Rows.wideDivisorsUptoRow.domain false Rows.wideDivisorsUptoRow.laid) (((Rows.OpenSpec.upto Rows.wideDivisorsSpec).at F).post enc Tryd.prog Tryd.f7 false true false false) := by
  refine returnsInHanded_of_row (C := Tryd.checked) (s := Rows.OpenSpec.upto Rows.wideDivisorsSpec) own started (by kernel_rfl) Tryd.func7
    (row_witness (enc := enc) (C := Tryd.checked) (s := Rows.OpenSpec.upto Rows.wideDivisorsSpec) (World.laidAll Tryd.prog os Rows.wideDivisorsUptoRow.laid) #[num0, num0, num0] (World.laidAll_os _ _ _) (World.shaped_of_ZipB (dv_zip os) (dv_rest os)) (dv_okw os) (dv_row os enc)) ?_
  intro W base args ds gs before hval hW _ hcond _ _ _ _
  exact dv_contract H enc W base args ds gs before hval hW (hcond _ rfl)

theorem dv_said : Rows.WideDivisorsUptoSaid :=
  OpenClaim.holds_of_cond 7 Tryd.f7 rfl rfl rfl rfl rfl rfl rfl ⟨rfl, rfl, rfl, rfl, rfl⟩ rfl rfl rfl rfl rfl (by kernel_rfl) Tryd.func7 (by kernel_rfl)
    (of_decide_eq_true (by kernel_rfl)) (by unfold Func.isWrapper; first | (rw [if_pos (by decide +kernel)]; kernel_rfl) | (rw [if_neg (by decide +kernel)]; exact ⟨rfl, rfl⟩))
    (fun os started H enc _ F => by rw [OpenClaim.pre_eq_preRow]; exact dv_lifted os started H enc F)

theorem dv_plain (f : FuncId) (fn : Func) (hf : Tryd.pinned.checked.prog.funcNamed "lithophane/lithophanelaw01.WideDivisors" = some f) (hfn : Tryd.pinned.checked.prog.funcs[f]? = some fn) :
    false = Tryd.pinned.checked.prog.looks [] ∧ ∀ (j : Nat) t, fn.params[j]? = some t → Tryd.pinned.checked.prog.wantsStandIn t = false := by
  obtain rfl : f = 7 := Option.some.inj ((show Tryd.prog.funcNamed "lithophane/lithophanelaw01.WideDivisors" = some 7 by kernel_rfl).symm.trans hf) |>.symm
  obtain rfl : fn = Tryd.f7 := (Option.some.inj (Tryd.func7.symm.trans hfn)).symm
  refine ⟨by kernel_rfl, fun j t ht => ?_⟩
  rw [Tryd.params7] at ht
  obtain rfl : t = 24 := by simpa using Array.mem_of_getElem? ht
  exact (show Tryd.prog.wantsStandIn 24 = false by kernel_rfl)

theorem dv_card : Rows.WideDivisorsUptoCardSaid :=
  Claim7.holds_tied_plain_at .later [] _ _ _ _ dv_said (fun _ h => by cases h) (by kernel_rfl) (fun _ h => by cases h) wideDivisorsUpto_row_tie rfl ⟨rfl, rfl⟩ (by kernel_rfl) rfl dv_plain (by kernel_rfl)

end Go.Proofs.YtjknmcmniemigaaDoor
