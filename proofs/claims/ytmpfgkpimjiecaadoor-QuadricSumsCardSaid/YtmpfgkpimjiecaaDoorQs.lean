/- The law's sanity. -/
import Derived.Test.YtmpfgkpimjiecaaDoorQn
import Derived.Test.YtmpfgkpimjiecaaDoorRWv
import Derived.Deep.MidRow
namespace Go.Proofs.YtmpfgkpimjiecaaDoor
open Go Go.RowKit Dg

/-- An operation that may be taken first, its slot written out. -/
theorem takeAt {P : Program} {ops : Array Oper} {Q : Exit → Act → World → Prop} {md : Region.Mode} {S : World → Prop} {i : Nat} {oi : Oper} {d : Option Nat} {v : Value} {fuel : Nat} {listed : Array Bool} {a : Act} {w : World} (hi : ops[i]? = some oi) (hd : oi.dst = d)
    (hs : Region.noSelect ops = true) (hf : Region.free md ops listed i = true) (hr : (Region.ready md ops listed).contains i = true)
    (hQ : ∀ c a w, Q (.panic c) (a.put oi.dst v) w → Q (.panic c) a w) (hy : YieldsIf P ops S oi v a) (hS : S w)
    (h : wpAnyH P md ops Q S fuel (listed.setIfInBounds i true) (a.put d v) w) : wpAnyH P md ops Q S (fuel + 1) listed a w := by
  subst hd; exact wpAnyH_take hi hs hf hr hQ hy hS h
/-- A whole box is loaded, under an S that gives its cells. -/
theorem yieldsIf_row {P : Program} {ops : Array Oper} {S : World → Prop} {op : Oper} {a : Act} (hw : Region.wanted op (yielded ops a.tmps) = true) (ty : TypeId) (x : Operand) (ho : op.op = .load ty x)
    (b : Nat) (hx : a.eval x = .pointer (some ⟨b, 0, none⟩)) (cs : Array Value) (t : TypeId) (d : TypeDesc) (n : Nat) (hS : ∀ w, S w → w.heap[b]? = some (.cells cs t (0, 0))) (hs : cs.size = n)
    (hu : P.underlying ty = some d) (hd : (match d with | .struct _ | .array _ _ => true | _ => false) = true) (hi : (P.info? ty).map (·.size) = some n) : YieldsIf P ops S op (.agg cs) a :=
  .inl ⟨hw, fun w hw' => by
    unfold execOp
    simp only [ho, hx, Instr.loadAt, Instr.sureAddr, Sem.run_bind, Sem.run_pure, Result.andThen_ok, run_loadVar_row w b t ty cs (0, 0) d (hS w hw') hu hd (by rw [hs]; exact hi)]⟩
theorem ok3 (x y z : Int) (h : (-1000 ≤ x ∧ x ≤ 1000) ∧ (-1000 ≤ y ∧ y ≤ 1000) ∧ (-1000 ≤ z ∧ z ≤ 1000)) : P3.Ok ⟨x, y, z⟩ :=
  ⟨by unfold I64; dsimp only; omega, by unfold I64; dsimp only; omega, by unfold I64; dsimp only; omega⟩
def tT : T3 := ⟨⟨0, 0, 2⟩, ⟨2, 0, 2⟩, ⟨0, 3, 2⟩⟩
def tF : T3 := ⟨⟨0, 0, 2⟩, ⟨0, 0, 3⟩, ⟨0, 0, 4⟩⟩
/-- Coefficients by number. -/
def q1 : Nat → Int := fun k => if k = 7 then 1 else 0
def q2 : Nat → Int := fun k => if k = 7 then 36 else if k = 8 then -144 else if k = 9 then 144 else 0
theorem q1_eq : (#[.bool false, .string ⟨#[]⟩, .bool false, .string ⟨#[]⟩, .bool false, .string ⟨#[]⟩, .bool false, .string ⟨#[]⟩, .bool false, .string ⟨#[]⟩, .bool false, .string ⟨#[]⟩, .bool false, .string ⟨#[]⟩, .bool (sgz 1), .string (moz 1), .bool false, .string ⟨#[]⟩, .bool false, .string ⟨#[]⟩] : Array Value) = QV q1 := by
  show _ = qst q1 10
  unfold qst
  simp only [show q1 0 = 0 from rfl, show q1 1 = 0 from rfl, show q1 2 = 0 from rfl, show q1 3 = 0 from rfl, show q1 4 = 0 from rfl, show q1 5 = 0 from rfl, show q1 6 = 0 from rfl, show q1 7 = 1 from rfl, show q1 8 = 0 from rfl, show q1 9 = 0 from rfl, sgz_nul, moz_nul]
theorem q2_eq : (#[.bool false, .string ⟨#[]⟩, .bool false, .string ⟨#[]⟩, .bool false, .string ⟨#[]⟩, .bool false, .string ⟨#[]⟩, .bool false, .string ⟨#[]⟩, .bool false, .string ⟨#[]⟩, .bool false, .string ⟨#[]⟩, .bool (sgz 36), .string (moz 36), .bool (sgz ((-144))), .string (moz ((-144))), .bool (sgz 144), .string (moz 144)] : Array Value) = QV q2 := by
  show _ = qst q2 10
  unfold qst
  simp only [show q2 0 = 0 from rfl, show q2 1 = 0 from rfl, show q2 2 = 0 from rfl, show q2 3 = 0 from rfl, show q2 4 = 0 from rfl, show q2 5 = 0 from rfl, show q2 6 = 0 from rfl, show q2 7 = 36 from rfl, show q2 8 = -144 from rfl, show q2 9 = 144 from rfl, sgz_nul, moz_nul]
theorem eqlQ1 (p : Nat → Int) (w : World) : (binOp .eql 28 (.agg (QV p)) (.agg #[.bool false, .string ⟨#[]⟩, .bool false, .string ⟨#[]⟩, .bool false, .string ⟨#[]⟩, .bool false, .string ⟨#[]⟩, .bool false, .string ⟨#[]⟩, .bool false, .string ⟨#[]⟩, .bool false, .string ⟨#[]⟩, .bool (sgz 1), .string (moz 1), .bool false, .string ⟨#[]⟩, .bool false, .string ⟨#[]⟩])).run Tryd.prog w = .ok (.bool (sameQ p q1)) w := by rw [q1_eq]; exact eqlQ p q1 w
theorem eqlQ2 (p : Nat → Int) (w : World) : (binOp .eql 28 (.agg (QV p)) (.agg #[.bool false, .string ⟨#[]⟩, .bool false, .string ⟨#[]⟩, .bool false, .string ⟨#[]⟩, .bool false, .string ⟨#[]⟩, .bool false, .string ⟨#[]⟩, .bool false, .string ⟨#[]⟩, .bool false, .string ⟨#[]⟩, .bool (sgz 36), .string (moz 36), .bool (sgz ((-144))), .string (moz ((-144))), .bool (sgz 144), .string (moz 144)])).run Tryd.prog w = .ok (.bool (sameQ p q2)) w := by rw [q2_eq]; exact eqlQ p q2 w
theorem eqlQ2L (p : Nat → Int) (w : World) : (binOp .eql 28 (.agg (QV p).toList.toArray) (.agg #[.bool false, .string ⟨#[]⟩, .bool false, .string ⟨#[]⟩, .bool false, .string ⟨#[]⟩, .bool false, .string ⟨#[]⟩, .bool false, .string ⟨#[]⟩, .bool false, .string ⟨#[]⟩, .bool false, .string ⟨#[]⟩, .bool (sgz 36), .string (moz 36), .bool (sgz ((-144))), .string (moz ((-144))), .bool (sgz 144), .string (moz 144)])).run Tryd.prog w = .ok (.bool (sameQ p q2)) w := eqlQ2 p w
theorem eqlQL (p q : Nat → Int) (w : World) : (binOp .eql 28 (.agg (QV p)) (.agg (QV q).toList.toArray)).run Tryd.prog w = .ok (.bool (sameQ p q)) w := eqlQ p q w
theorem san1 : sameQ (ofI ⟨0, 0, 0⟩ ⟨1, 0, 0⟩ ⟨0, 1, 0⟩) q1 = true := by decide
theorem san2 : sameQ (ofI tT.a tT.b tT.c) q2 = true := by decide
theorem san3 : atI (ofI tT.a tT.b tT.c) ⟨5, 5, 3⟩ = 36 := by decide
theorem san4 : sameQ (arI [tT, tF] ⟨0, 0, 2⟩) (ofI tT.a tT.b tT.c) = true := by decide

theorem number (n : Int) (h1 : -9223372036854775808 ≤ n) (h2 : n ≤ 9223372036854775807) (w : World) :
    Calls Tryd.prog 16 #[.int .i64 n] w fun e w' => e = .returned (.agg #[.bool (sgz n), .string (moz n)]) ∧ Tch [] w w' := by
  have C := Lib.hid (fun w1 => JFrom h1 h2 w1)
  have F : Hid (Fr w (w.alloc (.cells #[.bool false, .string ⟨#[]⟩] 26)) [(w.heap.size, .cells #[.bool false, .string ⟨#[]⟩] 26 (0, 0))]) := Lib.hid ((Fr.nil w).add (.cells #[.bool false, .string ⟨#[]⟩] 26) w.heap.size rfl)
  clear h1 h2
  go_enter Tryd.func16, Tryd.ntmps16
  go_wp2_with fail
  refine (C.out _).mono ?_
  rintro e w1 ⟨rfl, hT⟩
  have F := Lib.hid (F.out.keep hT)
  clear hT
  obtain ⟨r0, r1⟩ := F.out.two 0 rfl
  obtain ⟨g0, g1⟩ := F.out.fro2 0 rfl
  go_wp2
  refine bodyPost_ret (v := .agg #[.bool (sgz n), .string (moz n)]) (by simp [results, Tryd.results16, go_sem, r0, r1]) rfl ⟨rfl, F.out.fin2 0 rfl _ _⟩

theorem TLnew (w : World) : TL (w.alloc (.cells #[.int .i64 0, .int .i64 0, .int .i64 2, .int .i64 2, .int .i64 0, .int .i64 2, .int .i64 0, .int .i64 3, .int .i64 2, .int .i64 0, .int .i64 0, .int .i64 2, .int .i64 0, .int .i64 0, .int .i64 3, .int .i64 0, .int .i64 0, .int .i64 4] 31)) w.heap.size [tT, tF] := by
  intro i hi j v hv
  have hb := Below.heap_alloc_new' w (.cells #[.int .i64 0, .int .i64 0, .int .i64 2, .int .i64 2, .int .i64 0, .int .i64 2, .int .i64 0, .int .i64 3, .int .i64 2, .int .i64 0, .int .i64 0, .int .i64 2, .int .i64 0, .int .i64 0, .int .i64 3, .int .i64 0, .int .i64 0, .int .i64 4] 31 (0, 0))
  have hj : j < 9 := (Array.getElem?_eq_some_iff.1 hv).1
  rw [cell_of_row _ _ _ _ _ _ hb, ← hv]
  rcases (show i = 0 ∨ i = 1 by simp at hi; omega) with rfl | rfl <;> rcases (show j = 0 ∨ j = 1 ∨ j = 2 ∨ j = 3 ∨ j = 4 ∨ j = 5 ∨ j = 6 ∨ j = 7 ∨ j = 8 by omega) with rfl | rfl | rfl | rfl | rfl | rfl | rfl | rfl | rfl <;> rfl

attribute [local go_sem ↓] eqlQ eqlQ1 eqlQ2 eqlN eqlQ2L eqlQL

set_option maxHeartbeats 8000000 in
set_option maxRecDepth 100000 in
theorem sanity (w : World) (hF : FacOk w) : Calls Tryd.prog 10 #[] w fun e w' => e = .returned (.bool true) ∧ Tch [] w w' := by
  have okT : tT.Ok := ⟨(ok3 _ _ _ (by decide)), (ok3 _ _ _ (by decide)), (ok3 _ _ _ (by decide))⟩
  have okF : tF.Ok := ⟨(ok3 _ _ _ (by decide)), (ok3 _ _ _ (by decide)), (ok3 _ _ _ (by decide))⟩
  have c1 := fun (w1 : World) (h : FacOk w1) => Of tT.a tT.b tT.c okT.a okT.b okT.c w1 h
  have c2 := fun (w1 : World) (h : FacOk w1) => Of ⟨0, 0, 0⟩ ⟨1, 0, 0⟩ ⟨0, 1, 0⟩ (ok3 _ _ _ (by decide)) (ok3 _ _ _ (by decide)) (ok3 _ _ _ (by decide)) w1 h
  have c3 := fun (w1 : World) (h : FacOk w1) => At (ofI tT.a tT.b tT.c) ⟨5, 5, 3⟩ (fun k hk => (ofI_sm okT.a okT.b okT.c k hk).mono (by omega)) (ok3 _ _ _ (by decide)) w1 h
  have okTF : ∀ t ∈ [tT, tF], t.Ok := by
    intro t ht
    simp at ht
    rcases ht with rfl | rfl
    · exact okT
    · exact okF
  have c4 := fun (w1 : World) (g : Nat) (hg : TL w1 g [tT, tF]) (h : FacOk w1) => Around [tT, tF] ⟨0, 0, 2⟩ g 2 okTF (by decide) w1 hg h
  have s1 := san1
  have s2 := san2
  have s4 := san4
  rw [san3] at c3
  obtain ⟨x, ex⟩ : ∃ x, x = ofI ⟨0, 0, 0⟩ ⟨1, 0, 0⟩ ⟨0, 1, 0⟩ := ⟨_, rfl⟩
  rw [← ex] at c2 s1
  obtain ⟨u, eu⟩ : ∃ u, u = ofI tT.a tT.b tT.c := ⟨_, rfl⟩
  rw [← eu] at c1 c3 s2 s4
  obtain ⟨y, ey⟩ : ∃ y, y = arI [tT, tF] ⟨0, 0, 2⟩ := ⟨_, rfl⟩
  rw [← ey] at c4 s4
  have C1 := Lib.hid c1
  have C2 := Lib.hid c2
  have C3 := Lib.hid c3
  have C4 := Lib.hid c4
  have N1 := Lib.hid (fun w1 => number 1 (by decide) (by decide) w1)
  have N2 := Lib.hid (fun w1 => number 36 (by decide) (by decide) w1)
  have N3 := Lib.hid (fun w1 => number (-144) (by decide) (by decide) w1)
  have N4 := Lib.hid (fun w1 => number 144 (by decide) (by decide) w1)
  have HF := Lib.hid hF
  have uQ := Tryd.underlying28
  have iQ : (Tryd.prog.info? 28).map (·.size) = some (QV u).toList.length := infoQ
  clear c1 c2 c3 c4 okT okF okTF ex eu ey hF
  have F : Hid (Fr w ((w.alloc (.cells #[.int .i64 0, .int .i64 0, .int .i64 2, .int .i64 0, .int .i64 0, .int .i64 3, .int .i64 0, .int .i64 0, .int .i64 4] 31)).alloc (.cells #[.int .i64 0, .int .i64 0, .int .i64 2, .int .i64 2, .int .i64 0, .int .i64 2, .int .i64 0, .int .i64 3, .int .i64 2] 31)) [(w.heap.size, .cells #[.int .i64 0, .int .i64 0, .int .i64 2, .int .i64 0, .int .i64 0, .int .i64 3, .int .i64 0, .int .i64 0, .int .i64 4] 31 (0, 0)), (w.heap.size + 1, .cells #[.int .i64 0, .int .i64 0, .int .i64 2, .int .i64 2, .int .i64 0, .int .i64 2, .int .i64 0, .int .i64 3, .int .i64 2] 31 (0, 0))]) := Lib.hid (((Fr.nil w).add (.cells #[.int .i64 0, .int .i64 0, .int .i64 2, .int .i64 0, .int .i64 0, .int .i64 3, .int .i64 0, .int .i64 0, .int .i64 4] 31) w.heap.size rfl).add (.cells #[.int .i64 0, .int .i64 0, .int .i64 2, .int .i64 2, .int .i64 0, .int .i64 2, .int .i64 0, .int .i64 3, .int .i64 2] 31) (w.heap.size + 1) (by simp))
  obtain ⟨⟨a0, a1, a2⟩, ⟨a3, a4, a5⟩, a6, a7, a8⟩ := F.out.nine 1 rfl
  go_enter Tryd.func10, Tryd.ntmps10
  go_wp2_with fail
  refine (C1.out _ (HF.out.tch F.out.t)).mono ?_
  rintro e w1 ⟨rfl, hT⟩
  have HN : Hid (w.heap.size + 2 ≤ w1.heap.size) := Lib.hid (by have := hT.size; simp at this; omega)
  have F : Hid (Fr w (w1.alloc (.cells QZ 28)) [(w.heap.size, .cells #[.int .i64 0, .int .i64 0, .int .i64 2, .int .i64 0, .int .i64 0, .int .i64 3, .int .i64 0, .int .i64 0, .int .i64 4] 31 (0, 0)), (w.heap.size + 1, .cells #[.int .i64 0, .int .i64 0, .int .i64 2, .int .i64 2, .int .i64 0, .int .i64 2, .int .i64 0, .int .i64 3, .int .i64 2] 31 (0, 0)), (w1.heap.size, .cells QZ 28 (0, 0))]) := Lib.hid ((F.out.keep hT).add (.cells QZ 28) w1.heap.size rfl)
  clear hT a0 a1 a2 a3 a4 a5 a6 a7 a8 C1
  go_upto_region 4 with (first | ((refine wpList_store_row rfl 28 _ _ rfl w1.heap.size rfl _ _ rfl _ 20 (F.out.at 2 rfl) QZ_size (QV_size _) infoQ (QV_one _) ?_; simp only [Act.put]); have F := Lib.hid (Fr.setR (l1 := [(w.heap.size, .cells #[.int .i64 0, .int .i64 0, .int .i64 2, .int .i64 0, .int .i64 0, .int .i64 3, .int .i64 0, .int .i64 0, .int .i64 4] 31 (0, 0)), (w.heap.size + 1, .cells #[.int .i64 0, .int .i64 0, .int .i64 2, .int .i64 2, .int .i64 0, .int .i64 2, .int .i64 0, .int .i64 3, .int .i64 2] 31 (0, 0))]) (l2 := []) F.out (by have := HN.out; simp; omega) (QV u))))
  have SA := Lib.hid (fun (w' : World) (h : Fr w w' [(w.heap.size, .cells #[.int .i64 0, .int .i64 0, .int .i64 2, .int .i64 0, .int .i64 0, .int .i64 3, .int .i64 0, .int .i64 0, .int .i64 4] 31 (0, 0)), (w.heap.size + 1, .cells #[.int .i64 0, .int .i64 0, .int .i64 2, .int .i64 2, .int .i64 0, .int .i64 2, .int .i64 0, .int .i64 3, .int .i64 2] 31 (0, 0)), (w1.heap.size, .cells (QV u) 28 (0, 0))]) => (show w'.heap[w1.heap.size]? = some (.cells (QV u) 28 (0, 0)) ∧ w'.cell? ⟨w.heap.size + 1, 0, none⟩ = some (.int .i64 0) ∧ w'.cell? ⟨w.heap.size + 1, 1, none⟩ = some (.int .i64 0) ∧ w'.cell? ⟨w.heap.size + 1, 2, none⟩ = some (.int .i64 2) ∧ w'.cell? ⟨w.heap.size + 1, 3, none⟩ = some (.int .i64 2) ∧ w'.cell? ⟨w.heap.size + 1, 4, none⟩ = some (.int .i64 0) ∧ w'.cell? ⟨w.heap.size + 1, 5, none⟩ = some (.int .i64 2) ∧ w'.cell? ⟨w.heap.size + 1, 6, none⟩ = some (.int .i64 0) ∧ w'.cell? ⟨w.heap.size + 1, 7, none⟩ = some (.int .i64 3) ∧ w'.cell? ⟨w.heap.size + 1, 8, none⟩ = some (.int .i64 2) ∧ w'.cell? ⟨w.heap.size, 0, none⟩ = some (.int .i64 0) ∧ w'.cell? ⟨w.heap.size, 1, none⟩ = some (.int .i64 0) ∧ w'.cell? ⟨w.heap.size, 2, none⟩ = some (.int .i64 2) ∧ w'.cell? ⟨w.heap.size, 3, none⟩ = some (.int .i64 0) ∧ w'.cell? ⟨w.heap.size, 4, none⟩ = some (.int .i64 0) ∧ w'.cell? ⟨w.heap.size, 5, none⟩ = some (.int .i64 3) ∧ w'.cell? ⟨w.heap.size, 6, none⟩ = some (.int .i64 0) ∧ w'.cell? ⟨w.heap.size, 7, none⟩ = some (.int .i64 0) ∧ w'.cell? ⟨w.heap.size, 8, none⟩ = some (.int .i64 4) from ⟨h.at 2 rfl, h.cell 1 0 rfl rfl, h.cell 1 1 rfl rfl, h.cell 1 2 rfl rfl, h.cell 1 3 rfl rfl, h.cell 1 4 rfl rfl, h.cell 1 5 rfl rfl, h.cell 1 6 rfl rfl, h.cell 1 7 rfl rfl, h.cell 1 8 rfl rfl, h.cell 0 0 rfl rfl, h.cell 0 1 rfl rfl, h.cell 0 2 rfl rfl, h.cell 0 3 rfl rfl, h.cell 0 4 rfl rfl, h.cell 0 5 rfl rfl, h.cell 0 6 rfl rfl, h.cell 0 7 rfl rfl, h.cell 0 8 rfl rfl⟩))
  have TN := Lib.hid (fun (w' : World) => (show TL (w'.alloc (.cells #[.int .i64 0, .int .i64 0, .int .i64 2, .int .i64 2, .int .i64 0, .int .i64 2, .int .i64 0, .int .i64 3, .int .i64 2, .int .i64 0, .int .i64 0, .int .i64 2, .int .i64 0, .int .i64 0, .int .i64 3, .int .i64 0, .int .i64 0, .int .i64 4] 31)) w'.heap.size [tT, tF] from TLnew w'))
  have F : Hid (Fr w ((w1.alloc (.cells #[.bool false, .string ⟨#[]⟩, .bool false, .string ⟨#[]⟩, .bool false, .string ⟨#[]⟩, .bool false, .string ⟨#[]⟩, .bool false, .string ⟨#[]⟩, .bool false, .string ⟨#[]⟩, .bool false, .string ⟨#[]⟩, .bool false, .string ⟨#[]⟩, .bool false, .string ⟨#[]⟩, .bool false, .string ⟨#[]⟩] 28)).setRow w1.heap.size (QV u)) [(w.heap.size, .cells #[.int .i64 0, .int .i64 0, .int .i64 2, .int .i64 0, .int .i64 0, .int .i64 3, .int .i64 0, .int .i64 0, .int .i64 4] 31 (0, 0)), (w.heap.size + 1, .cells #[.int .i64 0, .int .i64 0, .int .i64 2, .int .i64 2, .int .i64 0, .int .i64 2, .int .i64 0, .int .i64 3, .int .i64 2] 31 (0, 0)), (w1.heap.size, .cells (QV u) 28 (0, 0))]) := F
  generalize (w1.alloc (.cells #[.bool false, .string ⟨#[]⟩, .bool false, .string ⟨#[]⟩, .bool false, .string ⟨#[]⟩, .bool false, .string ⟨#[]⟩, .bool false, .string ⟨#[]⟩, .bool false, .string ⟨#[]⟩, .bool false, .string ⟨#[]⟩, .bool false, .string ⟨#[]⟩, .bool false, .string ⟨#[]⟩, .bool false, .string ⟨#[]⟩] 28)).setRow w1.heap.size (QV u) = W at F ⊢
  refine wp_region_noPanic ?_
  refine wp_region_held_drew (S := (fun w' => w'.heap[w1.heap.size]? = some (.cells (QV u) 28 (0, 0)) ∧ w'.cell? ⟨w.heap.size + 1, 0, none⟩ = some (.int .i64 0) ∧ w'.cell? ⟨w.heap.size + 1, 1, none⟩ = some (.int .i64 0) ∧ w'.cell? ⟨w.heap.size + 1, 2, none⟩ = some (.int .i64 2) ∧ w'.cell? ⟨w.heap.size + 1, 3, none⟩ = some (.int .i64 2) ∧ w'.cell? ⟨w.heap.size + 1, 4, none⟩ = some (.int .i64 0) ∧ w'.cell? ⟨w.heap.size + 1, 5, none⟩ = some (.int .i64 2) ∧ w'.cell? ⟨w.heap.size + 1, 6, none⟩ = some (.int .i64 0) ∧ w'.cell? ⟨w.heap.size + 1, 7, none⟩ = some (.int .i64 3) ∧ w'.cell? ⟨w.heap.size + 1, 8, none⟩ = some (.int .i64 2) ∧ w'.cell? ⟨w.heap.size, 0, none⟩ = some (.int .i64 0) ∧ w'.cell? ⟨w.heap.size, 1, none⟩ = some (.int .i64 0) ∧ w'.cell? ⟨w.heap.size, 2, none⟩ = some (.int .i64 2) ∧ w'.cell? ⟨w.heap.size, 3, none⟩ = some (.int .i64 0) ∧ w'.cell? ⟨w.heap.size, 4, none⟩ = some (.int .i64 0) ∧ w'.cell? ⟨w.heap.size, 5, none⟩ = some (.int .i64 3) ∧ w'.cell? ⟨w.heap.size, 6, none⟩ = some (.int .i64 0) ∧ w'.cell? ⟨w.heap.size, 7, none⟩ = some (.int .i64 0) ∧ w'.cell? ⟨w.heap.size, 8, none⟩ = some (.int .i64 4))) (by kernel_rfl) (SA.out _ F.out.drew) (fun hHeld => ?_)
  refine takeAt (i := 0) (d := (some 14)) (v := (.agg #[.int .i64 0, .int .i64 0, .int .i64 0])) rfl (by kernel_rfl) (by kernel_rfl) (by kernel_rfl) (by kernel_rfl) (fun _ _ _ h => h) (Or.inl ⟨by kernel_rfl, ?_⟩) (by assumption) ?_
  · intro w7 hSw
    try dsimp only at hSw
    go_simp
  simp only [Act.put, List.setIfInBounds_toArray, List.set_cons_zero, List.set_cons_succ]
  refine takeAt (i := 1) (d := (some 15)) (v := (.agg #[.int .i64 1, .int .i64 0, .int .i64 0])) rfl (by kernel_rfl) (by kernel_rfl) (by kernel_rfl) (by kernel_rfl) (fun _ _ _ h => h) (Or.inl ⟨by kernel_rfl, ?_⟩) (by assumption) ?_
  · intro w7 hSw
    try dsimp only at hSw
    go_simp
  simp only [Act.put, List.setIfInBounds_toArray, List.set_cons_zero, List.set_cons_succ]
  refine takeAt (i := 2) (d := (some 16)) (v := (.agg #[.int .i64 0, .int .i64 1, .int .i64 0])) rfl (by kernel_rfl) (by kernel_rfl) (by kernel_rfl) (by kernel_rfl) (fun _ _ _ h => h) (Or.inl ⟨by kernel_rfl, ?_⟩) (by assumption) ?_
  · intro w7 hSw
    try dsimp only at hSw
    go_simp
  simp only [Act.put, List.setIfInBounds_toArray, List.set_cons_zero, List.set_cons_succ]
  refine takeAt (i := 3) (d := (some 17)) (v := (.agg #[.int .i64 0, .int .i64 0, .int .i64 0, .int .i64 1, .int .i64 0, .int .i64 0, .int .i64 0, .int .i64 1, .int .i64 0])) rfl (by kernel_rfl) (by kernel_rfl) (by kernel_rfl) (by kernel_rfl) (fun _ _ _ h => h) (Or.inl ⟨by kernel_rfl, ?_⟩) (by assumption) ?_
  · intro w7 hSw
    try dsimp only at hSw
    go_simp
  simp only [Act.put, List.setIfInBounds_toArray, List.set_cons_zero, List.set_cons_succ]
  refine wpAnyH_ready (rs := [4]) (by kernel_rfl) (by simp) ?_
  refine AllReadyH.cons rfl (fun K hK => ?_) AllReadyH.nil
  go_simp
  refine (C2.out _ (HF.out.tch F.out.t.drew)).mono ?_
  rintro e w6 ⟨rfl, hT⟩
  have F := Lib.hid (F.out.drew.keep hT)
  clear hT
  go_wp2_with fail
  refine hK.out _ _ (SA.out _ F.out) (fun hHeld => ?_)
  clear hK K
  refine wpAnyH_ready (rs := [5]) (by kernel_rfl) (by simp) ?_
  refine AllReadyH.cons rfl (fun K hK => ?_) AllReadyH.nil
  go_simp
  refine (N1.out _).mono ?_
  rintro e w6 ⟨rfl, hT⟩
  have F := Lib.hid (F.out.keep hT)
  clear hT
  go_wp2_with fail
  refine hK.out _ _ (SA.out _ F.out) (fun hHeld => ?_)
  clear hK K
  refine takeAt (i := 6) (d := (some 20)) (v := (.agg #[.bool false, .string ⟨#[]⟩, .bool false, .string ⟨#[]⟩, .bool false, .string ⟨#[]⟩, .bool false, .string ⟨#[]⟩, .bool false, .string ⟨#[]⟩, .bool false, .string ⟨#[]⟩, .bool false, .string ⟨#[]⟩, .bool (sgz 1), .string (moz 1), .bool false, .string ⟨#[]⟩, .bool false, .string ⟨#[]⟩])) rfl (by kernel_rfl) (by kernel_rfl) (by kernel_rfl) (by kernel_rfl) (fun _ _ _ h => h) (Or.inl ⟨by kernel_rfl, ?_⟩) (by assumption) ?_
  · intro w7 hSw
    try dsimp only at hSw
    go_simp
  simp only [Act.put, List.setIfInBounds_toArray, List.set_cons_zero, List.set_cons_succ]
  refine takeAt (i := 7) (d := (some 21)) (v := (.bool true)) rfl (by kernel_rfl) (by kernel_rfl) (by kernel_rfl) (by kernel_rfl) (fun _ _ _ h => h) (Or.inl ⟨by kernel_rfl, ?_⟩) (by assumption) ?_
  · intro w7 hSw
    try dsimp only at hSw
    go_simp
  simp only [Act.put, List.setIfInBounds_toArray, List.set_cons_zero, List.set_cons_succ]
  refine takeAt (i := 8) (d := (some 22)) (v := (.bool true)) rfl (by kernel_rfl) (by kernel_rfl) (by kernel_rfl) (by kernel_rfl) (fun _ _ _ h => h) (Or.inl ⟨by kernel_rfl, ?_⟩) (by assumption) ?_
  · intro w7 hSw
    try dsimp only at hSw
    go_simp
  simp only [Act.put, List.setIfInBounds_toArray, List.set_cons_zero, List.set_cons_succ]
  refine takeAt (i := 9) (d := (some 23)) (v := (.agg (QV u))) rfl (by kernel_rfl) (by kernel_rfl) (by kernel_rfl) (by kernel_rfl) (fun _ _ _ h => h) (yieldsIf_row (by kernel_rfl) 28 _ rfl (w1.heap.size) rfl _ _ _ 20 (fun w h => h.1) (QV_size u) Tryd.underlying28 rfl infoQ) (by assumption) ?_
  simp only [Act.put, List.setIfInBounds_toArray, List.set_cons_zero, List.set_cons_succ]
  refine wpAnyH_ready (rs := [10]) (by kernel_rfl) (by simp) ?_
  refine AllReadyH.cons rfl (fun K hK => ?_) AllReadyH.nil
  go_simp
  refine (N2.out _).mono ?_
  rintro e w6 ⟨rfl, hT⟩
  have F := Lib.hid (F.out.keep hT)
  clear hT
  go_wp2_with fail
  refine hK.out _ _ (SA.out _ F.out) (fun hHeld => ?_)
  clear hK K
  refine wpAnyH_ready (rs := [11]) (by kernel_rfl) (by simp) ?_
  refine AllReadyH.cons rfl (fun K hK => ?_) AllReadyH.nil
  go_simp
  refine (N3.out _).mono ?_
  rintro e w6 ⟨rfl, hT⟩
  have F := Lib.hid (F.out.keep hT)
  clear hT
  go_wp2_with fail
  refine hK.out _ _ (SA.out _ F.out) (fun hHeld => ?_)
  clear hK K
  refine wpAnyH_ready (rs := [12]) (by kernel_rfl) (by simp) ?_
  refine AllReadyH.cons rfl (fun K hK => ?_) AllReadyH.nil
  go_simp
  refine (N4.out _).mono ?_
  rintro e w6 ⟨rfl, hT⟩
  have F := Lib.hid (F.out.keep hT)
  clear hT
  go_wp2_with fail
  refine hK.out _ _ (SA.out _ F.out) (fun hHeld => ?_)
  clear hK K
  refine takeAt (i := 13) (d := (some 27)) (v := (.agg #[.bool false, .string ⟨#[]⟩, .bool false, .string ⟨#[]⟩, .bool false, .string ⟨#[]⟩, .bool false, .string ⟨#[]⟩, .bool false, .string ⟨#[]⟩, .bool false, .string ⟨#[]⟩, .bool false, .string ⟨#[]⟩, .bool (sgz 36), .string (moz 36), .bool (sgz ((-144))), .string (moz ((-144))), .bool (sgz 144), .string (moz 144)])) rfl (by kernel_rfl) (by kernel_rfl) (by kernel_rfl) (by kernel_rfl) (fun _ _ _ h => h) (Or.inl ⟨by kernel_rfl, ?_⟩) (by assumption) ?_
  · intro w7 hSw
    try dsimp only at hSw
    go_simp
  simp only [Act.put, List.setIfInBounds_toArray, List.set_cons_zero, List.set_cons_succ]
  refine takeAt (i := 14) (d := (some 28)) (v := (.bool true)) rfl (by kernel_rfl) (by kernel_rfl) (by kernel_rfl) (by kernel_rfl) (fun _ _ _ h => h) (Or.inl ⟨by kernel_rfl, ?_⟩) (by assumption) ?_
  · intro w7 hSw
    try dsimp only at hSw
    go_simp
  simp only [Act.put, List.setIfInBounds_toArray, List.set_cons_zero, List.set_cons_succ]
  refine takeAt (i := 15) (d := (some 29)) (v := (.bool true)) rfl (by kernel_rfl) (by kernel_rfl) (by kernel_rfl) (by kernel_rfl) (fun _ _ _ h => h) (Or.inl ⟨by kernel_rfl, ?_⟩) (by assumption) ?_
  · intro w7 hSw
    try dsimp only at hSw
    go_simp
  simp only [Act.put, List.setIfInBounds_toArray, List.set_cons_zero, List.set_cons_succ]
  refine takeAt (i := 16) (d := (some 30)) (v := (.bool true)) rfl (by kernel_rfl) (by kernel_rfl) (by kernel_rfl) (by kernel_rfl) (fun _ _ _ h => h) (Or.inl ⟨by kernel_rfl, ?_⟩) (by assumption) ?_
  · intro w7 hSw
    try dsimp only at hSw
    go_simp
  simp only [Act.put, List.setIfInBounds_toArray, List.set_cons_zero, List.set_cons_succ]
  refine takeAt (i := 18) (d := (some 32)) (v := (.agg #[.int .i64 5, .int .i64 5, .int .i64 3])) rfl (by kernel_rfl) (by kernel_rfl) (by kernel_rfl) (by kernel_rfl) (fun _ _ _ h => h) (Or.inl ⟨by kernel_rfl, ?_⟩) (by assumption) ?_
  · intro w7 hSw
    try dsimp only at hSw
    go_simp
  simp only [Act.put, List.setIfInBounds_toArray, List.set_cons_zero, List.set_cons_succ]
  refine takeAt (i := 17) (d := (some 31)) (v := (.agg (QV u))) rfl (by kernel_rfl) (by kernel_rfl) (by kernel_rfl) (by kernel_rfl) (fun _ _ _ h => h) (yieldsIf_row (by kernel_rfl) 28 _ rfl (w1.heap.size) rfl _ _ _ 20 (fun w h => h.1) (QV_size u) Tryd.underlying28 rfl infoQ) (by assumption) ?_
  simp only [Act.put, List.setIfInBounds_toArray, List.set_cons_zero, List.set_cons_succ]
  refine wpAnyH_ready (rs := [19]) (by kernel_rfl) (by simp) ?_
  refine AllReadyH.cons rfl (fun K hK => ?_) AllReadyH.nil
  go_simp
  refine (C3.out _ (HF.out.tch F.out.t)).mono ?_
  rintro e w6 ⟨rfl, hT⟩
  have F := Lib.hid (F.out.keep hT)
  clear hT
  go_wp2_with fail
  refine hK.out _ _ (SA.out _ F.out) (fun hHeld => ?_)
  clear hK K
  refine wpAnyH_ready (rs := [20]) (by kernel_rfl) (by simp) ?_
  refine AllReadyH.cons rfl (fun K hK => ?_) AllReadyH.nil
  go_simp
  refine (N2.out _).mono ?_
  rintro e w6 ⟨rfl, hT⟩
  have F := Lib.hid (F.out.keep hT)
  clear hT
  go_wp2_with fail
  refine hK.out _ _ (SA.out _ F.out) (fun hHeld => ?_)
  clear hK K
  refine takeAt (i := 21) (d := (some 35)) (v := (.bool true)) rfl (by kernel_rfl) (by kernel_rfl) (by kernel_rfl) (by kernel_rfl) (fun _ _ _ h => h) (Or.inl ⟨by kernel_rfl, ?_⟩) (by assumption) ?_
  · intro w7 hSw
    try dsimp only at hSw
    go_simp
  simp only [Act.put, List.setIfInBounds_toArray, List.set_cons_zero, List.set_cons_succ]
  refine takeAt (i := 22) (d := (some 36)) (v := (.bool true)) rfl (by kernel_rfl) (by kernel_rfl) (by kernel_rfl) (by kernel_rfl) (fun _ _ _ h => h) (Or.inl ⟨by kernel_rfl, ?_⟩) (by assumption) ?_
  · intro w7 hSw
    try dsimp only at hSw
    go_simp
  simp only [Act.put, List.setIfInBounds_toArray, List.set_cons_zero, List.set_cons_succ]
  refine takeAt (i := 23) (d := (some 37)) (v := (.bool true)) rfl (by kernel_rfl) (by kernel_rfl) (by kernel_rfl) (by kernel_rfl) (fun _ _ _ h => h) (Or.inl ⟨by kernel_rfl, ?_⟩) (by assumption) ?_
  · intro w7 hSw
    try dsimp only at hSw
    go_simp
  simp only [Act.put, List.setIfInBounds_toArray, List.set_cons_zero, List.set_cons_succ]
  refine takeAt (i := 24) (d := (some 38)) (v := (.agg #[.int .i64 0, .int .i64 0, .int .i64 2, .int .i64 2, .int .i64 0, .int .i64 2, .int .i64 0, .int .i64 3, .int .i64 2])) rfl (by kernel_rfl) (by kernel_rfl) (by kernel_rfl) (by kernel_rfl) (fun _ _ _ h => h) (Or.inl ⟨by kernel_rfl, ?_⟩) (by assumption) ?_
  · intro w7 hSw
    try dsimp only at hSw
    go_simp
  simp only [Act.put, List.setIfInBounds_toArray, List.set_cons_zero, List.set_cons_succ]
  refine takeAt (i := 25) (d := (some 39)) (v := (.agg #[.int .i64 0, .int .i64 0, .int .i64 2, .int .i64 0, .int .i64 0, .int .i64 3, .int .i64 0, .int .i64 0, .int .i64 4])) rfl (by kernel_rfl) (by kernel_rfl) (by kernel_rfl) (by kernel_rfl) (fun _ _ _ h => h) (Or.inl ⟨by kernel_rfl, ?_⟩) (by assumption) ?_
  · intro w7 hSw
    try dsimp only at hSw
    go_simp
  simp only [Act.put, List.setIfInBounds_toArray, List.set_cons_zero, List.set_cons_succ]
  refine takeAt (i := 27) (d := (some 41)) (v := (.agg #[.int .i64 0, .int .i64 0, .int .i64 2])) rfl (by kernel_rfl) (by kernel_rfl) (by kernel_rfl) (by kernel_rfl) (fun _ _ _ h => h) (Or.inl ⟨by kernel_rfl, ?_⟩) (by assumption) ?_
  · intro w7 hSw
    try dsimp only at hSw
    go_simp
  simp only [Act.put, List.setIfInBounds_toArray, List.set_cons_zero, List.set_cons_succ]
  refine takeAt (i := 29) (d := (some 43)) (v := (.agg (QV u))) rfl (by kernel_rfl) (by kernel_rfl) (by kernel_rfl) (by kernel_rfl) (fun _ _ _ h => h) (yieldsIf_row (by kernel_rfl) 28 _ rfl (w1.heap.size) rfl _ _ _ 20 (fun w h => h.1) (QV_size u) Tryd.underlying28 rfl infoQ) (by assumption) ?_
  simp only [Act.put, List.setIfInBounds_toArray, List.set_cons_zero, List.set_cons_succ]
  refine wpAnyH_ready (rs := [26]) (by kernel_rfl) (by simp) ?_
  refine AllReadyH.cons rfl (fun K hK => ?_) AllReadyH.nil
  go_simp
  go_wp2_with fail
  refine hK.out _ _ (SA.out _ (F.out.beside _)) (fun hHeld => ?_)
  clear hK K
  refine wpAnyH_ready (rs := [28]) (by kernel_rfl) (by simp) ?_
  refine AllReadyH.cons rfl (fun K hK => ?_) AllReadyH.nil
  go_simp
  refine (C4.out _ _ (TN.out _) (HF.out.tch (F.out.beside _).t)).mono ?_
  rintro e w6 ⟨rfl, hT⟩
  have F := Lib.hid ((F.out.beside _).keep hT)
  clear hT
  go_wp2_with fail
  refine hK.out _ _ (SA.out _ F.out) (fun hHeld => ?_)
  clear hK K
  refine takeAt (i := 30) (d := (some 44)) (v := (.bool true)) rfl (by kernel_rfl) (by kernel_rfl) (by kernel_rfl) (by kernel_rfl) (fun _ _ _ h => h) (Or.inl ⟨by kernel_rfl, ?_⟩) (by assumption) ?_
  · intro w7 hSw
    try dsimp only at hSw
    go_simp
  simp only [Act.put, List.setIfInBounds_toArray, List.set_cons_zero, List.set_cons_succ]
  refine takeAt (i := 31) (d := (some 45)) (v := (.bool true)) rfl (by kernel_rfl) (by kernel_rfl) (by kernel_rfl) (by kernel_rfl) (fun _ _ _ h => h) (Or.inl ⟨by kernel_rfl, ?_⟩) (by assumption) ?_
  · intro w7 hSw
    try dsimp only at hSw
    go_simp
  simp only [Act.put, List.setIfInBounds_toArray, List.set_cons_zero, List.set_cons_succ]
  refine takeAt (i := 32) (d := (some 0)) (v := (.bool true)) rfl (by kernel_rfl) (by kernel_rfl) (by kernel_rfl) (by kernel_rfl) (fun _ _ _ h => h) (Or.inl ⟨by kernel_rfl, ?_⟩) (by assumption) ?_
  · intro w7 hSw
    try dsimp only at hSw
    go_simp
  simp only [Act.put, List.setIfInBounds_toArray, List.set_cons_zero]
  refine wpAnyH_done (by kernel_rfl) ?_ _
  refine NoPanic.normal ?_
  go_wp2
  go_ret
  exact ⟨rfl, F.out.t⟩

end Go.Proofs.YtmpfgkpimjiecaaDoor
