/- lithophanelaw01: the number that is made of an argument. -/
import Derived.Test.YtmiibcdcnoefgaaGreatDoorFr
import Derived.Deep.RegionHeld3
import Derived.Deep.AppendLies
namespace Go.Proofs.YtmiibcdcnoefgaaGreatDoor
open Go.RowKit Dg

theorem mod4 (z : Int) : ∃ k : Nat, k ≤ 3 ∧ (wrap64 (z.tmod 4 + 4)).tmod 4 = (k : Int) := by
  have h1 : -3 ≤ z.tmod 4 ∧ z.tmod 4 ≤ 3 := by
    have h := Int.tmod_lt_of_pos z (b := 4) (by omega)
    have h2 := Int.lt_tmod_of_pos z (b := 4) (by omega)
    omega
  obtain ⟨y, hy⟩ : ∃ y, y = z.tmod 4 := ⟨_, rfl⟩
  rw [← hy] at h1 ⊢
  have hw : wrap64 (y + 4) = y + 4 := by unfold wrap64; omega
  rw [hw, Int.tmod_eq_emod_of_nonneg (by omega)]
  exact ⟨((y + 4) % 4).toNat, by omega, by omega⟩

set_option maxHeartbeats 4000000 in
set_option maxRecDepth 100000 in
theorem Mod4 (z : Int) (w : World) :
    Calls Tryz.prog 47 #[.int .i64 z, .int .i64 4] w fun e w' => (∃ k : Nat, k ≤ 3 ∧ e = .returned (.int .i64 k)) ∧ w = w' := by
  go_enter Tryz.func47, Tryz.ntmps47
  go_wp2
  go_ret
  obtain ⟨k, hk, e⟩ := mod4 z
  exact ⟨⟨k, hk, by rw [← e]; rfl⟩, rfl⟩

theorem size_strOf (l : List Int) : (strOfNums l).size = l.length := by simp [strOfNums, ByteArray.size]

/-- 'string(b[:m])'. -/
theorem conv_pre {w : World} {g : Nat} {xs : List Nat} {post : List Value} (h : Win w 5 .u8 g 0 [] xs post) (m c : Nat) (hm : m ≤ xs.length) :
    (convert 22 9 (.slice (some ⟨g, 0, none⟩) m c)).run Tryz.prog w = .ok (.string (strOfNums ((xs.take m).map fun x : Nat => (x : Int)))) w := by
  refine run_convert_bytes_arg w 22 5 Tryz.underlying22 Tryz.underlying5 g 0 m c _ (by simp [hm]) ?_ 9 Tryz.underlying9
  intro i hi
  have hc := h.cell (j := i) (by omega)
  rw [hc]
  congr 2
  have h2 : i < xs.length := by omega
  simp [List.getD, List.getElem?_eq_getElem h2, hi]

set_option maxHeartbeats 4000000 in
set_option maxRecDepth 100000 in
theorem Made (b : Bool) (g c : Nat) (xs : List Nat) (w : World) (ho : Own w 5 .u8 g c xs) :
    Calls Tryz.prog 46 #[.slice (some ⟨g, 0, none⟩) xs.length c, .bool b] w fun e w' => ∃ s, (s.size ≤ 40 ∧ e = .returned (.agg #[.bool b, .string s])) ∧ Tch [] w w' := by
  obtain ⟨m, hm⟩ : ∃ m, m = (min (xs.length : Int) 40).toNat := ⟨_, rfl⟩
  have hm1 : m ≤ 40 ∧ m ≤ xs.length := by omega
  have hb : 0 ≤ min (xs.length : Int) 40 ∧ min (xs.length : Int) 40 ≤ (c : Int) := by have := ho.le; omega
  obtain ⟨rest, W⟩ := ho.win
  have hc0 := conv_pre (W.kept ((Tch.refl [] w).alloc (.cells #[.bool false, .string ⟨#[]⟩] 28)) (by simp)) m c hm1.2
  obtain ⟨s, hs⟩ : ∃ s, s = strOfNums ((xs.take m).map fun x : Nat => (x : Int)) := ⟨_, rfl⟩
  have HS : Hid (s.size ≤ 40) := Lib.hid (by rw [hs, size_strOf]; simp; omega)
  rw [← hs, hm] at hc0
  clear hs hm1 hm W ho
  go_enter Tryz.func46, Tryz.ntmps46
  go_wp2
  refine bodyPost_ret (v := .agg #[.bool b, .string s]) (by simp [results, Tryz.results46, go_sem]) rfl ⟨s, ⟨HS.out, rfl⟩, ?_⟩
  exact (Tch.refl [] w).alloc _

/-- 'make([]byte, k)', k at most 3. -/
theorem make3 (k : Nat) (hk : k ≤ 3) (u : World) : (Instr.makeSlice 22 (.int .i64 (k : Int)) (.int .i64 (k : Int))).run Tryz.prog u =
    .ok (.slice (some ⟨u.heap.size, 0, none⟩) k k) (u.alloc (.cells (madeCells #[.int .u8 0] k) 5)) := by
  obtain ⟨i0, hi, hz0, hz1, hz2⟩ := info_parts (show (Tryz.prog.info? 5).map (fun i => (i.zero, i.size, i.bytes)) = some (some (.int .u8 0), 1, 1) by kernel_rfl)
  have h := run_make (P := Tryz.prog) u 22 5 i0 (.int .u8 0) Tryz.underlying22 hi hz0 .i64 .i64 (k : Int) (k : Int) (by omega) (Int.le_refl _) (by rw [hz2]; omega) (by omega)
  have e : ((k : Int)).toNat = k := by omega
  rw [e] at h
  simpa [hz1, Value.cells] using h

theorem made_own (k : Nat) (hk : k ≤ 3) (u : World) : Own (u.alloc (.cells (madeCells #[.int .u8 0] k) 5)) 5 .u8 u.heap.size k (List.replicate k 0) := by
  refine ⟨[], ⟨?_, rfl⟩, by simp, by unfold maxLen; omega⟩
  rw [Below.heap_alloc_new' u]
  congr 2
  apply Array.ext
  · simp [madeCells, ints]
  · intro i h1 h2
    simp [madeCells, ints, Nat.mod_one]

/-- What a slice of bytes that came in holds. -/
def Src (w : World) (A : Option Addr) (ys : List Nat) : Prop := ∀ j u, (ints .u8 ys)[j]? = some u → ∃ ad, A = some ad ∧ w.cell? (ad.add j) = some u

theorem Src.kept {w w' : World} {A : Option Addr} {ys : List Nat} (h : Src w A ys) (t : Tch [] w w') : Src w' A ys := fun j u hu => by
  obtain ⟨ad, h1, h2⟩ := h j u hu
  exact ⟨ad, h1, cell_kept0 h2 t⟩

theorem step_app {P : Program} {ops : Array Oper} {o : Oper} {a : Act} {w : World} {K : Act → World → Prop} {Q : Exit → Act → World → Prop} {E : Prop} (hgd : o.guard = none) (s x : Operand) (t : TypeId)
    (ho : o.op = .call { callee := .builtin .append, args := #[s, x], argTypes := #[t, t] }) (v1 v2 : Value) (hs : a.eval s = v1) (hx : a.eval x = v2) (v' : Value) (w' : World)
    (hr : (Builtin.append_ #[t, t] o.type #[v1, v2]).run P w = .ok v' w') (h : K (a.put o.dst v') w') :
    if Region.wanted o (yielded ops a.tmps) = true then Oper.wp P o a w K Q else E := by
  have hw : Region.wanted o (yielded ops a.tmps) = true := by simp [Region.wanted, hgd]
  rw [if_pos hw]
  unfold Oper.wp execOp
  simp only [ho, resolve, invoke, builtin, Sem.run_bind, Sem.run_pure, Result.andThen_ok, List.map_toArray, List.map_cons, List.map_nil, hs, hx, hr]
  exact h

theorem app_num {w : World} {g k : Nat} {xs : List Nat} (hown : Own w 5 .u8 g k xs) (hxl : xs.length = k) (hk : k ≤ 3) (A : Option Addr) (len cap : Nat) (ys : List Nat) (hy : ys.length = len) (hA : Src w A ys) (hl : len ≤ 1048576) :
    ∃ v' w', (Builtin.append_ #[22, 22] 22 #[.slice (some ⟨g, 0, none⟩) k k, .slice A len cap]).run Tryz.prog w = .ok v' w' ∧ App w 5 .u8 g (xs ++ ys) v' w' := by
  obtain ⟨i0, hi, hz0, hz1, hz2⟩ := info_parts (show (Tryz.prog.info? 5).map (fun i => (i.zero, i.size, i.bytes)) = some (some (.int .u8 0), 1, 1) by kernel_rfl)
  subst hxl
  subst hy
  by_cases h0 : ys = []
  · subst h0
    refine ⟨.slice (some ⟨g, 0, none⟩) xs.length xs.length, w, ?_, g, xs.length, by simp, by simpa using hown, .inl rfl, Tch.refl _ _⟩
    cases A with
    | none => simp [Builtin.append_, run_underlying Tryz.underlying22, sizeOf, typeInfo, hi, Builtin.lenOf, Builtin.firstCells, storeCells]
    | some ad => simp [Builtin.append_, run_underlying Tryz.underlying22, sizeOf, typeInfo, hi, Builtin.lenOf, Builtin.firstCells, storeCells, loadCells, loadCellsFrom]
  · have hp : 0 < ys.length := List.length_pos_iff.2 h0
    obtain ⟨ad, rfl, _⟩ := hA 0 _ (ints_get .u8 ys 0 hp)
    exact app_cells w 22 22 5 .u8 i0 Tryz.underlying22 hi hz0 hz1 (by omega) g xs.length xs hown ad cap ys (fun j u hu => by obtain ⟨_, h1, h2⟩ := hA j u hu; cases h1; exact h2) (by omega) (by omega)

set_option maxHeartbeats 4000000 in
set_option maxRecDepth 100000 in
theorem NumW (b : Bool) (z : Int) (A : Option Addr) (len cap : Nat) (ys : List Nat) (w : World) (hy : ys.length = len) (hl : len ≤ 1048576) (hA : Src w A ys) :
    Calls Tryz.prog 20 #[.agg #[.bool b, .slice A len cap, .int .i64 z]] w fun e w' => ∃ s, (s.size ≤ 40 ∧ e = .returned (.agg #[.bool b, .string s])) ∧ Tch [] w w' := by
  have CM := Lib.hid (fun w1 => Mod4 z w1)
  have HA := Lib.hid hA
  have HY := Lib.hid hy
  have F0 := ((Fr.nil w).add (.cells #[.bool b, .slice A len cap, .int .i64 z] 24) w.heap.size rfl).add (.cells #[.bool false, .string ⟨#[]⟩] 28) (w.heap.size + 1) (by simp)
  obtain ⟨w0, l, hw0, G0, SF0, ST0, RB0⟩ : ∃ w0 l, w0 = ((w.alloc (.cells #[.bool b, .slice A len cap, .int .i64 z] 24)).alloc (.cells #[.bool false, .string ⟨#[]⟩] 28)) ∧ Fr w w0 l ∧
      (∀ w3, Fr w w3 l → w3.cell? ⟨w.heap.size, 0, none⟩ = some (.bool b) ∧ w3.cell? ⟨w.heap.size, 1, none⟩ = some (.slice A len cap) ∧ w3.cell? ⟨w.heap.size, 2, none⟩ = some (.int .i64 z)) ∧
      (∀ w3, Fr w w3 l → ∀ x y, ((w3.setCell ⟨w.heap.size + 1, 0, none⟩ x).setCell ⟨w.heap.size + 1, 1, none⟩ y).cell? ⟨w.heap.size, 0, none⟩ = some (.bool b) ∧ ((w3.setCell ⟨w.heap.size + 1, 0, none⟩ x).setCell ⟨w.heap.size + 1, 1, none⟩ y).cell? ⟨w.heap.size, 1, none⟩ = some (.slice A len cap) ∧ ((w3.setCell ⟨w.heap.size + 1, 0, none⟩ x).setCell ⟨w.heap.size + 1, 1, none⟩ y).cell? ⟨w.heap.size, 2, none⟩ = some (.int .i64 z)) ∧
      (∀ w3, Fr w w3 l → Fr w w3 [(w.heap.size + 1, .cells #[.bool false, .string ⟨#[]⟩] 28 (0, 0))]) :=
    ⟨_, _, rfl, F0, fun w3 F => ⟨F.cell 0 0 rfl rfl, F.cell 0 1 rfl rfl, F.cell 0 2 rfl rfl⟩,
      fun w3 F x y => ⟨by rw [World.cell?_setCell_other _ _ _ _ (by simp), World.cell?_setCell_other _ _ _ _ (by simp)]; exact F.cell 0 0 rfl rfl, by rw [World.cell?_setCell_other _ _ _ _ (by simp), World.cell?_setCell_other _ _ _ _ (by simp)]; exact F.cell 0 1 rfl rfl, by rw [World.cell?_setCell_other _ _ _ _ (by simp), World.cell?_setCell_other _ _ _ _ (by simp)]; exact F.cell 0 2 rfl rfl⟩,
      fun w3 F => ⟨fun p hp => F.row p (by rw [List.mem_singleton] at hp; subst hp; simp), fun p hp => F.new p (by rw [List.mem_singleton] at hp; subst hp; simp), F.t⟩⟩
  have F1 := Lib.hid G0
  have SF := Lib.hid SF0
  have RB := Lib.hid RB0
  have ST := Lib.hid ST0
  have HW := Lib.hid hw0
  have HS : Hid (Src w0 A ys) := Lib.hid (hA.kept F1.out.t)
  clear F0 G0 SF0 ST0 RB0 hw0 hA hy
  have AP := Lib.hid (fun (k : Nat) (hk : k ≤ 3) => app_num (made_own k hk w0.drew) (by simp) hk A len cap ys HY.out (HS.out.kept (((Tch.refl [] w0).drew).alloc _)) hl)
  go_enter Tryz.func20, Tryz.ntmps20
  go_wp2_with fail
  rw [← HW.out]
  go_region_held3 (fun w3 => w3.cell? ⟨w.heap.size, 0, none⟩ = some (.bool b) ∧ w3.cell? ⟨w.heap.size, 1, none⟩ = some (.slice A len cap) ∧ w3.cell? ⟨w.heap.size, 2, none⟩ = some (.int .i64 z)) (first | exact SF.out _ F1.out | exact SF.out _ F1.out.drew | exact SF.out _ (F1.out.drew.beside _) | exact SF.out _ F2.out | exact SF.out _ F3.out | exact ST.out _ F3.out _ _) (first
    | (go_at_call 47; refine (CM.out _).mono ?_; rintro e w3 ⟨⟨k, hk, rfl⟩, rfl⟩; have hmk := fun u => make3 k hk u)
    | (go_at_call 46; refine (Made b g' cap' _ _ hO).mono ?_; rintro e w5 ⟨s, ⟨hs, rfl⟩, hT5⟩; have F3 := Lib.hid (F2.out.keep hT5); obtain ⟨r0, r1⟩ := (RB.out _ F3.out).two 0 rfl; obtain ⟨t0, t1⟩ := (RB.out _ F3.out).fro2 0 rfl)
    | (obtain ⟨L, hL⟩ : ∃ L, L = List.replicate k 0 ++ ys := ⟨_, rfl⟩; obtain ⟨v1, w4, hr, hApp⟩ := AP.out k hk; rw [← hL] at hApp; clear hL; refine step_app rfl _ _ _ rfl _ _ rfl rfl v1 w4 hr ?_; obtain ⟨g', cap', rfl, hO, _, hT⟩ := hApp; have F2 := Lib.hid (F1.out.keep ((((Tch.refl [] w0).drew).alloc _).trans hT (by simp)))))
  go_wp2
  refine bodyPost_ret (v := .agg #[.bool b, .string s]) (by simp [results, Tryz.results20, go_sem, r0, r1]) rfl ⟨s, ⟨hs, rfl⟩, ?_⟩
  exact (RB.out _ F3.out).fin2 0 rfl _ _
end Go.Proofs.YtmiibcdcnoefgaaGreatDoor
