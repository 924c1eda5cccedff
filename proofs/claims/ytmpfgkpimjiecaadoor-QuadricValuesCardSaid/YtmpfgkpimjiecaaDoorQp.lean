/- What the laws of layer 10 share: arguments that are points; the table of factors as the row lists it. -/
import Derived.Test.YtmpfgkpimjiecaaDoorArr
import Derived.Test.YtmpfgkpimjiecaaDoorQd
import Derived.Lib.LaidTab
namespace Go.Proofs.YtmpfgkpimjiecaaDoor
open Go Go.ChangeShapes Go.WideShapes Go.ChangeAt Go.RowKit Dg
open Go.Joins (open_agg3)

/-- An array of arrays of ints that reads as the table holds the table's numbers. -/
theorem cells_of_tab2 {H : Type} {enc : TypeId × Value → H} {P : Program} {w : World} {base : Nat} {sp : Nat → Bool} {held : Bool} {fuel : Nat} {t e e2 : TypeId} {n k : Nat} {cs : List Value} {zs : List (List Int)} {p : List MemPlace}
    (ht : P.underlying t = some (.array n e)) (he : P.underlying e = some (.array k e2)) (he2 : P.underlying e2 = some (.int .i64)) (hc2 : P.cellsOf e2 = 1) (hc : P.cellsOf e = k)
    (h : DataW.trod enc P w base sp held fuel t cs = some (.agg (zs.map (Lib.tabData .i64)), p)) (i : Nat) (hi : i < n) : ∃ z, zs[i]? = some z ∧ (cs.drop (i * k)).take k = z.map (Value.int .i64) := by
  obtain ⟨xs, m, _, hx, _, hl, hr⟩ := DataW.trod_array ht h
  have hm : zs.map (Lib.tabData (H := H) .i64) = xs.map (·.1) := by
    have := congrArg Prod.fst hx
    simpa using this
  have h1 := hr i hi
  rw [hc, List.getElem?_eq_getElem (by omega)] at h1
  have h2 : (zs.map (Lib.tabData (H := H) .i64))[i]? = some (xs[i]'(by omega)).1 := by rw [hm, List.getElem?_map, List.getElem?_eq_getElem (by omega)]; rfl
  rw [List.getElem?_map] at h2
  obtain ⟨z, hz, hz2⟩ := Option.map_eq_some_iff.1 h2
  refine ⟨z, hz, ?_⟩
  have h3 : DataW.trod enc P w base sp held m e ((cs.drop (i * k)).take k) = some (Lib.tabData .i64 z, (xs[i]'(by omega)).2) := by rw [h1, hz2]
  exact Lib.cells_of_tab he he2 hc2 hc h3

/-- The numbers of the table. -/
def facZ : List (List Int) := [[0, 0], [0, 1], [0, 2], [0, 3], [1, 1], [1, 2], [1, 3], [2, 2], [2, 3], [3, 3]]
theorem fac_laid : Rows.laid_lithophane_quadric_factors (H := Unit) = .agg (facZ.map (Lib.tabData .i64)) := rfl
set_option maxRecDepth 100000 in
/-- The row's list lays the table of factors. -/
theorem FacOk.laid {W : World} {d1 d3 : String × DataW Unit} (h : laidMet Tryd.prog [d1, ("lithophane/quadric.factors", Rows.laid_lithophane_quadric_factors), d3] W) : FacOk W := by
  obtain ⟨ps, ⟨_, _, _, _, _, _, _, _, _, _, ⟨g', t', cs, fuel, p, q, hg', ht', hvar, hd, _, _⟩, _⟩, _⟩ := h
  have hg : Tryd.prog.globalNamed "lithophane/quadric.factors" = some 0 := by kernel_rfl
  obtain rfl := Option.some.inj (hg.symm.trans hg')
  have hty : (Tryd.prog.globals[0]?).map (·.type) = some 61 := by kernel_rfl
  obtain rfl := Option.some.inj (hty.symm.trans ht')
  rw [fac_laid] at hd
  intro k hk
  obtain ⟨z, hz, hr⟩ := cells_of_tab2 Tryd.underlying61 Tryd.underlying60 Tryd.underlying3 (by kernel_rfl) (by kernel_rfl) hd k hk
  rw [World.var?_cell hg hvar, World.var?_cell hg hvar, ← Array.getElem?_toList, ← Array.getElem?_toList]
  have e0 : cs.toList[k * 2]? = ((cs.toList.drop (k * 2)).take 2)[0]? := by rw [List.getElem?_take_of_lt (by omega), List.getElem?_drop]; rfl
  have e1 : cs.toList[k * 2 + 1]? = ((cs.toList.drop (k * 2)).take 2)[1]? := by rw [List.getElem?_take_of_lt (by omega), List.getElem?_drop]
  rw [e0, e1, hr]
  rcases (show k = 0 ∨ k = 1 ∨ k = 2 ∨ k = 3 ∨ k = 4 ∨ k = 5 ∨ k = 6 ∨ k = 7 ∨ k = 8 ∨ k = 9 by omega) with rfl | rfl | rfl | rfl | rfl | rfl | rfl | rfl | rfl | rfl <;> (obtain rfl := Option.some.inj hz; exact ⟨rfl, rfl⟩)

set_option maxRecDepth 100000 in
/-- An argument that is a point. -/
theorem open_pt {H : Type} {enc : TypeId × Value → H} {W : World} {b0 : Nat} {v : Value} {d : DataW H} {p : List MemPlace}
    (hv : Value.okWide Tryd.prog W .any b0 23 v) (h : DataW.Trod enc Tryd.prog W 0 (fun _ => true) true 23 v d p) : ∃ a : P3, a.Ok ∧ v = .agg #[.int .i64 a.x, .int .i64 a.y, .int .i64 a.z] := by
  obtain ⟨v0, v1, v2, y0, y1, y2, n, rfl, _, _, h0, h1, h2⟩ := open_agg3 Tryd.underlying23 (by kernel_rfl) (by kernel_rfl) hv h
  obtain ⟨x, ex, _, wx⟩ := DataW.trod_int Tryd.underlying3 h0
  obtain ⟨y, ey, _, wy⟩ := DataW.trod_int Tryd.underlying3 h1
  obtain ⟨z, ez, _, wz⟩ := DataW.trod_int Tryd.underlying3 h2
  cases ex
  cases ey
  cases ez
  exact ⟨⟨x, y, z⟩, ⟨i64_wf wx, i64_wf wy, i64_wf wz⟩, rfl⟩

set_option maxRecDepth 100000 in
theorem isI_pt {H : Type} {enc : TypeId × Value → H} {w : World} {base : Nat} {spare : Nat → Bool} {held : Bool} {fuel : Nat} {cs : List Value} {x : DataW H × List MemPlace} (h : DataW.trod enc Tryd.prog w base spare held fuel 23 cs = some x) : ∀ v ∈ cs, IsI v := by
  obtain ⟨y0, y1, y2, n, _, hl, h0, h1, h2⟩ := Go.Deep.trod_struct3 Tryd.underlying23 h
  have hl : cs.length = 3 := hl.trans (by kernel_rfl)
  obtain ⟨c0, c1, c2, rfl⟩ : ∃ c0 c1 c2, cs = [c0, c1, c2] := by
    match cs, hl with
    | [a, b, c], _ => exact ⟨a, b, c, rfl⟩
  have h0 : DataW.trod enc Tryd.prog w base spare held n 3 [c0] = some y0 := h0
  have h1 : DataW.trod enc Tryd.prog w base spare held n 3 [c1] = some y1 := h1
  have h2 : DataW.trod enc Tryd.prog w base spare held n 3 [c2] = some y2 := h2
  obtain ⟨a0, e0, _, w0⟩ := DataW.trod_int Tryd.underlying3 h0
  obtain ⟨a1, e1, _, w1⟩ := DataW.trod_int Tryd.underlying3 h1
  obtain ⟨a2, e2, _, w2⟩ := DataW.trod_int Tryd.underlying3 h2
  intro v hv
  simp only [List.mem_cons, List.not_mem_nil, or_false] at hv
  rcases hv with rfl | rfl | rfl
  · exact ⟨a0, (List.cons.inj e0).1, i64_wf w0⟩
  · exact ⟨a1, (List.cons.inj e1).1, i64_wf w1⟩
  · exact ⟨a2, (List.cons.inj e2).1, i64_wf w2⟩
set_option maxRecDepth 100000 in
/-- An argument that is an array of points. -/
theorem open_pts {H : Type} {enc : TypeId × Value → H} {W : World} {b0 n : Nat} {t : TypeId} {v : Value} {d : DataW H} {p : List MemPlace} (ht : Tryd.prog.underlying t = some (.array n 23)) (hct : Tryd.prog.cellsOf t = n * 3) (hc : Tryd.prog.cellsOf 23 = 3)
    (hv : Value.okWide Tryd.prog W .any b0 t v) (h : DataW.Trod enc Tryd.prog W 0 (fun _ => true) true t v d p) : ∃ zs : List Int, v = .agg (zs.map (Value.int .i64)).toArray ∧ zs.length = n * 3 ∧ ∀ z ∈ zs, I64 z := by
  obtain ⟨xs, rfl, hs⟩ := okWide_array ht hv
  obtain ⟨fuel, hf⟩ := h
  obtain ⟨ys, m, _, _, hl, hx, hi⟩ := DataW.trod_array ht hf
  have hsz : xs.toList.length = n * 3 := by rw [Array.length_toList, hs, hct]
  have hI : ∀ v ∈ xs.toList, IsI v := by
    intro v hv
    obtain ⟨j, hj, rfl⟩ := List.mem_iff_getElem.1 hv
    have h1 := hi (j / 3) (by omega)
    rw [hc, List.getElem?_eq_getElem (by omega)] at h1
    refine isI_pt h1 _ ?_
    rw [List.mem_iff_getElem]
    refine ⟨j % 3, ?_, ?_⟩
    · show j % 3 < ((xs.toList.drop (j / 3 * 3)).take 3).length
      rw [List.length_take, List.length_drop]; omega
    · rw [List.getElem_take, List.getElem_drop]
      have e : j / 3 * 3 + j % 3 = j := by omega
      have : ∀ (l : List Value) (p q : Nat) (hp : p < l.length) (hq : q < l.length), p = q → l[p] = l[q] := fun l p q _ _ e => by subst e; rfl
      exact this xs.toList _ _ _ _ e
  obtain ⟨zs, ez, hz⟩ := isI_list _ hI
  have ez' : xs.toList = zs.map (Value.int .i64) := ez
  refine ⟨zs, by rw [← ez'], ?_, hz⟩
  have := congrArg List.length ez'
  simp at this; omega
theorem list12 : ∀ (zs : List Int), zs.length = 4 * 3 → (∀ z ∈ zs, I64 z) → ∃ a b c d : P3, a.Ok ∧ b.Ok ∧ c.Ok ∧ d.Ok ∧ zs = [a.x, a.y, a.z, b.x, b.y, b.z, c.x, c.y, c.z, d.x, d.y, d.z]
  | [a, b, c, d, e, f, g, i, j, k, l, m], _, h => ⟨⟨a, b, c⟩, ⟨d, e, f⟩, ⟨g, i, j⟩, ⟨k, l, m⟩, ⟨h a (by simp), h b (by simp), h c (by simp)⟩, ⟨h d (by simp), h e (by simp), h f (by simp)⟩, ⟨h g (by simp), h i (by simp), h j (by simp)⟩, ⟨h k (by simp), h l (by simp), h m (by simp)⟩, rfl⟩

end Go.Proofs.YtmpfgkpimjiecaaDoor
