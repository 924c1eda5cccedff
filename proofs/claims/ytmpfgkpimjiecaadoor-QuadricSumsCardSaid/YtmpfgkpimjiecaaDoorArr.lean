/- Arguments that are arrays of ints, and arrays of these, opened. -/
import Derived.Test.YtmpfgkpimjiecaaDoorOwn
import Derived.Test.YtmpfgkpimjiecaaDoorVecA
namespace Go.Proofs.YtmpfgkpimjiecaaDoor
open Go Go.ChangeShapes Go.WideShapes Go.ChangeAt Go.RowKit Dg
/-- A cell that holds an int. -/
def IsI (v : Value) : Prop := ∃ z : Int, v = .int .i64 z ∧ I64 z

theorem i64_wf {z : Int} (h : (Lit.int .i64 z).wf = true) : I64 z := by
  simp [Lit.wf, IntKind.min, IntKind.max, IntKind.signed, IntKind.bits] at h
  unfold I64; omega

theorem isI_list : ∀ (cs : List Value), (∀ v ∈ cs, IsI v) → ∃ zs : List Int, cs = zs.map (Value.int .i64) ∧ ∀ z ∈ zs, I64 z
  | [], _ => ⟨[], rfl, fun _ h => by cases h⟩
  | c :: cs, h => by
    obtain ⟨zs, e, hz⟩ := isI_list cs (fun v hv => h v (List.mem_cons_of_mem _ hv))
    obtain ⟨z, ez, hzz⟩ := h c List.mem_cons_self
    refine ⟨z :: zs, by rw [e, ez]; rfl, fun y hy => ?_⟩
    rcases List.mem_cons.1 hy with rfl | hy
    · exact hzz
    · exact hz y hy

section
variable {H : Type} {enc : TypeId × Value → H} {P : Program} {w : World} {base : Nat} {spare : Nat → Bool} {held : Bool} {fuel : Nat} {t e : TypeId} {cs : List Value} {x : DataW H × List MemPlace}
theorem isI_arr {k : Nat} (ht : P.underlying t = some (.array k e)) (he : P.underlying e = some (.int .i64)) (hc : P.cellsOf e = 1) (hct : P.cellsOf t = k)
    (h : DataW.trod enc P w base spare held fuel t cs = some x) : ∀ v ∈ cs, IsI v := by
  obtain ⟨xs, m, rfl, _, hl, hx, hi⟩ := DataW.trod_array ht h
  intro v hv
  obtain ⟨i, hi1, rfl⟩ := List.mem_iff_getElem.1 hv
  have hk : i < k := by omega
  have h1 := hi i hk
  rw [hc, Nat.mul_one, List.getElem?_eq_getElem (by omega)] at h1
  obtain ⟨a, ea, _, wa⟩ := DataW.trod_int he h1
  refine ⟨a, ?_, i64_wf wa⟩
  rw [List.drop_eq_getElem_cons hi1, List.take_succ_cons, List.take_zero] at ea
  exact (List.cons.inj ea).1

theorem isI_arr2 {n k : Nat} {e2 : TypeId} (ht : P.underlying t = some (.array n e)) (he : P.underlying e = some (.array k e2)) (he2 : P.underlying e2 = some (.int .i64)) (hc2 : P.cellsOf e2 = 1) (hc : P.cellsOf e = k) (hct : P.cellsOf t = n * k)
    (h : DataW.trod enc P w base spare held fuel t cs = some x) : ∀ v ∈ cs, IsI v := by
  obtain ⟨xs, m, rfl, _, hl, hx, hi⟩ := DataW.trod_array ht h
  intro v hv
  obtain ⟨j, hj, rfl⟩ := List.mem_iff_getElem.1 hv
  have hjn : j < n * k := by omega
  have hk : 0 < k := by
    rcases Nat.eq_zero_or_pos k with h0 | h0
    · rw [h0] at hjn; omega
    · exact h0
  have hin : j / k < n := Nat.div_lt_of_lt_mul (by rw [Nat.mul_comm]; exact hjn)
  have h1 := hi (j / k) hin
  rw [hc, List.getElem?_eq_getElem (by omega)] at h1
  refine isI_arr he he2 hc2 hc h1 _ ?_
  have e1 := Nat.div_add_mod j k
  have e2 := Nat.mod_lt j hk
  rw [Nat.mul_comm] at e1
  rw [List.mem_iff_getElem]
  refine ⟨j % k, ?_, ?_⟩
  · rw [List.length_take, List.length_drop]; omega
  · rw [List.getElem_take, List.getElem_drop]
    congr 1

end
theorem okWide_array {P : Program} {W : World} {r : Reach} {b0 n : Nat} {t e : TypeId} {v : Value} (ht : P.underlying t = some (.array n e)) (h : Value.okWide P W r b0 t v) : ∃ xs : Array Value, v = .agg xs ∧ xs.size = P.cellsOf t := by
  simp only [Value.okWide, ht] at h
  obtain ⟨cs, h1, h2, _⟩ := h
  exact ⟨cs, h1, h2⟩

/-- An argument that is an array of ints. -/
theorem open_iarr {H : Type} {enc : TypeId × Value → H} {P : Program} {W : World} {b0 k : Nat} {t e : TypeId} {v : Value} {d : DataW H} {p : List MemPlace} (ht : P.underlying t = some (.array k e)) (he : P.underlying e = some (.int .i64)) (hc : P.cellsOf e = 1) (hct : P.cellsOf t = k)
    (hv : Value.okWide P W .any b0 t v) (h : DataW.Trod enc P W 0 (fun _ => true) true t v d p) : ∃ zs : List Int, v = .agg (zs.map (Value.int .i64)).toArray ∧ zs.length = k ∧ ∀ z ∈ zs, I64 z := by
  obtain ⟨xs, rfl, hs⟩ := okWide_array ht hv
  obtain ⟨fuel, hf⟩ := h
  obtain ⟨zs, ez, hz⟩ := isI_list _ (isI_arr ht he hc hct hf)
  have ez' : xs.toList = zs.map (Value.int .i64) := ez
  refine ⟨zs, by rw [← ez'], ?_, hz⟩
  have := congrArg List.length ez'
  simp at this; omega

/-- An argument that is an array of such arrays. -/
theorem open_iarr2 {H : Type} {enc : TypeId × Value → H} {P : Program} {W : World} {b0 n k : Nat} {t e e2 : TypeId} {v : Value} {d : DataW H} {p : List MemPlace} (ht : P.underlying t = some (.array n e)) (he : P.underlying e = some (.array k e2)) (he2 : P.underlying e2 = some (.int .i64)) (hc2 : P.cellsOf e2 = 1) (hc : P.cellsOf e = k) (hct : P.cellsOf t = n * k)
    (hv : Value.okWide P W .any b0 t v) (h : DataW.Trod enc P W 0 (fun _ => true) true t v d p) : ∃ zs : List Int, v = .agg (zs.map (Value.int .i64)).toArray ∧ zs.length = n * k ∧ ∀ z ∈ zs, I64 z := by
  obtain ⟨xs, rfl, hs⟩ := okWide_array ht hv
  obtain ⟨fuel, hf⟩ := h
  obtain ⟨zs, ez, hz⟩ := isI_list _ (isI_arr2 ht he he2 hc2 hc hct hf)
  have ez' : xs.toList = zs.map (Value.int .i64) := ez
  refine ⟨zs, by rw [← ez'], ?_, hz⟩
  have := congrArg List.length ez'
  simp at this; omega

theorem list3 : ∀ (zs : List Int), zs.length = 3 → (∀ z ∈ zs, I64 z) → ∃ a : P3, a.Ok ∧ zs = [a.x, a.y, a.z]
  | [a, b, c], _, h => ⟨⟨a, b, c⟩, ⟨h a (by simp), h b (by simp), h c (by simp)⟩, rfl⟩

theorem list6 : ∀ (zs : List Int), zs.length = 2 * 3 → (∀ z ∈ zs, I64 z) → ∃ a b : P3, a.Ok ∧ b.Ok ∧ zs = [a.x, a.y, a.z, b.x, b.y, b.z]
  | [a, b, c, d, e, f], _, h => ⟨⟨a, b, c⟩, ⟨d, e, f⟩, ⟨h a (by simp), h b (by simp), h c (by simp)⟩, ⟨h d (by simp), h e (by simp), h f (by simp)⟩, rfl⟩

theorem list9 : ∀ (zs : List Int), zs.length = 3 * 3 → (∀ z ∈ zs, I64 z) → ∃ a b c : P3, a.Ok ∧ b.Ok ∧ c.Ok ∧ zs = [a.x, a.y, a.z, b.x, b.y, b.z, c.x, c.y, c.z]
  | [a, b, c, d, e, f, g, i, j], _, h => ⟨⟨a, b, c⟩, ⟨d, e, f⟩, ⟨g, i, j⟩, ⟨h a (by simp), h b (by simp), h c (by simp)⟩, ⟨h d (by simp), h e (by simp), h f (by simp)⟩, ⟨h g (by simp), h i (by simp), h j (by simp)⟩, rfl⟩

end Go.Proofs.YtmpfgkpimjiecaaDoor
