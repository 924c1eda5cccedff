/- quadric.Around. -/
import Derived.Test.YtmpfgkpimjiecaaDoorQi
namespace Go.Proofs.YtmpfgkpimjiecaaDoor
open Go Go.RowKit Dg

/-- A triangle. -/
structure T3 where
  a : P3
  b : P3
  c : P3
structure T3.Ok (t : T3) : Prop where
  a : t.a.Ok
  b : t.b.Ok
  c : t.c.Ok
def T3.cs (t : T3) : Array Value := #[.int .i64 t.a.x, .int .i64 t.a.y, .int .i64 t.a.z, .int .i64 t.b.x, .int .i64 t.b.y, .int .i64 t.b.z, .int .i64 t.c.x, .int .i64 t.c.y, .int .i64 t.c.z]
/-- The block g holds these triangles. -/
def TL (w : World) (g : Nat) (L : List T3) : Prop := ∀ i (h : i < L.length) j v, (L[i]).cs[j]? = some v → w.cell? ⟨g, i * 9 + j, none⟩ = some v
theorem TL.tch {w w' : World} {g : Nat} {L : List T3} (h : TL w g L) (t : Tch [] w w') : TL w' g L := fun i hi j v hv => cell_kept0 (h i hi j v hv) t
/-- One more triangle: its quadric counts if it has the corner p. -/
def arS (p : P3) (s : Nat → Int) (t : T3) : Nat → Int := fun k => if hasC t.a t.b t.c p then s k + ofI t.a t.b t.c k else s k
/-- The sum of the quadrics of all triangles with the corner p. -/
def arI (L : List T3) (p : P3) : Nat → Int := L.foldl (arS p) (fun _ => 0)
theorem arI_take (L : List T3) (p : P3) (i : Nat) (h : i < L.length) : arI (L.take (i + 1)) p = arS p (arI (L.take i) p) L[i] := by
  unfold arI
  rw [List.take_succ_eq_append_getElem h, List.foldl_append]; rfl
theorem arI_bd (L : List T3) (p : P3) (B k : Nat) (hB : ∀ t ∈ L, (ofI t.a t.b t.c k).natAbs ≤ B) : ∀ i, i ≤ L.length → (arI (L.take i) p k).natAbs ≤ i * B
  | 0, _ => by simp [arI]
  | i + 1, hi => by
    have ih := arI_bd L p B k hB i (by omega)
    have ho := hB L[i] (List.getElem_mem (by omega))
    rw [arI_take L p i (by omega)]
    unfold arS
    split
    · have := Int.natAbs_add_le (arI (L.take i) p k) (ofI L[i].a L[i].b L[i].c k)
      rw [Nat.add_mul, Nat.one_mul]
      omega
    · rw [Nat.add_mul]; omega
theorem meas (n k : Nat) (h : k < n) (z : Int) (hz : z = (k : Int) + 1) : n - z.toNat < n - ((k : Nat) : Int).toNat := by
  subst hz
  omega
theorem iwrap (k : Nat) (h : k < 1099511627776) : IntKind.i64.wrap ((k : Int) + 1) = (k : Int) + 1 := by
  rw [IntKind.wrap_i64]; omega
theorem mul_pow (i e : Nat) (h : i ≤ 1099511627776) : i * 2 ^ e < 2 ^ (e + 41) := by
  rw [Nat.pow_add, Nat.mul_comm]
  exact Nat.mul_lt_mul_of_pos_left (Nat.lt_of_le_of_lt h (by decide)) (Nat.pow_pos (by omega))
theorem arI_smE (e : Nat) (L : List T3) (p : P3) (k : Nat) (hB : ∀ t ∈ L, Sm e (ofI t.a t.b t.c k)) (hn : L.length ≤ 1099511627776) (i : Nat) (hi : i ≤ L.length) : Sm (e + 41) (arI (L.take i) p k) :=
  Nat.lt_of_le_of_lt (arI_bd L p (2 ^ e) k (fun t ht => Nat.le_of_lt (hB t ht)) i hi) (mul_pow i e (Nat.le_trans hi hn))
theorem arI_sm (L : List T3) (p : P3) (hL : ∀ t ∈ L, t.Ok) (hn : L.length ≤ 1099511627776) (i : Nat) (hi : i ≤ L.length) (k : Nat) (hk : k < 10) : Sm 438 (arI (L.take i) p k) :=
  arI_smE 397 L p k (fun t ht => ofI_sm (hL t ht).a (hL t ht).b (hL t ht).c k hk) hn i hi
theorem neqQZ (p : Nat → Int) (w : World) : (binOp .neq 28 (.agg (QV p)) (.agg #[.bool false, .string ⟨#[]⟩, .bool false, .string ⟨#[]⟩, .bool false, .string ⟨#[]⟩, .bool false, .string ⟨#[]⟩, .bool false, .string ⟨#[]⟩, .bool false, .string ⟨#[]⟩, .bool false, .string ⟨#[]⟩, .bool false, .string ⟨#[]⟩, .bool false, .string ⟨#[]⟩, .bool false, .string ⟨#[]⟩])).run Tryd.prog w = .ok (.bool (!sameQ p fun _ => 0)) w := by
  have h := eqQ p (fun _ => 0) w
  rw [← QZ_eq] at h
  rw [show (.agg #[.bool false, .string ⟨#[]⟩, .bool false, .string ⟨#[]⟩, .bool false, .string ⟨#[]⟩, .bool false, .string ⟨#[]⟩, .bool false, .string ⟨#[]⟩, .bool false, .string ⟨#[]⟩, .bool false, .string ⟨#[]⟩, .bool false, .string ⟨#[]⟩, .bool false, .string ⟨#[]⟩, .bool false, .string ⟨#[]⟩] : Value) = .agg QZ from rfl, run_neq_struct, h]; rfl

attribute [local go_sem ↓] neqQZ eqlPt

set_option maxHeartbeats 4000000 in
set_option maxRecDepth 100000 in
theorem Around (L : List T3) (p : P3) (g cap : Nat) (hL : ∀ t ∈ L, t.Ok) (hn : L.length ≤ 1099511627776) (w : World) (hg : TL w g L) (hF : FacOk w) :
    Calls Tryd.prog 23 #[.slice (some ⟨g, 0, none⟩) L.length cap, .agg #[.int .i64 p.x, .int .i64 p.y, .int .i64 p.z]] w fun e w' => e = .returned (.agg (QV (arI L p))) ∧ Tch [] w w' := by
  have F : Hid (Fr w (((w.alloc (.cells #[.int .i64 p.x, .int .i64 p.y, .int .i64 p.z] 23)).alloc (.cells QZ 28)).alloc (.cells QZ 28)) [(w.heap.size, .cells #[.int .i64 p.x, .int .i64 p.y, .int .i64 p.z] 23 (0, 0)), (w.heap.size + 1, .cells QZ 28 (0, 0)), (w.heap.size + 1 + 1, .cells (QV (arI (L.take 0) p)) 28 (0, 0))]) := Lib.hid (by
    have h := (((Fr.nil w).add (.cells #[.int .i64 p.x, .int .i64 p.y, .int .i64 p.z] 23) w.heap.size rfl).add (.cells QZ 28) (w.heap.size + 1) (by simp)).add (.cells QZ 28) (w.heap.size + 1 + 1) (by simp)
    rw [show QV (arI (L.take 0) p) = QZ by rw [QZ_eq]; rfl]
    exact h)
  have HG := Lib.hid hg
  have HF := Lib.hid hF
  have HL := Lib.hid hL
  have HN := Lib.hid hn
  have hnn : (0 : Int) ≤ L.length := by omega
  clear hg hF hL hn
  go_enter Tryd.func23, Tryd.ntmps23
  go_wp2
  go_loopw [11] (fun i wr => ∃ k : Nat, k ≤ L.length ∧ i = .int .i64 (k : Int) ∧ Hid (Fr w wr [(w.heap.size, .cells #[.int .i64 p.x, .int .i64 p.y, .int .i64 p.z] 23 (0, 0)), (w.heap.size + 1, .cells QZ 28 (0, 0)), (w.heap.size + 1 + 1, .cells (QV (arI (L.take k) p)) 28 (0, 0))]))
    (fun i _ => L.length - (intOf i).toNat)
  case atStart => exact ⟨0, by omega, rfl, F⟩
  case round =>
    clear F
    obtain ⟨k, hk, rfl, F⟩ := hrel
    rcases (show k = L.length ∨ k < L.length by omega) with rfl | hk
    · have e : arI (L.take L.length) p = arI L p := by rw [List.take_length]
      rw [e] at F
      clear e
      go_wp2_with (first | (refine wpList_load_row rfl 28 _ rfl (w.heap.size + 1 + 1) rfl _ _ _ 20 (F.out.at 2 rfl) (QV_size _) Tryd.underlying28 rfl infoQ ?_; simp only [Act.put, List.setIfInBounds_toArray, List.set_cons_zero, List.set_cons_succ]) | (refine wpList_store_row rfl 28 _ _ rfl (w.heap.size + 1) rfl _ _ rfl _ 20 (F.out.at 1 rfl) QZ_size (QV_size _) infoQ (QV_one _) ?_; simp only [Act.put]))
      have F := Lib.hid (Fr.setR (l1 := [(w.heap.size, .cells #[.int .i64 p.x, .int .i64 p.y, .int .i64 p.z] 23 (0, 0))]) (l2 := [(w.heap.size + 1 + 1, .cells (QV (arI L p)) 28 (0, 0))]) F.out (by simp) (QV (arI L p)))
      have h0 := F.out.at 1 rfl
      refine bodyPost_ret (v := .agg (QV (arI L p))) (results_row Tryd.results23 rfl h0 (QV_size _) Tryd.underlying28 rfl infoQ) rfl ⟨rfl, F.out.t⟩
    · have ik : (0 : Int) ≤ k := by omega
      have ik2 : (k : Int) < L.length := by omega
      have iw : IntKind.i64.wrap ((k : Int) + 1) = (k : Int) + 1 := iwrap k (by have := HN.out; omega)
      have ht := HL.out L[k] (List.getElem_mem hk)
      have es := arI_take L p k hk
      have hs := fun j hj => arI_sm L p HL.out HN.out k (by omega) j hj
      have hs2 := fun j hj => arI_sm L p HL.out HN.out (k + 1) (by omega) j hj
      have hc := HG.out.tch F.out.t k hk
      obtain ⟨t, et⟩ : ∃ t, t = L[k] := ⟨_, rfl⟩
      rw [← et] at ht es hc
      obtain ⟨s, ess⟩ : ∃ s, s = arI (L.take k) p := ⟨_, rfl⟩
      rw [← ess] at es hs F
      have ES := Lib.hid es
      have HS := Lib.hid hs
      have HT := Lib.hid ht
      clear es hs hs2 ht et ess
      have c0 : wr.cell? ⟨g, k * 9, none⟩ = some (.int .i64 t.a.x) := hc 0 _ rfl
      have c1 : wr.cell? ⟨g, k * 9 + 1, none⟩ = some (.int .i64 t.a.y) := hc 1 _ rfl
      have c2 : wr.cell? ⟨g, k * 9 + 2, none⟩ = some (.int .i64 t.a.z) := hc 2 _ rfl
      have c3 : wr.cell? ⟨g, k * 9 + 3, none⟩ = some (.int .i64 t.b.x) := hc 3 _ rfl
      have c4 : wr.cell? ⟨g, k * 9 + 4, none⟩ = some (.int .i64 t.b.y) := hc 4 _ rfl
      have c5 : wr.cell? ⟨g, k * 9 + 5, none⟩ = some (.int .i64 t.b.z) := hc 5 _ rfl
      have c6 : wr.cell? ⟨g, k * 9 + 6, none⟩ = some (.int .i64 t.c.x) := hc 6 _ rfl
      have c7 : wr.cell? ⟨g, k * 9 + 7, none⟩ = some (.int .i64 t.c.y) := hc 7 _ rfl
      have c8 : wr.cell? ⟨g, k * 9 + 8, none⟩ = some (.int .i64 t.c.z) := hc 8 _ rfl
      have HO : Hid (w.heap.size + 3 ≤ wr.heap.size) := Lib.hid (by have := (Array.getElem?_eq_some_iff.1 (F.out.at 2 rfl)).1; omega)
      have G : Hid (Fr w (wr.alloc (.cells #[.int .i64 t.a.x, .int .i64 t.a.y, .int .i64 t.a.z, .int .i64 t.b.x, .int .i64 t.b.y, .int .i64 t.b.z, .int .i64 t.c.x, .int .i64 t.c.y, .int .i64 t.c.z] 31)) [(w.heap.size, .cells #[.int .i64 p.x, .int .i64 p.y, .int .i64 p.z] 23 (0, 0)), (w.heap.size + 1, .cells QZ 28 (0, 0)), (w.heap.size + 1 + 1, .cells (QV s) 28 (0, 0)), (wr.heap.size, .cells #[.int .i64 t.a.x, .int .i64 t.a.y, .int .i64 t.a.z, .int .i64 t.b.x, .int .i64 t.b.y, .int .i64 t.b.z, .int .i64 t.c.x, .int .i64 t.c.y, .int .i64 t.c.z] 31 (0, 0))]) := Lib.hid (F.out.add (.cells #[.int .i64 t.a.x, .int .i64 t.a.y, .int .i64 t.a.z, .int .i64 t.b.x, .int .i64 t.b.y, .int .i64 t.b.z, .int .i64 t.c.x, .int .i64 t.c.y, .int .i64 t.c.z] 31) wr.heap.size rfl)
      go_upto_region 5 with (fail)
      clear c0 c1 c2 c3 c4 c5 c6 c7 c8 hc
      have HG2 := G.out.at 3 rfl
      have hlt := (Array.getElem?_eq_some_iff.1 HG2).1
      have cc := fun (w1 : World) (h : Tch [] (wr.alloc (.cells #[.int .i64 t.a.x, .int .i64 t.a.y, .int .i64 t.a.z, .int .i64 t.b.x, .int .i64 t.b.y, .int .i64 t.b.z, .int .i64 t.c.x, .int .i64 t.c.y, .int .i64 t.c.z] 31)) w1) => containsP t.a t.b t.c p wr.heap.size w1 ((h.block _ hlt (by simp)).trans HG2)
      have hcase := HS.out
      obtain ⟨hb, ehb⟩ : ∃ hb, hb = hasC t.a t.b t.c p := ⟨_, rfl⟩
      rw [← ehb] at cc
      have CC := Lib.hid cc
      have c2 := fun (w1 : World) (h : FacOk w1) => Of t.a t.b t.c HT.out.a HT.out.b HT.out.c w1 h
      have hu := ofI_sm HT.out.a HT.out.b HT.out.c
      have es2 : arI (L.take (k + 1)) p = fun j => if hb then s j + ofI t.a t.b t.c j else s j := by rw [ES.out, ehb]; rfl
      obtain ⟨u, eu⟩ : ∃ u, u = ofI t.a t.b t.c := ⟨_, rfl⟩
      rw [← eu] at c2 hu es2
      have C2 := Lib.hid c2
      have C3 := Lib.hid (fun w1 => Sum s u (fun j hj => (hcase j hj).mono (by omega)) (fun j hj => (hu j hj).mono (by omega)) w1)
      have ES := Lib.hid es2
      clear HG2 hlt cc ehb c2 hu es2 eu hcase HT
      have SA := Lib.hid (fun (w' : World) (h : Fr w w' [(w.heap.size, .cells #[.int .i64 p.x, .int .i64 p.y, .int .i64 p.z] 23 (0, 0)), (w.heap.size + 1, .cells QZ 28 (0, 0)), (w.heap.size + 1 + 1, .cells (QV s) 28 (0, 0)), (wr.heap.size, .cells #[.int .i64 t.a.x, .int .i64 t.a.y, .int .i64 t.a.z, .int .i64 t.b.x, .int .i64 t.b.y, .int .i64 t.b.z, .int .i64 t.c.x, .int .i64 t.c.y, .int .i64 t.c.z] 31 (0, 0))]) => h.three 0 rfl)
      obtain ⟨a0, a1, a2⟩ := G.out.three 0 rfl
      cases hb
      · have EQ : Hid (QV (arI (L.take (k + 1)) p) = QV s) := Lib.hid (QV_eq fun j _ => by rw [ES.out]; simp)
        clear ES C2 C3 HS
        go_region_held3 (fun w' => w'.cell? ⟨w.heap.size, 0, none⟩ = some (.int .i64 p.x) ∧ w'.cell? ⟨w.heap.size, 1, none⟩ = some (.int .i64 p.y) ∧ w'.cell? ⟨w.heap.size, 2, none⟩ = some (.int .i64 p.z)) (first | with_reducible exact SA.out _ G.out | with_reducible exact SA.out _ G.out.drew) (first
          | (go_at_call 48; (refine (CC.out _ (Tch.refl _ _).drew).mono ?_); rintro e w5 ⟨rfl, hT⟩; have G := Lib.hid (G.out.drew.keep hT); clear hT))
        go_wp2
        go_roundw
        case rel => exact ⟨k + 1, by omega, by go_num, Lib.hid (by rw [EQ.out]; exact Fr.front (l := [(w.heap.size, .cells #[.int .i64 p.x, .int .i64 p.y, .int .i64 p.z] 23 (0, 0)), (w.heap.size + 1, .cells QZ 28 (0, 0)), (w.heap.size + 1 + 1, .cells (QV s) 28 (0, 0))]) G.out)⟩
        case measure => exact meas _ _ hk _ rfl
      · go_region_held3 (fun w' => w'.cell? ⟨w.heap.size, 0, none⟩ = some (.int .i64 p.x) ∧ w'.cell? ⟨w.heap.size, 1, none⟩ = some (.int .i64 p.y) ∧ w'.cell? ⟨w.heap.size, 2, none⟩ = some (.int .i64 p.z)) (first | with_reducible exact SA.out _ G.out | with_reducible exact SA.out _ G.out.drew) (first
          | (go_at_call 48; (refine (CC.out _ (Tch.refl _ _).drew).mono ?_); rintro e w5 ⟨rfl, hT⟩; have G := Lib.hid (G.out.drew.keep hT); clear hT))
        clear a0 a1 a2 SA CC
        obtain ⟨⟨b0, b1, b2⟩, ⟨b3, b4, b5⟩, b6, b7, b8⟩ := G.out.nine 3 rfl
        go_wp2_with fail
        refine (C2.out _ (HF.out.tch G.out.t)).mono ?_
        rintro e w6 ⟨rfl, hT⟩
        have HO2 : Hid (w.heap.size + 4 ≤ w6.heap.size ∧ wr.heap.size + 1 ≤ w6.heap.size) := Lib.hid (by
          have h1 := (Array.getElem?_eq_some_iff.1 ((G.out.keep hT).at 3 rfl)).1
          have h2 := HO.out
          omega)
        have G : Hid (Fr w (w6.alloc (.cells QZ 28)) [(w.heap.size, .cells #[.int .i64 p.x, .int .i64 p.y, .int .i64 p.z] 23 (0, 0)), (w.heap.size + 1, .cells QZ 28 (0, 0)), (w.heap.size + 1 + 1, .cells (QV s) 28 (0, 0)), (wr.heap.size, .cells #[.int .i64 t.a.x, .int .i64 t.a.y, .int .i64 t.a.z, .int .i64 t.b.x, .int .i64 t.b.y, .int .i64 t.b.z, .int .i64 t.c.x, .int .i64 t.c.y, .int .i64 t.c.z] 31 (0, 0)), (w6.heap.size, .cells QZ 28 (0, 0))]) := Lib.hid ((G.out.keep hT).add (.cells QZ 28) w6.heap.size rfl)
        clear hT b0 b1 b2 b3 b4 b5 b6 b7 b8 C2
        cases hz : sameQ u fun _ => 0
        · go_wp2_with (first | (refine wpList_load_row rfl 28 _ rfl (w.heap.size + 1 + 1) rfl _ _ _ 20 (G.out.at 2 rfl) (QV_size _) Tryd.underlying28 rfl infoQ ?_; simp only [Act.put, List.setIfInBounds_toArray, List.set_cons_zero, List.set_cons_succ]) | (refine wpList_load_row rfl 28 _ rfl w6.heap.size rfl _ _ _ 20 (G.out.at 4 rfl) (QV_size _) Tryd.underlying28 rfl infoQ ?_; simp only [Act.put, List.setIfInBounds_toArray, List.set_cons_zero, List.set_cons_succ]) | ((refine wpList_store_row rfl 28 _ _ rfl w6.heap.size rfl _ _ rfl _ 20 (G.out.at 4 rfl) QZ_size (QV_size _) infoQ (QV_one _) ?_; simp only [Act.put]); have G := Lib.hid (Fr.setR (l1 := [(w.heap.size, .cells #[.int .i64 p.x, .int .i64 p.y, .int .i64 p.z] 23 (0, 0)), (w.heap.size + 1, .cells QZ 28 (0, 0)), (w.heap.size + 1 + 1, .cells (QV s) 28 (0, 0)), (wr.heap.size, .cells #[.int .i64 t.a.x, .int .i64 t.a.y, .int .i64 t.a.z, .int .i64 t.b.x, .int .i64 t.b.y, .int .i64 t.b.z, .int .i64 t.c.x, .int .i64 t.c.y, .int .i64 t.c.z] 31 (0, 0))]) (l2 := []) G.out (by have h1 := HO.out; have h2 := HO2.out; simp; omega) (QV u))))
          refine (C3.out _).mono ?_
          rintro e w7 ⟨rfl, hT⟩
          have G := Lib.hid (G.out.keep hT)
          clear hT
          go_wp2_with (first | ((refine wpList_store_row rfl 28 _ _ rfl (w.heap.size + 1 + 1) rfl _ _ rfl _ 20 (G.out.at 2 rfl) (QV_size _) (QV_size _) infoQ (QV_one _) ?_; simp only [Act.put]); have G := Lib.hid (Fr.setR (l1 := [(w.heap.size, .cells #[.int .i64 p.x, .int .i64 p.y, .int .i64 p.z] 23 (0, 0)), (w.heap.size + 1, .cells QZ 28 (0, 0))]) (l2 := [(wr.heap.size, .cells #[.int .i64 t.a.x, .int .i64 t.a.y, .int .i64 t.a.z, .int .i64 t.b.x, .int .i64 t.b.y, .int .i64 t.b.z, .int .i64 t.c.x, .int .i64 t.c.y, .int .i64 t.c.z] 31 (0, 0)), (w6.heap.size, .cells (QV u) 28 (0, 0))]) G.out (by have h1 := HO.out; have h2 := HO2.out; simp; omega) (QV fun k => s k + u k))))
          go_roundw
          case rel => exact ⟨k + 1, by omega, by go_num, Lib.hid (by rw [ES.out]; exact Fr.front (l := [(w.heap.size, .cells #[.int .i64 p.x, .int .i64 p.y, .int .i64 p.z] 23 (0, 0)), (w.heap.size + 1, .cells QZ 28 (0, 0)), (w.heap.size + 1 + 1, .cells (QV fun k => s k + u k) 28 (0, 0))]) G.out)⟩
          case measure => exact meas _ _ hk _ rfl
        · have EQ : Hid (QV (arI (L.take (k + 1)) p) = QV s) := Lib.hid (QV_eq fun j hj => by rw [ES.out]; simp [(sameQ_iff u fun _ => 0).1 hz j hj])
          clear ES C3 HS
          go_wp2_with (first | (refine wpList_load_row rfl 28 _ rfl w6.heap.size rfl _ _ _ 20 (G.out.at 4 rfl) (QV_size _) Tryd.underlying28 rfl infoQ ?_; simp only [Act.put, List.setIfInBounds_toArray, List.set_cons_zero, List.set_cons_succ]) | ((refine wpList_store_row rfl 28 _ _ rfl w6.heap.size rfl _ _ rfl _ 20 (G.out.at 4 rfl) QZ_size (QV_size _) infoQ (QV_one _) ?_; simp only [Act.put]); have G := Lib.hid (Fr.setR (l1 := [(w.heap.size, .cells #[.int .i64 p.x, .int .i64 p.y, .int .i64 p.z] 23 (0, 0)), (w.heap.size + 1, .cells QZ 28 (0, 0)), (w.heap.size + 1 + 1, .cells (QV s) 28 (0, 0)), (wr.heap.size, .cells #[.int .i64 t.a.x, .int .i64 t.a.y, .int .i64 t.a.z, .int .i64 t.b.x, .int .i64 t.b.y, .int .i64 t.b.z, .int .i64 t.c.x, .int .i64 t.c.y, .int .i64 t.c.z] 31 (0, 0))]) (l2 := []) G.out (by have h1 := HO.out; have h2 := HO2.out; simp; omega) (QV u))))
          go_roundw
          case rel => exact ⟨k + 1, by omega, by go_num, Lib.hid (by rw [EQ.out]; exact Fr.front (l := [(w.heap.size, .cells #[.int .i64 p.x, .int .i64 p.y, .int .i64 p.z] 23 (0, 0)), (w.heap.size + 1, .cells QZ 28 (0, 0)), (w.heap.size + 1 + 1, .cells (QV s) 28 (0, 0))]) G.out)⟩
          case measure => exact meas _ _ hk _ rfl

end Go.Proofs.YtmpfgkpimjiecaaDoor
