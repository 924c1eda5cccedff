/- wide.appendBytes. -/
import Derived.Test.YtmiibcdcnoefgaaDoorWords
namespace Go.Proofs.YtmiibcdcnoefgaaDoor
open Go.RowKit Dg

theorem info_u8 : (Tryd.prog.info? 5).map (fun i => (i.zero, i.size, i.bytes)) = some (some (.int .u8 0), 1, 1) := by kernel_rfl

/-- The first j bytes of the word x. -/
structure ByInv (x j : Nat) (M : List Nat) : Prop where
  len : M.length = j
  ok : Ok 256 M
  val : bv M = x / 256 ^ (8 - j)

theorem ByInv.zero {x : Nat} (hx : x < BB) : ByInv x 0 [] := ⟨rfl, Ok.nil _, (Nat.div_eq_of_lt (show x < 256 ^ 8 from hx)).symm⟩

theorem ByInv.step {x j : Nat} {M : List Nat} (h : ByInv x j M) (hj : j < 8) : ByInv x (j + 1) (M ++ [x / 256 ^ (7 - j) % 256]) := by
  refine ⟨by simp [h.len], h.ok.snoc (Nat.mod_lt _ (by omega)), ?_⟩
  rw [bv_snoc, h.val, show 8 - j = (7 - j) + 1 by omega, show 8 - (j + 1) = 7 - j by omega, Nat.pow_succ, ← Nat.div_div_eq_div_mul]
  have := Nat.div_add_mod (x / 256 ^ (7 - j)) 256
  omega

/-- The bytes of the last k words, the highest one first. -/
structure BsInv (ws : List Nat) (k : Nat) (L : List Nat) : Prop where
  len : L.length = 8 * k
  ok : Ok 256 L
  val : bv L = dg BB (ws.drop (ws.length - k))

theorem BsInv.zero (ws : List Nat) : BsInv ws 0 [] := ⟨rfl, Ok.nil _, by simp [bv, dg]⟩

theorem BsInv.step {ws L M : List Nat} {k : Nat} (h : BsInv ws k L) (hk : k < ws.length) (hM : ByInv (ws.getD (ws.length - 1 - k) 0) 8 M) : BsInv ws (k + 1) (L ++ M) := by
  refine ⟨by rw [List.length_append, h.len, hM.len]; omega, h.ok.append hM.ok, ?_⟩
  rw [bv_append, h.val, hM.val, hM.len, dg_drop BB ws (ws.length - (k + 1)) (by omega), show ws.length - (k + 1) + 1 = ws.length - k by omega, show ws.length - (k + 1) = ws.length - 1 - k by omega]
  simp only [Nat.sub_self, Nat.pow_zero, Nat.div_one]
  rfl

theorem shr_byte (x j : Nat) (hj : j < 8) : IntKind.u8.wrap ((x : Int) / 2 ^ (56 - 8 * j)) = ((x / 256 ^ (7 - j) % 256 : Nat) : Int) := by
  have e : 2 ^ (56 - 8 * j) = 256 ^ (7 - j) := by
    rw [show 56 - 8 * j = 8 * (7 - j) by omega, Nat.pow_mul]
  have e2 : (x : Int) / 2 ^ (56 - 8 * j) = ((x / 256 ^ (7 - j) : Nat) : Int) := by
    rw [← e]; simp
  rw [e2, IntKind.wrap_u8]
  omega

set_option maxHeartbeats 2000000 in
set_option maxRecDepth 100000 in
theorem appendBytes (gm capm gw capw : Nat) (pre' post' : List Value) (ow : Nat) (ws : List Nat) (w : World) (hgg : gm ≠ gw) (hw : Ok BB ws) (hb : ws.length ≤ 1000000)
    (hM : Own w 5 .u8 gm capm []) (hW : Win w 76 .u64 gw ow pre' ws post') :
    Calls Tryd.prog 88 #[.slice (some ⟨gm, 0, none⟩) 0 capm, .slice (some ⟨gw, ow, none⟩) ws.length capw] w fun e w' => ∃ v L, e = .returned v ∧ BsInv ws ws.length L ∧ Words 5 .u8 w [gm] v L w' := by
  obtain ⟨i0, hi, hz0, hz1, hz2⟩ := info_parts info_u8
  go_enter Tryd.func88, Tryd.ntmps88
  go_wp2
  go_loopw [0, 10] (fun v i wr => ∃ (g cap k : Nat) (L : List Nat), v = .slice (some ⟨g, 0, none⟩) L.length cap ∧ i = .int .i64 k ∧ k ≤ ws.length ∧ BsInv ws k L ∧ Own wr 5 .u8 g cap L ∧ (g ∈ [gm] ∨ w.heap.size ≤ g) ∧ Tch [gm] w wr)
    (fun _ i _ => ws.length - (intOf i).toNat)
  case atStart => exact ⟨gm, capm, 0, [], rfl, rfl, Nat.zero_le _, BsInv.zero _, hM, .inl (by simp), Tch.refl _ _⟩
  case round =>
    obtain ⟨g, cap, k, L, rfl, rfl, hk, hI, hO, hg, hT⟩ := hrel
    by_cases hlt : k < ws.length
    · have hWr := hW.kept hT (by simp; exact fun h => hgg h.symm)
      obtain ⟨x, ex, cx⟩ := hWr.read (j := ws.length - 1 - k) (by omega)
      have hxb : x < BB := ex.out ▸ hw.getD (by decide) _
      have hsub : ((ws.length : Int) - 1 - (k : Int)) = ((ws.length - 1 - k : Nat) : Int) := by omega
      obtain ⟨q, hq⟩ : ∃ q, q = ws.length - 1 - k := ⟨_, rfl⟩
      rw [← hq] at cx hsub
      have hql : q < ws.length := by omega
      have HQ := Lib.hid hq
      clear hq
      clear hM hWr
      go_wp2
      obtain ⟨wo, rfl⟩ : ∃ wo : World, wo = wr := ⟨_, rfl⟩
      go_loopw [0, 7] (fun v i wr => ∃ (g cap j : Nat) (M : List Nat) (S : Int), v = .slice (some ⟨g, 0, none⟩) (L ++ M).length cap ∧ i = .int .i64 S ∧ Hid (S = 56 - 8 * (j : Int)) ∧ j ≤ 8 ∧ ByInv x j M ∧ Own wr 5 .u8 g cap (L ++ M) ∧ (g ∈ [gm] ∨ w.heap.size ≤ g) ∧ Tch [gm] w wr)
        (fun _ i _ => (intOf i + 8).toNat)
      case atStart => exact ⟨g, cap, 0, [], 56, by simp, rfl, Lib.hid (by omega), by omega, ByInv.zero hxb, by simpa using hO, hg, hT⟩
      case round =>
        clear hO hg hT
        obtain ⟨g, cap, j, M, S, rfl, rfl, hS, hj, hB, hO, hg, hT⟩ := hrel
        by_cases hj8 : j < 8
        · obtain ⟨sN, hsN⟩ : ∃ sN : Nat, sN = 56 - 8 * j := ⟨_, rfl⟩
          obtain rfl : S = (sN : Int) := by have := hS.out; omega
          obtain ⟨y, hy⟩ : ∃ y, y = x / 256 ^ (7 - j) % 256 := ⟨_, rfl⟩
          have r := shr_byte x j hj8
          rw [← hsN, ← hy] at r
          have hB2 := Lib.hid (hy ▸ hB.step hj8)
          have HSN : Hid ((sN : Int) - 8 = 56 - 8 * ((j + 1 : Nat) : Int)) := Lib.hid (by omega)
          have hs56 : sN ≤ 56 := by omega
          have hl : (L ++ M).length ≤ 10000000 := by rw [List.length_append, hI.len, hB.len]; omega
          have hna : ∀ z : Value, Own (wr.alloc (.cells #[z] 5)) 5 .u8 g cap (L ++ M) := fun z => hO.kept ((Tch.refl [] wr).alloc _) (by simp)
          have HNA := Lib.hid hna
          clear hsN hy hB hS hna hO
          go_wp2_with (at_builtin; refine wpList_app_one _ rfl _ _ 22 rfl 5 .u8 i0 Tryd.underlying22 hi hz0 hz1 (by omega) g cap (L ++ M).length (L ++ M) (HNA.out _) rfl rfl ⟨wr.heap.size, 0, none⟩ 1 y rfl (by simp) (by omega) ?_)
          intro v' w3 happ
          obtain ⟨g2, cap2, hv, hO2, hg2, hT2⟩ := happ.words hT hg ((Tch.refl [] wr).alloc _)
          subst hv
          have HO2 := Lib.hid hO2
          clear happ HNA hO2 hT
          go_wp2
          go_roundw
          case rel => exact ⟨g2, cap2, j + 1, M ++ [y], _, rfl, by first | rfl | go_num, HSN, by omega, hB2.out, HO2.out, hg2, hT2⟩
          case measure => first | (simp [intOf]; done) | (simp [intOf]; omega)
        · obtain rfl : j = 8 := by omega
          obtain rfl : S = -8 := by have := hS.out; omega
          have hI2 := Lib.hid (hI.step hlt (M := M) (by rw [← HQ.out, show (ws.getD q 0) = x from by rw [HQ.out]; exact ex.out]; exact hB))
          clear hS hB hI
          go_wp2
          go_roundw
          case rel => exact ⟨g, cap, k + 1, L ++ M, by simp, by first | rfl | go_num, by omega, hI2.out, hO, hg, hT⟩
          case measure => first | (simp [intOf]; done) | (simp [intOf]; omega)
    · obtain rfl : k = ws.length := by omega
      go_wp2
      go_ret
      exact ⟨_, L, rfl, hI, g, cap, rfl, hO, hg, hT⟩

end Go.Proofs.YtmiibcdcnoefgaaDoor
