/- wide.appendChunk. -/
import Derived.Test.YtmiibcdcnoefgaaGreatDoorAddW
import Derived.Test.YtmiibcdcnoefgaaGreatDoorAdd
namespace Go.Proofs.YtmiibcdcnoefgaaGreatDoor
open Go.RowKit Dg

/-- 'x = x f + c', k digits of it done. -/
structure CkInv (xs : List Nat) (f c0 k c : Nat) (ws : List Nat) : Prop where
  len : ws.length = k
  ok : Ok BB ws
  cb : c < BB
  val : dg BB ws + BB ^ k * c = f * dg BB (xs.take k) + c0

theorem CkInv.step {xs ws : List Nat} {f c0 k c s t : Nat} (h : CkInv xs f c0 k c ws) (hk : k < xs.length) (e : t * BB + s = xs.getD k 0 * f + c) (hs : s < BB) (ht : t < BB) : CkInv xs f c0 (k + 1) t (ws ++ [s]) := by
  refine ⟨by simp [h.len], h.ok.snoc hs, ht, ?_⟩
  have hv := h.val
  rw [dg_snoc, h.len, dg_take_succ BB xs k hk, Nat.pow_succ]
  generalize BB ^ k = p at *
  generalize BB = b at *
  have e2 : p * (t * b + s) = p * (xs.getD k 0 * f + c) := by rw [e]
  grind

set_option maxHeartbeats 1000000 in
set_option maxRecDepth 100000 in
theorem appendChunk (gx capx : Nat) (xs : List Nat) (c : Nat) (w : World) (hx : Ok BB xs) (hb : xs.length ≤ 100000000) (hc : c < BB) (hX : Own w 56 .u64 gx capx xs) :
    Calls Tryz.prog 42 #[.slice (some ⟨gx, 0, none⟩) xs.length capx, .int .u64 c] w (fun e w' => ∃ v zs, e = .returned v ∧ Ok BB zs ∧ dg BB zs = 10000000000000000000 * dg BB xs + c ∧ zs.length ≤ xs.length + 1 ∧ Words 56 .u64 w [gx] v zs w') := by
  obtain ⟨i0, hi, hz0, hz1, hz2⟩ := info_parts info_u64
  go_enter Tryz.func42, Tryz.ntmps42
  go_wp2
  obtain ⟨f, hf⟩ : ∃ f : Nat, f = 10000000000000000000 := ⟨_, rfl⟩
  have hfb : f < BB := by rw [hf]; decide
  obtain ⟨post, W0, hcap1, hcap2⟩ := hX
  have HCAP := Lib.hid (And.intro hcap1 hcap2)
  have HX : Hid (Own w 56 .u64 gx capx xs) := Lib.hid ⟨post, W0, hcap1, hcap2⟩
  have HW0 := Lib.hid W0
  have HF := Lib.hid hf
  have CM := Lib.hid (fun (x k : Nat) (h1 : x < BB) (h2 : k < BB) w1 => multiplyAdd x f k h1 hfb h2 w1)
  rw [show (f : Int) = 10000000000000000000 from by rw [hf]; rfl] at CM
  clear hf hfb hcap1 hcap2 W0
  go_loopw [5, 10] (fun c' i wr => ∃ (k cN : Nat) (ws : List Nat), k ≤ xs.length ∧ i = .int .i64 k ∧ c' = .int .u64 cN ∧ CkInv xs f c k cN ws ∧ Win wr 56 .u64 gx 0 [] (ws ++ xs.drop k) post ∧ Tch [gx] w wr)
    (fun _ i _ => xs.length - (intOf i).toNat)
  case atStart => exact ⟨0, c, [], Nat.zero_le _, rfl, rfl, ⟨rfl, Ok.nil _, hc, by simp [dg]⟩, HW0.out, Tch.refl _ _⟩
  case round =>
    obtain ⟨k, cN, ws, hk, rfl, rfl, hI, hW, hT⟩ := hrel
    by_cases hlt : k < xs.length
    · obtain ⟨x, ex, cx⟩ := hW.readApp hI.len hlt
      have fx := hW.frozen (0 + k)
      rw [Nat.zero_add] at cx fx
      have xb : x < BB := ex.out ▸ hx.getD (by decide) k
      have cb := hI.cb
      have HC := Lib.hid (CM.out x cN xb cb)
      have HI := Lib.hid hI
      clear hx xb cb hI
      go_wp2_with fail
      refine (HC.out _).mono ?_
      rintro e w' ⟨h, l, E, hh, hlo, rfl, rfl⟩
      have HS := Lib.hid (HI.out.step hlt (s := l) (t := h) (by rw [ex.out]; exact E) hlo hh)
      have HW := Lib.hid (hW.step HI.out.len hlt l)
      have HT := Lib.hid (hT.setCell (p := ⟨gx, 0 + k, none⟩) (by simp) (.int .u64 (l : Int)))
      rw [Nat.zero_add] at HW HT
      clear hh hlo E
      go_wp2
      go_roundw
      case rel => exact ⟨k + 1, h, ws ++ [l], by omega, by go_num, rfl, HS.out, HW.out, HT.out⟩
      case measure => simp [intOf]; omega
    · obtain rfl : k = xs.length := by omega
      rw [List.drop_of_length_le (Nat.le_refl _), List.append_nil] at hW
      have hO := HX.out.again HW0.out hW hI.len
      have hv := hI.val
      rw [List.take_length] at hv
      by_cases hc0 : cN = 0
      · subst hc0
        have HL := hI.len
        have HV : Hid (dg BB ws = f * dg BB xs + c) := Lib.hid (by omega)
        have HOK := Lib.hid hI.ok
        clear hv hI
        go_wp2
        go_ret
        exact ⟨_, ws, rfl, HOK.out, by rw [← HF.out]; exact HV.out, by omega, gx, capx, by rw [HL]; rfl, hO, .inl (by simp), hT⟩
      · have HV : Hid (dg BB (ws ++ [cN]) = f * dg BB xs + c) := Lib.hid (by rw [dg_snoc, hI.len]; exact hv)
        have HOK : Hid (Ok BB (ws ++ [cN])) := Lib.hid (hI.ok.snoc hI.cb)
        have HLE := Lib.hid hI.len
        have hna : Own (wr.alloc (.cells #[.int .u64 (cN : Int)] 56)) 56 .u64 gx capx ws := hO.kept ((Tch.refl [] wr).alloc _) (by simp)
        have hcn : ((cN : Int) == 0) = false := by simpa using hc0
        clear hv hI hW hO
        go_wp2_with (at_builtin; refine wpList_app_one _ rfl _ _ 52 rfl 56 .u64 i0 Tryz.underlying52 hi hz0 hz1 (by omega) gx capx xs.length ws hna HLE.out rfl ⟨wr.heap.size, 0, none⟩ 1 cN rfl (by simp) (by omega) ?_)
        intro v' w3 happ
        have hWd := happ.words hT (.inl (by simp)) ((Tch.refl [] wr).alloc _)
        obtain ⟨g2, cap2, rfl, hO2, hg2, hT2⟩ := hWd
        have HO2 := Lib.hid hO2
        clear happ hna hT hO2
        go_wp2
        go_ret
        exact ⟨_, ws ++ [cN], rfl, HOK.out, by rw [← HF.out]; exact HV.out, by rw [List.length_append, HLE.out]; exact Nat.le_refl _, g2, cap2, rfl, HO2.out, hg2, hT2⟩

end Go.Proofs.YtmiibcdcnoefgaaGreatDoor
