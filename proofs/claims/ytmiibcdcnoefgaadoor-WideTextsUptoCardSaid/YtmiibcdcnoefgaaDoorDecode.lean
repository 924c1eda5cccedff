/- wide.newWords, wide.decode. -/
import Derived.Test.YtmiibcdcnoefgaaDoorWords
import Derived.Deep.RegionHeld3
import Derived.Deep.RegionWith
namespace Go.Proofs.YtmiibcdcnoefgaaDoor
open Go.RowKit Dg

def NewPost (w : World) (e : Ending) (w' : World) : Prop := ∃ g, e = .returned (.slice (some ⟨g, 0, none⟩) 0 8) ∧ Own w' 76 .u64 g 8 [] ∧ w.heap.size ≤ g ∧ Tch [] w w'

set_option maxHeartbeats 1000000 in
set_option maxRecDepth 100000 in
theorem newWords (w : World) : Calls Tryd.prog 61 #[] w (NewPost w) := by
  have hmk : ∀ w, (Instr.makeSlice 70 (.int .i64 0) (.int .i64 8)).run Tryd.prog w = .ok (.slice (some ⟨w.heap.size, 0, none⟩) 0 8) (w.alloc (.cells #[.int .u64 0, .int .u64 0, .int .u64 0, .int .u64 0, .int .u64 0, .int .u64 0, .int .u64 0, .int .u64 0] 76)) := fun _ => by kernel_rfl
  go_enter Tryd.func61, Tryd.ntmps61
  go_wp2
  go_ret
  refine ⟨w.heap.size, rfl, ?_, Nat.le_refl _, (Tch.refl [] w).alloc _⟩
  exact Own.of_row (Below.heap_alloc_new' w _) rfl (by decide) rfl (by simp)

theorem cell_kept {w w' : World} {a : Addr} {v : Value} (hc : w.cell? a = some v) (h : Tch [] w w') : w'.cell? a = some v :=
  (World.cell?_of_block (w := w) (h.block a.block (World.block_lt_of_cell? w a hc) (by simp))).trans hc

theorem cell_kept2 {S : List Nat} {w w' : World} {a : Addr} {v : Value} (hc : w.cell? a = some v) (h : Tch S w w') (hn : a.block ∉ S) : w'.cell? a = some v :=
  (World.cell?_of_block (w := w) (h.block a.block (World.block_lt_of_cell? w a hc) hn)).trans hc

theorem Words.tch {T : TypeId} {k : IntKind} {w w' : World} {S : List Nat} {v : Value} {xs : List Nat} (h : Words T k w S v xs w') : Tch S w w' := by
  obtain ⟨_, _, _, _, _, ht⟩ := h; exact ht

/-- The words of a number are in a new block. -/
def DecPost (w : World) (ws : List Nat) (e : Ending) (w' : World) : Prop := ∃ g cap, e = .returned (.slice (some ⟨g, 0, none⟩) ws.length cap) ∧ Own w' 76 .u64 g cap ws ∧ w.heap.size ≤ g ∧ Tch [] w w'

set_option maxHeartbeats 2000000 in
set_option maxRecDepth 100000 in
theorem decode (ng : Bool) (s : ByteArray) (w : World) (hb : s.size ≤ 1000000) :
    Calls Tryd.prog 62 #[.agg #[.bool ng, .string s]] w (DecPost w (digs BB (bv (sb s)))) := by
  go_enter Tryd.func62, Tryd.ntmps62
  go_wp2_with fail
  obtain ⟨w0, hw0⟩ : ∃ w0, w0 = w.alloc (.cells #[.bool ng, .string s] 27) := ⟨_, rfl⟩
  obtain ⟨B, hB⟩ : ∃ B, B = w.heap.size := ⟨_, rfl⟩
  have b0 : w0.cell? ⟨B, 0, none⟩ = some (.bool ng) := by rw [hw0, hB]; simp
  have b1 : w0.cell? ⟨B, 1, none⟩ = some (.string s) := by rw [hw0, hB]; simp
  have bs : B < w0.heap.size := by rw [hw0, hB]; simp
  have hT0 : Tch [] w w0 := by rw [hw0]; exact (Tch.refl [] w).alloc _
  have hBw : Hid (B = w.heap.size) := Lib.hid hB
  rw [← hw0, ← hB]
  clear hw0 hB
  go_region_held3 (fun w' => w'.cell? ⟨B, 0, none⟩ = some (.bool ng) ∧ w'.cell? ⟨B, 1, none⟩ = some (.string s)) (first | exact ⟨b0, b1⟩ | exact ⟨d0, d1⟩ | exact ⟨e0, e1⟩) (first | (go_at_call 61; refine (newWords _).mono ?_; rintro e w1 ⟨g, rfl, hO, hg, hT1⟩; have d0 := cell_kept (a := ⟨B, 0, none⟩) (v := .bool ng) (by exact b0) hT1; have d1 := cell_kept (a := ⟨B, 1, none⟩) (v := .string s) (by exact b1) hT1) | (go_at_call 91; refine (appendWords g 8 ng s _ hb hO).mono ?_; rintro e w2 ⟨v, rfl, hW⟩; have hgB : B ∉ [g] := (by intro h; rw [List.mem_singleton] at h; have h9 : w0.heap.size ≤ g := hg; omega); have e0 := cell_kept2 (a := ⟨B, 0, none⟩) (v := .bool ng) (by exact d0) hW.tch hgB; have e1 := cell_kept2 (a := ⟨B, 1, none⟩) (v := .string s) (by exact d1) hW.tch hgB))
  obtain ⟨g2, cap2, rfl, hO2, hg2, hT2⟩ := hW
  go_wp2
  go_ret
  have hsz := hT0.size
  have hgg : w.heap.size ≤ g := Nat.le_trans hsz (by simpa using hg)
  refine ⟨g2, cap2, rfl, hO2, ?_, ((hT0.drew).trans hT1 (by simp)).trans hT2 (by simpa using hgg)⟩
  rcases hg2 with h | h
  · simp at h; omega
  · have := hT1.size; simp at this; omega

end Go.Proofs.YtmiibcdcnoefgaaDoor
