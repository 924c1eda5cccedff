/- wide.Sub. -/
import Derived.Test.YtpedbahppkimbaaDoorZ
namespace Go.Proofs.YtpedbahppkimbaaDoor
open Go.RowKit Dg

set_option maxHeartbeats 1000000 in
set_option maxRecDepth 100000 in
theorem Sub (na nb : Bool) (sa sc : ByteArray) (w : World) (ha : sa.size ≤ 400000) (hb : sc.size ≤ 400000) :
    Calls Tryd.prog 40 #[.agg #[.bool na, .string sa], .agg #[.bool nb, .string sc]] w fun e w' => e = .returned (wz (zval na (bv (sb sa)) - zval nb (bv (sb sc)))) ∧ Tch [] w w' := by
  have C := fun w1 => addSigned na nb (!nb) sa sc w1 ha hb
  obtain ⟨bz, sz, ez⟩ := wz_agg (zval na (bv (sb sa)) - zval nb (bv (sb sc)))
  rw [zval_not, ← Int.sub_eq_add_neg, ez] at C
  have HC := Lib.hid C
  have EZ := Lib.hid ez
  clear C ez
  go_enter Tryd.func40, Tryd.ntmps40
  go_wp2_with fail
  refine (HC.out _).mono ?_
  rintro e w1 ⟨rfl, hT⟩
  obtain ⟨c0, c1, f0, f1, hT1⟩ := boxes_after hT
  have HT := Lib.hid hT1
  clear hT hT1
  go_wp2
  refine bodyPost_ret (v := .agg #[.bool bz, .string sz]) (by simp [results, Tryd.results40, go_sem, c0, c1]) rfl ⟨by rw [EZ.out], ?_⟩
  exact (HT.out.setCell (.inr (by simp; omega)) _).setCell (.inr (by simp; omega)) _

theorem ZSub {na nb : Bool} {sa sc : ByteArray} {x y : Int} (hx : Rep 400000 na sa x) (hy : Rep 400000 nb sc y) (w : World) :
    Calls Tryd.prog 40 #[.agg #[.bool na, .string sa], .agg #[.bool nb, .string sc]] w fun e w' => e = .returned (wz (x - y)) ∧ Tch [] w w' := by
  have h := Sub na nb sa sc w hx.size hy.size
  rwa [hx.val, hy.val] at h

end Go.Proofs.YtpedbahppkimbaaDoor
