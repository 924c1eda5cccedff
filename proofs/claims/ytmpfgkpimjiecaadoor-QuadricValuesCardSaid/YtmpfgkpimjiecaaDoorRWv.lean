/- Contracts of the reference's sums and products by integers, with a bound on bits. -/
import Derived.Test.YtmpfgkpimjiecaaDoorWv
import Derived.Test.YtmpfgkpimjiecaaDoorRAdd
import Derived.Test.YtmpfgkpimjiecaaDoorRFrom
namespace Go.Proofs.YtmpfgkpimjiecaaDoor
open Go Go.RowKit Dg
theorem Sm.rep1 {z : Int} (h : Sm 400 z) : Rep 1000 (sgz z) (moz z) z := (Rep.mo (Sm.bytes (k := 50) (h.mono (by omega)))).mono (by omega)

section
variable {x y : Int}
theorem JMul (hx : Sm 400 x) (hy : Sm 400 y) (w : World) :
    Calls Tryd.prog 15 #[.agg #[.bool (sgz x), .string (moz x)], .agg #[.bool (sgz y), .string (moz y)]] w fun e w' => e = .returned (.agg #[.bool (sgz (x * y)), .string (moz (x * y))]) ∧ Tch [] w w' := by
  rw [← wz_sm (x * y)]; exact rMul hx.rep1 hy.rep1 w

theorem JAdd (hx : Sm 400 x) (hy : Sm 400 y) (w : World) :
    Calls Tryd.prog 19 #[.agg #[.bool (sgz x), .string (moz x)], .agg #[.bool (sgz y), .string (moz y)]] w fun e w' => e = .returned (.agg #[.bool (sgz (x + y)), .string (moz (x + y))]) ∧ Tch [] w w' := by
  rw [← wz_sm (x + y)]; exact rAdd hx.rep1 hy.rep1 w

theorem JSub (hx : Sm 400 x) (hy : Sm 400 y) (w : World) :
    Calls Tryd.prog 57 #[.agg #[.bool (sgz x), .string (moz x)], .agg #[.bool (sgz y), .string (moz y)]] w fun e w' => e = .returned (.agg #[.bool (sgz (x - y)), .string (moz (x - y))]) ∧ Tch [] w w' := by
  rw [← wz_sm (x - y)]; exact rSub hx.rep1 hy.rep1 w

theorem JNeg (hx : Sm 400 x) (w : World) :
    Calls Tryd.prog 80 #[.agg #[.bool (sgz x), .string (moz x)]] w fun e w' => e = .returned (.agg #[.bool (sgz (-x)), .string (moz (-x))]) ∧ Tch [] w w' := by
  rw [← wz_sm (-x)]; exact rNeg hx.rep1 w

theorem JFrom (h1 : -9223372036854775808 ≤ x) (h2 : x ≤ 9223372036854775807) (w : World) :
    Calls Tryd.prog 40 #[.int .i64 x] w fun e w' => e = .returned (.agg #[.bool (sgz x), .string (moz x)]) ∧ Tch [] w w' := by
  rw [← wz_sm x]; exact rFrom x h1 h2 w

end
end Go.Proofs.YtmpfgkpimjiecaaDoor
