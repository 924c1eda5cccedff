/- The reference's small functions: Less, sign, vector, product, Small. -/
import Derived.Test.YtmpfgkpimjiecaaDoorVecB
import Derived.Test.YtmpfgkpimjiecaaDoorVecA
import Derived.Test.YtmpfgkpimjiecaaDoorNrm
import Derived.Test.YtmpfgkpimjiecaaDoorVecC
import Derived.Test.YtmpfgkpimjiecaaDoorVecE
import Derived.Test.YtmpfgkpimjiecaaDoorLin
import Derived.Test.YtmpfgkpimjiecaaDoorBoxN
namespace Go.Proofs.YtmpfgkpimjiecaaDoor
open Go Go.RowKit Dg
/-- A point with small coordinates. -/
def In18 (p : P3) : Prop := (-262144 ≤ p.x ∧ p.x ≤ 262144) ∧ (-262144 ≤ p.y ∧ p.y ≤ 262144) ∧ (-262144 ≤ p.z ∧ p.z ≤ 262144)

instance (p : P3) : Decidable (In18 p) := by unfold In18; infer_instance

end Go.Proofs.YtmpfgkpimjiecaaDoor
