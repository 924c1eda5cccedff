/- The reference's small functions: Less, sign, vector, product, Small. -/
import Derived.Test.YtgnhkmlocjlbmaaDoorVecB
import Derived.Test.YtgnhkmlocjlbmaaDoorVecA
import Derived.Test.YtgnhkmlocjlbmaaDoorNrm
import Derived.Test.YtgnhkmlocjlbmaaDoorVecC
import Derived.Test.YtgnhkmlocjlbmaaDoorVecE
import Derived.Test.YtgnhkmlocjlbmaaDoorLin
import Derived.Test.YtgnhkmlocjlbmaaDoorBoxN
namespace Go.Proofs.YtgnhkmlocjlbmaaDoor
open Go Go.RowKit Dg
/-- A point with small coordinates. -/
def In18 (p : P3) : Prop := (-262144 ≤ p.x ∧ p.x ≤ 262144) ∧ (-262144 ≤ p.y ∧ p.y ≤ 262144) ∧ (-262144 ≤ p.z ∧ p.z ≤ 262144)

instance (p : P3) : Decidable (In18 p) := by unfold In18; infer_instance

end Go.Proofs.YtgnhkmlocjlbmaaDoor
