/- exact.linePierces. -/
import Derived.RangeFuncNested
import Derived.RangeFuncLeaves
import Derived.RangeFuncCalls
import Derived.RangeFuncBound
import Derived.Shelf.Abstract
import Derived.Shelf.RegionOpen
import Derived.OwnWalkIn
import Derived.TacticsInMore
import Derived.LoopNIn
import Derived.LoopIn
import Derived.Test.YtmpfgkpimjiecaaDoorVecA
import Derived.Test.YtmpfgkpimjiecaaDoorVecE
namespace Go.Proofs.YtmpfgkpimjiecaaDoor
open Go Go.RowKit Go.Shelf Dg
attribute [local go_sem] Oper.semAt_some
theorem Fr.sub {w0 w : World} {l l' : List (Nat × Obj)} (h : Fr w0 w l) (hs : ∀ q ∈ l', q ∈ l) : Fr w0 w l' := ⟨fun q hq => h.row q (hs q hq), fun q hq => h.new q (hs q hq), h.t⟩

theorem Fr.at {w0 w : World} {l : List (Nat × Obj)} (h : Fr w0 w l) (i : Nat) {b : Nat} {o : Obj} (hi : l[i]? = some (b, o)) : w.heap[b]? = some o := h.row (b, o) (List.mem_of_getElem? hi)

end Go.Proofs.YtmpfgkpimjiecaaDoor
