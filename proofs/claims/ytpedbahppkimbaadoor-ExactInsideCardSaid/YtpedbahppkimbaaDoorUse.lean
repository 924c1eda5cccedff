/- What all walks that call Go's library import. -/
import Derived.Test.YtpedbahppkimbaaDoorShelf
import Derived.Test.YtpedbahppkimbaaDoorMem
namespace Go.Proofs.YtpedbahppkimbaaDoor
open Go.RowKit

theorem quiet_add {P : Program} {f : FuncId} {args : Array Value} {w : World} {a n : Nat} {v : Value}
    (h : Calls P f args (w.drewN (a + n)) fun e w' => e = .returned v ∧ ∃ m, w' = (w.drewN (a + n)).drewN m) :
    Calls P f args (w.drewN (a + n)) fun e w'' => e = .returned v ∧ ∃ m, w'' = w.drewN (a + m) :=
  h.mono fun _ _ ⟨he, m, hm⟩ => ⟨he, n + m, by rw [hm, World.drewN_drewN, Nat.add_assoc]⟩

theorem drewN_ex (w : World) (a b : Nat) : ∃ m, w.drewN m = (w.drewN a).drewN b := ⟨a + b, (World.drewN_drewN w a b).symm⟩

end Go.Proofs.YtpedbahppkimbaaDoor
