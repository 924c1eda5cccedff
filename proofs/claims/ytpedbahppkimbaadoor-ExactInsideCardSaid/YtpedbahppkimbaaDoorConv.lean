/- What a conversion of bytes to a string reads. -/
import Derived.Test.YtpedbahppkimbaaDoorZ
import Derived.Deep.RegionHeld3
import Derived.Deep.AppendLies
namespace Go.Proofs.YtpedbahppkimbaaDoor
open Go.RowKit Dg

theorem size_strOf (l : List Int) : (strOfNums l).size = l.length := by simp [strOfNums, ByteArray.size]

/-- 'string(b[:m])'. -/
theorem conv_pre {w : World} {g : Nat} {xs : List Nat} {post : List Value} (h : Win w 5 .u8 g 0 [] xs post) (m c : Nat) (hm : m ≤ xs.length) :
    (convert 80 9 (.slice (some ⟨g, 0, none⟩) m c)).run Tryd.prog w = .ok (.string (strOfNums ((xs.take m).map fun x : Nat => (x : Int)))) w := by
  refine run_convert_bytes_arg w 80 5 Tryd.underlying80 Tryd.underlying5 g 0 m c _ (by simp [hm]) ?_ 9 Tryd.underlying9
  intro i hi
  have hc := h.cell (j := i) (by omega)
  rw [hc]
  congr 2
  have h2 : i < xs.length := by omega
  simp [List.getD, List.getElem?_eq_getElem h2, hi]

end Go.Proofs.YtpedbahppkimbaaDoor
