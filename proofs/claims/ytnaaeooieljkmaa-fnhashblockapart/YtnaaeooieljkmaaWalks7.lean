/-
  HashBytes, on both sides.
-/
import Derived.Test.YtnaaeooieljkmaaRows
import Derived.Test.YtnaaeooieljkmaaPlain2
import Derived.Test.YtnaaeooieljkmaaKit5
import Derived.Deep.QuietTactic
import Derived.BigQuiet
import Derived.Deep.RegionWith
import Derived.Deep.RegionHeld3
import Derived.Deep.CutRange
import Derived.Deep.DeepCutAuto
import Derived.Deep.CutBlock
import Derived.Laws.Tables
import Derived.Test.YtnaaeooieljkmaaWalks6
import Derived.Test.YtnaaeooieljkmaaWalks5
import Derived.Test.YtnaaeooieljkmaaWalks1
namespace Go.Proofs.Ytnaaeooieljkmaa
open Go.RowKit

theorem str_append (a b : List UInt8) : str a ++ str b = str (a ++ b) := ByteArray.mk_append_mk a b

/-- A row of bytes made last, as a string. -/
theorem run_str_last (W : World) (t : TypeId) (l : List UInt8) (n : Nat) (hn : l.length = n) :
    (convert 22 9 (.slice (some ⟨W.heap.size, 0, none⟩) n n)).run Try.prog (W.alloc (.cells (bv l).toArray t)) = .ok (.string (str l)) (W.alloc (.cells (bv l).toArray t)) := by
  rw [run_convert_bytes_string _ 22 9 5 _ _ _ Try.underlying22 Try.underlying5 Try.underlying9]
  refine run_str_cells _ _ _ _ l hn (fun j u hu => ?_)
  rw [Addr.add_mid, cell_of_row _ W.heap.size _ _ t (0, 0) (heap_alloc_last W _)]
  simpa using hu

end Go.Proofs.Ytnaaeooieljkmaa
