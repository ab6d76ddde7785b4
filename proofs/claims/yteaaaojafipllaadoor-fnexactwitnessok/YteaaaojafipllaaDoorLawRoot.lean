/-
  The law of TreeRoot, walked.
-/
import Derived.Test.YteaaaojafipllaaDoorTree2
import Derived.Test.YteaaaojafipllaaDoorWalks2
namespace Go.Proofs.YteaaaojafipllaaDoor
open Go.RowKit

end Go.Proofs.YteaaaojafipllaaDoor
