/-
  The law of TreeRoot, walked.
-/
import Derived.Test.YtdcmhkimpmboeaaTree2
import Derived.Test.YtdcmhkimpmboeaaWalks2
namespace Go.Proofs.Ytdcmhkimpmboeaa
open Go.RowKit

end Go.Proofs.Ytdcmhkimpmboeaa
