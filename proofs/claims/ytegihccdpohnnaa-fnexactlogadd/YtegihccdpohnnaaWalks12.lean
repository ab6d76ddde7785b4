/-
  hashRest: what is left of a text, laid into its last block or two.
-/
import Derived.Test.YtegihccdpohnnaaRows
import Derived.Test.YtegihccdpohnnaaPlain2
import Derived.Test.YtegihccdpohnnaaKit5
import Derived.Deep.QuietTactic
import Derived.BigQuiet
import Derived.Deep.RegionWith
import Derived.Deep.RegionHeld3
import Derived.Deep.CutRange
import Derived.Deep.DeepCutAuto
import Derived.Deep.CutBlock
import Derived.Laws.Tables
import Derived.Test.YtegihccdpohnnaaPlain3
import Derived.Test.YtegihccdpohnnaaKit6
import Derived.Test.YtegihccdpohnnaaWalks1
import Derived.Test.YtegihccdpohnnaaWalks3
namespace Go.Proofs.Ytegihccdpohnnaa
open Go.RowKit

theorem frozen_setRow_other (w : World) (g : Nat) (c : Array Value) (a : Addr) (h : a.block ≠ g) : (w.setRow g c).frozen? a = w.frozen? a := World.frozen?_of_block (setRow_other w g a.block c h)

end Go.Proofs.Ytegihccdpohnnaa
