/-
  The law of SlotSum, walked.
-/
import Derived.Test.YteaaaojafipllaaDoorReader3
namespace Go.Proofs.YteaaaojafipllaaDoor
open Go.RowKit Go.MuLone

theorem below_in {n B : Nat} {w W W' : World} (h : Below n w W) (hg : W.grownBy W' (some B)) (hB : n ≤ B) (hn : n ≤ W.heap.size) : Below n w W' :=
  ⟨hg.os.trans h.os, hg.tape.trans h.tape, hg.output.trans h.output, Nat.le_trans h.size hg.size, fun k hk => (hg.block k (by omega) (fun e => by injection e with e; omega)).trans (h.block k hk)⟩
end Go.Proofs.YteaaaojafipllaaDoor
