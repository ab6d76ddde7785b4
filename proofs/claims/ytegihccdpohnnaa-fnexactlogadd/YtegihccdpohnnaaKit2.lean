/-
  copy into a row that was just made.
-/
import Derived.Test.YtegihccdpohnnaaKit
import Derived.Laws.CopyRow
import Derived.Deep.WholeRow
import Derived.Deep.Draws
import Derived.Deep.MidRow
namespace Go.Proofs.Ytegihccdpohnnaa
open Go.RowKit
variable {P : Program}

theorem setRow_drewN (w : World) (n g : Nat) (c : Array Value) : (w.drewN n).setRow g c = (w.setRow g c).drewN n := rfl

/-- copy into the row made last, behind draws. -/
theorem run_copy_last (W : World) (k : Nat) (dT sT ty elem : TypeId) (hu : P.underlying dT = some (.slice elem)) (hs : (P.info? elem).map (·.size) = some 1)
    (cur : Array Value) (t : TypeId) (m m' b o n n' : Nat) (cs : List Value) (hn : cs.length = Nat.min n m) (hm : cs.length = cur.size)
    (hsrc : W.rangeAt b o cs) (h1 : ∀ v ∈ cs, v.oneCell' = true) :
    (Builtin.copy_ #[dT, sT] ty #[.slice (some ⟨W.heap.size, 0, none⟩) m m', .slice (some ⟨b, o, none⟩) n n']).run P ((W.alloc (.cells cur t)).drewN k) =
      .ok (goInt cs.length) ((W.alloc (.cells cs.toArray t)).drewN k) := by
  have h := run_copy_row (P := P) ((W.alloc (.cells cur t)).drewN k) dT sT ty elem W.heap.size 0 m m' ⟨b, o, none⟩ n n' cur t cs hu hs (heap_alloc_last W _) hn
    (fun j v hv => by rw [Addr.add_mid]; exact (World.rangeAt_alloc hsrc _) j v hv) (by omega) h1
  rw [h, setRow_drewN, World.setRow_alloc_new]
  have e : (List.take 0 cur.toList ++ cs ++ List.drop (0 + cs.length) cur.toList) = cs := by
    rw [List.drop_of_length_le (by simp [hm])]; simp
  rw [e]
end Go.Proofs.Ytegihccdpohnnaa
