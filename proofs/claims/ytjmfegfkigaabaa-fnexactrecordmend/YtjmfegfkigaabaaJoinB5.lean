/-
  Letters: whether one is ok, by both; a letter measured and copied.
-/
import Derived.Test.YtjmfegfkigaabaaInts
import Derived.Test.YtjmfegfkigaabaaKit
import Derived.Laws.CopyRow
import Derived.Deep.WholeRow
import Derived.Deep.Draws
import Derived.Deep.MidRow
namespace Go.Proofs.Ytjmfegfkigaabaa
open Go.RowKit

/-- A letter that is ok: between the nodes f and t, of n bytes. -/
def letOk (f t : Int) (n : Nat) : Bool := decide (0 ≤ f ∧ f ≤ 20) && decide (0 ≤ t ∧ t ≤ 20) && decide (n ≤ 600)

theorem in20_is (n : Int) (w : World) : Calls Try.prog 22 #[.int .i64 n, .int .i64 0, .int .i64 20] w fun e w' => e = .returned (.bool (decide (0 ≤ n ∧ n ≤ 20))) ∧ w' = w := by
  have := in_is n 0 20 w
  rwa [← Bool.decide_and] at this
/-- A letter in the block B. -/
def Le (B : Nat) (f t : Int) (s : ByteArray) (W : World) : Prop := B < W.heap.size ∧ W.cell? ⟨B, 0, none⟩ = some (.int .i64 f) ∧ W.cell? ⟨B, 1, none⟩ = some (.int .i64 t) ∧ W.cell? ⟨B, 2, none⟩ = some (.string s)
theorem Le.new (W : World) (f t : Int) (s : ByteArray) (y : TypeId) : Le W.heap.size f t s (W.alloc (.cells #[.int .i64 f, .int .i64 t, .string s] y)) := by
  refine ⟨by simp, ?_, ?_, ?_⟩ <;> simp [go_sem]
theorem Le.call {B : Nat} {f t : Int} {s : ByteArray} {W W' : World} (h : Le B f t s W) (hb : Below W.heap.size W W') : Le B f t s W' :=
  ⟨Nat.lt_of_lt_of_le h.1 hb.size, (hb.cell h.1).trans h.2.1, (hb.cell h.1).trans h.2.2.1, (hb.cell h.1).trans h.2.2.2⟩
end Go.Proofs.Ytjmfegfkigaabaa

/-
  copy into a row that was just made.
-/
namespace Go.Proofs.Ytjmfegfkigaabaa
open Go.RowKit
variable {P : Program}

theorem setRow_drewN (w : World) (n g : Nat) (c : Array Value) : (w.drewN n).setRow g c = (w.setRow g c).drewN n := rfl

/-- copy into the row made last, behind draws. -/
theorem run_copy_last (W : World) (k : Nat) (dT sT ty elem : TypeId) (hu : P.underlying dT = some (.slice elem)) (hs : (P.info? elem).map (·.size) = some 1)
    (cur : Array Value) (t : TypeId) (m m' b o n n' : Nat) (cs : List Value) (hn : cs.length = Nat.min n m) (hm : cs.length = cur.size)
    (hsrc : W.rangeAt b o cs) (h1 : ∀ v ∈ cs, v.oneCell' = true) :
    (Builtin.copy_ #[dT, sT] ty #[.slice (some ⟨W.heap.size, 0, none⟩) m m', .slice (some ⟨b, o, none⟩) n n']).run P ((W.alloc (.cells cur t)).drewN k) =
      .ok (goInt cs.length) ((W.alloc (.cells cs.toArray t)).drewN k) := by
  have h := run_copy_row (P := P) ((W.alloc (.cells cur t)).drewN k) dT sT ty elem W.heap.size 0 m m' ⟨b, o, none⟩ n n' cur t cs hu hs (heap_alloc_last W _) hn
    (fun j v hv => by rw [Addr.add_mid]; exact (World.rangeAt_alloc hsrc _) j v hv) (by omega) h1
  rw [h, setRow_drewN, World.setRow_alloc_new]
  have e : (List.take 0 cur.toList ++ cs ++ List.drop (0 + cs.length) cur.toList) = cs := by
    rw [List.drop_of_length_le (by simp [hm])]; simp
  rw [e]
end Go.Proofs.Ytjmfegfkigaabaa
