/-
  Bytes as values; copy into a row that lies deeper.
-/
import Derived.Test.YtegihccdpohnnaaKit2
import Derived.Laws.CopyOwn
namespace Go.Proofs.Ytegihccdpohnnaa
open Go.RowKit
variable {P : Program}

/-- Bytes as values. -/
def bv (l : List UInt8) : List Value := l.map fun x => Value.int IntKind.u8 (x.toNat : Int)
theorem bv_length (l : List UInt8) : (bv l).length = l.length := by simp [bv]

theorem setRow_alloc_deep (W : World) (g : Nat) (o : Obj) (c : Array Value) (h : g < W.heap.size) : (W.alloc o).setRow g c = (W.setRow g c).alloc o := by
  simp only [World.setRow, World.alloc]
  congr 1
  apply Array.ext_getElem?
  intro i
  simp only [Array.getElem?_modify, Array.getElem?_push, Array.size_modify]
  by_cases h1 : g = i
  · subst h1
    have : ¬ g = W.heap.size := by omega
    simp [this]
  · simp [h1]

theorem setRow_drew (w : World) (g : Nat) (c : Array Value) : w.drew.setRow g c = (w.setRow g c).drew := rfl
/-- Blocks laid one after the other. -/
def addAll (W : World) : List Obj → World
  | [] => W
  | o :: os => addAll (W.alloc o) os
theorem size_addAll (os : List Obj) : ∀ W : World, (addAll W os).heap.size = W.heap.size + os.length := by
  induction os with
  | nil => intro W; rfl
  | cons o os ih => intro W; simp only [addAll, ih, World.size_alloc, List.length_cons]; omega
theorem heap_addAll (os : List Obj) : ∀ (W : World) (g : Nat), g < W.heap.size → (addAll W os).heap[g]? = W.heap[g]? := by
  induction os with
  | nil => intro W g _; rfl
  | cons o os ih => intro W g h; rw [addAll, ih _ _ (by rw [World.size_alloc]; omega), heap_alloc_old _ _ h]
theorem setRow_addAll (os : List Obj) : ∀ (W : World) (g : Nat) (c : Array Value), g < W.heap.size → (addAll W os).setRow g c = addAll (W.setRow g c) os := by
  induction os with
  | nil => intro W g c _; rfl
  | cons o os ih => intro W g c h; rw [addAll, ih _ _ _ (by rw [World.size_alloc]; omega), setRow_alloc_deep _ _ _ _ h]; rfl

/-- copy into a row that lies below other blocks, behind draws. -/
theorem run_copy_deep (W : World) (k : Nat) (os : List Obj) (g : Nat) (hg : g = W.heap.size) (dT sT ty elem : TypeId) (hu : P.underlying dT = some (.slice elem)) (hs : (P.info? elem).map (·.size) = some 1)
    (cur : Array Value) (t : TypeId) (off m m' : Nat) (src : Addr) (n n' : Nat) (cs : List Value) (out : Array Value) (hn : cs.length = Nat.min n m) (hfit : off + cs.length ≤ cur.size)
    (hsrc : ∀ j v, cs[j]? = some v → ((addAll (W.alloc (.cells cur t)) os).drewN k).cell? (src.add j) = some v) (h1 : ∀ v ∈ cs, v.oneCell' = true)
    (hout : (cur.toList.take off ++ cs ++ cur.toList.drop (off + cs.length)).toArray = out) :
    (Builtin.copy_ #[dT, sT] ty #[.slice (some ⟨g, off, none⟩) m m', .slice (some src) n n']).run P ((addAll (W.alloc (.cells cur t)) os).drewN k) =
      .ok (goInt cs.length) ((addAll (W.alloc (.cells out t)) os).drewN k) := by
  subst hg
  subst hout
  have hh : ((addAll (W.alloc (.cells cur t)) os).drewN k).heap[W.heap.size]? = some (.cells cur t (0, 0)) := by
    show (addAll (W.alloc (.cells cur t)) os).heap[W.heap.size]? = _
    rw [heap_addAll _ _ _ (by rw [World.size_alloc]; omega)]
    exact heap_alloc_last W _
  rw [run_copy_row (P := P) _ dT sT ty elem W.heap.size off m m' src n n' cur t cs hu hs hh hn hsrc hfit h1, setRow_drewN, setRow_addAll _ _ _ _ (by rw [World.size_alloc]; omega), World.setRow_alloc_new]

/-- A block that lies below other blocks. -/
theorem heap_deep (W : World) (o : Obj) (os : List Obj) (V : World) (hV : V = addAll (W.alloc o) os) : V.heap[W.heap.size]? = some o := by
  subst hV
  rw [heap_addAll _ _ _ (by rw [World.size_alloc]; omega)]
  exact heap_alloc_last W o

theorem heap_new2 (W : World) (g : Nat) (o : Obj) (hg : g = W.heap.size) : (W.alloc o).heap[g]? = some o := by subst hg; exact heap_alloc_last W o
theorem heap_drew_at (W : World) (g : Nat) : W.drew.heap[g]? = W.heap[g]? := rfl
theorem heap_drewN_at (W : World) (n g : Nat) : (W.drewN n).heap[g]? = W.heap[g]? := rfl

theorem list32 (l : List UInt8) (h : l.length = 32) : ∃ x0 x1 x2 x3 x4 x5 x6 x7 x8 x9 x10 x11 x12 x13 x14 x15 x16 x17 x18 x19 x20 x21 x22 x23 x24 x25 x26 x27 x28 x29 x30 x31 : UInt8, l = [x0, x1, x2, x3, x4, x5, x6, x7, x8, x9, x10, x11, x12, x13, x14, x15, x16, x17, x18, x19, x20, x21, x22, x23, x24, x25, x26, x27, x28, x29, x30, x31] := by
  match l, h with
  | [x0, x1, x2, x3, x4, x5, x6, x7, x8, x9, x10, x11, x12, x13, x14, x15, x16, x17, x18, x19, x20, x21, x22, x23, x24, x25, x26, x27, x28, x29, x30, x31], _ => exact ⟨x0, x1, x2, x3, x4, x5, x6, x7, x8, x9, x10, x11, x12, x13, x14, x15, x16, x17, x18, x19, x20, x21, x22, x23, x24, x25, x26, x27, x28, x29, x30, x31, rfl⟩
end Go.Proofs.Ytegihccdpohnnaa
