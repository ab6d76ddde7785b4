/-
  Small laws on worlds: what a call that only makes memory leaves.
-/
import Derived.Handy
import Derived.WalkLawsBesides
import Derived.Deep.RegionHeld3
import Derived.Laws.CopyRow
import Derived.Deep.WholeRow
import Derived.Deep.Draws
import Derived.Deep.MidRow
import Derived.Laws.CopyOwn
namespace Go.Proofs.Ytepgmdgcappfpaa
open Go.RowKit

theorem below_after {B : Nat} {w W w1 : World} (h : Below B w W) (hb : Below W.heap.size W w1) (hB : B ≤ W.heap.size) : Below B w w1 := h.trans (hb.mono hB)
theorem below_le {B : Nat} {w W : World} (h : Below B w W) (hB : B ≤ w.heap.size) : B ≤ W.heap.size := Nat.le_trans hB h.size
theorem below_call {w W w1 : World} (h : Below w.heap.size w W) (hb : Below W.heap.size W w1) : Below w.heap.size w w1 := h.trans (hb.mono h.size)
theorem c_alloc {w : World} {a : Addr} {v : Value} {o : Obj} (h : w.cell? a = some v) : (w.alloc o).cell? a = some v := by rw [World.cell?_alloc_some w a o (by rw [h]; rfl)]; exact h
theorem c_drew {w : World} {a : Addr} {v : Value} (h : w.cell? a = some v) : w.drew.cell? a = some v := h
theorem c_drewN {w : World} {a : Addr} {v : Value} {n : Nat} (h : w.cell? a = some v) : (w.drewN n).cell? a = some v := h
theorem c_set {w : World} {a p : Addr} {v x : Value} (h : w.cell? a = some v) (hb : p.block ≠ a.block) : (w.setCell p x).cell? a = some v := by
  rw [World.cell?_setCell_other _ _ _ _ (fun e => hb (congrArg Addr.block e))]; exact h
theorem c_call {W w1 : World} (hb : Below W.heap.size W w1) {a : Addr} {v : Value} (h : W.cell? a = some v) (hl : a.block < W.heap.size) : w1.cell? a = some v := (hb.cell hl).trans h
theorem set_same {w : World} {a : Addr} {x : Value} (h : (w.cell? a).isSome = true) : (w.setCell a x).cell? a = some x := by
  obtain ⟨u, hu⟩ := Option.isSome_iff_exists.1 h
  exact World.cell?_setCell_same _ _ _ hu
theorem set_off {w : World} {b i j : Nat} {x : Value} (h : i ≠ j) : (w.setCell ⟨b, i, none⟩ x).cell? ⟨b, j, none⟩ = w.cell? ⟨b, j, none⟩ :=
  World.cell?_setCell_other _ _ _ _ (fun e => h (congrArg Addr.off e))
/-- Four stores into one block: what lies there. -/
theorem four_set {w : World} {b : Nat} {x0 x1 x2 x3 : Value} (h : ∀ i, i < 4 → (w.cell? ⟨b, i, none⟩).isSome = true) :
    ((((w.setCell ⟨b, 0, none⟩ x0).setCell ⟨b, 1, none⟩ x1).setCell ⟨b, 2, none⟩ x2).setCell ⟨b, 3, none⟩ x3).cell? ⟨b, 0, none⟩ = some x0 ∧
    ((((w.setCell ⟨b, 0, none⟩ x0).setCell ⟨b, 1, none⟩ x1).setCell ⟨b, 2, none⟩ x2).setCell ⟨b, 3, none⟩ x3).cell? ⟨b, 1, none⟩ = some x1 ∧
    ((((w.setCell ⟨b, 0, none⟩ x0).setCell ⟨b, 1, none⟩ x1).setCell ⟨b, 2, none⟩ x2).setCell ⟨b, 3, none⟩ x3).cell? ⟨b, 2, none⟩ = some x2 ∧
    ((((w.setCell ⟨b, 0, none⟩ x0).setCell ⟨b, 1, none⟩ x1).setCell ⟨b, 2, none⟩ x2).setCell ⟨b, 3, none⟩ x3).cell? ⟨b, 3, none⟩ = some x3 := by
  refine ⟨?_, ?_, ?_, ?_⟩
  · rw [set_off (by omega), set_off (by omega), set_off (by omega), set_same (h 0 (by omega))]
  · rw [set_off (by omega), set_off (by omega), set_same (by rw [set_off (by omega)]; exact h 1 (by omega))]
  · rw [set_off (by omega), set_same (by rw [set_off (by omega), set_off (by omega)]; exact h 2 (by omega))]
  · rw [set_same (by rw [set_off (by omega), set_off (by omega), set_off (by omega)]; exact h 3 (by omega))]
end Go.Proofs.Ytepgmdgcappfpaa

/-
  copy into a row that was just made.
-/
namespace Go.Proofs.Ytepgmdgcappfpaa
open Go.RowKit
variable {P : Program}

theorem setRow_drewN (w : World) (n g : Nat) (c : Array Value) : (w.drewN n).setRow g c = (w.setRow g c).drewN n := rfl

/-- copy into the row made last, behind draws. -/
theorem run_copy_last (W : World) (k : Nat) (dT sT ty elem : TypeId) (hu : P.underlying dT = some (.slice elem)) (hs : (P.info? elem).map (·.size) = some 1)
    (cur : Array Value) (t : TypeId) (m m' b o n n' : Nat) (cs : List Value) (hn : cs.length = Nat.min n m) (hm : cs.length = cur.size)
    (hsrc : W.rangeAt b o cs) (h1 : ∀ v ∈ cs, v.oneCell' = true) :
    (Builtin.copy_ #[dT, sT] ty #[.slice (some ⟨W.heap.size, 0, none⟩) m m', .slice (some ⟨b, o, none⟩) n n']).run P ((W.alloc (.cells cur t)).drewN k) =
      .ok (goInt cs.length) ((W.alloc (.cells cs.toArray t)).drewN k) := by
  have h := run_copy_row (P := P) ((W.alloc (.cells cur t)).drewN k) dT sT ty elem W.heap.size 0 m m' ⟨b, o, none⟩ n n' cur t cs hu hs (heap_alloc_last W _) hn
    (fun j v hv => by rw [Addr.add_mid]; exact (World.rangeAt_alloc hsrc _) j v hv) (by omega) h1
  rw [h, setRow_drewN, World.setRow_alloc_new]
  have e : (List.take 0 cur.toList ++ cs ++ List.drop (0 + cs.length) cur.toList) = cs := by
    rw [List.drop_of_length_le (by simp [hm])]; simp
  rw [e]
end Go.Proofs.Ytepgmdgcappfpaa

/-
  Bytes as values; copy into a row that lies deeper.
-/
namespace Go.Proofs.Ytepgmdgcappfpaa
open Go.RowKit
variable {P : Program}

/-- Bytes as values. -/
def bv (l : List UInt8) : List Value := l.map fun x => Value.int IntKind.u8 (x.toNat : Int)
theorem bv_length (l : List UInt8) : (bv l).length = l.length := by simp [bv]

theorem setRow_alloc_deep (W : World) (g : Nat) (o : Obj) (c : Array Value) (h : g < W.heap.size) : (W.alloc o).setRow g c = (W.setRow g c).alloc o := by
  simp only [World.setRow, World.alloc]
  congr 1
  apply Array.ext_getElem?
  intro i
  simp only [Array.getElem?_modify, Array.getElem?_push, Array.size_modify]
  by_cases h1 : g = i
  · subst h1
    have : ¬ g = W.heap.size := by omega
    simp [this]
  · simp [h1]

theorem setRow_drew (w : World) (g : Nat) (c : Array Value) : w.drew.setRow g c = (w.setRow g c).drew := rfl
/-- Blocks laid one after the other. -/
def addAll (W : World) : List Obj → World
  | [] => W
  | o :: os => addAll (W.alloc o) os
theorem size_addAll (os : List Obj) : ∀ W : World, (addAll W os).heap.size = W.heap.size + os.length := by
  induction os with
  | nil => intro W; rfl
  | cons o os ih => intro W; simp only [addAll, ih, World.size_alloc, List.length_cons]; omega
theorem heap_addAll (os : List Obj) : ∀ (W : World) (g : Nat), g < W.heap.size → (addAll W os).heap[g]? = W.heap[g]? := by
  induction os with
  | nil => intro W g _; rfl
  | cons o os ih => intro W g h; rw [addAll, ih _ _ (by rw [World.size_alloc]; omega), heap_alloc_old _ _ h]
theorem setRow_addAll (os : List Obj) : ∀ (W : World) (g : Nat) (c : Array Value), g < W.heap.size → (addAll W os).setRow g c = addAll (W.setRow g c) os := by
  induction os with
  | nil => intro W g c _; rfl
  | cons o os ih => intro W g c h; rw [addAll, ih _ _ _ (by rw [World.size_alloc]; omega), setRow_alloc_deep _ _ _ _ h]; rfl

/-- copy into a row that lies below other blocks, behind draws. -/
theorem run_copy_deep (W : World) (k : Nat) (os : List Obj) (g : Nat) (hg : g = W.heap.size) (dT sT ty elem : TypeId) (hu : P.underlying dT = some (.slice elem)) (hs : (P.info? elem).map (·.size) = some 1)
    (cur : Array Value) (t : TypeId) (off m m' : Nat) (src : Addr) (n n' : Nat) (cs : List Value) (out : Array Value) (hn : cs.length = Nat.min n m) (hfit : off + cs.length ≤ cur.size)
    (hsrc : ∀ j v, cs[j]? = some v → ((addAll (W.alloc (.cells cur t)) os).drewN k).cell? (src.add j) = some v) (h1 : ∀ v ∈ cs, v.oneCell' = true)
    (hout : (cur.toList.take off ++ cs ++ cur.toList.drop (off + cs.length)).toArray = out) :
    (Builtin.copy_ #[dT, sT] ty #[.slice (some ⟨g, off, none⟩) m m', .slice (some src) n n']).run P ((addAll (W.alloc (.cells cur t)) os).drewN k) =
      .ok (goInt cs.length) ((addAll (W.alloc (.cells out t)) os).drewN k) := by
  subst hg
  subst hout
  have hh : ((addAll (W.alloc (.cells cur t)) os).drewN k).heap[W.heap.size]? = some (.cells cur t (0, 0)) := by
    show (addAll (W.alloc (.cells cur t)) os).heap[W.heap.size]? = _
    rw [heap_addAll _ _ _ (by rw [World.size_alloc]; omega)]
    exact heap_alloc_last W _
  rw [run_copy_row (P := P) _ dT sT ty elem W.heap.size off m m' src n n' cur t cs hu hs hh hn hsrc hfit h1, setRow_drewN, setRow_addAll _ _ _ _ (by rw [World.size_alloc]; omega), World.setRow_alloc_new]

/-- A block that lies below other blocks. -/
theorem heap_deep (W : World) (o : Obj) (os : List Obj) (V : World) (hV : V = addAll (W.alloc o) os) : V.heap[W.heap.size]? = some o := by
  subst hV
  rw [heap_addAll _ _ _ (by rw [World.size_alloc]; omega)]
  exact heap_alloc_last W o

theorem heap_new2 (W : World) (g : Nat) (o : Obj) (hg : g = W.heap.size) : (W.alloc o).heap[g]? = some o := by subst hg; exact heap_alloc_last W o
theorem heap_drew_at (W : World) (g : Nat) : W.drew.heap[g]? = W.heap[g]? := rfl
theorem heap_drewN_at (W : World) (n g : Nat) : (W.drewN n).heap[g]? = W.heap[g]? := rfl

theorem list32 (l : List UInt8) (h : l.length = 32) : ∃ x0 x1 x2 x3 x4 x5 x6 x7 x8 x9 x10 x11 x12 x13 x14 x15 x16 x17 x18 x19 x20 x21 x22 x23 x24 x25 x26 x27 x28 x29 x30 x31 : UInt8, l = [x0, x1, x2, x3, x4, x5, x6, x7, x8, x9, x10, x11, x12, x13, x14, x15, x16, x17, x18, x19, x20, x21, x22, x23, x24, x25, x26, x27, x28, x29, x30, x31] := by
  match l, h with
  | [x0, x1, x2, x3, x4, x5, x6, x7, x8, x9, x10, x11, x12, x13, x14, x15, x16, x17, x18, x19, x20, x21, x22, x23, x24, x25, x26, x27, x28, x29, x30, x31], _ => exact ⟨x0, x1, x2, x3, x4, x5, x6, x7, x8, x9, x10, x11, x12, x13, x14, x15, x16, x17, x18, x19, x20, x21, x22, x23, x24, x25, x26, x27, x28, x29, x30, x31, rfl⟩
end Go.Proofs.Ytepgmdgcappfpaa
