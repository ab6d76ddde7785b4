/-
  Bytes as values; copy into a row that lies deeper.
-/
import Derived.Test.YteaaaojafipllaaDoorJoinB6
import Derived.Laws.CopyOwn
import Derived.Laws.AppendOwn
import Derived.Laws.OwnMore
import Derived.Laws.BytesString
import Derived.OwnWalk
import Derived.Test.YteaaaojafipllaaDoorRows
namespace Go.Proofs.YteaaaojafipllaaDoor
open Go.RowKit
variable {P : Program}

/-- Bytes as values. -/
def bv (l : List UInt8) : List Value := l.map fun x => Value.int IntKind.u8 (x.toNat : Int)
theorem bv_length (l : List UInt8) : (bv l).length = l.length := by simp [bv]

theorem setRow_alloc_deep (W : World) (g : Nat) (o : Obj) (c : Array Value) (h : g < W.heap.size) : (W.alloc o).setRow g c = (W.setRow g c).alloc o := by
  simp only [World.setRow, World.alloc]
  congr 1
  apply Array.ext_getElem?
  intro i
  simp only [Array.getElem?_modify, Array.getElem?_push, Array.size_modify]
  by_cases h1 : g = i
  · subst h1
    have : ¬ g = W.heap.size := by omega
    simp [this]
  · simp [h1]

theorem setRow_drew (w : World) (g : Nat) (c : Array Value) : w.drew.setRow g c = (w.setRow g c).drew := rfl
/-- Blocks laid one after the other. -/
def addAll (W : World) : List Obj → World
  | [] => W
  | o :: os => addAll (W.alloc o) os
theorem size_addAll (os : List Obj) : ∀ W : World, (addAll W os).heap.size = W.heap.size + os.length := by
  induction os with
  | nil => intro W; rfl
  | cons o os ih => intro W; simp only [addAll, ih, World.size_alloc, List.length_cons]; omega
theorem heap_addAll (os : List Obj) : ∀ (W : World) (g : Nat), g < W.heap.size → (addAll W os).heap[g]? = W.heap[g]? := by
  induction os with
  | nil => intro W g _; rfl
  | cons o os ih => intro W g h; rw [addAll, ih _ _ (by rw [World.size_alloc]; omega), heap_alloc_old _ _ h]
theorem setRow_addAll (os : List Obj) : ∀ (W : World) (g : Nat) (c : Array Value), g < W.heap.size → (addAll W os).setRow g c = addAll (W.setRow g c) os := by
  induction os with
  | nil => intro W g c _; rfl
  | cons o os ih => intro W g c h; rw [addAll, ih _ _ _ (by rw [World.size_alloc]; omega), setRow_alloc_deep _ _ _ _ h]; rfl

/-- copy into a row that lies below other blocks, behind draws. -/
theorem run_copy_deep (W : World) (k : Nat) (os : List Obj) (g : Nat) (hg : g = W.heap.size) (dT sT ty elem : TypeId) (hu : P.underlying dT = some (.slice elem)) (hs : (P.info? elem).map (·.size) = some 1)
    (cur : Array Value) (t : TypeId) (off m m' : Nat) (src : Addr) (n n' : Nat) (cs : List Value) (out : Array Value) (hn : cs.length = Nat.min n m) (hfit : off + cs.length ≤ cur.size)
    (hsrc : ∀ j v, cs[j]? = some v → ((addAll (W.alloc (.cells cur t)) os).drewN k).cell? (src.add j) = some v) (h1 : ∀ v ∈ cs, v.oneCell' = true)
    (hout : (cur.toList.take off ++ cs ++ cur.toList.drop (off + cs.length)).toArray = out) :
    (Builtin.copy_ #[dT, sT] ty #[.slice (some ⟨g, off, none⟩) m m', .slice (some src) n n']).run P ((addAll (W.alloc (.cells cur t)) os).drewN k) =
      .ok (goInt cs.length) ((addAll (W.alloc (.cells out t)) os).drewN k) := by
  subst hg
  subst hout
  have hh : ((addAll (W.alloc (.cells cur t)) os).drewN k).heap[W.heap.size]? = some (.cells cur t (0, 0)) := by
    show (addAll (W.alloc (.cells cur t)) os).heap[W.heap.size]? = _
    rw [heap_addAll _ _ _ (by rw [World.size_alloc]; omega)]
    exact heap_alloc_last W _
  rw [run_copy_row (P := P) _ dT sT ty elem W.heap.size off m m' src n n' cur t cs hu hs hh hn hsrc hfit h1, setRow_drewN, setRow_addAll _ _ _ _ (by rw [World.size_alloc]; omega), World.setRow_alloc_new]

/-- A block that lies below other blocks. -/
theorem heap_deep (W : World) (o : Obj) (os : List Obj) (V : World) (hV : V = addAll (W.alloc o) os) : V.heap[W.heap.size]? = some o := by
  subst hV
  rw [heap_addAll _ _ _ (by rw [World.size_alloc]; omega)]
  exact heap_alloc_last W o

theorem heap_new2 (W : World) (g : Nat) (o : Obj) (hg : g = W.heap.size) : (W.alloc o).heap[g]? = some o := by subst hg; exact heap_alloc_last W o
theorem heap_drew_at (W : World) (g : Nat) : W.drew.heap[g]? = W.heap[g]? := rfl
theorem heap_drewN_at (W : World) (n g : Nat) : (W.drewN n).heap[g]? = W.heap[g]? := rfl

theorem list32 (l : List UInt8) (h : l.length = 32) : ∃ x0 x1 x2 x3 x4 x5 x6 x7 x8 x9 x10 x11 x12 x13 x14 x15 x16 x17 x18 x19 x20 x21 x22 x23 x24 x25 x26 x27 x28 x29 x30 x31 : UInt8, l = [x0, x1, x2, x3, x4, x5, x6, x7, x8, x9, x10, x11, x12, x13, x14, x15, x16, x17, x18, x19, x20, x21, x22, x23, x24, x25, x26, x27, x28, x29, x30, x31] := by
  match l, h with
  | [x0, x1, x2, x3, x4, x5, x6, x7, x8, x9, x10, x11, x12, x13, x14, x15, x16, x17, x18, x19, x20, x21, x22, x23, x24, x25, x26, x27, x28, x29, x30, x31], _ => exact ⟨x0, x1, x2, x3, x4, x5, x6, x7, x8, x9, x10, x11, x12, x13, x14, x15, x16, x17, x18, x19, x20, x21, x22, x23, x24, x25, x26, x27, x28, x29, x30, x31, rfl⟩
end Go.Proofs.YteaaaojafipllaaDoor

/-
  Bytes that are gathered by append, and their string.
-/
namespace Go.Proofs.YteaaaojafipllaaDoor
open Go.RowKit
variable {P : Program}

/-- A string of bytes. -/
abbrev str (l : List UInt8) : ByteArray := ⟨l.toArray⟩

theorem foldl_push (l : List UInt8) : ∀ r : ByteArray, (l.map fun x => (x.toNat : Int)).foldl (fun r n => r.push (UInt8.ofNat n.toNat)) r = ⟨r.data ++ l.toArray⟩ := by
  induction l with
  | nil => intro r; simp
  | cons x l ih =>
    intro r
    simp only [List.map_cons, List.foldl_cons]
    rw [ih]
    congr 1
    simp [ByteArray.push]

theorem bv_map (l : List UInt8) : bv l = (l.map fun x => (x.toNat : Int)).map (Value.int .u8) := by simp [bv]

/-- Cells that hold bytes, read as a string. -/
theorem run_str_cells (w : World) (a : Addr) (len cap : Nat) (l : List UInt8) (hl : l.length = len) (h : ∀ j v, (bv l)[j]? = some v → w.cell? (a.add j) = some v) :
    (Conv.bytesToString (.slice (some a) len cap)).run P w = .ok (.string (str l)) w := by
  have h1 : (loadCells a len).run P w = .ok (bv l).toArray w := by
    have := run_loadCells_list (P := P) w a (bv l) h
    rwa [bv_length, hl] at this
  rw [bv_map] at h1
  rw [run_bytesToString w a len cap _ h1, foldl_push]
  simp [str]

theorem run_str_own (w : World) (base : Nat) (v : Value) (l : List UInt8) (h : w.ownsRow base 5 1 v l.length (bv l)) (hs : P.underlying 76 = some (.slice 5)) (he : P.underlying 5 = some (.int .u8)) (hd : P.underlying 9 = some .string) :
    (convert 76 9 v).run P w = .ok (.string (str l)) w := by
  rcases h with ⟨_, ⟨rfl, hn⟩ | ⟨g, cap, cur, rfl, hb, hg, hn, hcap, hsz, htk⟩⟩
  · rw [run_convert_bytes_string w 76 9 5 none 0 0 hs he hd]
    have : l = [] := List.length_eq_zero_iff.1 hn
    subst this
    simp [Conv.bytesToString, str]
    rfl
  · rw [run_convert_bytes_string w 76 9 5 _ _ _ hs he hd]
    refine run_str_cells w _ _ _ l rfl (fun j u hu => ?_)
    rw [Addr.add_mid, cell_of_row w g _ cur 5 (0, 0) hg]
    rw [← htk] at hu
    rw [List.getElem?_take] at hu
    split at hu
    · simpa using hu
    · cases hu
end Go.Proofs.YteaaaojafipllaaDoor

/-
  One byte more: append to bytes that the call itself gathers.
-/
namespace Go.Proofs.YteaaaojafipllaaDoor
open Go.RowKit

theorem info5 : (Tryd.prog.info? 5).map (fun i => (i.zero, i.size, i.bytes)) = some (some (.int .u8 0), 1, 1) := by kernel_rfl

/-- append(b, x), b bytes of the call's own, x one byte. -/
theorem wpList_append_byte {w : World} {ops : Array Oper} {rest : List Oper} {o : Oper} {a : Act} {Q : Exit → Act → World → Prop} (hgd : o.guard = none) (s x : Operand)
    (ho : o.op = .call { callee := .builtin .append, args := #[s, x], argTypes := #[76, 76] })
    (base : Nat) (v : Value) (l : List UInt8) (y : UInt8) (hs : a.eval s = v) (hown : w.ownsRow base 5 1 v l.length (bv l))
    (ad : Addr) (hx : a.eval x = .slice (some ad) 1 1) (hcell : w.cell? ad = some (.int .u8 (y.toNat : Int)))
    (hlen : l.length < 1000000000) (hbase : base ≤ w.heap.size)
    (h : ∀ v' w', w'.ownsRow base 5 1 v' (l ++ [y]).length (bv (l ++ [y])) → w.grownBy w' v.ownBlock → wpList Tryd.prog ops Q rest (a.put o.dst v') w') : wpList Tryd.prog ops Q (o :: rest) a w := by
  obtain ⟨i0, hi, hz0, hz1, hz2⟩ := info_parts info5
  refine wpList_append_own w hgd s x 76 ho base 5 i0 (.int .u8 0) 1 1 Tryd.underlying76 hi hz0 hz1 hz2 rfl (by decide) v l.length (bv l) hs hown ad 1 1 [.int .u8 (y.toNat : Int)] hx rfl ?_ ?_ ?_ ?_ hbase ?_
  · intro j u hj
    match j, hj with
    | 0, hj => simp at hj; subst hj; simpa [Addr.add] using hcell
  · intro u hu; simp at hu; subst hu; rfl
  · unfold maxLen; omega
  · omega
  · intro v' w' h1 h2 _
    refine h v' w' ?_ h2
    simpa [bv] using h1
end Go.Proofs.YteaaaojafipllaaDoor
