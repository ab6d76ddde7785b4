/-
  copy into a row that was just made.
-/
import Derived.Test.YtiipfedjjhpbpaaJoinB1
import Derived.Laws.CopyRow
import Derived.Deep.WholeRow
import Derived.Deep.Draws
import Derived.Deep.MidRow
import Derived.Laws.CopyOwn
import Derived.Test.YtiipfedjjhpbpaaRows
import Derived.Deep.QuietTactic
import Derived.BigQuiet
import Derived.Deep.RegionWith
import Derived.Deep.RegionHeld3
import Derived.Deep.CutRange
import Derived.Deep.DeepCutAuto
import Derived.Deep.CutBlock
import Derived.Laws.MakeOwn
import Derived.Laws.AppendOwn
import Derived.Test.YtiipfedjjhpbpaaLet
import Derived.Deep.RegionHeld
namespace Go.Proofs.Ytiipfedjjhpbpaa
open Go.RowKit
variable {P : Program}

theorem setRow_drewN (w : World) (n g : Nat) (c : Array Value) : (w.drewN n).setRow g c = (w.setRow g c).drewN n := rfl

/-- copy into the row made last, behind draws. -/
theorem run_copy_last (W : World) (k : Nat) (dT sT ty elem : TypeId) (hu : P.underlying dT = some (.slice elem)) (hs : (P.info? elem).map (·.size) = some 1)
    (cur : Array Value) (t : TypeId) (m m' b o n n' : Nat) (cs : List Value) (hn : cs.length = Nat.min n m) (hm : cs.length = cur.size)
    (hsrc : W.rangeAt b o cs) (h1 : ∀ v ∈ cs, v.oneCell' = true) :
    (Builtin.copy_ #[dT, sT] ty #[.slice (some ⟨W.heap.size, 0, none⟩) m m', .slice (some ⟨b, o, none⟩) n n']).run P ((W.alloc (.cells cur t)).drewN k) =
      .ok (goInt cs.length) ((W.alloc (.cells cs.toArray t)).drewN k) := by
  have h := run_copy_row (P := P) ((W.alloc (.cells cur t)).drewN k) dT sT ty elem W.heap.size 0 m m' ⟨b, o, none⟩ n n' cur t cs hu hs (heap_alloc_last W _) hn
    (fun j v hv => by rw [Addr.add_mid]; exact (World.rangeAt_alloc hsrc _) j v hv) (by omega) h1
  rw [h, setRow_drewN, World.setRow_alloc_new]
  have e : (List.take 0 cur.toList ++ cs ++ List.drop (0 + cs.length) cur.toList) = cs := by
    rw [List.drop_of_length_le (by simp [hm])]; simp
  rw [e]
end Go.Proofs.Ytiipfedjjhpbpaa

/-
  Bytes as values; copy into a row that lies deeper.
-/
namespace Go.Proofs.Ytiipfedjjhpbpaa
open Go.RowKit
variable {P : Program}

/-- Bytes as values. -/
def bv (l : List UInt8) : List Value := l.map fun x => Value.int IntKind.u8 (x.toNat : Int)
theorem bv_length (l : List UInt8) : (bv l).length = l.length := by simp [bv]

theorem setRow_alloc_deep (W : World) (g : Nat) (o : Obj) (c : Array Value) (h : g < W.heap.size) : (W.alloc o).setRow g c = (W.setRow g c).alloc o := by
  simp only [World.setRow, World.alloc]
  congr 1
  apply Array.ext_getElem?
  intro i
  simp only [Array.getElem?_modify, Array.getElem?_push, Array.size_modify]
  by_cases h1 : g = i
  · subst h1
    have : ¬ g = W.heap.size := by omega
    simp [this]
  · simp [h1]

theorem setRow_drew (w : World) (g : Nat) (c : Array Value) : w.drew.setRow g c = (w.setRow g c).drew := rfl
/-- Blocks laid one after the other. -/
def addAll (W : World) : List Obj → World
  | [] => W
  | o :: os => addAll (W.alloc o) os
theorem size_addAll (os : List Obj) : ∀ W : World, (addAll W os).heap.size = W.heap.size + os.length := by
  induction os with
  | nil => intro W; rfl
  | cons o os ih => intro W; simp only [addAll, ih, World.size_alloc, List.length_cons]; omega
theorem heap_addAll (os : List Obj) : ∀ (W : World) (g : Nat), g < W.heap.size → (addAll W os).heap[g]? = W.heap[g]? := by
  induction os with
  | nil => intro W g _; rfl
  | cons o os ih => intro W g h; rw [addAll, ih _ _ (by rw [World.size_alloc]; omega), heap_alloc_old _ _ h]
theorem setRow_addAll (os : List Obj) : ∀ (W : World) (g : Nat) (c : Array Value), g < W.heap.size → (addAll W os).setRow g c = addAll (W.setRow g c) os := by
  induction os with
  | nil => intro W g c _; rfl
  | cons o os ih => intro W g c h; rw [addAll, ih _ _ _ (by rw [World.size_alloc]; omega), setRow_alloc_deep _ _ _ _ h]; rfl

/-- copy into a row that lies below other blocks, behind draws. -/
theorem run_copy_deep (W : World) (k : Nat) (os : List Obj) (g : Nat) (hg : g = W.heap.size) (dT sT ty elem : TypeId) (hu : P.underlying dT = some (.slice elem)) (hs : (P.info? elem).map (·.size) = some 1)
    (cur : Array Value) (t : TypeId) (off m m' : Nat) (src : Addr) (n n' : Nat) (cs : List Value) (out : Array Value) (hn : cs.length = Nat.min n m) (hfit : off + cs.length ≤ cur.size)
    (hsrc : ∀ j v, cs[j]? = some v → ((addAll (W.alloc (.cells cur t)) os).drewN k).cell? (src.add j) = some v) (h1 : ∀ v ∈ cs, v.oneCell' = true)
    (hout : (cur.toList.take off ++ cs ++ cur.toList.drop (off + cs.length)).toArray = out) :
    (Builtin.copy_ #[dT, sT] ty #[.slice (some ⟨g, off, none⟩) m m', .slice (some src) n n']).run P ((addAll (W.alloc (.cells cur t)) os).drewN k) =
      .ok (goInt cs.length) ((addAll (W.alloc (.cells out t)) os).drewN k) := by
  subst hg
  subst hout
  have hh : ((addAll (W.alloc (.cells cur t)) os).drewN k).heap[W.heap.size]? = some (.cells cur t (0, 0)) := by
    show (addAll (W.alloc (.cells cur t)) os).heap[W.heap.size]? = _
    rw [heap_addAll _ _ _ (by rw [World.size_alloc]; omega)]
    exact heap_alloc_last W _
  rw [run_copy_row (P := P) _ dT sT ty elem W.heap.size off m m' src n n' cur t cs hu hs hh hn hsrc hfit h1, setRow_drewN, setRow_addAll _ _ _ _ (by rw [World.size_alloc]; omega), World.setRow_alloc_new]

/-- A block that lies below other blocks. -/
theorem heap_deep (W : World) (o : Obj) (os : List Obj) (V : World) (hV : V = addAll (W.alloc o) os) : V.heap[W.heap.size]? = some o := by
  subst hV
  rw [heap_addAll _ _ _ (by rw [World.size_alloc]; omega)]
  exact heap_alloc_last W o

theorem heap_new2 (W : World) (g : Nat) (o : Obj) (hg : g = W.heap.size) : (W.alloc o).heap[g]? = some o := by subst hg; exact heap_alloc_last W o
theorem heap_drew_at (W : World) (g : Nat) : W.drew.heap[g]? = W.heap[g]? := rfl
theorem heap_drewN_at (W : World) (n g : Nat) : (W.drewN n).heap[g]? = W.heap[g]? := rfl

theorem list32 (l : List UInt8) (h : l.length = 32) : ∃ x0 x1 x2 x3 x4 x5 x6 x7 x8 x9 x10 x11 x12 x13 x14 x15 x16 x17 x18 x19 x20 x21 x22 x23 x24 x25 x26 x27 x28 x29 x30 x31 : UInt8, l = [x0, x1, x2, x3, x4, x5, x6, x7, x8, x9, x10, x11, x12, x13, x14, x15, x16, x17, x18, x19, x20, x21, x22, x23, x24, x25, x26, x27, x28, x29, x30, x31] := by
  match l, h with
  | [x0, x1, x2, x3, x4, x5, x6, x7, x8, x9, x10, x11, x12, x13, x14, x15, x16, x17, x18, x19, x20, x21, x22, x23, x24, x25, x26, x27, x28, x29, x30, x31], _ => exact ⟨x0, x1, x2, x3, x4, x5, x6, x7, x8, x9, x10, x11, x12, x13, x14, x15, x16, x17, x18, x19, x20, x21, x22, x23, x24, x25, x26, x27, x28, x29, x30, x31, rfl⟩
end Go.Proofs.Ytiipfedjjhpbpaa

/-
  A slice of texts: what it holds; LeavesOk of both, szStringS, eqStringS: walked.
-/
namespace Go.Proofs.Ytiipfedjjhpbpaa
open Go.RowKit

/-- The slice v holds the texts S. -/
def Txt (W : World) (v : Value) (S : List ByteArray) : Prop :=
  (v = .slice none 0 0 ∧ S = []) ∨ ∃ (a : Addr) (cap : Nat), v = .slice (some a) S.length cap ∧ S.length ≤ cap ∧ cap ≤ maxLen ∧ (0 < S.length → a.block < W.heap.size) ∧ ∀ (i : Nat) (h : i < S.length), W.cell? (a.add i) = some (.string S[i])
theorem add_block (a : Addr) (i : Nat) : (a.add i).block = a.block := by
  unfold Addr.add
  split <;> rfl
theorem Txt.below {W W' : World} {v : Value} {S : List ByteArray} {B : Nat} (h : Txt W v S) (hb : Below B W W') (hB : W.heap.size ≤ B) : Txt W' v S := by
  rcases h with h | ⟨a, cap, hv, hl, hm, hbl, hc⟩
  · exact .inl h
  · refine .inr ⟨a, cap, hv, hl, hm, fun h0 => Nat.lt_of_lt_of_le (hbl h0) hb.size, fun i hi => ?_⟩
    rw [hb.cell (p := a.add i) (by rw [add_block]; have := hbl (by omega); omega)]
    exact hc i hi
theorem Txt.call {W W' : World} {v : Value} {S : List ByteArray} (h : Txt W v S) (hb : Below W.heap.size W W') : Txt W' v S := h.below hb (Nat.le_refl _)

/-- Leaves that are ok. -/
def lok (S : List ByteArray) : Bool := decide (S.length ≤ 256) && S.all fun s => decide (s.size ≤ 40)

/-- What stands in toStringS: the first k texts are copied. -/
def TRel (W : World) (S : List ByteArray) (k : Nat) (wr : World) : Prop :=
  W.heap.size < wr.heap.size ∧ Below W.heap.size W wr ∧ ∃ A : Array Value, wr.heap[W.heap.size]? = some (.cells A 9) ∧ A.size = S.length ∧ ∀ (i : Nat) (h : i < S.length), i < k → A[i]? = some (.string S[i])
theorem TRel.drew {W wr : World} {S : List ByteArray} {k : Nat} (h : TRel W S k wr) : TRel W S k wr.drew := ⟨h.1, h.2.1.drew, h.2.2⟩
theorem TRel.step {W wr : World} {S : List ByteArray} {k : Nat} (h : TRel W S k wr) (hk : k < S.length) : TRel W S (k + 1) (wr.setCell ⟨W.heap.size, k, none⟩ (.string S[k])) := by
  obtain ⟨hz, hB, A, hA, hl, hc⟩ := h
  have hh : (wr.setCell ⟨W.heap.size, k, none⟩ (.string S[k])).heap[W.heap.size]? = some (.cells (A.setIfInBounds k (.string S[k])) 9) := by
    rw [setCell_eq_setRow wr W.heap.size k _ 9 (0, 0) _ hA, setRow_heap _ _ _ _ _ _ hA]
  refine ⟨by simp only [World.size_setCell]; exact hz, hB.setCell (Nat.le_refl _) _, _, hh, by simp [hl], fun i hi hik => ?_⟩
  by_cases e : i = k
  · subst e
    simp [hl, hi]
  · rw [Array.getElem?_setIfInBounds_ne (by omega)]
    exact hc i hi (by omega)
theorem info9 : (Try.prog.info? 9).map (fun i => (i.zero, i.size, i.bytes)) = some (some (.string ByteArray.empty), 1, 16) := by kernel_rfl

end Go.Proofs.Ytiipfedjjhpbpaa

/-
  Lists of letters: measured, copied, compared; bags that are ok.
-/
namespace Go.Proofs.Ytiipfedjjhpbpaa
open Go.RowKit

structure Lt where
  f : Int
  t : Int
  s : ByteArray

/-- The letter l lies at p. -/
def LAt (W : World) (p : Addr) (l : Lt) : Prop := W.cell? p = some (.int .i64 l.f) ∧ W.cell? ⟨p.block, p.off + 1, none⟩ = some (.int .i64 l.t) ∧ W.cell? ⟨p.block, p.off + 2, none⟩ = some (.string l.s)
theorem LAt.below {W W' : World} {p : Addr} {l : Lt} {B : Nat} (h : LAt W p l) (hb : Below B W W') (hp : p.block < B) : LAt W' p l :=
  ⟨(hb.cell hp).trans h.1, (hb.cell (p := ⟨p.block, p.off + 1, none⟩) hp).trans h.2.1, (hb.cell (p := ⟨p.block, p.off + 2, none⟩) hp).trans h.2.2⟩
/-- The slice v holds the letters L. -/
def Lts (W : World) (v : Value) (L : List Lt) : Prop :=
  (v = .slice none 0 0 ∧ L = []) ∨ ∃ (a : Addr) (cap : Nat), v = .slice (some a) L.length cap ∧ L.length ≤ cap ∧ cap ≤ maxLen ∧ (0 < L.length → a.block < W.heap.size) ∧ ∀ (i : Nat) (h : i < L.length), LAt W (a.add (i * 3)) L[i]
theorem Lts.below {W W' : World} {v : Value} {L : List Lt} {B : Nat} (h : Lts W v L) (hb : Below B W W') (hB : W.heap.size ≤ B) : Lts W' v L := by
  rcases h with h | ⟨a, cap, hv, hl, hm, hbl, hc⟩
  · exact .inl h
  · exact .inr ⟨a, cap, hv, hl, hm, fun h0 => Nat.lt_of_lt_of_le (hbl h0) hb.size, fun i hi => (hc i hi).below hb (by rw [add_block]; have := hbl (by omega); omega)⟩
theorem Lts.call {W W' : World} {v : Value} {L : List Lt} (h : Lts W v L) (hb : Below W.heap.size W W') : Lts W' v L := h.below hb (Nat.le_refl _)
theorem Lts.len {W : World} {v : Value} {L : List Lt} (h : Lts W v L) : ∃ a cap, v = .slice a L.length cap ∧ L.length ≤ 9223372036854775807 := by
  rcases h with ⟨rfl, rfl⟩ | ⟨a, cap, rfl, hl, hm, _⟩
  · exact ⟨none, 0, rfl, by simp⟩
  · exact ⟨some a, cap, rfl, by unfold maxLen at hm; omega⟩
theorem Lts.cells {W : World} {oa : Option Addr} {n cap : Nat} {L : List Lt} (h : Lts W (.slice oa n cap) L) : ∀ k, k < L.length → ∃ a, oa = some a ∧ a.block < W.heap.size ∧ ∀ (i : Nat) (h : i < L.length), LAt W (a.add (i * 3)) L[i] := by
  intro k hk
  rcases h with ⟨_, rfl⟩ | ⟨a, cap', hv, _, _, hb, hc⟩
  · simp at hk
  · injection hv with e1 _ _
    exact ⟨a, e1, hb (by omega), hc⟩

set_option maxRecDepth 20000 in
set_option maxHeartbeats 1000000 in
theorem szls_is (W : World) (v : Value) (L : List Lt) (h : Lts W v L) (hs : ∀ l ∈ L, l.s.size ≤ maxLen) :
    Calls Try.prog 46 #[v, .int .i64 1048576] W fun e w' => ∃ r : Int, e = .returned (.int .i64 r) ∧ Below W.heap.size W w' ∧ (0 ≤ r → r ≤ 1048576 ∧ L.length ≤ 1048576) := by
  obtain ⟨oa, cap, rfl, hl⟩ := h.len
  have hcell := h.cells
  clear h
  have hw1 : IntKind.i64.wrap (1048576 - (L.length : Int)) = 1048576 - (L.length : Int) := IntWalk.i64_in _ (by omega)
  by_cases hb : 1048576 < L.length
  · have hbI : 1048576 - (L.length : Int) < 0 := by omega
    clear hcell
    go_enter Try.func46, Try.ntmps46
    go_wp2
    go_ret
    exact ⟨-1, rfl, Below.refl _ _, fun h => by omega⟩
  · have hbI : ¬ 1048576 - (L.length : Int) < 0 := by omega
    have hlN : Hid (L.length ≤ 1048576) := by show _ ≤ _; omega
    go_enter Try.func46, Try.ntmps46
    go_wp2_with fail
    go_loopw [1, 5] (fun x i wr => ∃ (k : Nat) (r : Int), k ≤ L.length ∧ i = .int .i64 (k : Int) ∧ x = .int .i64 r ∧ 0 ≤ r ∧ r ≤ 1048576 ∧ Hid (Below W.heap.size W wr)) (fun _ i _ => L.length - (intOf i).toNat)
    case atStart => exact ⟨0, _, by omega, rfl, rfl, by omega, by omega, Below.refl _ _⟩
    case round =>
      obtain ⟨k, r, hk, rfl, rfl, hr0, hr1, HB⟩ := hrel
      by_cases hlt : k < L.length
      · obtain ⟨a, rfl, hbl, hc⟩ := hcell k hlt
        have hd : LAt wr (a.add (k * 3)) L[k] := (hc k hlt).below HB.out (by rw [add_block]; exact hbl)
        have hsl := hs L[k] (List.getElem_mem _)
        obtain ⟨⟨f, t, s⟩, hq⟩ : ∃ q, q = L[k] := ⟨_, rfl⟩
        rw [← hq] at hd hsl
        obtain ⟨d0, d1, d2⟩ := hd
        simp only at d0 d1 d2 hsl
        have cz := fun V : World => szlet_is f t s hsl r ⟨hr0, hr1⟩ V
        have hk0 : (0 : Int) ≤ (k : Int) := by omega
        have hkI : (k : Int) < (L.length : Int) := by omega
        clear hq hc hcell hsl
        by_cases hneg : r - (s.size : Int) < 0
        · rw [if_pos hneg] at cz
          go_wp2_with (go_at_call 24; refine (cz _).mono ?_; rintro e w1 ⟨rfl, hb1⟩)
          go_ret
          exact ⟨-1, rfl, below_after HB.out hb1 HB.out.size, fun h => by omega⟩
        · rw [if_neg hneg] at cz
          obtain ⟨y, hy⟩ : ∃ y, y = r - (s.size : Int) := ⟨_, rfl⟩
          rw [← hy] at cz hneg
          have hy1 : y ≤ 1048576 := by omega
          have hy0 : 0 ≤ y := by omega
          clear hy
          go_wp2_with (go_at_call 24; refine (cz _).mono ?_; rintro e w1 ⟨rfl, hb1⟩)
          exact ⟨⟨k + 1, y, by omega, by go_num, rfl, hy0, hy1, below_after HB.out hb1 HB.out.size⟩, by simp [intOf]; omega⟩
      · clear hcell
        go_wp2
        go_ret
        exact ⟨r, rfl, HB.out, fun _ => ⟨hr1, hlN.out⟩⟩
end Go.Proofs.Ytiipfedjjhpbpaa
