/-
  The nodes over a leaf, from the least one up: the iterator that tells them.
-/
import Derived.RangeFuncNested
import Derived.RangeFuncBound
import Derived.RangeFuncCalls
import Derived.RangeFuncLeaves
import Derived.Shelf.Abstract
import Derived.Shelf.RegionOpen
import Derived.WalkKit
import Derived.OwnWalkIn
import Derived.TacticsInMore
import Derived.LoopNIn
import Derived.LoopIn
import Derived.Test.YtkdgdmicnfgdjaaSpan
namespace Go.Proofs.Ytkdgdmicnfgdjaa
open Go.RowKit Go.Shelf
attribute [local go_sem] Oper.semAt_some

theorem sp_lt0 {n : Nat} (h : 2 ≤ n) : 0 < sp n ∧ sp n < n := by
  unfold sp
  have := Nat.log2_self_le (n := n - 1) (by omega)
  exact ⟨Nat.two_pow_pos _, by omega⟩

/-- What a round keeps: the cells that lie from the block B on. -/
def Keep (B : Nat) (A C : World) : Prop := A.heap.size ≤ C.heap.size ∧ ∀ (k : Nat) (o : Obj), B ≤ k → A.heap[k]? = some o → o.isCells = true → C.heap[k]? = some o
theorem Keep.refl (B : Nat) (A : World) : Keep B A A := ⟨Nat.le_refl _, fun _ _ _ h _ => h⟩
theorem Keep.trans {B : Nat} {A C D : World} (h : Keep B A C) (k : Keep B C D) : Keep B A D := ⟨Nat.le_trans h.1 k.1, fun i o hi ho hc => k.2 i o hi (h.2 i o hi ho hc) hc⟩
theorem Keep.of_below {B : Nat} {A C : World} (h : Below A.heap.size A C) : Keep B A C := ⟨h.size, fun k _ _ ho _ => (h.block k (Array.getElem?_eq_some_iff.1 ho).1).trans ho⟩
theorem Keep.set {B : Nat} {A : World} {p : Addr} (hp : p.block < B) (v : Value) : Keep B A (A.setCell p v) :=
  ⟨by simp [World.setCell], fun _ _ hk ho _ => (Below.heap_setCell _ _ _ _ (by omega)).trans ho⟩
theorem keep_b {B : Nat} (W : World) (l : Nat) (o o' : Obj) (h : W.heap[l]? = some o) (hc : o.isCells = false) : Keep B W (W.putObj l o') := by
  refine ⟨by simp, fun k p _ hp hpc => ?_⟩
  by_cases e : k = l
  · subst e; rw [h] at hp; cases hp; rw [hc] at hpc; cases hpc
  · exact (World.putObj_heap_other e).trans hp
theorem cells_at {W : World} {B j : Nat} {v : Value} (h : W.cell? ⟨B, j, none⟩ = some v) : ∃ o, W.heap[B]? = some o ∧ o.isCells = true := by
  unfold World.cell? at h
  cases ho : W.heap[B]? with
  | none => simp [ho] at h
  | some o =>
    refine ⟨o, rfl, ?_⟩
    cases o <;> simp_all [Obj.isCells]
theorem Two.keep {B n₁ : Nat} {x y : Int} {W W' : World} (h : Two B x y W) (hk : Keep n₁ W W') (hB : n₁ ≤ B) : Two B x y W' := by
  obtain ⟨h0, h1, h2, h3, h4⟩ := h
  obtain ⟨o, ho, hc⟩ := cells_at h1
  have e : W'.heap[B]? = W.heap[B]? := (hk.2 B o hB ho hc).trans ho.symm
  exact ⟨Nat.lt_of_lt_of_le h0 hk.1, (World.cell?_of_block (w := W) e).trans h1, (World.cell?_of_block (w := W) e).trans h2, (World.frozen?_of_block (w := W) e).trans h3, (World.frozen?_of_block (w := W) e).trans h4⟩
theorem abides {β : Type} {B : Nat} {J : β → World → Prop} (hJ : AbidesFrom B J) {s : β} {W W' : World} (h : J s W) (hb : Below W.heap.size W W') : J s W' :=
  hJ s W W' none h ⟨hb.os, hb.tape, hb.output, hb.size, fun k hk _ => hb.block k hk⟩ (fun r e => by cases e)

/-- The nodes of two leaves and more of a tree of n leaves that the leaf i is in. -/
abbrev Nd (n i : Nat) := { x : Nat × Nat // x.1 ≤ i ∧ i < x.2 ∧ 2 ≤ x.2 - x.1 ∧ x.2 ≤ n }
def cl (n i : Nat) : (f lo hi : Nat) → lo ≤ i → i < hi → hi ≤ n → List (Nd n i)
  | 0, _, _, _, _, _ => []
  | f + 1, lo, hi, h1, h2, h3 =>
    if h : hi - lo < 2 then [] else
      if hk : i < lo + sp (hi - lo) then cl n i f lo (lo + sp (hi - lo)) h1 hk (by have := (sp_lt0 (n := hi - lo) (by omega)).2; omega) ++ [⟨(lo, hi), h1, h2, by omega, h3⟩]
      else cl n i f (lo + sp (hi - lo)) hi (by omega) h2 h3 ++ [⟨(lo, hi), h1, h2, by omega, h3⟩]

theorem anyDepthR {F : Fence} (hd : F.depth = none) {m m' : Nat} {P : Program} {l : Nat} {f : FuncId} {tmps : Array Value} {assign body : Code} {w : World} {R : Ending → World → Prop}
    (h : RoundIn F m P l f tmps assign body w R) : RoundIn F m' P l f tmps assign body w R := ⟨h.1, fun c cs _ => h.2 c cs (fun d e => by rw [hd] at e; cases e)⟩
theorem anyDepthY {F : Fence} (hd : F.depth = none) {m : Nat} (m' : Nat) {P : Program} {l : Nat} {args : Array Value} {W : World} {R : Ending → World → Prop} (h : YieldAt F m P l args W R) : YieldAt F m' P l args W R := by
  obtain ⟨fn, tmps, assign, body, hy, hR⟩ := h
  exact ⟨fn, tmps, assign, body, hy, anyDepthR hd hR⟩

def encN {n i : Nat} (x : Nd n i) : Array Value := #[.agg #[.int .i64 (x.1.1 : Int), .int .i64 (x.1.2 : Int)]]

set_option maxRecDepth 100000 in
set_option maxHeartbeats 2000000 in
theorem climb_in (n i : Nat) (hn : n ≤ 256) (l n₁ B N : Nat) (J Jx : List (Nd n i) → World → Prop) (hJ : AbidesFrom B J)
    (hY : ∀ m pre x W, J pre W → pre.length < N → YieldAt Fence.wide m Try.prog l (encN x) W fun e W' =>
      (e = .returned (.bool true) ∧ J (pre ++ [x]) W' ∧ Keep n₁ W W') ∨ (e = .returned (.bool false) ∧ Jx (pre ++ [x]) W')) :
    ∀ (f lo hi : Nat) (h1 : lo ≤ i) (h2 : i < hi) (h3 : hi ≤ n) (d : Nat) (pre : List (Nd n i)) (W : World), hi - lo ≤ f + 1 → n₁ ≤ W.heap.size → J pre W → pre.length + (cl n i f lo hi h1 h2 h3).length ≤ N →
      CallsIn Fence.wide d Try.prog 74 #[.agg #[.int .i64 (lo : Int), .int .i64 (hi : Int)], .int .i64 (i : Int), .func (.yield l) #[] #[]] W fun e W' =>
        (e = .returned (.bool true) ∧ J (pre ++ cl n i f lo hi h1 h2 h3) W' ∧ Keep n₁ W W') ∨ (e = .returned (.bool false) ∧ ∃ q, q <+: cl n i f lo hi h1 h2 h3 ∧ Jx (pre ++ q) W') := by
  have small : ∀ (f lo hi : Nat) (h1 : lo ≤ i) (h2 : i < hi) (h3 : hi ≤ n) (d : Nat) (pre : List (Nd n i)) (W : World), hi - lo < 2 → J pre W → 
      CallsIn Fence.wide d Try.prog 74 #[.agg #[.int .i64 (lo : Int), .int .i64 (hi : Int)], .int .i64 (i : Int), .func (.yield l) #[] #[]] W fun e W' =>
        (e = .returned (.bool true) ∧ J pre W' ∧ Keep n₁ W W') := by
    intro f lo hi h1 h2 h3 d pre W hs hJ0
    have hlt : (hi : Int) - lo < 2 := by omega
    refine callsIn_of_wp Try.func74 rfl trivial ?_ rfl
    simp only [Try.ntmps74, List.size_toArray, List.length_cons, List.length_nil, Nat.reduceAdd, Nat.reduceSub, Array.replicate_succ, Array.replicate_zero, List.push_toArray, List.append_toArray, List.nil_append, List.cons_append]
    gi_wp2
    go_ret
    exact ⟨rfl, abides hJ hJ0 ((Below.refl _ _).alloc (Nat.le_refl _) _), Keep.of_below ((Below.refl _ _).alloc (Nat.le_refl _) _)⟩
  -- one step: the half with the leaf is lo' to hi'
  have step : ∀ (lo hi lo' hi' : Nat) (a b : Int) (h1 : lo ≤ i) (h2 : i < hi) (h3 : hi ≤ n) (h4 : 2 ≤ hi - lo) (C : List (Nd n i)) (d : Nat) (pre : List (Nd n i)) (W : World), n₁ ≤ W.heap.size → J pre W → pre.length + (C ++ ([⟨(lo, hi), h1, h2, h4, h3⟩] : List (Nd n i))).length ≤ N →
      (∀ W : World, Calls Try.prog 38 #[.agg #[.int .i64 (lo : Int), .int .i64 (hi : Int)], .int .i64 (i : Int)] W fun e w' => e = .returned (.tuple #[.agg #[.int .i64 (lo' : Int), .int .i64 (hi' : Int)], .agg #[.int .i64 (a : Int), .int .i64 (b : Int)]]) ∧ Below W.heap.size W w') →
      (∀ W : World, n₁ ≤ W.heap.size → J pre W → CallsIn Fence.wide (d - 1) Try.prog 74 #[.agg #[.int .i64 (lo' : Int), .int .i64 (hi' : Int)], .int .i64 (i : Int), .func (.yield l) #[] #[]] W fun e W' =>
        (e = .returned (.bool true) ∧ J (pre ++ C) W' ∧ Keep n₁ W W') ∨ (e = .returned (.bool false) ∧ ∃ q, q <+: C ∧ Jx (pre ++ q) W')) →
      CallsIn Fence.wide d Try.prog 74 #[.agg #[.int .i64 (lo : Int), .int .i64 (hi : Int)], .int .i64 (i : Int), .func (.yield l) #[] #[]] W fun e W' =>
        (e = .returned (.bool true) ∧ J (pre ++ (C ++ ([⟨(lo, hi), h1, h2, h4, h3⟩] : List (Nd n i)))) W' ∧ Keep n₁ W W') ∨ (e = .returned (.bool false) ∧ ∃ q, q <+: C ++ ([⟨(lo, hi), h1, h2, h4, h3⟩] : List (Nd n i)) ∧ Jx (pre ++ q) W') := by
    intro lo hi lo' hi' a b h1 h2 h3 h4 C d pre W hW hJ0 hN cs ih
    have hlt : ¬ (hi : Int) - lo < 2 := by omega
    refine callsIn_of_wp Try.func74 rfl trivial ?_ rfl
    simp only [Try.ntmps74, List.size_toArray, List.length_cons, List.length_nil, Nat.reduceAdd, Nat.reduceSub, Array.replicate_succ, Array.replicate_zero, List.push_toArray, List.append_toArray, List.nil_append, List.cons_append]
    gi_wp2_with (refine ⟨trivial, fun h => (by cases h), ?_⟩; gi_at_call 38; refine (callsIn_wide.2 (cs _)).mono ?_; rintro e w1 ⟨rfl, hb1⟩)
    refine ⟨trivial, fun h => (by cases h), ?_⟩
    have hB3 : Below W.heap.size W ((w1.alloc (.cells #[Value.int IntKind.i64 (lo' : Int), Value.int IntKind.i64 (hi' : Int)] 62)).alloc (.cells #[Value.int IntKind.i64 (a : Int), Value.int IntKind.i64 (b : Int)] 62)) :=
      ((((Below.refl W.heap.size W).alloc (Nat.le_refl _) _).trans (hb1.mono (by simp))).alloc (by have := hb1.size; simp at this; omega) _).alloc (by have := hb1.size; simp at this ⊢; omega) _
    have t3 := (((Two.new W lo hi 62).behind hb1).alloc (.cells #[Value.int IntKind.i64 (lo' : Int), Value.int IntKind.i64 (hi' : Int)] 62)).alloc (.cells #[Value.int IntKind.i64 (a : Int), Value.int IntKind.i64 (b : Int)] 62)
    have ih3 := ih _ (Nat.le_trans hW hB3.size) (abides hJ hJ0 hB3)
    clear ih
    refine ih3.mono ?_
    clear ih3
    rintro e W4 (⟨rfl, hJ4, hk4⟩ | ⟨rfl, q, hq, hx⟩)
    · have t4 := t3.keep hk4 hW
      have hk : Keep n₁ W W4 := (Keep.of_below hB3).trans hk4
      obtain ⟨fn, tmps, assign, body, hy, hR⟩ := hY (d - 1) (pre ++ C) ⟨(lo, hi), h1, h2, h4, h3⟩ W4 hJ4 (by simp at hN ⊢; omega)
      dsimp only [encN] at hy
      obtain ⟨-, c0, c1, -, -⟩ := t4
      clear t3 hB3 hk4 hb1
      gi_wp2
      refine ⟨fun h => (by cases h), ?_⟩
      refine hR.mono ?_
      clear hR
      rintro e W5 (⟨rfl, hJ5, hk5⟩ | ⟨rfl, hx5⟩)
      · gi_wp2
        go_ret
        exact .inl ⟨rfl, by rw [← List.append_assoc]; exact hJ5, hk.trans hk5⟩
      · gi_wp2
        go_ret
        exact .inr ⟨rfl, C ++ [⟨(lo, hi), h1, h2, h4, h3⟩], List.prefix_refl _, by rw [← List.append_assoc]; exact hx5⟩
    · gi_wp2
      refine ⟨fun _ h => (by cases h), ?_⟩
      gi_wp2
      go_ret
      exact .inr ⟨rfl, q, hq.trans (List.prefix_append _ _), hx⟩
  intro f
  induction f with
  | zero =>
    intro lo hi h1 h2 h3 d pre W hs hW hJ0 _
    refine (small 0 lo hi h1 h2 h3 d pre W (by omega) hJ0).mono ?_
    rintro e W' ⟨rfl, hj, hk⟩
    exact .inl ⟨rfl, by simpa [cl] using hj, hk⟩
  | succ f ihf =>
    intro lo hi h1 h2 h3 d pre W hs hW hJ0 hN
    by_cases h : hi - lo < 2
    · refine (small 0 lo hi h1 h2 h3 d pre W h hJ0).mono ?_
      rintro e W' ⟨rfl, hj, hk⟩
      exact .inl ⟨rfl, by simpa [cl, h] using hj, hk⟩
    · have hsp := sp_lt0 (n := hi - lo) (by omega)
      have cs := fun W : World => sides_is lo (sp (hi - lo)) hi i rfl (by omega) (by omega) (by omega) h2 W
      by_cases hk : i < lo + sp (hi - lo)
      · have e : cl n i (f + 1) lo hi h1 h2 h3 = cl n i f lo (lo + sp (hi - lo)) h1 hk (by omega) ++ [⟨(lo, hi), h1, h2, by omega, h3⟩] := by simp [cl, h, hk]
        rw [e] at hN ⊢
        simp only [if_pos hk] at cs
        exact step lo hi _ _ _ _ h1 h2 h3 (by omega) _ d pre W hW hJ0 hN cs (fun W1 hW1 hJ1 => ihf _ _ h1 hk (by omega) (d - 1) pre W1 (by omega) hW1 hJ1 (by simp at hN ⊢; omega))
      · have e : cl n i (f + 1) lo hi h1 h2 h3 = cl n i f (lo + sp (hi - lo)) hi (by omega) h2 h3 ++ [⟨(lo, hi), h1, h2, by omega, h3⟩] := by simp [cl, h, hk]
        rw [e] at hN ⊢
        simp only [if_neg hk] at cs
        exact step lo hi _ _ _ _ h1 h2 h3 (by omega) _ d pre W hW hJ0 hN cs (fun W1 hW1 hJ1 => ihf _ _ (by omega) h2 h3 (d - 1) pre W1 (by omega) hW1 hJ1 (by simp at hN ⊢; omega))

/-- The nodes over the leaf i of n, in their order. -/
def over (n i : Nat) (h : i < n) : List (Nd n i) := cl n i n 0 n (Nat.zero_le _) h (Nat.le_refl _)
set_option maxRecDepth 100000 in
set_option maxHeartbeats 1000000 in
theorem over1_in (n i : Nat) (hn : n ≤ 256) (hi : i < n) (d l Bn Bi n₁ B : Nat) (J Jx : List (Nd n i) → World → Prop) (hJ : AbidesFrom B J)
    (hY : ∀ m pre x W, J pre W → pre.length < (over n i hi).length → YieldAt Fence.wide m Try.prog l (encN x) W fun e W' =>
      (e = .returned (.bool true) ∧ J (pre ++ [x]) W' ∧ Keep n₁ W W') ∨ (e = .returned (.bool false) ∧ Jx (pre ++ [x]) W'))
    (W : World) (hW : n₁ ≤ W.heap.size) (c1 : W.cell? ⟨Bn, 0, none⟩ = some (.int .i64 (n : Int))) (c2 : W.cell? ⟨Bi, 0, none⟩ = some (.int .i64 (i : Int))) (h0 : J [] W) :
    CallsIn Fence.wide d Try.prog 73 #[.func (.yield l) #[] #[], .pointer (some ⟨Bn, 0, none⟩), .pointer (some ⟨Bi, 0, none⟩)] W fun e W' => (∃ v, e = .returned v) ∧
      ((∃ ys, ys = over n i hi ∧ J ys W') ∨ (∃ pre, pre <+: over n i hi ∧ Jx pre W')) := by
  have hp := climb_in n i hn l n₁ B (over n i hi).length J Jx hJ hY n 0 n (Nat.zero_le _) hi (Nat.le_refl _) (d - 1) [] W (by omega) hW h0 (by simp [over])
  have hp' : CallsIn Fence.wide (d - 1) Try.prog 74 #[.agg #[.int .i64 (0 : Int), .int .i64 (n : Int)], .int .i64 (i : Int), .func (.yield l) #[] #[]] W fun e W' =>
        (e = .returned (.bool true) ∧ J (over n i hi) W' ∧ Keep n₁ W W') ∨ (e = .returned (.bool false) ∧ ∃ q, q <+: over n i hi ∧ Jx q W') := hp
  clear hp
  refine callsIn_of_wp Try.func73 rfl trivial ?_ rfl
  simp only [Try.ntmps73, List.size_toArray, List.length_cons, List.length_nil, Nat.reduceAdd, Nat.reduceSub, Array.replicate_succ, Array.replicate_zero, List.push_toArray, List.append_toArray, List.nil_append, List.cons_append]
  gi_wp2_with (refine ⟨trivial, fun h => (by cases h), ?_⟩; gi_at_call 74; refine hp'.mono ?_; clear hp'; rintro e W1 (⟨rfl, hJ1, _⟩ | ⟨rfl, q, hq, hx⟩))
  · go_end0
    exact ⟨⟨_, rfl⟩, .inl ⟨_, rfl, hJ1⟩⟩
  · go_end0
    exact ⟨⟨_, rfl⟩, .inr ⟨q, hq, hx⟩⟩
set_option maxHeartbeats 1000000 in
theorem over_in (n i : Int) (d : Nat) (w : World) :
    CallsIn Fence.wide d Try.prog 37 #[.int .i64 n, .int .i64 i] w fun e w' => e = .returned (.func (.func 73) #[] #[.pointer (some ⟨w.heap.size, 0, none⟩), .pointer (some ⟨w.heap.size + 1, 0, none⟩)]) ∧ w' = (w.alloc (.cells #[.int .i64 n] 3)).alloc (.cells #[.int .i64 i] 3) := by
  refine callsIn_of_wp Try.func37 rfl trivial ?_ rfl
  simp only [Try.ntmps37, List.size_toArray, List.length_cons, List.length_nil, Nat.reduceAdd, Nat.reduceSub, Array.replicate_succ, Array.replicate_zero, List.push_toArray, List.append_toArray, List.nil_append, List.cons_append]
  gi_wp2
  go_ret
  exact ⟨rfl, rfl⟩
theorem over_stops (n i : Nat) (hn : n ≤ 256) (hi : i < n) (d Bn Bi n₁ : Nat) (w : World) (hBn : Bn < w.heap.size) (hBi : Bi < w.heap.size) (hn₁ : n₁ ≤ w.heap.size)
    (c1 : w.cell? ⟨Bn, 0, none⟩ = some (.int .i64 (n : Int))) (c2 : w.cell? ⟨Bi, 0, none⟩ = some (.int .i64 (i : Int))) :
    SeqStopsK Fence.wide d Try.prog 73 #[.pointer (some ⟨Bn, 0, none⟩), .pointer (some ⟨Bi, 0, none⟩)] (encN (n := n) (i := i)) (Keep n₁) (fun ys => ys = over n i hi) (fun pre => pre <+: over n i hi) (over n i hi).length w := fun l J Jx W hW hJ _ hY h0 =>
  over1_in n i hn hi d l Bn Bi n₁ W.heap.size J Jx hJ (fun m pre x W1 hj hl => anyDepthY rfl m (hY pre x W1 hj hl)) W (Nat.le_trans hn₁ hW.size) ((hW.cell (p := ⟨Bn, 0, none⟩) hBn).trans c1) ((hW.cell (p := ⟨Bi, 0, none⟩) hBi).trans c2) h0
end Go.Proofs.Ytkdgdmicnfgdjaa
