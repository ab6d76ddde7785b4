/-
  The old and the new nodes of a growth, and behind its halves each node that is parted: the iterator that tells them.
-/
import Derived.Test.YtkdgdmicnfgdjaaClimb
namespace Go.Proofs.Ytkdgdmicnfgdjaa
open Go.RowKit Go.Shelf
attribute [local go_sem] Oper.semAt_some

/-- The nodes of a tree of n leaves. -/
abbrev Nw (n : Nat) := { x : Nat × Nat // x.1 < x.2 ∧ x.2 ≤ n }
def wl (n m : Nat) : (f lo hi : Nat) → lo < hi → hi ≤ n → List (Nw n)
  | 0, lo, hi, h1, h2 => [⟨(lo, hi), h1, h2⟩]
  | f + 1, lo, hi, h1, h2 =>
    if h : lo < m ∧ m < hi then
      wl n m f lo (lo + sp (hi - lo)) (by have := (sp_lt0 (n := hi - lo) (by omega)).1; omega) (by have := (sp_lt0 (n := hi - lo) (by omega)).2; omega) ++
        (wl n m f (lo + sp (hi - lo)) hi (by have := (sp_lt0 (n := hi - lo) (by omega)).2; omega) h2 ++ [⟨(lo, hi), h1, h2⟩])
    else [⟨(lo, hi), h1, h2⟩]
def encW {n : Nat} (x : Nw n) : Array Value := #[.agg #[.int .i64 (x.1.1 : Int), .int .i64 (x.1.2 : Int)]]

set_option maxRecDepth 100000 in
set_option maxHeartbeats 4000000 in
theorem walk_in (n m : Nat) (hn : n ≤ 256) (l n₁ B N : Nat) (J Jx : List (Nw n) → World → Prop) (hJ : AbidesFrom B J)
    (hY : ∀ k pre x W, J pre W → pre.length < N → YieldAt Fence.wide k Try.prog l (encW x) W fun e W' =>
      (e = .returned (.bool true) ∧ J (pre ++ [x]) W' ∧ Keep n₁ W W') ∨ (e = .returned (.bool false) ∧ Jx (pre ++ [x]) W')) :
    ∀ (f lo hi : Nat) (h1 : lo < hi) (h2 : hi ≤ n) (d : Nat) (pre : List (Nw n)) (W : World), hi - lo ≤ f + 1 → n₁ ≤ W.heap.size → J pre W → pre.length + (wl n m f lo hi h1 h2).length ≤ N →
      CallsIn Fence.wide d Try.prog 84 #[.agg #[.int .i64 (lo : Int), .int .i64 (hi : Int)], .int .i64 (m : Int), .func (.yield l) #[] #[]] W fun e W' =>
        (e = .returned (.bool true) ∧ J (pre ++ wl n m f lo hi h1 h2) W' ∧ Keep n₁ W W') ∨ (e = .returned (.bool false) ∧ ∃ q, q <+: wl n m f lo hi h1 h2 ∧ Jx (pre ++ q) W') := by
  have whole : ∀ (lo hi : Nat) (h1 : lo < hi) (h2 : hi ≤ n) (d : Nat) (pre : List (Nw n)) (W : World), ¬ (lo < m ∧ m < hi) → n₁ ≤ W.heap.size → J pre W → pre.length + 1 ≤ N →
      CallsIn Fence.wide d Try.prog 84 #[.agg #[.int .i64 (lo : Int), .int .i64 (hi : Int)], .int .i64 (m : Int), .func (.yield l) #[] #[]] W fun e W' =>
        (e = .returned (.bool true) ∧ J (pre ++ [⟨(lo, hi), h1, h2⟩]) W' ∧ Keep n₁ W W') ∨ (e = .returned (.bool false) ∧ Jx (pre ++ [⟨(lo, hi), h1, h2⟩]) W') := by
    intro lo hi h1 h2 d pre W hp hW hJ0 hN
    have cp := fun V : World => parted_is (lo : Int) hi m V
    have hb : (decide ((lo : Int) < (m : Int)) && decide ((m : Int) < (hi : Int))) = false := by rw [Bool.and_eq_false_iff, decide_eq_false_iff_not, decide_eq_false_iff_not]; omega
    rw [hb] at cp
    clear hb hp
    refine callsIn_of_wp Try.func84 rfl trivial ?_ rfl
    simp only [Try.ntmps84, List.size_toArray, List.length_cons, List.length_nil, Nat.reduceAdd, Nat.reduceSub, Array.replicate_succ, Array.replicate_zero, List.push_toArray, List.append_toArray, List.nil_append, List.cons_append]
    gi_wp2_with (refine ⟨trivial, fun h => (by cases h), ?_⟩; gi_at_call 55; refine (callsIn_wide.2 (cp _)).mono ?_; rintro e w1 ⟨rfl, hb1⟩; have hB1 : Below W.heap.size W w1 := ((Below.refl W.heap.size W).alloc (Nat.le_refl _) _).trans (hb1.mono (by simp)); obtain ⟨-, c0, c1, -, -⟩ := (Two.new W lo hi 62).behind hb1; obtain ⟨fn, tmps, assign, body, hy, hR⟩ := hY (d - 1) pre ⟨(lo, hi), h1, h2⟩ w1 (abides hJ hJ0 hB1) (by omega); dsimp only [encW] at hy; clear hb1)
    refine ⟨fun h => (by cases h), ?_⟩
    refine hR.mono ?_
    clear hR
    rintro e W5 (⟨rfl, hJ5, hk5⟩ | ⟨rfl, hx5⟩)
    · gi_wp2
      go_ret
      exact .inl ⟨rfl, hJ5, (Keep.of_below hB1).trans hk5⟩
    · gi_wp2
      go_ret
      exact .inr ⟨rfl, hx5⟩
  have step : ∀ (lo mid hi : Nat) (h1 : lo < hi) (h2 : hi ≤ n) (C1 C2 : List (Nw n)) (d : Nat) (pre : List (Nw n)) (W : World), (lo < m ∧ m < hi) → n₁ ≤ W.heap.size → J pre W → pre.length + (C1 ++ (C2 ++ ([⟨(lo, hi), h1, h2⟩] : List (Nw n)))).length ≤ N →
      (∀ W : World, Calls Try.prog 75 #[.agg #[.int .i64 (lo : Int), .int .i64 (hi : Int)]] W fun e w' => e = .returned (.tuple #[.agg #[.int .i64 (lo : Int), .int .i64 (mid : Int)], .agg #[.int .i64 (mid : Int), .int .i64 (hi : Int)]]) ∧ Below W.heap.size W w') →
      (∀ W : World, n₁ ≤ W.heap.size → J pre W → CallsIn Fence.wide (d - 1) Try.prog 84 #[.agg #[.int .i64 (lo : Int), .int .i64 (mid : Int)], .int .i64 (m : Int), .func (.yield l) #[] #[]] W fun e W' =>
        (e = .returned (.bool true) ∧ J (pre ++ C1) W' ∧ Keep n₁ W W') ∨ (e = .returned (.bool false) ∧ ∃ q, q <+: C1 ∧ Jx (pre ++ q) W')) →
      (∀ W : World, n₁ ≤ W.heap.size → J (pre ++ C1) W → CallsIn Fence.wide (d - 1) Try.prog 84 #[.agg #[.int .i64 (mid : Int), .int .i64 (hi : Int)], .int .i64 (m : Int), .func (.yield l) #[] #[]] W fun e W' =>
        (e = .returned (.bool true) ∧ J (pre ++ C1 ++ C2) W' ∧ Keep n₁ W W') ∨ (e = .returned (.bool false) ∧ ∃ q, q <+: C2 ∧ Jx (pre ++ C1 ++ q) W')) →
      CallsIn Fence.wide d Try.prog 84 #[.agg #[.int .i64 (lo : Int), .int .i64 (hi : Int)], .int .i64 (m : Int), .func (.yield l) #[] #[]] W fun e W' =>
        (e = .returned (.bool true) ∧ J (pre ++ (C1 ++ (C2 ++ ([⟨(lo, hi), h1, h2⟩] : List (Nw n))))) W' ∧ Keep n₁ W W') ∨ (e = .returned (.bool false) ∧ ∃ q, q <+: C1 ++ (C2 ++ ([⟨(lo, hi), h1, h2⟩] : List (Nw n))) ∧ Jx (pre ++ q) W') := by
    intro lo mid hi h1 h2 C1 C2 d pre W hp hW hJ0 hN ch ih1 ih2
    have cp := fun V : World => parted_is (lo : Int) hi m V
    have hb : (decide ((lo : Int) < (m : Int)) && decide ((m : Int) < (hi : Int))) = true := by simp; omega
    rw [hb] at cp
    clear hb hp
    refine callsIn_of_wp Try.func84 rfl trivial ?_ rfl
    simp only [Try.ntmps84, List.size_toArray, List.length_cons, List.length_nil, Nat.reduceAdd, Nat.reduceSub, Array.replicate_succ, Array.replicate_zero, List.push_toArray, List.append_toArray, List.nil_append, List.cons_append]
    gi_wp2_with (first
      | (refine ⟨trivial, fun h => (by cases h), ?_⟩; gi_at_call 55; refine (callsIn_wide.2 (cp _)).mono ?_; rintro e w1 ⟨rfl, hb1⟩; have hB1 : Below W.heap.size W w1 := ((Below.refl W.heap.size W).alloc (Nat.le_refl _) _).trans (hb1.mono (by simp)); have t1 := (Two.new W lo hi 62).behind hb1; obtain ⟨-, c0, c1, -, -⟩ := id t1; clear hb1)
      | (refine ⟨trivial, fun h => (by cases h), ?_⟩; gi_at_call 75; refine (callsIn_wide.2 (ch _)).mono ?_; rintro e w2 ⟨rfl, hb2⟩; clear c0 c1))
    refine ⟨trivial, fun h => (by cases h), ?_⟩
    have hB3 : Below W.heap.size W ((w2.alloc (.cells #[Value.int IntKind.i64 (lo : Int), Value.int IntKind.i64 (mid : Int)] 62)).alloc (.cells #[Value.int IntKind.i64 (mid : Int), Value.int IntKind.i64 (hi : Int)] 62)) :=
      (((hB1.trans (hb2.mono hB1.size)).alloc (Nat.le_trans hB1.size hb2.size) _).alloc (by have := Nat.le_trans hB1.size hb2.size; simp; omega) _)
    have t3 := ((t1.behind hb2).alloc (.cells #[Value.int IntKind.i64 (lo : Int), Value.int IntKind.i64 (mid : Int)] 62)).alloc (.cells #[Value.int IntKind.i64 (mid : Int), Value.int IntKind.i64 (hi : Int)] 62)
    have u3 := Two.new (w2.alloc (.cells #[Value.int IntKind.i64 (lo : Int), Value.int IntKind.i64 (mid : Int)] 62)) mid hi 62
    rw [World.size_alloc] at u3
    have hle : n₁ ≤ w2.heap.size := Nat.le_trans hW (Nat.le_trans hB1.size hb2.size)
    have k1 := ih1 _ (Nat.le_trans hW hB3.size) (abides hJ hJ0 hB3)
    clear ih1 t1 hB1 hb2
    refine k1.mono ?_
    clear k1
    rintro e W4 (⟨rfl, hJ4, hk4⟩ | ⟨rfl, q, hq, hx⟩)
    · have t4 := t3.keep hk4 hW
      have u4 := u3.keep hk4 (Nat.le_succ_of_le hle)
      have hk : Keep n₁ W W4 := (Keep.of_below hB3).trans hk4
      have k2 := ih2 W4 (Nat.le_trans hW hk.1) hJ4
      obtain ⟨-, d0, d1, -, -⟩ := u4
      clear t3 u3 hB3 hk4 ih2
      gi_wp2
      refine ⟨trivial, fun h => (by cases h), ?_⟩
      refine k2.mono ?_
      clear k2
      rintro e W6 (⟨rfl, hJ6, hk6⟩ | ⟨rfl, q, hq, hx⟩)
      · have t6 := t4.keep hk6 hW
        have hk' := hk.trans hk6
        obtain ⟨fn, tmps, assign, body, hy, hR⟩ := hY (d - 1) (pre ++ C1 ++ C2) ⟨(lo, hi), h1, h2⟩ W6 hJ6 (by simp at hN ⊢; omega)
        dsimp only [encW] at hy
        obtain ⟨-, c0, c1, -, -⟩ := t6
        clear d0 d1 hk6 hk
        gi_wp2
        refine ⟨fun h => (by cases h), ?_⟩
        refine hR.mono ?_
        clear hR
        rintro e W7 (⟨rfl, hJ7, hk7⟩ | ⟨rfl, hx7⟩)
        · gi_wp2
          go_ret
          exact .inl ⟨rfl, by rw [← List.append_assoc, ← List.append_assoc]; exact hJ7, hk'.trans hk7⟩
        · gi_wp2
          go_ret
          exact .inr ⟨rfl, _, List.prefix_refl _, by rw [← List.append_assoc, ← List.append_assoc]; exact hx7⟩
      · gi_wp2
        go_ret
        obtain ⟨r, hr⟩ := hq
        exact .inr ⟨rfl, C1 ++ q, ⟨r ++ [⟨(lo, hi), h1, h2⟩], by rw [← hr]; simp [List.append_assoc]⟩, by rw [← List.append_assoc]; exact hx⟩
    · gi_wp2
      refine ⟨trivial, ?_⟩
      gi_wp2
      go_ret
      exact .inr ⟨rfl, q, hq.trans (List.prefix_append _ _), hx⟩
  intro f
  induction f with
  | zero =>
    intro lo hi h1 h2 d pre W hs hW hJ0 hN
    refine (whole lo hi h1 h2 d pre W (by omega) hW hJ0 (by simpa [wl] using hN)).mono ?_
    rintro e W' (⟨rfl, hj, hk⟩ | ⟨rfl, hx⟩)
    · exact .inl ⟨rfl, hj, hk⟩
    · exact .inr ⟨rfl, _, List.prefix_refl _, hx⟩
  | succ f ihf =>
    intro lo hi h1 h2 d pre W hs hW hJ0 hN
    by_cases h : lo < m ∧ m < hi
    · have hsp := sp_lt0 (n := hi - lo) (by omega)
      have ch := fun W : World => halves_is lo (sp (hi - lo)) hi rfl (by omega) (by omega) (by omega) W
      have e : wl n m (f + 1) lo hi h1 h2 = wl n m f lo (lo + sp (hi - lo)) (by omega) (by omega) ++ (wl n m f (lo + sp (hi - lo)) hi (by omega) h2 ++ [⟨(lo, hi), h1, h2⟩]) := by rw [wl, dif_pos h]
      rw [e] at hN ⊢
      exact step lo _ hi h1 h2 _ _ d pre W h hW hJ0 hN ch
        (fun W1 hW1 hJ1 => ihf _ _ (by omega) (by omega) (d - 1) pre W1 (by omega) hW1 hJ1 (by simp at hN ⊢; omega))
        (fun W1 hW1 hJ1 => ihf _ _ (by omega) h2 (d - 1) _ W1 (by omega) hW1 hJ1 (by simp at hN ⊢; omega))
    · have e : wl n m (f + 1) lo hi h1 h2 = [⟨(lo, hi), h1, h2⟩] := by rw [wl, dif_neg h]
      rw [e] at hN ⊢
      refine (whole lo hi h1 h2 d pre W h hW hJ0 (by simpa using hN)).mono ?_
      rintro e W' (⟨rfl, hj, hk⟩ | ⟨rfl, hx⟩)
      · exact .inl ⟨rfl, hj, hk⟩
      · exact .inr ⟨rfl, _, List.prefix_refl _, hx⟩

/-- The nodes around the cut m of n leaves, in their order. -/
def around (n m : Nat) (h : 0 < n) : List (Nw n) := wl n m n 0 n h (Nat.le_refl _)
set_option maxRecDepth 100000 in
set_option maxHeartbeats 1000000 in
theorem around1_in (n m : Nat) (hn : n ≤ 256) (h0n : 0 < n) (d l Bm Bn n₁ B : Nat) (J Jx : List (Nw n) → World → Prop) (hJ : AbidesFrom B J)
    (hY : ∀ k pre x W, J pre W → pre.length < (around n m h0n).length → YieldAt Fence.wide k Try.prog l (encW x) W fun e W' =>
      (e = .returned (.bool true) ∧ J (pre ++ [x]) W' ∧ Keep n₁ W W') ∨ (e = .returned (.bool false) ∧ Jx (pre ++ [x]) W'))
    (W : World) (hW : n₁ ≤ W.heap.size) (c1 : W.cell? ⟨Bm, 0, none⟩ = some (.int .i64 (m : Int))) (c2 : W.cell? ⟨Bn, 0, none⟩ = some (.int .i64 (n : Int))) (h0 : J [] W) :
    CallsIn Fence.wide d Try.prog 83 #[.func (.yield l) #[] #[], .pointer (some ⟨Bn, 0, none⟩), .pointer (some ⟨Bm, 0, none⟩)] W fun e W' => (∃ v, e = .returned v) ∧
      ((∃ ys, ys = around n m h0n ∧ J ys W') ∨ (∃ pre, pre <+: around n m h0n ∧ Jx pre W')) := by
  have hp := walk_in n m hn l n₁ B (around n m h0n).length J Jx hJ hY n 0 n h0n (Nat.le_refl _) (d - 1) [] W (by omega) hW h0 (by simp [around])
  have hp' : CallsIn Fence.wide (d - 1) Try.prog 84 #[.agg #[.int .i64 (0 : Int), .int .i64 (n : Int)], .int .i64 (m : Int), .func (.yield l) #[] #[]] W fun e W' =>
        (e = .returned (.bool true) ∧ J (around n m h0n) W' ∧ Keep n₁ W W') ∨ (e = .returned (.bool false) ∧ ∃ q, q <+: around n m h0n ∧ Jx q W') := hp
  clear hp
  refine callsIn_of_wp Try.func83 rfl trivial ?_ rfl
  simp only [Try.ntmps83, List.size_toArray, List.length_cons, List.length_nil, Nat.reduceAdd, Nat.reduceSub, Array.replicate_succ, Array.replicate_zero, List.push_toArray, List.append_toArray, List.nil_append, List.cons_append]
  gi_wp2_with (refine ⟨trivial, fun h => (by cases h), ?_⟩; gi_at_call 84; refine hp'.mono ?_; clear hp'; rintro e W1 (⟨rfl, hJ1, _⟩ | ⟨rfl, q, hq, hx⟩))
  · go_end0
    exact ⟨⟨_, rfl⟩, .inl ⟨_, rfl, hJ1⟩⟩
  · go_end0
    exact ⟨⟨_, rfl⟩, .inr ⟨q, hq, hx⟩⟩
set_option maxHeartbeats 1000000 in
theorem around_in (m n : Int) (d : Nat) (w : World) :
    CallsIn Fence.wide d Try.prog 54 #[.int .i64 m, .int .i64 n] w fun e w' => e = .returned (.func (.func 83) #[] #[.pointer (some ⟨w.heap.size + 1, 0, none⟩), .pointer (some ⟨w.heap.size, 0, none⟩)]) ∧ w' = (w.alloc (.cells #[.int .i64 m] 3)).alloc (.cells #[.int .i64 n] 3) := by
  refine callsIn_of_wp Try.func54 rfl trivial ?_ rfl
  simp only [Try.ntmps54, List.size_toArray, List.length_cons, List.length_nil, Nat.reduceAdd, Nat.reduceSub, Array.replicate_succ, Array.replicate_zero, List.push_toArray, List.append_toArray, List.nil_append, List.cons_append]
  gi_wp2
  go_ret
  exact ⟨rfl, rfl⟩
theorem around_stops (n m : Nat) (hn : n ≤ 256) (h0n : 0 < n) (d Bm Bn n₁ : Nat) (w : World) (hBm : Bm < w.heap.size) (hBn : Bn < w.heap.size) (hn₁ : n₁ ≤ w.heap.size)
    (c1 : w.cell? ⟨Bm, 0, none⟩ = some (.int .i64 (m : Int))) (c2 : w.cell? ⟨Bn, 0, none⟩ = some (.int .i64 (n : Int))) :
    SeqStopsK Fence.wide d Try.prog 83 #[.pointer (some ⟨Bn, 0, none⟩), .pointer (some ⟨Bm, 0, none⟩)] (encW (n := n)) (Keep n₁) (fun ys => ys = around n m h0n) (fun pre => pre <+: around n m h0n) (around n m h0n).length w := fun l J Jx W hW hJ _ hY h0 =>
  around1_in n m hn h0n d l Bm Bn n₁ W.heap.size J Jx hJ (fun k pre x W1 hj hl => anyDepthY rfl k (hY pre x W1 hj hl)) W (Nat.le_trans hn₁ hW.size) ((hW.cell (p := ⟨Bm, 0, none⟩) hBm).trans c1) ((hW.cell (p := ⟨Bn, 0, none⟩) hBn).trans c2) h0
end Go.Proofs.Ytkdgdmicnfgdjaa
