/-
  What a law does with a log: copies it, measures it, marks it, lays it beside another.
-/
import Derived.Test.YtegihccdpohnnaaLg4
import Derived.Test.YtegihccdpohnnaaAns
namespace Go.Proofs.Ytegihccdpohnnaa
open Go.RowKit

/-- The block B holds one value, and may be written. -/
def C1 (B : Nat) (x : Value) (W : World) : Prop := B < W.heap.size ∧ W.cell? ⟨B, 0, none⟩ = some x ∧ W.frozen? ⟨B, 0, none⟩ = false
theorem C1.new (w : World) (x : Value) (t : TypeId) : C1 w.heap.size x (w.alloc (.cells #[x] t)) := by
  refine ⟨by simp, ?_, ?_⟩ <;> simp [go_sem]
theorem C1.below {B B' : Nat} {x : Value} {W W' : World} (h : C1 B x W) (hb : Below B' W W') (hB : B < B') : C1 B x W' := by
  obtain ⟨h0, h1, h2⟩ := h
  exact ⟨Nat.lt_of_lt_of_le h0 hb.size, (hb.cell (p := ⟨B, 0, none⟩) hB).trans h1, (hb.frozen (p := ⟨B, 0, none⟩) hB).trans h2⟩
theorem C1.call {B : Nat} {x : Value} {W W' : World} (h : C1 B x W) (hb : Below W.heap.size W W') : C1 B x W' := h.below hb h.1
theorem C1.grown {B : Nat} {x : Value} {W W' : World} {row : Option Nat} (h : C1 B x W) (hg : W.grownBy W' row) (hr : row ≠ some B) : C1 B x W' := by
  have e : W'.heap[B]? = W.heap[B]? := hg.block B h.1 (fun e => hr e.symm)
  exact ⟨Nat.lt_of_lt_of_le h.1 hg.size, (World.cell?_of_block (w := W) (a := ⟨B, 0, none⟩) e).trans h.2.1, (World.frozen?_of_block (w := W) (a := ⟨B, 0, none⟩) e).trans h.2.2⟩
theorem Txt.len {W : World} {v : Value} {S : List ByteArray} (h : Txt W v S) : ∃ a cap, v = .slice a S.length cap := by
  rcases h with ⟨rfl, rfl⟩ | ⟨a, cap, rfl, _⟩
  · exact ⟨none, 0, rfl⟩
  · exact ⟨some a, cap, rfl⟩
theorem SR.setB {B n : Nat} {W : World} (h : SR B n W) (X o : Nat) (x : Value) (hX : X ≠ B) : SR B n (W.setCell ⟨X, o, none⟩ x) :=
  ⟨by simp only [World.size_setCell]; exact h.1, fun i hi => ⟨by rw [World.cell?_setCell_other _ _ _ _ (fun e => hX (congrArg Addr.block e))]; exact (h.2 i hi).1, by rw [World.frozen?_setCell]; exact (h.2 i hi).2⟩⟩
theorem Txt.setB {B n c : Nat} {W : World} {S : List ByteArray} (h : Txt W (.slice (some ⟨B, 0, none⟩) n c) S) (X o : Nat) (x : Value) (hX : X ≠ B) : Txt (W.setCell ⟨X, o, none⟩ x) (.slice (some ⟨B, 0, none⟩) n c) S := by
  rcases h with ⟨h1, rfl⟩ | ⟨a, cap, h1, h2, h3, h4, h5⟩
  · cases h1
  · refine .inr ⟨a, cap, h1, h2, h3, fun hl => by simp only [World.size_setCell]; exact h4 hl, fun i hi => ?_⟩
    have ea : a = ⟨B, 0, none⟩ := by injection h1 with e _ _; injection e with e; exact e.symm
    subst ea
    rw [World.cell?_setCell_other _ _ _ _ (fun e => hX (by have := congrArg Addr.block e; rwa [add_block] at this))]
    exact h5 i hi
set_option maxRecDepth 20000 in
set_option maxHeartbeats 1000000 in
theorem szlog_is (W : World) (v : Value) (S : List ByteArray) (h : Txt W v S) (hs : ∀ s ∈ S, s.size ≤ maxLen) :
    Calls Try.prog 4 #[.agg #[v], .int .i64 1048576] W fun e w' => ∃ r : Int, e = .returned (.int .i64 r) ∧ Below W.heap.size W w' ∧ (0 ≤ r → S.length ≤ 1048576) := by
  have hb0 : Below W.heap.size W (W.alloc (.cells #[v] 24)) := (Below.refl _ _).alloc (Nat.le_refl _) _
  have c := sz_is _ v S (h.call hb0) hs 1048576 (by omega)
  obtain ⟨oa, cap, rfl⟩ := h.len
  clear h
  go_enter Try.func4, Try.ntmps4
  go_wp2_with (go_at_call 11; refine c.mono ?_; rintro e w1 ⟨r, rfl, hw, hr⟩; replace hw := hw.symm; subst hw; clear c)
  · go_ret
    exact ⟨-1, rfl, hb0, fun h => by omega⟩
  · go_ret
    exact ⟨r, rfl, hb0, hr⟩
set_option maxRecDepth 20000 in
set_option maxHeartbeats 1000000 in
theorem tolog_is (W : World) (v : Value) (S : List ByteArray) (h : Txt W v S) (hlen : S.length ≤ 1048576) :
    Calls Try.prog 6 #[.agg #[v]] W fun e w' => ∃ B : Nat, e = .returned (.agg #[.slice (some ⟨B, 0, none⟩) S.length S.length]) ∧ W.heap.size ≤ B ∧ SR B S.length w' ∧ Txt w' (.slice (some ⟨B, 0, none⟩) S.length S.length) S ∧ Below W.heap.size W w' := by
  obtain ⟨V, hV⟩ : ∃ V, V = ((W.alloc (.cells #[v] 24)).alloc (.cells #[.slice none 0 0] 26)).alloc (.cells #[.slice none 0 0] 26) := ⟨_, rfl⟩
  have hb0 : Below W.heap.size W V := by rw [hV]; exact (by repeat' (first | (with_reducible exact Below.refl _ _) | (with_reducible assumption) | (with_reducible refine below_drewN ?_ _) | (with_reducible refine Below.setCell ?_ ?_ _) | (with_reducible refine Below.alloc ?_ ?_ _) | (with_reducible refine Below.drew ?_) | go_size))
  have hzV : V.heap.size = W.heap.size + 3 := by rw [hV]; simp
  have x1 : C1 (W.heap.size + 1) (.slice none 0 0) V := by
    have := (C1.new (W.alloc (.cells #[v] 24)) (.slice none 0 0) 26).call ((Below.refl _ _).alloc (Nat.le_refl _) (.cells #[.slice none 0 0] 26))
    rw [World.size_alloc] at this
    rw [hV]; exact this
  have x2 : C1 (W.heap.size + 1 + 1) (.slice none 0 0) V := by
    have := C1.new ((W.alloc (.cells #[v] 24)).alloc (.cells #[.slice none 0 0] 26)) (.slice none 0 0) 26
    rw [World.size_alloc, World.size_alloc] at this
    rw [hV]; exact this
  have c : Calls Try.prog 14 #[v] V fun e w' => e = .returned (.slice (some ⟨W.heap.size + 3, 0, none⟩) S.length S.length) ∧ C1 (W.heap.size + 1) (.slice none 0 0) w' ∧ C1 (W.heap.size + 1 + 1) (.slice none 0 0) w' ∧ Below W.heap.size W w' ∧ SR (W.heap.size + 3) S.length w' ∧ Txt w' (.slice (some ⟨W.heap.size + 3, 0, none⟩) S.length S.length) S := by
    have := tos_at V v S (h.call hb0) hlen
    rw [hzV] at this
    refine this.mono ?_
    rintro e w' ⟨h1, h2, h3, h4⟩
    rw [← hzV] at h2
    exact ⟨h1, x1.call h2, x2.call h2, below_after hb0 h2 hb0.size, h3, h4⟩
  rw [hV] at c
  clear hV x1 x2 hzV hb0
  obtain ⟨oa, cap, rfl⟩ := h.len
  clear h
  go_enter Try.func6, Try.ntmps6
  go_wp2_with (go_at_call 14; refine c.mono ?_; rintro e w1 ⟨rfl, ⟨l1, a1, f1⟩, ⟨l2, a2, f2⟩, hb1, hs1, ht1⟩; clear c)
  have q1 : ∀ x y : Value, Below W.heap.size W ((w1.setCell ⟨W.heap.size + 1 + 1, 0, none⟩ x).setCell ⟨W.heap.size + 1, 0, none⟩ y) := fun x y => (hb1.setCell (by show W.heap.size ≤ W.heap.size + 1 + 1; omega) _).setCell (by show W.heap.size ≤ W.heap.size + 1; omega) _
  have q2 : ∀ x y : Value, SR (W.heap.size + 3) S.length ((w1.setCell ⟨W.heap.size + 1 + 1, 0, none⟩ x).setCell ⟨W.heap.size + 1, 0, none⟩ y) := fun x y => (hs1.setB _ _ x (by omega)).setB _ _ y (by omega)
  have q3 : ∀ x y : Value, Txt ((w1.setCell ⟨W.heap.size + 1 + 1, 0, none⟩ x).setCell ⟨W.heap.size + 1, 0, none⟩ y) (.slice (some ⟨W.heap.size + 3, 0, none⟩) S.length S.length) S := fun x y => (ht1.setB _ _ x (by omega)).setB _ _ y (by omega)
  exact bodyPost_ret (v := .agg #[.slice (some ⟨W.heap.size + 3, 0, none⟩) S.length S.length]) (by simp [results, Try.results6, go_sem, a1]) rfl ⟨_, rfl, by omega, q2 _ _, q3 _ _, q1 _ _⟩
set_option maxRecDepth 20000 in
set_option maxHeartbeats 1000000 in
theorem eqlog_is (W : World) (u v : Value) (S : List ByteArray) (h : Txt W u S) (h' : Txt W v S) :
    Calls Try.prog 8 #[.agg #[u], .agg #[v]] W fun e w' => e = .returned (.bool true) ∧ Below W.heap.size W w' := by
  have hb0 : Below W.heap.size W ((W.alloc (.cells #[u] 26)).alloc (.cells #[v] 26)) := (by repeat' (first | (with_reducible exact Below.refl _ _) | (with_reducible assumption) | (with_reducible refine below_drewN ?_ _) | (with_reducible refine Below.setCell ?_ ?_ _) | (with_reducible refine Below.alloc ?_ ?_ _) | (with_reducible refine Below.drew ?_) | go_size))
  have c := eqs_is _ u v S (h.call hb0) (h'.call hb0)
  obtain ⟨oa, cap, rfl⟩ := h.len
  obtain ⟨oa', cap', rfl⟩ := h'.len
  clear h h'
  go_enter Try.func8, Try.ntmps8
  go_wp2_with (go_at_call 19; refine c.mono ?_; rintro e w1 ⟨rfl, hb1⟩; clear c)
  go_ret
  exact ⟨rfl, below_after hb0 hb1 hb0.size⟩
/-- The marks from 1 on lie in the texts u, n of them, and end at r. -/
def HeldT (W : World) (u : Value) (n r : Nat) : Prop := r = 1 + n ∧ ((n = 0 ∧ ∃ oa cap, u = .slice oa 0 cap) ∨ ∃ g cap, u = .slice (some ⟨g, 0, none⟩) n cap ∧ g < W.heap.size ∧ TM g n W)
theorem HeldT.call {W W' : World} {u : Value} {n r : Nat} (h : HeldT W u n r) (hb : Below W.heap.size W W') : HeldT W' u n r := by
  obtain ⟨hr, h0 | ⟨g, cap, e, hg, hd⟩⟩ := h
  · exact ⟨hr, .inl h0⟩
  · exact ⟨hr, .inr ⟨g, cap, e, Nat.lt_of_lt_of_le hg hb.size, hd.call hg hb⟩⟩
set_option maxRecDepth 20000 in
theorem marklogX (W : World) (B n cap : Nat) (h : SR B n W) (hn : n ≤ 1048576) :
    Calls Try.prog 9 #[.agg #[.slice (some ⟨B, 0, none⟩) n cap], .int .i64 1] W fun e w' => ∃ r : Nat, e = .returned (.int .i64 (r : Int)) ∧ W.grownBy w' (some B) := by
  have hb0 : Below W.heap.size W (W.alloc (.cells #[.slice (some ⟨B, 0, none⟩) n cap] 26)) := (Below.refl _ _).alloc (Nat.le_refl _) _
  have hg0 : W.grownBy (W.alloc (.cells #[.slice (some ⟨B, 0, none⟩) n cap] 26)) (some B) := World.grownBy_alloc W _ _
  have c := markS_is _ B n cap (h.call hb0) hn
  clear h
  go_enter Try.func9, Try.ntmps9
  go_wp2_with (go_at_call 20; refine c.mono ?_; rintro e w1 ⟨r, rfl, hg1⟩; clear c)
  go_ret
  exact ⟨r, rfl, grown_trans hg0 hg1⟩
set_option maxRecDepth 20000 in
theorem marklogR (W : World) (base : Nat) (u : Value) (S : List ByteArray) (h : W.ownsRow base 9 1 u S.length (tcs S)) (hn : S.length ≤ 1048576) :
    Calls Try.prog 9 #[.agg #[u], .int .i64 1] W fun e w' => ∃ (r : Nat) (row : Option Nat), e = .returned (.int .i64 (r : Int)) ∧ W.grownBy w' row ∧ (∀ j, row = some j → base ≤ j ∧ S.length ≠ 0 ∧ ∃ c, u = .slice (some ⟨j, 0, none⟩) S.length c) ∧ HeldT w' u S.length r := by
  have hb0 : Below W.heap.size W (W.alloc (.cells #[u] 26)) := (Below.refl _ _).alloc (Nat.le_refl _) _
  have hg0 : ∀ r : Option Nat, W.grownBy (W.alloc (.cells #[u] 26)) r := fun r => World.grownBy_alloc W _ r
  have h' : (S.length = 0 ∧ ∃ oa cap, u = .slice oa 0 cap) ∨ (0 < S.length ∧ ∃ g cap, u = .slice (some ⟨g, 0, none⟩) S.length cap ∧ base ≤ g ∧ SR g S.length W) := by
    by_cases h0 : S.length = 0
    · obtain ⟨oa, cap, e⟩ := owt_len h
      rw [h0] at e
      exact .inl ⟨h0, oa, cap, e⟩
    · refine .inr ⟨by omega, ?_⟩
      rcases id h.2 with ⟨_, e0⟩ | ⟨g, cap, cur, hv, _⟩
      · exact absurd e0 h0
      · subst hv
        obtain ⟨g1, g2⟩ := h.lt g rfl
        refine ⟨g, cap, rfl, g1, g2, fun i hi => ⟨?_, h.frozenAt i⟩⟩
        rw [h.cellAt i (by omega)]
        simp [tcs, hi]
  clear h
  rcases h' with ⟨h0, oa, cap, rfl⟩ | ⟨hpos, g, cap, rfl, hg, hr⟩
  · have c := fun V : World => marksN V oa cap
    rw [h0]
    go_enter Try.func9, Try.ntmps9
    go_wp2_with (go_at_call 20; refine (c _).mono ?_; rintro e w1 ⟨rfl, rfl⟩; clear c)
    go_ret
    exact ⟨1, none, rfl, hg0 none, (fun j e => by cases e), rfl, .inl ⟨rfl, _, _, rfl⟩⟩
  · have c := marksT _ g S.length cap (hr.call hb0) hn
    clear hr
    go_enter Try.func9, Try.ntmps9
    go_wp2_with (go_at_call 20; refine c.mono ?_; rintro e w1 ⟨rfl, hg1, hs1, hl1⟩; clear c)
    go_ret
    exact ⟨_, some g, rfl, grown_trans (hg0 _) hg1, (fun j e => by injection e with e; subst e; exact ⟨hg, by omega, _, rfl⟩), rfl, .inr ⟨g, _, rfl, hs1.1, hl1⟩⟩
set_option maxRecDepth 20000 in
theorem heldlogG (W : World) (u : Value) (n r : Nat) (h : HeldT W u n r) (hn : n ≤ 1048576) :
    Calls Try.prog 10 #[.agg #[u], .int .i64 1] W fun e w' => e = .returned (.int .i64 (r : Int)) ∧ Below W.heap.size W w' := by
  have hb0 : Below W.heap.size W (W.alloc (.cells #[u] 26)) := (Below.refl _ _).alloc (Nat.le_refl _) _
  obtain ⟨rfl, ⟨rfl, oa, cap, rfl⟩ | ⟨g, cap, rfl, hg, hd⟩⟩ := h
  · have c := fun V : World => heldsN V oa cap
    go_enter Try.func10, Try.ntmps10
    go_wp2_with (go_at_call 21; refine (c _).mono ?_; rintro e w1 ⟨rfl, rfl⟩; clear c)
    go_ret
    exact ⟨rfl, hb0⟩
  · have c := heldsT _ g n cap (Nat.lt_of_lt_of_le hg hb0.size) (hd.call hg hb0) hn
    clear hd
    go_enter Try.func10, Try.ntmps10
    go_wp2_with (go_at_call 21; refine c.mono ?_; rintro e w1 ⟨rfl, hb1⟩; clear c)
    go_ret
    exact ⟨rfl, below_after hb0 hb1 hb0.size⟩
end Go.Proofs.Ytegihccdpohnnaa
