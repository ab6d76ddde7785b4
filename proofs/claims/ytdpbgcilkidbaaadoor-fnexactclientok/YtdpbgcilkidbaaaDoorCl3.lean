/-
  Lists of numbers: measured, copied; a client measured and copied.
-/
import Derived.Test.YtdpbgcilkidbaaaDoorCl2
import Derived.Test.YtdpbgcilkidbaaaDoorToPt
namespace Go.Proofs.YtdpbgcilkidbaaaDoor
open Go.RowKit

theorem szi_is (W : World) (v : Value) (X : List Int) (h : Its W v X) (m : Nat) (hm : m ≤ 1048576) :
    Calls Tryd.prog 14 #[v, .int .i64 (m : Int)] W fun e w' => ∃ r : Int, e = .returned (.int .i64 r) ∧ w' = W ∧ (0 ≤ r → X.length ≤ m) := by
  obtain ⟨a, cap, rfl, hl⟩ := h.len
  clear h
  have hw1 : IntKind.i64.wrap ((m : Int) - (X.length : Int)) = (m : Int) - (X.length : Int) := IntWalk.i64_in _ (by omega)
  by_cases hb : m < X.length
  · have hbI : (m : Int) - (X.length : Int) < 0 := by omega
    go_enter Tryd.func14, Tryd.ntmps14
    go_wp2
    go_ret
    exact ⟨-1, rfl, rfl, fun h => by omega⟩
  · have hbI : ¬ (m : Int) - (X.length : Int) < 0 := by omega
    go_enter Tryd.func14, Tryd.ntmps14
    go_wp2
    go_ret
    exact ⟨_, rfl, rfl, fun _ => by omega⟩
/-- What stands in toIntS: the first k numbers are copied. -/
def IRel (W : World) (S : List Int) (k : Nat) (wr : World) : Prop :=
  W.heap.size < wr.heap.size ∧ Below W.heap.size W wr ∧ ∃ A : Array Value, wr.heap[W.heap.size]? = some (.cells A 3) ∧ A.size = S.length ∧ ∀ (i : Nat) (h : i < S.length), i < k → A[i]? = some (.int .i64 S[i])
theorem IRel.drew {W wr : World} {S : List Int} {k : Nat} (h : IRel W S k wr) : IRel W S k wr.drew := ⟨h.1, h.2.1.drew, h.2.2⟩
theorem IRel.step {W wr : World} {S : List Int} {k : Nat} (h : IRel W S k wr) (hk : k < S.length) : IRel W S (k + 1) (wr.setCell ⟨W.heap.size, k, none⟩ (.int .i64 S[k])) := by
  obtain ⟨hz, hB, A, hA, hl, hc⟩ := h
  have hh : (wr.setCell ⟨W.heap.size, k, none⟩ (.int .i64 S[k])).heap[W.heap.size]? = some (.cells (A.setIfInBounds k (.int .i64 S[k])) 3) := by
    rw [setCell_eq_setRow wr W.heap.size k _ 3 (0, 0) _ hA, setRow_heap _ _ _ _ _ _ hA]
  refine ⟨by simp only [World.size_setCell]; exact hz, hB.setCell (Nat.le_refl _) _, _, hh, by simp [hl], fun i hi hik => ?_⟩
  by_cases e : i = k
  · subst e
    simp [hl, hi]
  · rw [Array.getElem?_setIfInBounds_ne (by omega)]
    exact hc i hi (by omega)
set_option maxRecDepth 20000 in
set_option maxHeartbeats 1000000 in
theorem toi_is (W : World) (v : Value) (S : List Int) (h : Its W v S) (hlen : S.length ≤ 1048576) :
    Calls Tryd.prog 18 #[v] W fun e w' => e = .returned (.slice (some ⟨W.heap.size, 0, none⟩) S.length S.length) ∧ Below W.heap.size W w' ∧ Its w' (.slice (some ⟨W.heap.size, 0, none⟩) S.length S.length) S := by
  obtain ⟨i0, hi, hz0, hz1, hz2⟩ := info_parts infoI
  have hmk : (Instr.makeSlice 27 (.int .i64 (S.length : Int)) (.int .i64 (S.length : Int))).run Tryd.prog W = .ok (.slice (some ⟨W.heap.size, 0, none⟩) S.length S.length) (W.alloc (.cells (madeCells (Value.int .i64 0).cells (S.length * i0.size)) 3)) := by
    have h1 := run_make (P := Tryd.prog) W 27 3 i0 (.int .i64 0) Tryd.underlying27 hi hz0 .i64 .i64 (S.length : Int) (S.length : Int) (by omega) (Int.le_refl _) (by rw [hz2]; omega) (by omega)
    simpa using h1
  obtain ⟨A, hA⟩ : ∃ A, A = madeCells (Value.int .i64 0).cells (S.length * i0.size) := ⟨_, rfl⟩
  have hAs : A.size = S.length := by rw [hA, size_madeCells, hz1, Nat.mul_one]
  rw [← hA] at hmk
  have HT : Hid (IRel W S 0 (W.alloc (.cells A 3))) := ⟨by simp, (Below.refl _ _).alloc (Nat.le_refl _) _, A, heap_alloc_last W _, hAs, fun i _ h => by omega⟩
  clear hA hAs hi hz0 hz1 hz2
  have hlI : (S.length : Int) ≤ 1048576 := by omega
  have hv : ∃ a cap, v = .slice a S.length cap := by
    rcases h with ⟨rfl, rfl⟩ | ⟨a, cap, rfl, _⟩
    · exact ⟨none, 0, rfl⟩
    · exact ⟨some a, cap, rfl⟩
  have hcell : ∀ k, k < S.length → ∃ a cap, v = .slice (some a) S.length cap ∧ a.block < W.heap.size ∧ ∀ (i : Nat) (h : i < S.length), W.cell? (a.add i) = some (.int .i64 S[i]) := by
    intro k hk
    rcases h with ⟨rfl, rfl⟩ | ⟨a, cap, rfl, _, _, hb, hc⟩
    · simp at hk
    · exact ⟨a, cap, rfl, hb (by omega), hc⟩
  clear h
  obtain ⟨oa, cap, rfl⟩ := hv
  go_enter Tryd.func18, Tryd.ntmps18
  go_wp2_with fail
  go_loopw [4] (fun i wr => ∃ k : Nat, k ≤ S.length ∧ i = .int .i64 (k : Int) ∧ Hid (IRel W S k wr)) (fun i _ => S.length - (intOf i).toNat)
  case atStart => exact ⟨0, by omega, rfl, HT⟩
  case round =>
    obtain ⟨k, hk, rfl, HR⟩ := hrel
    by_cases hlt : k < S.length
    · obtain ⟨a, cap', he, hbl, hc⟩ := hcell k hlt
      obtain ⟨rfl, _, rfl⟩ : oa = some a ∧ S.length = S.length ∧ cap = cap' := by simpa using he
      have hci : wr.cell? (a.add k) = some (.int .i64 S[k]) := (HR.out.2.1.cell (by rw [add_block]; exact hbl)).trans (hc k hlt)
      obtain ⟨_, _, B, hB, hBl, _⟩ := HR.out
      have bk : k < B.size := by omega
      have hco : wr.cell? ⟨W.heap.size, k, none⟩ = some B[k] := by
        rw [cell_of_row wr W.heap.size k _ 3 (0, 0) hB]
        exact Array.getElem?_eq_getElem bk
      have hfo : wr.frozen? ⟨W.heap.size, k, none⟩ = false := frozen_of_row wr W.heap.size k _ 3 hB
      have HN : Hid (IRel W S (k + 1) (wr.setCell ⟨W.heap.size, k, none⟩ (.int .i64 S[k]))) := HR.out.step hlt
      obtain ⟨s, hs⟩ : ∃ s, s = S[k] := ⟨_, rfl⟩
      rw [← hs] at hci HN
      have hk0 : (0 : Int) ≤ (k : Int) := by omega
      have hkI : (k : Int) < (S.length : Int) := by omega
      clear hs hc he hcell HT hmk HR
      go_wp2_with fail
      exact ⟨⟨k + 1, by omega, by go_num, HN⟩, by simp [intOf]; omega⟩
    · have hkk : k = S.length := by omega
      subst hkk
      clear hcell HT hmk
      go_wp2
      go_ret
      obtain ⟨hz, hB, C, hC, hCl, hcc⟩ := HR.out
      refine ⟨rfl, hB, .inr ⟨⟨W.heap.size, 0, none⟩, S.length, rfl, Nat.le_refl _, by unfold maxLen; omega, fun _ => hz, fun i hi => ?_⟩⟩
      rw [Addr.add_mid, cell_of_row wr W.heap.size _ _ 3 (0, 0) hC, Nat.zero_add]
      exact hcc i hi hi
set_option maxRecDepth 20000 in
theorem agg_lpt : AggTy 26 5 := ⟨⟨_, Tryd.underlying26, rfl⟩, by kernel_rfl⟩
/-- A client, apart from the row of its acknowledgements. -/
structure Cln where
  n : Int
  m : Int
  se : Int
  ph : Int
  gs : Int
  gr : Qd
  ps : Int
  pr : Qd
set_option maxRecDepth 20000 in
set_option maxHeartbeats 1000000 in
theorem szc_is (W : World) (c : Cln) (v : Value) (X : List Int) (h : Its W v X) :
    Calls Tryd.prog 5 #[.agg #[.int .i64 c.n, .int .i64 c.m, .int .i64 c.se, .int .i64 c.ph, .int .i64 c.gs, .int .u64 ((c.gr.a).toNat : Int), .int .u64 ((c.gr.b).toNat : Int), .int .u64 ((c.gr.c).toNat : Int), .int .u64 ((c.gr.d).toNat : Int), v, .int .i64 c.ps, .int .u64 ((c.pr.a).toNat : Int), .int .u64 ((c.pr.b).toNat : Int), .int .u64 ((c.pr.c).toNat : Int), .int .u64 ((c.pr.d).toNat : Int)], .int .i64 1048576] W fun e w' => ∃ r : Int, e = .returned (.int .i64 r) ∧ Below W.heap.size W w' ∧ (0 ≤ r → X.length ≤ 1048576) := by
  have A0 : Lies W.heap.size 0 [.int .i64 c.n, .int .i64 c.m, .int .i64 c.se, .int .i64 c.ph, .int .i64 c.gs, .int .u64 ((c.gr.a).toNat : Int), .int .u64 ((c.gr.b).toNat : Int), .int .u64 ((c.gr.c).toNat : Int), .int .u64 ((c.gr.d).toNat : Int), v, .int .i64 c.ps, .int .u64 ((c.pr.a).toNat : Int), .int .u64 ((c.pr.b).toNat : Int), .int .u64 ((c.pr.c).toNat : Int), .int .u64 ((c.pr.d).toNat : Int)] (W.alloc (.cells #[.int .i64 c.n, .int .i64 c.m, .int .i64 c.se, .int .i64 c.ph, .int .i64 c.gs, .int .u64 ((c.gr.a).toNat : Int), .int .u64 ((c.gr.b).toNat : Int), .int .u64 ((c.gr.c).toNat : Int), .int .u64 ((c.gr.d).toNat : Int), v, .int .i64 c.ps, .int .u64 ((c.pr.a).toNat : Int), .int .u64 ((c.pr.b).toNat : Int), .int .u64 ((c.pr.c).toNat : Int), .int .u64 ((c.pr.d).toNat : Int)] 29)) := Lies.new W [.int .i64 c.n, .int .i64 c.m, .int .i64 c.se, .int .i64 c.ph, .int .i64 c.gs, .int .u64 ((c.gr.a).toNat : Int), .int .u64 ((c.gr.b).toNat : Int), .int .u64 ((c.gr.c).toNat : Int), .int .u64 ((c.gr.d).toNat : Int), v, .int .i64 c.ps, .int .u64 ((c.pr.a).toNat : Int), .int .u64 ((c.pr.b).toNat : Int), .int .u64 ((c.pr.c).toNat : Int), .int .u64 ((c.pr.d).toNat : Int)] 29
  have z0 : Below W.heap.size W (W.alloc (.cells #[.int .i64 c.n, .int .i64 c.m, .int .i64 c.se, .int .i64 c.ph, .int .i64 c.gs, .int .u64 ((c.gr.a).toNat : Int), .int .u64 ((c.gr.b).toNat : Int), .int .u64 ((c.gr.c).toNat : Int), .int .u64 ((c.gr.d).toNat : Int), v, .int .i64 c.ps, .int .u64 ((c.pr.a).toNat : Int), .int .u64 ((c.pr.b).toNat : Int), .int .u64 ((c.pr.c).toNat : Int), .int .u64 ((c.pr.d).toNat : Int)] 29)) := (by repeat' (first | (with_reducible exact Below.refl _ _) | (with_reducible assumption) | (with_reducible refine below_drewN ?_ _) | (with_reducible refine Below.setCell ?_ ?_ _) | (with_reducible refine Below.alloc ?_ ?_ _) | (with_reducible refine Below.drew ?_) | go_size))
  have H1 : Its (W.alloc (.cells #[.int .i64 c.n, .int .i64 c.m, .int .i64 c.se, .int .i64 c.ph, .int .i64 c.gs, .int .u64 ((c.gr.a).toNat : Int), .int .u64 ((c.gr.b).toNat : Int), .int .u64 ((c.gr.c).toNat : Int), .int .u64 ((c.gr.d).toNat : Int), v, .int .i64 c.ps, .int .u64 ((c.pr.a).toNat : Int), .int .u64 ((c.pr.b).toNat : Int), .int .u64 ((c.pr.c).toNat : Int), .int .u64 ((c.pr.d).toNat : Int)] 29)) v X := h.call z0
  go_enter Tryd.func5, Tryd.ntmps5
  go_upto_region 1 with fail
  generalize W.alloc (.cells #[.int .i64 c.n, .int .i64 c.m, .int .i64 c.se, .int .i64 c.ph, .int .i64 c.gs, .int .u64 ((c.gr.a).toNat : Int), .int .u64 ((c.gr.b).toNat : Int), .int .u64 ((c.gr.c).toNat : Int), .int .u64 ((c.gr.d).toNat : Int), v, .int .i64 c.ps, .int .u64 ((c.pr.a).toNat : Int), .int .u64 ((c.pr.b).toNat : Int), .int .u64 ((c.pr.c).toNat : Int), .int .u64 ((c.pr.d).toNat : Int)] 29) = w1 at A0 z0 H1 ⊢
  have k9 := A0 9 _ rfl
  rw [Nat.zero_add] at k9
  have cs := szi_is w1 v X H1 1048576 (by omega)
  clear h H1 A0
  go_upto_region 2 with (go_at_call 14; refine cs.mono ?_; rintro e w2 ⟨r, rfl, hw, hr⟩; subst hw; clear cs)
  by_cases hb : r < 0
  · go_wp2_with fail
    go_ret
    exact ⟨-1, rfl, z0, fun h => by omega⟩
  · go_wp2_with fail
    go_ret
    have hX := hr (by omega)
    first
      | exact ⟨r, rfl, z0, fun _ => hX⟩
      | exact ⟨⟨r, rfl⟩, z0⟩
      | exact ⟨z0, r, rfl⟩
/-- A list with some of its values replaced. -/
def putl : List Value → Nat → List Value → List Value
  | vs, _, [] => vs
  | vs, i, u :: us => putl (vs.set i u) (i + 1) us
theorem Lies.puts {b k : Nat} : ∀ (us : List Value) (i : Nat) (vs : List Value) (w : World), Lies b k vs w → i + us.length ≤ vs.length → Lies b k (putl vs i us) (w.setCells b (k + i) us)
  | [], _, _, _, h, _ => h
  | u :: us, i, vs, w, h, hi => by
    rw [List.length_cons] at hi
    rw [World.setCells]
    exact Lies.puts us (i + 1) _ _ (h.set i (by omega) u) (by rw [List.length_set]; omega)
theorem Room.scl {b k n : Nat} (g : Nat) : ∀ (vs : List Value) (i : Nat) (w : World), Room b k n w → Room b k n (w.setCells g i vs)
  | [], _, _, h => h
  | v :: r, i, w, h => by rw [World.setCells]; exact Room.scl g r _ _ (h.set g i v)
/-- What stands while a client is copied: the one that is given, the one that is made, the box of the answer. -/
def TC (W : World) (av cv : List Value) (w : World) : Prop :=
  Lies W.heap.size 0 av w ∧ Lies (W.heap.size + 2) 0 cv w ∧ Room (W.heap.size + 2) 0 15 w ∧ Room (W.heap.size + 1) 0 15 w ∧ W.heap.size + 2 < w.heap.size ∧ Below W.heap.size W w
theorem TC.puts {W : World} {av cv : List Value} {w : World} (h : TC W av cv w) (i : Nat) (us : List Value) (hi : i + us.length ≤ cv.length) : TC W av (putl cv i us) (w.setCells (W.heap.size + 2) i us) := by
  obtain ⟨h1, h2, h3, h4, h5, h6⟩ := h
  have g := sc_grown w (W.heap.size + 2) i us
  have h2' := h2.puts us i _ _ hi
  rw [Nat.zero_add] at h2'
  exact ⟨h1.grown g (by omega) (fun e => by injection e with e; omega), h2', h3.scl _ _ i _, h4.grown g (by omega) (fun e => by injection e with e; omega), by rw [sc_size]; exact h5, Below.sc _ (by omega) us i _ h6⟩
theorem TC.put {W : World} {av cv : List Value} {w : World} (h : TC W av cv w) (i : Nat) (u : Value) (hi : i < cv.length) : TC W av (cv.set i u) (w.setCell ⟨W.heap.size + 2, i, none⟩ u) := h.puts i [u] hi
theorem TC.call {W : World} {av cv : List Value} {w w' : World} (h : TC W av cv w) (hb : Below w.heap.size w w') : TC W av cv w' := by
  obtain ⟨h1, h2, h3, h4, h5, h6⟩ := h
  exact ⟨h1.call hb (by omega), h2.call hb h5, h3.call hb h5, h4.call hb (by omega), Nat.lt_of_lt_of_le h5 hb.size, below_after h6 hb h6.size⟩
theorem TC.new (W : World) (av cv : List Value) (t t' : TypeId) (hc : cv.length = 15) : TC W av cv (((W.alloc (.cells av.toArray t)).alloc (.cells cv.toArray t')).alloc (.cells cv.toArray t')) := by
  have z1 : Below W.heap.size W (W.alloc (.cells av.toArray t)) := (Below.refl _ _).alloc (Nat.le_refl _) _
  have z2 : Below W.heap.size W ((W.alloc (.cells av.toArray t)).alloc (.cells cv.toArray t')) := z1.alloc (by simp) _
  have z3 : Below W.heap.size W (((W.alloc (.cells av.toArray t)).alloc (.cells cv.toArray t')).alloc (.cells cv.toArray t')) := z2.alloc (by simp; omega) _
  have s1 : (W.alloc (.cells av.toArray t)).heap.size = W.heap.size + 1 := by simp
  have s2 : ((W.alloc (.cells av.toArray t)).alloc (.cells cv.toArray t')).heap.size = W.heap.size + 2 := by simp
  have s3 : (((W.alloc (.cells av.toArray t)).alloc (.cells cv.toArray t')).alloc (.cells cv.toArray t')).heap.size = W.heap.size + 3 := by simp
  have y2 := (Below.refl (W.alloc (.cells av.toArray t)).heap.size (W.alloc (.cells av.toArray t))).alloc (Nat.le_refl _) (.cells cv.toArray t')
  have y3 := (Below.refl ((W.alloc (.cells av.toArray t)).alloc (.cells cv.toArray t')).heap.size ((W.alloc (.cells av.toArray t)).alloc (.cells cv.toArray t'))).alloc (Nat.le_refl _) (.cells cv.toArray t')
  have r1 := Room.new (W.alloc (.cells av.toArray t)) cv.toArray t' 15 (by simpa using hc)
  have r2 := Room.new ((W.alloc (.cells av.toArray t)).alloc (.cells cv.toArray t')) cv.toArray t' 15 (by simpa using hc)
  have l2 := Lies.new ((W.alloc (.cells av.toArray t)).alloc (.cells cv.toArray t')) cv t'
  have r1' := r1.call y3 (by rw [s1, s2]; omega)
  rw [s1] at r1'
  rw [s2] at r2 l2
  exact ⟨((Lies.new W av t).call y2 (by rw [s1]; omega)).call y3 (by rw [s2]; omega), l2, r2, r1', by rw [s3]; omega, z3⟩
/-- A row of numbers that lies apart from what is written. -/
theorem Its.far {W W' : World} {g n cap : Nat} {X : List Int} {row : Option Nat} (h : Its W (.slice (some ⟨g, 0, none⟩) n cap) X) (hg : W.grownBy W' row) (hr : row ≠ some g) : Its W' (.slice (some ⟨g, 0, none⟩) n cap) X := by
  rcases h with ⟨h, _⟩ | ⟨a, cap', hv, hl, hm, hbl, hc⟩
  · cases h
  · injection hv with e1 e2 e3
    injection e1 with e1
    subst e1 e2 e3
    refine .inr ⟨_, _, rfl, hl, hm, fun h0 => Nat.lt_of_lt_of_le (hbl h0) hg.size, fun i hi => ?_⟩
    rw [World.cell?_of_block (w := W) (a := Addr.add ⟨g, 0, none⟩ i) (by rw [add_block]; exact hg.block g (hbl (by omega)) (fun e => hr e.symm))]
    exact hc i hi
set_option maxRecDepth 20000 in
set_option maxHeartbeats 4000000 in
theorem toc_is (W : World) (c : Cln) (v : Value) (X : List Int) (h : Its W v X) (hlen : X.length ≤ 1048576) :
    Calls Tryd.prog 7 #[.agg #[.int .i64 c.n, .int .i64 c.m, .int .i64 c.se, .int .i64 c.ph, .int .i64 c.gs, .int .u64 ((c.gr.a).toNat : Int), .int .u64 ((c.gr.b).toNat : Int), .int .u64 ((c.gr.c).toNat : Int), .int .u64 ((c.gr.d).toNat : Int), v, .int .i64 c.ps, .int .u64 ((c.pr.a).toNat : Int), .int .u64 ((c.pr.b).toNat : Int), .int .u64 ((c.pr.c).toNat : Int), .int .u64 ((c.pr.d).toNat : Int)]] W fun e w' => ∃ u, e = .returned (.agg #[.int .i64 c.n, .int .i64 c.m, .int .i64 c.se, .int .i64 c.ph, .int .i64 c.gs, .int .u64 ((c.gr.a).toNat : Int), .int .u64 ((c.gr.b).toNat : Int), .int .u64 ((c.gr.c).toNat : Int), .int .u64 ((c.gr.d).toNat : Int), u, .int .i64 c.ps, .int .u64 ((c.pr.a).toNat : Int), .int .u64 ((c.pr.b).toNat : Int), .int .u64 ((c.pr.c).toNat : Int), .int .u64 ((c.pr.d).toNat : Int)]) ∧ Below W.heap.size W w' ∧ Its w' u X := by
  have cp1 := fun V : World => topt_is c.gs c.gr V
  have cp2 := fun V : World => topt_is c.ps c.pr V
  have ct := fun (V : World) (h : Its V v X) => toi_is V v X h hlen
  have T0 : TC W [.int .i64 c.n, .int .i64 c.m, .int .i64 c.se, .int .i64 c.ph, .int .i64 c.gs, .int .u64 ((c.gr.a).toNat : Int), .int .u64 ((c.gr.b).toNat : Int), .int .u64 ((c.gr.c).toNat : Int), .int .u64 ((c.gr.d).toNat : Int), v, .int .i64 c.ps, .int .u64 ((c.pr.a).toNat : Int), .int .u64 ((c.pr.b).toNat : Int), .int .u64 ((c.pr.c).toNat : Int), .int .u64 ((c.pr.d).toNat : Int)] [.int .i64 0, .int .i64 0, .int .i64 0, .int .i64 0, .int .i64 0, .int .u64 0, .int .u64 0, .int .u64 0, .int .u64 0, .slice none 0 0, .int .i64 0, .int .u64 0, .int .u64 0, .int .u64 0, .int .u64 0] (((W.alloc (.cells #[.int .i64 c.n, .int .i64 c.m, .int .i64 c.se, .int .i64 c.ph, .int .i64 c.gs, .int .u64 ((c.gr.a).toNat : Int), .int .u64 ((c.gr.b).toNat : Int), .int .u64 ((c.gr.c).toNat : Int), .int .u64 ((c.gr.d).toNat : Int), v, .int .i64 c.ps, .int .u64 ((c.pr.a).toNat : Int), .int .u64 ((c.pr.b).toNat : Int), .int .u64 ((c.pr.c).toNat : Int), .int .u64 ((c.pr.d).toNat : Int)] 29)).alloc (.cells #[.int .i64 0, .int .i64 0, .int .i64 0, .int .i64 0, .int .i64 0, .int .u64 0, .int .u64 0, .int .u64 0, .int .u64 0, .slice none 0 0, .int .i64 0, .int .u64 0, .int .u64 0, .int .u64 0, .int .u64 0] 36)).alloc (.cells #[.int .i64 0, .int .i64 0, .int .i64 0, .int .i64 0, .int .i64 0, .int .u64 0, .int .u64 0, .int .u64 0, .int .u64 0, .slice none 0 0, .int .i64 0, .int .u64 0, .int .u64 0, .int .u64 0, .int .u64 0] 36)) := TC.new W [.int .i64 c.n, .int .i64 c.m, .int .i64 c.se, .int .i64 c.ph, .int .i64 c.gs, .int .u64 ((c.gr.a).toNat : Int), .int .u64 ((c.gr.b).toNat : Int), .int .u64 ((c.gr.c).toNat : Int), .int .u64 ((c.gr.d).toNat : Int), v, .int .i64 c.ps, .int .u64 ((c.pr.a).toNat : Int), .int .u64 ((c.pr.b).toNat : Int), .int .u64 ((c.pr.c).toNat : Int), .int .u64 ((c.pr.d).toNat : Int)] [.int .i64 0, .int .i64 0, .int .i64 0, .int .i64 0, .int .i64 0, .int .u64 0, .int .u64 0, .int .u64 0, .int .u64 0, .slice none 0 0, .int .i64 0, .int .u64 0, .int .u64 0, .int .u64 0, .int .u64 0] 29 36 rfl
  go_enter Tryd.func7, Tryd.ntmps7
  go_upto_region 2 with fail
  generalize ((W.alloc (.cells #[.int .i64 c.n, .int .i64 c.m, .int .i64 c.se, .int .i64 c.ph, .int .i64 c.gs, .int .u64 ((c.gr.a).toNat : Int), .int .u64 ((c.gr.b).toNat : Int), .int .u64 ((c.gr.c).toNat : Int), .int .u64 ((c.gr.d).toNat : Int), v, .int .i64 c.ps, .int .u64 ((c.pr.a).toNat : Int), .int .u64 ((c.pr.b).toNat : Int), .int .u64 ((c.pr.c).toNat : Int), .int .u64 ((c.pr.d).toNat : Int)] 29)).alloc (.cells #[.int .i64 0, .int .i64 0, .int .i64 0, .int .i64 0, .int .i64 0, .int .u64 0, .int .u64 0, .int .u64 0, .int .u64 0, .slice none 0 0, .int .i64 0, .int .u64 0, .int .u64 0, .int .u64 0, .int .u64 0] 36)).alloc (.cells #[.int .i64 0, .int .i64 0, .int .i64 0, .int .i64 0, .int .i64 0, .int .u64 0, .int .u64 0, .int .u64 0, .int .u64 0, .slice none 0 0, .int .i64 0, .int .u64 0, .int .u64 0, .int .u64 0, .int .u64 0] 36) = w0 at T0 ⊢
  have a0 := T0.1 0 _ rfl
  have b0 := T0.2.1 0 _ rfl
  have f0 := T0.2.2.1.2 0 (by omega)
  rw [Nat.zero_add] at a0 b0 f0
  go_upto_region 3 with fail
  have T1 : TC W [.int .i64 c.n, .int .i64 c.m, .int .i64 c.se, .int .i64 c.ph, .int .i64 c.gs, .int .u64 ((c.gr.a).toNat : Int), .int .u64 ((c.gr.b).toNat : Int), .int .u64 ((c.gr.c).toNat : Int), .int .u64 ((c.gr.d).toNat : Int), v, .int .i64 c.ps, .int .u64 ((c.pr.a).toNat : Int), .int .u64 ((c.pr.b).toNat : Int), .int .u64 ((c.pr.c).toNat : Int), .int .u64 ((c.pr.d).toNat : Int)] [.int .i64 c.n, .int .i64 0, .int .i64 0, .int .i64 0, .int .i64 0, .int .u64 0, .int .u64 0, .int .u64 0, .int .u64 0, .slice none 0 0, .int .i64 0, .int .u64 0, .int .u64 0, .int .u64 0, .int .u64 0] _ := T0.put 0 (.int .i64 c.n) (by simp)
  generalize w0.setCell ⟨W.heap.size + 2, 0, none⟩ (.int .i64 c.n) = w1 at T1 ⊢
  clear a0 b0 f0 T0 w0
  have a1 := T1.1 1 _ rfl
  have b1 := T1.2.1 1 _ rfl
  have f1 := T1.2.2.1.2 1 (by omega)
  rw [Nat.zero_add] at a1 b1 f1
  go_upto_region 4 with fail
  have T2 : TC W [.int .i64 c.n, .int .i64 c.m, .int .i64 c.se, .int .i64 c.ph, .int .i64 c.gs, .int .u64 ((c.gr.a).toNat : Int), .int .u64 ((c.gr.b).toNat : Int), .int .u64 ((c.gr.c).toNat : Int), .int .u64 ((c.gr.d).toNat : Int), v, .int .i64 c.ps, .int .u64 ((c.pr.a).toNat : Int), .int .u64 ((c.pr.b).toNat : Int), .int .u64 ((c.pr.c).toNat : Int), .int .u64 ((c.pr.d).toNat : Int)] [.int .i64 c.n, .int .i64 c.m, .int .i64 0, .int .i64 0, .int .i64 0, .int .u64 0, .int .u64 0, .int .u64 0, .int .u64 0, .slice none 0 0, .int .i64 0, .int .u64 0, .int .u64 0, .int .u64 0, .int .u64 0] _ := T1.put 1 (.int .i64 c.m) (by simp)
  generalize w1.setCell ⟨W.heap.size + 2, 1, none⟩ (.int .i64 c.m) = w2 at T2 ⊢
  clear a1 b1 f1 T1 w1
  have a2 := T2.1 2 _ rfl
  have b2 := T2.2.1 2 _ rfl
  have f2 := T2.2.2.1.2 2 (by omega)
  rw [Nat.zero_add] at a2 b2 f2
  go_upto_region 5 with fail
  have T3 : TC W [.int .i64 c.n, .int .i64 c.m, .int .i64 c.se, .int .i64 c.ph, .int .i64 c.gs, .int .u64 ((c.gr.a).toNat : Int), .int .u64 ((c.gr.b).toNat : Int), .int .u64 ((c.gr.c).toNat : Int), .int .u64 ((c.gr.d).toNat : Int), v, .int .i64 c.ps, .int .u64 ((c.pr.a).toNat : Int), .int .u64 ((c.pr.b).toNat : Int), .int .u64 ((c.pr.c).toNat : Int), .int .u64 ((c.pr.d).toNat : Int)] [.int .i64 c.n, .int .i64 c.m, .int .i64 c.se, .int .i64 0, .int .i64 0, .int .u64 0, .int .u64 0, .int .u64 0, .int .u64 0, .slice none 0 0, .int .i64 0, .int .u64 0, .int .u64 0, .int .u64 0, .int .u64 0] _ := T2.put 2 (.int .i64 c.se) (by simp)
  generalize w2.setCell ⟨W.heap.size + 2, 2, none⟩ (.int .i64 c.se) = w3 at T3 ⊢
  clear a2 b2 f2 T2 w2
  have a3 := T3.1 3 _ rfl
  have b3 := T3.2.1 3 _ rfl
  have f3 := T3.2.2.1.2 3 (by omega)
  rw [Nat.zero_add] at a3 b3 f3
  go_upto_region 6 with fail
  have T4 : TC W [.int .i64 c.n, .int .i64 c.m, .int .i64 c.se, .int .i64 c.ph, .int .i64 c.gs, .int .u64 ((c.gr.a).toNat : Int), .int .u64 ((c.gr.b).toNat : Int), .int .u64 ((c.gr.c).toNat : Int), .int .u64 ((c.gr.d).toNat : Int), v, .int .i64 c.ps, .int .u64 ((c.pr.a).toNat : Int), .int .u64 ((c.pr.b).toNat : Int), .int .u64 ((c.pr.c).toNat : Int), .int .u64 ((c.pr.d).toNat : Int)] [.int .i64 c.n, .int .i64 c.m, .int .i64 c.se, .int .i64 c.ph, .int .i64 0, .int .u64 0, .int .u64 0, .int .u64 0, .int .u64 0, .slice none 0 0, .int .i64 0, .int .u64 0, .int .u64 0, .int .u64 0, .int .u64 0] _ := T3.put 3 (.int .i64 c.ph) (by simp)
  generalize w3.setCell ⟨W.heap.size + 2, 3, none⟩ (.int .i64 c.ph) = w4 at T4 ⊢
  clear a3 b3 f3 T3 w3
  have p4 : Lies W.heap.size 4 [.int .i64 c.gs, .int .u64 ((c.gr.a).toNat : Int), .int .u64 ((c.gr.b).toNat : Int), .int .u64 ((c.gr.c).toNat : Int), .int .u64 ((c.gr.d).toNat : Int)] w4 := T4.1.part 4 5
  go_upto_region 7 with (first
    | (with_reducible refine wpl_load agg_lpt W.heap.size 4 [.int .i64 c.gs, .int .u64 ((c.gr.a).toNat : Int), .int .u64 ((c.gr.b).toNat : Int), .int .u64 ((c.gr.c).toNat : Int), .int .u64 ((c.gr.d).toNat : Int)] (by kernel_rfl) (by kernel_rfl) p4 ?_)
    | (go_at_call 17; refine (cp1 _).mono ?_; rintro e w5 ⟨rfl, b5⟩; have T5 := T4.call b5; have r5 : Room (W.heap.size + 2) 4 5 w5 := T5.2.2.1.part 4 5 (by omega); clear p4 T4 b5)
    | (with_reducible refine wpl_store agg_pnt (W.heap.size + 2) 4 [.int .i64 c.gs, .int .u64 ((c.gr.a).toNat : Int), .int .u64 ((c.gr.b).toNat : Int), .int .u64 ((c.gr.c).toNat : Int), .int .u64 ((c.gr.d).toNat : Int)] (by kernel_rfl) (by kernel_rfl) (by kernel_rfl) (by kernel_rfl) r5 ?_))
  have T6 : TC W [.int .i64 c.n, .int .i64 c.m, .int .i64 c.se, .int .i64 c.ph, .int .i64 c.gs, .int .u64 ((c.gr.a).toNat : Int), .int .u64 ((c.gr.b).toNat : Int), .int .u64 ((c.gr.c).toNat : Int), .int .u64 ((c.gr.d).toNat : Int), v, .int .i64 c.ps, .int .u64 ((c.pr.a).toNat : Int), .int .u64 ((c.pr.b).toNat : Int), .int .u64 ((c.pr.c).toNat : Int), .int .u64 ((c.pr.d).toNat : Int)] [.int .i64 c.n, .int .i64 c.m, .int .i64 c.se, .int .i64 c.ph, .int .i64 c.gs, .int .u64 ((c.gr.a).toNat : Int), .int .u64 ((c.gr.b).toNat : Int), .int .u64 ((c.gr.c).toNat : Int), .int .u64 ((c.gr.d).toNat : Int), .slice none 0 0, .int .i64 0, .int .u64 0, .int .u64 0, .int .u64 0, .int .u64 0] _ := T5.puts 4 [.int .i64 c.gs, .int .u64 ((c.gr.a).toNat : Int), .int .u64 ((c.gr.b).toNat : Int), .int .u64 ((c.gr.c).toNat : Int), .int .u64 ((c.gr.d).toNat : Int)] (by simp)
  generalize w5.setCells (W.heap.size + 2) 4 [.int .i64 c.gs, .int .u64 ((c.gr.a).toNat : Int), .int .u64 ((c.gr.b).toNat : Int), .int .u64 ((c.gr.c).toNat : Int), .int .u64 ((c.gr.d).toNat : Int)] = w6 at T6 ⊢
  clear T5 r5 w5
  have H6 := h.call T6.2.2.2.2.2
  have a9 := T6.1 9 _ rfl
  rw [Nat.zero_add] at a9
  have hg : W.heap.size + 2 < w6.heap.size := T6.2.2.2.2.1
  go_upto_region 8 with (go_at_call 18; refine (ct _ H6).mono ?_; rintro e w7 ⟨rfl, b7, I7⟩; have T7 := T6.call b7; have b9 := T7.2.1 9 _ rfl; have f9 := T7.2.2.1.2 9 (by omega); rw [Nat.zero_add] at b9 f9; clear H6 T6 b7 a9)
  generalize w6.heap.size = g at I7 hg ⊢
  have T8 : TC W [.int .i64 c.n, .int .i64 c.m, .int .i64 c.se, .int .i64 c.ph, .int .i64 c.gs, .int .u64 ((c.gr.a).toNat : Int), .int .u64 ((c.gr.b).toNat : Int), .int .u64 ((c.gr.c).toNat : Int), .int .u64 ((c.gr.d).toNat : Int), v, .int .i64 c.ps, .int .u64 ((c.pr.a).toNat : Int), .int .u64 ((c.pr.b).toNat : Int), .int .u64 ((c.pr.c).toNat : Int), .int .u64 ((c.pr.d).toNat : Int)] [.int .i64 c.n, .int .i64 c.m, .int .i64 c.se, .int .i64 c.ph, .int .i64 c.gs, .int .u64 ((c.gr.a).toNat : Int), .int .u64 ((c.gr.b).toNat : Int), .int .u64 ((c.gr.c).toNat : Int), .int .u64 ((c.gr.d).toNat : Int), (.slice (some ⟨g, 0, none⟩) X.length X.length), .int .i64 0, .int .u64 0, .int .u64 0, .int .u64 0, .int .u64 0] _ := T7.put 9 (.slice (some ⟨g, 0, none⟩) X.length X.length) (by simp)
  have J8 := I7.far (sc_grown w7 (W.heap.size + 2) 9 [(.slice (some ⟨g, 0, none⟩) X.length X.length)]) (fun e => by injection e with e; omega)
  have I8 : Its (w7.setCell ⟨W.heap.size + 2, 9, none⟩ (.slice (some ⟨g, 0, none⟩) X.length X.length)) (.slice (some ⟨g, 0, none⟩) X.length X.length) X := J8
  generalize w7.setCell ⟨W.heap.size + 2, 9, none⟩ (.slice (some ⟨g, 0, none⟩) X.length X.length) = w8 at T8 I8 ⊢
  clear J8 T7 I7 b9 f9 w7 ct
  have p8 : Lies W.heap.size 10 [.int .i64 c.ps, .int .u64 ((c.pr.a).toNat : Int), .int .u64 ((c.pr.b).toNat : Int), .int .u64 ((c.pr.c).toNat : Int), .int .u64 ((c.pr.d).toNat : Int)] w8 := T8.1.part 10 5
  go_upto_region 9 with (first
    | (with_reducible refine wpl_load agg_lpt W.heap.size 10 [.int .i64 c.ps, .int .u64 ((c.pr.a).toNat : Int), .int .u64 ((c.pr.b).toNat : Int), .int .u64 ((c.pr.c).toNat : Int), .int .u64 ((c.pr.d).toNat : Int)] (by kernel_rfl) (by kernel_rfl) p8 ?_)
    | (go_at_call 17; refine (cp2 _).mono ?_; rintro e w9 ⟨rfl, b9⟩; have T9 := T8.call b9; have I9 := I8.call b9; clear I8; have r9 : Room (W.heap.size + 2) 10 5 w9 := T9.2.2.1.part 10 5 (by omega); clear p8 T8 b9)
    | (with_reducible refine wpl_store agg_pnt (W.heap.size + 2) 10 [.int .i64 c.ps, .int .u64 ((c.pr.a).toNat : Int), .int .u64 ((c.pr.b).toNat : Int), .int .u64 ((c.pr.c).toNat : Int), .int .u64 ((c.pr.d).toNat : Int)] (by kernel_rfl) (by kernel_rfl) (by kernel_rfl) (by kernel_rfl) r9 ?_))
  have T10 : TC W [.int .i64 c.n, .int .i64 c.m, .int .i64 c.se, .int .i64 c.ph, .int .i64 c.gs, .int .u64 ((c.gr.a).toNat : Int), .int .u64 ((c.gr.b).toNat : Int), .int .u64 ((c.gr.c).toNat : Int), .int .u64 ((c.gr.d).toNat : Int), v, .int .i64 c.ps, .int .u64 ((c.pr.a).toNat : Int), .int .u64 ((c.pr.b).toNat : Int), .int .u64 ((c.pr.c).toNat : Int), .int .u64 ((c.pr.d).toNat : Int)] [.int .i64 c.n, .int .i64 c.m, .int .i64 c.se, .int .i64 c.ph, .int .i64 c.gs, .int .u64 ((c.gr.a).toNat : Int), .int .u64 ((c.gr.b).toNat : Int), .int .u64 ((c.gr.c).toNat : Int), .int .u64 ((c.gr.d).toNat : Int), (.slice (some ⟨g, 0, none⟩) X.length X.length), .int .i64 c.ps, .int .u64 ((c.pr.a).toNat : Int), .int .u64 ((c.pr.b).toNat : Int), .int .u64 ((c.pr.c).toNat : Int), .int .u64 ((c.pr.d).toNat : Int)] _ := T9.puts 10 [.int .i64 c.ps, .int .u64 ((c.pr.a).toNat : Int), .int .u64 ((c.pr.b).toNat : Int), .int .u64 ((c.pr.c).toNat : Int), .int .u64 ((c.pr.d).toNat : Int)] (by simp)
  have I10 := I9.far (sc_grown w9 (W.heap.size + 2) 10 [.int .i64 c.ps, .int .u64 ((c.pr.a).toNat : Int), .int .u64 ((c.pr.b).toNat : Int), .int .u64 ((c.pr.c).toNat : Int), .int .u64 ((c.pr.d).toNat : Int)]) (fun e => by injection e with e; omega)
  generalize w9.setCells (W.heap.size + 2) 10 [.int .i64 c.ps, .int .u64 ((c.pr.a).toNat : Int), .int .u64 ((c.pr.b).toNat : Int), .int .u64 ((c.pr.c).toNat : Int), .int .u64 ((c.pr.d).toNat : Int)] = w10 at T10 I10 ⊢
  clear T9 r9 I9 w9
  obtain ⟨-, TC0, -, TO, -, z0⟩ := T10
  have hO : W.heap.size + 1 ≠ g := by omega
  go_wp2_with (first
    | (with_reducible refine wpl_load agg_cli (W.heap.size + 2) 0 [.int .i64 c.n, .int .i64 c.m, .int .i64 c.se, .int .i64 c.ph, .int .i64 c.gs, .int .u64 ((c.gr.a).toNat : Int), .int .u64 ((c.gr.b).toNat : Int), .int .u64 ((c.gr.c).toNat : Int), .int .u64 ((c.gr.d).toNat : Int), (.slice (some ⟨g, 0, none⟩) X.length X.length), .int .i64 c.ps, .int .u64 ((c.pr.a).toNat : Int), .int .u64 ((c.pr.b).toNat : Int), .int .u64 ((c.pr.c).toNat : Int), .int .u64 ((c.pr.d).toNat : Int)] (by kernel_rfl) (by kernel_rfl) TC0 ?_)
    | (with_reducible refine wpl_store agg_cli (W.heap.size + 1) 0 [.int .i64 c.n, .int .i64 c.m, .int .i64 c.se, .int .i64 c.ph, .int .i64 c.gs, .int .u64 ((c.gr.a).toNat : Int), .int .u64 ((c.gr.b).toNat : Int), .int .u64 ((c.gr.c).toNat : Int), .int .u64 ((c.gr.d).toNat : Int), (.slice (some ⟨g, 0, none⟩) X.length X.length), .int .i64 c.ps, .int .u64 ((c.pr.a).toNat : Int), .int .u64 ((c.pr.b).toNat : Int), .int .u64 ((c.pr.c).toNat : Int), .int .u64 ((c.pr.d).toNat : Int)] (by kernel_rfl) (by kernel_rfl) (by kernel_rfl) (by kernel_rfl) TO ?_; have k1 := Lies.sc (vs := [.int .i64 c.n, .int .i64 c.m, .int .i64 c.se, .int .i64 c.ph, .int .i64 c.gs, .int .u64 ((c.gr.a).toNat : Int), .int .u64 ((c.gr.b).toNat : Int), .int .u64 ((c.gr.c).toNat : Int), .int .u64 ((c.gr.d).toNat : Int), (.slice (some ⟨g, 0, none⟩) X.length X.length), .int .i64 c.ps, .int .u64 ((c.pr.a).toNat : Int), .int .u64 ((c.pr.b).toNat : Int), .int .u64 ((c.pr.c).toNat : Int), .int .u64 ((c.pr.d).toNat : Int)]) rfl TO; have k2 := Below.sc (W.heap.size + 1) (by omega) [.int .i64 c.n, .int .i64 c.m, .int .i64 c.se, .int .i64 c.ph, .int .i64 c.gs, .int .u64 ((c.gr.a).toNat : Int), .int .u64 ((c.gr.b).toNat : Int), .int .u64 ((c.gr.c).toNat : Int), .int .u64 ((c.gr.d).toNat : Int), (.slice (some ⟨g, 0, none⟩) X.length X.length), .int .i64 c.ps, .int .u64 ((c.pr.a).toNat : Int), .int .u64 ((c.pr.b).toNat : Int), .int .u64 ((c.pr.c).toNat : Int), .int .u64 ((c.pr.d).toNat : Int)] 0 _ z0; have k3 := I10.far (sc_grown w10 (W.heap.size + 1) 0 [.int .i64 c.n, .int .i64 c.m, .int .i64 c.se, .int .i64 c.ph, .int .i64 c.gs, .int .u64 ((c.gr.a).toNat : Int), .int .u64 ((c.gr.b).toNat : Int), .int .u64 ((c.gr.c).toNat : Int), .int .u64 ((c.gr.d).toNat : Int), (.slice (some ⟨g, 0, none⟩) X.length X.length), .int .i64 c.ps, .int .u64 ((c.pr.a).toNat : Int), .int .u64 ((c.pr.b).toNat : Int), .int .u64 ((c.pr.c).toNat : Int), .int .u64 ((c.pr.d).toNat : Int)]) (fun e => by injection e with e; omega); generalize w10.setCells (W.heap.size + 1) 0 [.int .i64 c.n, .int .i64 c.m, .int .i64 c.se, .int .i64 c.ph, .int .i64 c.gs, .int .u64 ((c.gr.a).toNat : Int), .int .u64 ((c.gr.b).toNat : Int), .int .u64 ((c.gr.c).toNat : Int), .int .u64 ((c.gr.d).toNat : Int), (.slice (some ⟨g, 0, none⟩) X.length X.length), .int .i64 c.ps, .int .u64 ((c.pr.a).toNat : Int), .int .u64 ((c.pr.b).toNat : Int), .int .u64 ((c.pr.c).toNat : Int), .int .u64 ((c.pr.d).toNat : Int)] = wz at k1 k2 k3 ⊢))
  exact bodyPost_ret (v := .agg #[.int .i64 c.n, .int .i64 c.m, .int .i64 c.se, .int .i64 c.ph, .int .i64 c.gs, .int .u64 ((c.gr.a).toNat : Int), .int .u64 ((c.gr.b).toNat : Int), .int .u64 ((c.gr.c).toNat : Int), .int .u64 ((c.gr.d).toNat : Int), (.slice (some ⟨g, 0, none⟩) X.length X.length), .int .i64 c.ps, .int .u64 ((c.pr.a).toNat : Int), .int .u64 ((c.pr.b).toNat : Int), .int .u64 ((c.pr.c).toNat : Int), .int .u64 ((c.pr.d).toNat : Int)]) (res_cells agg_cli Tryd.results7 _ _ (W.heap.size + 1) 0 [.int .i64 c.n, .int .i64 c.m, .int .i64 c.se, .int .i64 c.ph, .int .i64 c.gs, .int .u64 ((c.gr.a).toNat : Int), .int .u64 ((c.gr.b).toNat : Int), .int .u64 ((c.gr.c).toNat : Int), .int .u64 ((c.gr.d).toNat : Int), (.slice (some ⟨g, 0, none⟩) X.length X.length), .int .i64 c.ps, .int .u64 ((c.pr.a).toNat : Int), .int .u64 ((c.pr.b).toNat : Int), .int .u64 ((c.pr.c).toNat : Int), .int .u64 ((c.pr.d).toNat : Int)] (by kernel_rfl) (by kernel_rfl) k1) rfl ⟨(.slice (some ⟨g, 0, none⟩) X.length X.length), rfl, k2, k3⟩
end Go.Proofs.YtdpbgcilkidbaaaDoor
