/-
  A letter taken out of a network: the last one, and none.
-/
import Derived.Test.YtnfnhgloblfgnaaTk2
namespace Go.Proofs.Ytnfnhgloblfgnaa
open Go.RowKit

/-- What stands behind the letters' change, ahead of the answer: the network, the two boxes of letters. -/
def TL (w : World) (N : Nat) (m c : Int) (v : Value) (x : Lt) (W : World) : Prop :=
  Nw N 1 m v c W ∧ L3 w.heap.size 0 0 ByteArray.empty W ∧ L3 (w.heap.size + 1) x.f x.t x.s W ∧ w.grownBy W (some N)
theorem TL.done {w : World} {N : Nat} {m c : Int} {v : Value} {x : Lt} {W : World} (h : TL w N m c v x W) (hN : N < w.heap.size) :
    Nw N 1 m v c (((W.setCell ⟨w.heap.size, 0, none⟩ (.int .i64 x.f)).setCell ⟨w.heap.size, 1, none⟩ (.int .i64 x.t)).setCell ⟨w.heap.size, 2, none⟩ (.string x.s)) ∧
    w.grownBy ((((W.setCell ⟨w.heap.size, 0, none⟩ (.int .i64 x.f)).setCell ⟨w.heap.size, 1, none⟩ (.int .i64 x.t)).setCell ⟨w.heap.size, 2, none⟩ (.string x.s)).setCell ⟨N, 0, none⟩ (.int .i32 0)) (some N) ∧
    L3 w.heap.size x.f x.t x.s ((((W.setCell ⟨w.heap.size, 0, none⟩ (.int .i64 x.f)).setCell ⟨w.heap.size, 1, none⟩ (.int .i64 x.t)).setCell ⟨w.heap.size, 2, none⟩ (.string x.s)).setCell ⟨N, 0, none⟩ (.int .i32 0)) := by
  obtain ⟨h1, h2, h3, h5⟩ := h
  have gp := grown_put3 W w.heap.size (.int .i64 x.f) (.int .i64 x.t) (.string x.s)
  have hp := h2.put (f' := x.f) (t' := x.t) (s' := x.s)
  generalize ((W.setCell ⟨w.heap.size, 0, none⟩ (.int .i64 x.f)).setCell ⟨w.heap.size, 1, none⟩ (.int .i64 x.t)).setCell ⟨w.heap.size, 2, none⟩ (.string x.s) = S at gp hp ⊢
  have gs := grown_set S N 0 (.int .i32 0)
  exact ⟨h1.grown gp (fun e => by injection e with e; omega), (grown_new h5 gp (Nat.le_refl _)).trans2 gs, hp.grown gs (fun e => by injection e with e; omega)⟩
set_option maxRecDepth 20000 in
set_option maxHeartbeats 4000000 in
/-- The letter at p is taken, none lies behind it. -/
theorem take_last (N : Nat) (m c : Int) (b : Addr) (cap : Nat) (L : List Lt) (k : Int) (w : World) (h : Nw N 0 m (.slice (some b) L.length cap) c w) (hap : b.block ≠ N) (hcap : L.length ≤ cap) (hp : 0 < L.length) (hn : L.length ≤ 1048576) (ht : Lts w (.slice (some b) L.length cap) L) (hlast : bpos k L.length + 1 = L.length) :
    Calls Try.prog 25 #[.pointer (some ⟨N, 0, none⟩), .int .i64 k] w fun e w' => e = .returned (.tuple #[.agg #[.int .i64 ((L[bpos k L.length]'(bpos_lt k _ hp))).f, .int .i64 ((L[bpos k L.length]'(bpos_lt k _ hp))).t, .string ((L[bpos k L.length]'(bpos_lt k _ hp))).s], .bool true]) ∧ Nw N 0 m (.slice (some b) (bpos k L.length) (bpos k L.length)) c w' ∧ w.grownBy w' (some N) := by
  obtain ⟨i0, hi, hz0, hz1, hz2⟩ := info_parts infoL
  have h0 := h.word 1
  have hb0 : Below (w.setCell ⟨N, 0, none⟩ (.int .i32 1)).heap.size (w.setCell ⟨N, 0, none⟩ (.int .i32 1)) ((w.setCell ⟨N, 0, none⟩ (.int .i32 1)).alloc (.cells #[.int .i64 0, .int .i64 0, .string ByteArray.empty] 32)) := (Below.refl _ _).alloc (Nat.le_refl _) _
  have cl := lock_is N m c (.slice (some b) L.length cap) _ (h.call ((Below.refl _ w).alloc (Nat.le_refl _) (.cells #[.int .i64 0, .int .i64 0, .string ByteArray.empty] 32)))
  have hlt := bpos_lt k L.length hp
  obtain ⟨b', hb', hbl, hat⟩ := ht.cells _ hp
  injection hb' with hb'
  subst hb'
  have hrow := ((hat _ hlt).far N 0 (.int .i32 1) (by rw [add_block]; exact hap)).below hb0 (by rw [add_block]; simp only [World.size_setCell]; exact hbl)
  have h1 := h0.call hb0
  have cq := place_some N 1 m c (some b) L.length cap k _ h1 hp hn
  have cf := fun V : World => first_at b L.length (bpos k L.length) cap (Nat.le_of_lt hlt) hcap V
  have hNw : N < w.heap.size := h.1
  have gA := (grown_set w N 0 (.int .i32 1)).trans2 (World.grownBy_alloc (w.setCell ⟨N, 0, none⟩ (.int .i32 1)) (.cells #[.int .i64 0, .int .i64 0, .string ByteArray.empty] 32) (some N))
  have l0 := L3.new (w.setCell ⟨N, 0, none⟩ (.int .i32 1)) 0 0 ByteArray.empty 32
  simp only [World.size_setCell] at l0
  obtain ⟨x, hx⟩ : ∃ x, x = L[bpos k L.length]'hlt := ⟨_, rfl⟩
  rw [← hx] at hrow ⊢
  obtain ⟨hc0, hc1, hc2⟩ := hrow
  clear hx
  generalize bpos k L.length = p at hlt cq cf hc0 hc1 hc2 hlast ⊢
  obtain ⟨n, hnn⟩ : ∃ n, n = L.length := ⟨_, rfl⟩
  rw [← hnn] at h1 cf hlt hcap hn hlast
  have hw1 : IntKind.i64.wrap ((p : Int) + 1) = (((p + 1 : Nat)) : Int) := by rw [IntWalk.i64_in _ (by omega)]; omega
  have hlt' : (p : Int) < (n : Int) := by omega
  have hp0 : (0 : Int) ≤ (p : Int) := by omega
  have hp1 : (((p + 1 : Nat)) : Int) ≤ (n : Int) := by omega
  have hp2 : (0 : Int) ≤ (((p + 1 : Nat)) : Int) := by omega
  obtain ⟨p', hp'⟩ : ∃ p', p' = p + 1 := ⟨_, rfl⟩
  rw [← hp'] at hw1 hp1 hp2 hlast
  have HL : Hid (p' = n) := hlast
  have hnp : p' ≤ cap := by omega
  clear h ht hat h0 hb0 hp' hnn hp hlast
  obtain ⟨-, ⟨x0, x1, x2, x3, x4⟩, f0, f3, f4⟩ := id h1
  obtain ⟨⟨-, y0, y1, y2⟩, z0, z1, z2⟩ := id l0
  go_enter_defers Try.func25, Try.ntmps25
  go_wp2_with (first
    | (go_at_call 35; refine cl.mono ?_; rintro e w1 ⟨rfl, hw⟩; subst hw)
    | (go_at_call 37; refine cq.mono ?_; rintro e w1 ⟨rfl, hw⟩; replace hw := hw.symm; subst hw))
  have l02 := l0.call ((Below.refl _ _).alloc (Nat.le_refl _) (.cells #[.int .i64 x.f, .int .i64 x.t, .string x.s] 32))
  have l12 := L3.new ((w.setCell ⟨N, 0, none⟩ (.int .i32 1)).alloc (.cells #[.int .i64 0, .int .i64 0, .string ByteArray.empty] 32)) x.f x.t x.s 32
  have h2 := h1.call ((Below.refl _ _).alloc (Nat.le_refl _) (.cells #[.int .i64 x.f, .int .i64 x.t, .string x.s] 32))
  have g2 := gA.allocs (.cells #[.int .i64 x.f, .int .i64 x.t, .string x.s] 32)
  simp only [World.size_alloc, World.size_setCell] at l12
  clear h1 gA l0 cl cq hc0 hc1 hc2 x0 x1 x2 x3 x4 f0 f3 f4 y0 y1 y2 z0 z1 z2
  generalize ((w.setCell ⟨N, 0, none⟩ (.int .i32 1)).alloc (.cells #[.int .i64 0, .int .i64 0, .string ByteArray.empty] 32)).alloc (.cells #[.int .i64 x.f, .int .i64 x.t, .string x.s] 32) = V at l02 l12 h2 g2 ⊢
  have HM : Hid (TL w N m c (.slice (some b) p p) x ((V.setCell ⟨N, 3, none⟩ (.slice (some b) p p)).drew)) :=
    ⟨(h2.slice _).call (Below.refl _ _).drew, (l02.grown (grown_set V N 3 _) (fun e => by injection e with e; omega)).call (Below.refl _ _).drew, (l12.grown (grown_set V N 3 _) (fun e => by injection e with e; omega)).call (Below.refl _ _).drew, (g2.trans2 (grown_set V N 3 _)).drews⟩
  obtain ⟨-, ⟨x0, x1, x2, x3, x4⟩, f0, f3, f4⟩ := id h2
  obtain ⟨⟨-, a0, a1, a2⟩, -, -, -⟩ := id l12
  obtain ⟨⟨-, b0, b1, b2⟩, c0, c1, c2⟩ := id l02
  clear g2 l02 l12 h2
  refine only_n ?_
  go_region_law (first
    | (go_simp; go_at_call 38; refine (cf _).mono ?_; rintro e wz ⟨rfl, hw⟩; replace hw := hw.symm; subst hw; go_simp)
    | (refine step_append_none rfl (.tmp 38) (.tmp 45) 23 rfl 32 i0 Try.underlying23 hi (some b) p p (Nat.le_refl _) (by simp [Act.eval, Act.put]) (if cap = p' then some b else some (b.add (p' * 3))) (cap - p') (by simp [Act.eval, Act.put]; have := HL.out; omega) ?_))
  all_goals simp only [onlyN]
  all_goals generalize (if cap = p' then some b else some (b.add (p' * 3))) = sb
  all_goals go_wp2_with fail
  all_goals
    obtain ⟨d1, d4, d5⟩ := HM.out.done hNw
    refine leaves_cons (f := 36) (args := #[.pointer (some ⟨N, 0, none⟩)]) (by simp) (by simp [go_sem]) ?_
    refine (unlock_is N m c _ .returning _ d1).mono ?_
    rintro e u' w'' ⟨rfl, rfl, rfl⟩
    obtain ⟨⟨-, e0, e1, e2⟩, -, -, -⟩ := id d5
    refine ⟨.tuple #[.agg #[.int .i64 (x).f, .int .i64 (x).t, .string (x).s], .bool true], ?_, rfl, d1.word 0, d4⟩
    generalize ((((V.setCell ⟨N, 3, none⟩ (.slice (some b) p p)).drew.setCell ⟨w.heap.size, 0, none⟩ (.int .i64 x.f)).setCell ⟨w.heap.size, 1, none⟩ (.int .i64 x.t)).setCell ⟨w.heap.size, 2, none⟩ (.string x.s)).setCell ⟨N, 0, none⟩ (.int .i32 0) = Z at e0 e1 e2 ⊢
    simp [results, Try.results25, go_sem, e0, e1, e2]
set_option maxRecDepth 20000 in
set_option maxHeartbeats 2000000 in
/-- There is none to be taken. -/
theorem take_none (N : Nat) (m c : Int) (oa : Option Addr) (cap : Nat) (k : Int) (w : World) (h : Nw N 0 m (.slice oa 0 cap) c w) :
    Calls Try.prog 25 #[.pointer (some ⟨N, 0, none⟩), .int .i64 k] w fun e w' => e = .returned (.tuple #[.agg #[.int .i64 0, .int .i64 0, .string ByteArray.empty], .bool false]) ∧ Nw N 0 m (.slice oa 0 cap) c w' ∧ w.grownBy w' (some N) := by
  have h0 := h.word 1
  have hb0 : Below (w.setCell ⟨N, 0, none⟩ (.int .i32 1)).heap.size (w.setCell ⟨N, 0, none⟩ (.int .i32 1)) ((w.setCell ⟨N, 0, none⟩ (.int .i32 1)).alloc (.cells #[.int .i64 0, .int .i64 0, .string ByteArray.empty] 32)) := (Below.refl _ _).alloc (Nat.le_refl _) _
  have cl := lock_is N m c (.slice oa 0 cap) _ (h.call ((Below.refl _ w).alloc (Nat.le_refl _) (.cells #[.int .i64 0, .int .i64 0, .string ByteArray.empty] 32)))
  have h1 := h0.call hb0
  have cq := place_none N 1 m c oa cap k _ h1
  have hNw : N < w.heap.size := h.1
  have gA := (grown_set w N 0 (.int .i32 1)).trans2 (World.grownBy_alloc (w.setCell ⟨N, 0, none⟩ (.int .i32 1)) (.cells #[.int .i64 0, .int .i64 0, .string ByteArray.empty] 32) (some N))
  have l0 := L3.new (w.setCell ⟨N, 0, none⟩ (.int .i32 1)) 0 0 ByteArray.empty 32
  simp only [World.size_setCell] at l0
  obtain ⟨⟨-, y0, y1, y2⟩, z0, z1, z2⟩ := id l0
  clear h h0 hb0
  go_enter_defers Try.func25, Try.ntmps25
  go_wp2_with (first
    | (go_at_call 35; refine cl.mono ?_; rintro e w1 ⟨rfl, hw⟩; subst hw)
    | (go_at_call 37; refine cq.mono ?_; rintro e w1 ⟨rfl, hw⟩; replace hw := hw.symm; subst hw))
  have l1 := l0.grown (grown_set _ N 0 (.int .i32 0)) (fun e => by injection e with e; omega)
  refine leaves_cons (f := 36) (args := #[.pointer (some ⟨N, 0, none⟩)]) (by simp) (by simp [go_sem]) ?_
  refine (unlock_is N m c _ .returning _ h1).mono ?_
  rintro e u' w'' ⟨rfl, rfl, rfl⟩
  obtain ⟨⟨-, e0, e1, e2⟩, -, -, -⟩ := id l1
  refine ⟨.tuple #[.agg #[.int .i64 0, .int .i64 0, .string ByteArray.empty], .bool false], ?_, rfl, h1.word 0, gA.trans2 (grown_set _ N 0 _)⟩
  generalize ((w.setCell ⟨N, 0, none⟩ (.int .i32 1)).alloc (.cells #[.int .i64 0, .int .i64 0, .string ByteArray.empty] 32)).setCell ⟨N, 0, none⟩ (.int .i32 0) = Z at e0 e1 e2 ⊢
  simp [results, Try.results25, go_sem, e0, e1, e2]
end Go.Proofs.Ytnfnhgloblfgnaa
