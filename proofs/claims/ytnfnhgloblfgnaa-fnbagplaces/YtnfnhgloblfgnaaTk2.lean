/-
  A letter taken out of a network.
-/
import Derived.Test.YtnfnhgloblfgnaaJoinB28
import Derived.Deep.RegionLawGrows
namespace Go.Proofs.Ytnfnhgloblfgnaa
open Go.RowKit

/-- What stands behind the letters' change, ahead of the answer: the network, the two boxes of letters, the new row. -/
def TK (w : World) (N : Nat) (m c : Int) (g n q : Nat) (x : Lt) (Y : List Lt) (W : World) : Prop :=
  Nw N 1 m (.slice (some ⟨g, 0, none⟩) n q) c W ∧ L3 w.heap.size 0 0 ByteArray.empty W ∧ L3 (w.heap.size + 1) x.f x.t x.s W ∧ W.ownsRow (w.heap.size + 1 + 1) 32 3 (.slice (some ⟨g, 0, none⟩) n q) n (lcs Y) ∧ w.grownBy W (some N)
theorem _root_.Go.World.grownBy.allocs {W W1 : World} {r : Option Nat} (h : W.grownBy W1 r) (o : Obj) : W.grownBy (W1.alloc o) r := grown_trans h (World.grownBy_alloc W1 o r)
theorem _root_.Go.World.grownBy.drews {W W1 : World} {r : Option Nat} (h : W.grownBy W1 r) : W.grownBy W1.drew r := ⟨h.os, h.tape, h.output, h.size, h.block⟩
theorem L3.put {B : Nat} {f t f' t' : Int} {s s' : ByteArray} {W : World} (h : L3 B f t s W) : L3 B f' t' s' (((W.setCell ⟨B, 0, none⟩ (.int .i64 f')).setCell ⟨B, 1, none⟩ (.int .i64 t')).setCell ⟨B, 2, none⟩ (.string s')) := by
  obtain ⟨⟨h0, h1, h2, h3⟩, f0, f1, f2⟩ := h
  refine ⟨⟨by simp only [World.size_setCell]; exact h0, ?_, ?_, ?_⟩, by simp only [World.frozen?_setCell]; exact f0, by simp only [World.frozen?_setCell]; exact f1, by simp only [World.frozen?_setCell]; exact f2⟩
  · rw [set_off (by omega), set_off (by omega)]; exact set_same (by rw [h1]; rfl)
  · rw [set_off (by omega)]; exact set_same (by rw [set_off (by omega), h2]; rfl)
  · exact set_same (by rw [set_off (by omega), set_off (by omega), h3]; rfl)
theorem grown_put3 (W : World) (B : Nat) (x y z : Value) : W.grownBy (((W.setCell ⟨B, 0, none⟩ x).setCell ⟨B, 1, none⟩ y).setCell ⟨B, 2, none⟩ z) (some B) := ((grown_set W B 0 x).trans2 (grown_set _ B 1 y)).trans2 (grown_set _ B 2 z)
theorem grown_new {W W1 W2 : World} {r : Option Nat} {B : Nat} (h : W.grownBy W1 r) (h' : W1.grownBy W2 (some B)) (hB : W.heap.size ≤ B) : W.grownBy W2 r :=
  ⟨h'.os.trans h.os, h'.tape.trans h.tape, h'.output.trans h.output, Nat.le_trans h.size h'.size, fun k hk hne => (h'.block k (Nat.lt_of_lt_of_le hk h.size) (fun e => by injection e with e; omega)).trans (h.block k hk hne)⟩
theorem TK.done {w : World} {N : Nat} {m c : Int} {g n q : Nat} {x : Lt} {Y : List Lt} {W : World} (h : TK w N m c g n q x Y W) (hN : N < w.heap.size) :
    Nw N 1 m (.slice (some ⟨g, 0, none⟩) n q) c (((W.setCell ⟨w.heap.size, 0, none⟩ (.int .i64 x.f)).setCell ⟨w.heap.size, 1, none⟩ (.int .i64 x.t)).setCell ⟨w.heap.size, 2, none⟩ (.string x.s)) ∧ w.heap.size ≤ g ∧
    ((((W.setCell ⟨w.heap.size, 0, none⟩ (.int .i64 x.f)).setCell ⟨w.heap.size, 1, none⟩ (.int .i64 x.t)).setCell ⟨w.heap.size, 2, none⟩ (.string x.s)).setCell ⟨N, 0, none⟩ (.int .i32 0)).ownsRow w.heap.size 32 3 (.slice (some ⟨g, 0, none⟩) n q) n (lcs Y) ∧
    w.grownBy ((((W.setCell ⟨w.heap.size, 0, none⟩ (.int .i64 x.f)).setCell ⟨w.heap.size, 1, none⟩ (.int .i64 x.t)).setCell ⟨w.heap.size, 2, none⟩ (.string x.s)).setCell ⟨N, 0, none⟩ (.int .i32 0)) (some N) ∧
    L3 w.heap.size x.f x.t x.s ((((W.setCell ⟨w.heap.size, 0, none⟩ (.int .i64 x.f)).setCell ⟨w.heap.size, 1, none⟩ (.int .i64 x.t)).setCell ⟨w.heap.size, 2, none⟩ (.string x.s)).setCell ⟨N, 0, none⟩ (.int .i32 0)) := by
  obtain ⟨h1, h2, h3, h4, h5⟩ := h
  have gp := grown_put3 W w.heap.size (.int .i64 x.f) (.int .i64 x.t) (.string x.s)
  have hp := h2.put (f' := x.f) (t' := x.t) (s' := x.s)
  have hg : w.heap.size + 1 + 1 ≤ g := by
    rcases h4.2 with ⟨e, _⟩ | ⟨g', cap', cur, e, hb, _⟩
    · cases e
    · injection e with e _ _
      injection e with e
      have e' := congrArg Addr.block e
      have e'' : g = g' := e'
      omega
  generalize ((W.setCell ⟨w.heap.size, 0, none⟩ (.int .i64 x.f)).setCell ⟨w.heap.size, 1, none⟩ (.int .i64 x.t)).setCell ⟨w.heap.size, 2, none⟩ (.string x.s) = S at gp hp ⊢
  have gs := grown_set S N 0 (.int .i32 0)
  exact ⟨h1.grown gp (fun e => by injection e with e; omega), by omega,
    own_down ((h4.kept gp (.inr (fun e => by have e' : some g = some w.heap.size := e; injection e' with e'; omega))).kept gs (.inr (fun e => by have e' : some g = some N := e; injection e' with e'; omega))) (by omega),
    (grown_new h5 gp (Nat.le_refl _)).trans2 gs, hp.grown gs (fun e => by injection e with e; omega)⟩
set_option maxRecDepth 20000 in
set_option maxHeartbeats 4000000 in
/-- The letter at p is taken, others lie behind it. -/
theorem take_mid (N : Nat) (m c : Int) (b : Addr) (cap : Nat) (L : List Lt) (k : Int) (w : World) (h : Nw N 0 m (.slice (some b) L.length cap) c w) (hr : Rows3 w (some b) L) (hap : b.block ≠ N) (hcap : L.length ≤ cap) (hp : 0 < L.length) (hn : L.length ≤ 1048576) (ht : Lts w (.slice (some b) L.length cap) L) (hlast : bpos k L.length + 1 < L.length) :
    Calls Try.prog 25 #[.pointer (some ⟨N, 0, none⟩), .int .i64 k] w fun e w' => e = .returned (.tuple #[.agg #[.int .i64 ((L[bpos k L.length]'(bpos_lt k _ hp))).f, .int .i64 ((L[bpos k L.length]'(bpos_lt k _ hp))).t, .string ((L[bpos k L.length]'(bpos_lt k _ hp))).s], .bool true]) ∧ ∃ g q, Nw N 0 m (.slice (some ⟨g, 0, none⟩) (less L (bpos k L.length)).length q) c w' ∧ w.heap.size ≤ g ∧ w'.ownsRow w.heap.size 32 3 (.slice (some ⟨g, 0, none⟩) (less L (bpos k L.length)).length q) (less L (bpos k L.length)).length (lcs (less L (bpos k L.length))) ∧ w.grownBy w' (some N) := by
  obtain ⟨i0, hi, hz0, hz1, hz2⟩ := info_parts infoL
  have h0 := h.word 1
  have r0 : Rows3 (w.setCell ⟨N, 0, none⟩ (.int .i32 1)) (some b) L := fun b' e => ⟨by simp only [World.size_setCell]; exact (hr b' e).1, fun j u hu => c_set ((hr b' e).2 j u hu) (by injection e with e; subst e; show N ≠ (b.add j).block; rw [add_block]; exact hap.symm)⟩
  have hb0 : Below (w.setCell ⟨N, 0, none⟩ (.int .i32 1)).heap.size (w.setCell ⟨N, 0, none⟩ (.int .i32 1)) ((w.setCell ⟨N, 0, none⟩ (.int .i32 1)).alloc (.cells #[.int .i64 0, .int .i64 0, .string ByteArray.empty] 32)) := (Below.refl _ _).alloc (Nat.le_refl _) _
  have cl := lock_is N m c (.slice (some b) L.length cap) _ (h.call ((Below.refl _ w).alloc (Nat.le_refl _) (.cells #[.int .i64 0, .int .i64 0, .string ByteArray.empty] 32)))
  have hlt := bpos_lt k L.length hp
  obtain ⟨b', hb', hbl, hat⟩ := ht.cells _ hp
  injection hb' with hb'
  subst hb'
  have hrow := ((hat _ hlt).far N 0 (.int .i32 1) (by rw [add_block]; exact hap)).below hb0 (by rw [add_block]; simp only [World.size_setCell]; exact hbl)
  have h1 := h0.call hb0
  have r1 := r0.call hb0
  have cq := place_some N 1 m c (some b) L.length cap k _ h1 hp hn
  have cf := fun V : World => first_at b L.length (bpos k L.length) cap (Nat.le_of_lt hlt) hcap V
  have hNw : N < w.heap.size := h.1
  have gA := (grown_set w N 0 (.int .i32 1)).trans2 (World.grownBy_alloc (w.setCell ⟨N, 0, none⟩ (.int .i32 1)) (.cells #[.int .i64 0, .int .i64 0, .string ByteArray.empty] 32) (some N))
  have l0 := L3.new (w.setCell ⟨N, 0, none⟩ (.int .i32 1)) 0 0 ByteArray.empty 32
  simp only [World.size_setCell] at l0
  have hll := less_len L (bpos k L.length) hlt
  obtain ⟨Y, hY⟩ : ∃ Y, Y = less L (bpos k L.length) := ⟨_, rfl⟩
  rw [← hY] at hll ⊢
  unfold less at hY
  obtain ⟨x, hx⟩ : ∃ x, x = L[bpos k L.length]'hlt := ⟨_, rfl⟩
  rw [← hx] at hrow ⊢
  obtain ⟨hc0, hc1, hc2⟩ := hrow
  generalize bpos k L.length = p at hlt cq cf hc0 hc1 hc2 hll hY hlast
  have hgt := fun (j : Nat) (u : Value) (hu : (lcs (L.take p))[j]? = some u) => lcs_take_get hu
  have hgd := fun (j : Nat) (u : Value) (hu : (lcs (L.drop (p + 1)))[j]? = some u) => lcs_drop_get (L := L) (p := p + 1) (by omega) hu
  have hlt3 : (lcs (L.take p)).length = p * 3 := by rw [lcs_len, List.length_take]; omega
  have hld3 : (lcs (L.drop (p + 1))).length = (L.length - (p + 1)) * 3 := by rw [lcs_len, List.length_drop]
  have hYc : lcs Y = lcs (L.take p) ++ lcs (L.drop (p + 1)) := by rw [hY, lcs_append]
  have hone := lcs_one (L.drop (p + 1))
  generalize lcs (L.take p) = A1 at hgt hlt3 hYc
  generalize lcs (L.drop (p + 1)) = A2 at hgd hld3 hYc hone
  obtain ⟨n, hnn⟩ : ∃ n, n = L.length := ⟨_, rfl⟩
  clear hx
  rw [← hnn] at h1 cf hlt hll hld3 hcap hn hlast
  have hw1 : IntKind.i64.wrap ((p : Int) + 1) = (((p + 1 : Nat)) : Int) := by rw [IntWalk.i64_in _ (by omega)]; omega
  have hlt' : (p : Int) < (n : Int) := by omega
  have hp0 : (0 : Int) ≤ (p : Int) := by omega
  have hp1 : (((p + 1 : Nat)) : Int) ≤ (n : Int) := by omega
  have hp2 : (0 : Int) ≤ (((p + 1 : Nat)) : Int) := by omega
  obtain ⟨p', hp'⟩ : ∃ p', p' = p + 1 := ⟨_, rfl⟩
  rw [← hp'] at hw1 hp1 hp2 hgd hld3 hll hlast
  have HP : Hid (p' = p + 1) := hp'
  have HY : Hid (lcs Y = A1 ++ A2) := hYc
  have HYl : Hid (Y.length = p + (n - p')) := hll
  have HN : Hid (n = L.length) := hnn
  have hnp : p' < cap := by omega
  clear h hr ht hat h0 r0 hb0 hll hY hp' hYc hnn hp
  obtain ⟨-, ⟨x0, x1, x2, x3, x4⟩, f0, f3, f4⟩ := id h1
  obtain ⟨⟨-, y0, y1, y2⟩, z0, z1, z2⟩ := id l0
  go_enter_defers Try.func25, Try.ntmps25
  go_wp2_with (first
    | (go_at_call 35; refine cl.mono ?_; rintro e w1 ⟨rfl, hw⟩; subst hw)
    | (go_at_call 37; refine cq.mono ?_; rintro e w1 ⟨rfl, hw⟩; replace hw := hw.symm; subst hw))
  have l02 := l0.call ((Below.refl _ _).alloc (Nat.le_refl _) (.cells #[.int .i64 x.f, .int .i64 x.t, .string x.s] 32))
  have l12 := L3.new ((w.setCell ⟨N, 0, none⟩ (.int .i32 1)).alloc (.cells #[.int .i64 0, .int .i64 0, .string ByteArray.empty] 32)) x.f x.t x.s 32
  have h2 := h1.call ((Below.refl _ _).alloc (Nat.le_refl _) (.cells #[.int .i64 x.f, .int .i64 x.t, .string x.s] 32))
  have r2 := r1.call ((Below.refl _ _).alloc (Nat.le_refl _) (.cells #[.int .i64 x.f, .int .i64 x.t, .string x.s] 32))
  have g2 := gA.allocs (.cells #[.int .i64 x.f, .int .i64 x.t, .string x.s] 32)
  have HS : Hid ((((w.setCell ⟨N, 0, none⟩ (.int .i32 1)).alloc (.cells #[.int .i64 0, .int .i64 0, .string ByteArray.empty] 32)).alloc (.cells #[.int .i64 x.f, .int .i64 x.t, .string x.s] 32)).heap.size = w.heap.size + 1 + 1) := by show _ = _; simp
  simp only [World.size_alloc, World.size_setCell] at l12
  clear h1 r1 gA l0 cl cq hc0 hc1 hc2 x0 x1 x2 x3 x4 f0 f3 f4 y0 y1 y2 z0 z1 z2
  generalize ((w.setCell ⟨N, 0, none⟩ (.int .i32 1)).alloc (.cells #[.int .i64 0, .int .i64 0, .string ByteArray.empty] 32)).alloc (.cells #[.int .i64 x.f, .int .i64 x.t, .string x.s] 32) = V at l02 l12 h2 r2 g2 HS ⊢
  have HA1 : Hid (∀ A : World, Below V.heap.size V A → ∀ b', some b = some b' → ∀ j u, A1[j]? = some u → A.cell? (b'.add j) = some u) := fun A hA b' e j u hu => by
    injection e with e; subst e
    exact ((r2.call hA) b rfl).2 j u (hgt j u hu)
  have HA2 : Hid (∀ A : World, Below V.heap.size V A → ∀ j u, A2[j]? = some u → A.cell? ((b.add (p' * 3)).add j) = some u) := fun A hA j u hu => by
    have := ((r2.call hA) b rfl).2 _ u (hgd j u hu)
    rw [Addr.add_add]
    exact this
  have HM : Hid (∀ (A C : World) (v' : Value), Below V.heap.size V A → C.ownsRow A.heap.size 32 3 v' (p + (n - p')) (A1 ++ A2) → A.grownBy C none → ∃ g q, v' = .slice (some ⟨g, 0, none⟩) (p + (n - p')) q ∧ Nw N 1 m (.slice (some b) n cap) c C ∧ Hid (TK w N m c g (p + (n - p')) q x Y (C.setCell ⟨N, 3, none⟩ (.slice (some ⟨g, 0, none⟩) (p + (n - p')) q)))) := fun A C v' hA ho hg => by
    obtain ⟨g, q, rfl, hgA, -⟩ := ho.form (by omega)
    have hsA := hA.size
    have hsV := HS.out
    have hC := (h2.call hA).grown hg (fun e => by cases e)
    have gs := grown_set C N 3 (.slice (some ⟨g, 0, none⟩) (p + (n - p')) q)
    refine ⟨g, q, rfl, hC, hC.slice _, ((l02.call hA).grown hg (fun e => by cases e)).grown gs (fun e => by injection e with e; omega), ((l12.call hA).grown hg (fun e => by cases e)).grown gs (fun e => by injection e with e; omega), ?_, ((g2.trans2 (grown_any hA _)).trans2 (hg.widen _)).trans2 gs⟩
    rw [HY.out]
    exact (own_down ho (by omega)).kept gs (.inr (fun e => by have e' : some g = some N := e; injection e' with e'; omega))
  obtain ⟨-, ⟨x0, x1, x2, x3, x4⟩, f0, f3, f4⟩ := id h2
  clear r2 g2 l02 l12 h2 hgt hgd
  refine only_n ?_
  go_region_law (first
    | (go_simp; go_at_call 38; refine (cf _).mono ?_; rintro e wz ⟨rfl, hw⟩; replace hw := hw.symm; subst hw; go_simp)
    | (refine step_append_grows rfl (.tmp 38) (.tmp 45) 23 rfl 32 i0 _ 3 32 Try.underlying23 hi hz0 hz1 hz2 rfl (by decide) (some b) p p A1 (by simp [Act.eval, Act.put]) (fun e => by cases e) hlt3 (HA1.out _ (by repeat' (first | (with_reducible exact Below.refl _ _) | (with_reducible assumption) | (with_reducible refine below_drewN ?_ _) | (with_reducible refine Below.setCell ?_ ?_ _) | (with_reducible refine Below.alloc ?_ ?_ _) | (with_reducible refine Below.drew ?_) | go_size))) (b.add (p' * 3)) (n - p') (cap - p') A2 (by simp only [if_neg (show ¬ cap = p' by omega)]; simp [Act.eval, Act.put]) hld3 (HA2.out _ (by repeat' (first | (with_reducible exact Below.refl _ _) | (with_reducible assumption) | (with_reducible refine below_drewN ?_ _) | (with_reducible refine Below.setCell ?_ ?_ _) | (with_reducible refine Below.alloc ?_ ?_ _) | (with_reducible refine Below.drew ?_) | go_size))) hone (by omega) (by unfold maxLen; omega) (by omega) ?_; intro v' w5 ho5 hg5; obtain ⟨g, q, hv, hn5, HN5⟩ := HM.out _ w5 v' (by repeat' (first | (with_reducible exact Below.refl _ _) | (with_reducible assumption) | (with_reducible refine below_drewN ?_ _) | (with_reducible refine Below.setCell ?_ ?_ _) | (with_reducible refine Below.alloc ?_ ?_ _) | (with_reducible refine Below.drew ?_) | go_size)) ho5 hg5; subst hv; obtain ⟨-, ⟨q0, q1, q2, q3, q4⟩, -, q3f, -⟩ := id hn5))
  all_goals simp only [onlyN]
  all_goals
    obtain ⟨n6, l6, k6, o6, g6⟩ := id HN5.out
    obtain ⟨⟨-, a0, a1, a2⟩, -, -, -⟩ := id k6
    obtain ⟨⟨-, b0, b1, b2⟩, c0, c1, c2⟩ := id l6
  all_goals go_wp2_with fail
  all_goals
    obtain ⟨d1, d2, d3, d4, d5⟩ := HN5.out.done hNw
    refine leaves_cons (f := 36) (args := #[.pointer (some ⟨N, 0, none⟩)]) (by simp) (by simp [go_sem]) ?_
    refine (unlock_is N m c _ .returning _ d1).mono ?_
    rintro e u' w'' ⟨rfl, rfl, rfl⟩
    obtain ⟨⟨-, e0, e1, e2⟩, -, -, -⟩ := id d5
    refine ⟨.tuple #[.agg #[.int .i64 (x).f, .int .i64 (x).t, .string (x).s], .bool true], ?_, rfl, g, q, ?_, d2, ?_, d4⟩
    · simp [results, Try.results25, go_sem, e0, e1, e2]
    · rw [HYl.out]; exact d1.word 0
    · rw [HYl.out]; exact d3
end Go.Proofs.Ytnfnhgloblfgnaa
