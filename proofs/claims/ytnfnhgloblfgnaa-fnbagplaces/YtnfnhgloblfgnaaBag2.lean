/-
  Lists of letters: copied and compared.
-/
import Derived.Test.YtnfnhgloblfgnaaJoinB5
namespace Go.Proofs.Ytnfnhgloblfgnaa
open Go.RowKit

theorem three_at {w : World} {B o : Nat} {l : Lt} (h : ∀ t, t < 3 → (w.cell? ⟨B, o + t, none⟩).isSome = true) :
    LAt (((w.setCell ⟨B, o, none⟩ (.int .i64 l.f)).setCell ⟨B, o + 1, none⟩ (.int .i64 l.t)).setCell ⟨B, o + 2, none⟩ (.string l.s)) ⟨B, o, none⟩ l := by
  refine ⟨?_, ?_, ?_⟩
  · rw [set_off (by omega), set_off (by omega)]; exact set_same (h 0 (by omega))
  · show World.cell? _ ⟨B, o + 1, none⟩ = _
    rw [set_off (by omega)]; exact set_same (by rw [set_off (by omega)]; exact h 1 (by omega))
  · exact set_same (by rw [set_off (by omega), set_off (by omega)]; exact h 2 (by omega))
theorem three_off {w : World} {B o j : Nat} {x0 x1 x2 : Value} (h : j < o ∨ o + 3 ≤ j) :
    (((w.setCell ⟨B, o, none⟩ x0).setCell ⟨B, o + 1, none⟩ x1).setCell ⟨B, o + 2, none⟩ x2).cell? ⟨B, j, none⟩ = w.cell? ⟨B, j, none⟩ := by
  rw [set_off (by omega), set_off (by omega), set_off (by omega)]
theorem three_is {w : World} {B o j : Nat} {x0 x1 x2 : Value} (h : (w.cell? ⟨B, j, none⟩).isSome = true) :
    ((((w.setCell ⟨B, o, none⟩ x0).setCell ⟨B, o + 1, none⟩ x1).setCell ⟨B, o + 2, none⟩ x2).cell? ⟨B, j, none⟩).isSome = true := by
  have one : ∀ (w : World) (o : Nat) (x : Value), (w.cell? ⟨B, j, none⟩).isSome = true → ((w.setCell ⟨B, o, none⟩ x).cell? ⟨B, j, none⟩).isSome = true := fun w o x h => by
    by_cases e : o = j
    · subst e; rw [set_same h]; rfl
    · rw [set_off e]; exact h
  exact one _ _ _ (one _ _ _ (one _ _ _ h))
/-- The block B has n places for letters, the first k of which are those of L. -/
def LR (B n : Nat) (L : List Lt) (k : Nat) (wr : World) : Prop :=
  B < wr.heap.size ∧ (∀ i, i < n * 3 → (wr.cell? ⟨B, i, none⟩).isSome = true ∧ wr.frozen? ⟨B, i, none⟩ = false) ∧ ∀ (i : Nat) (h : i < L.length), i < k → LAt wr ⟨B, i * 3, none⟩ L[i]
theorem LR.call {B n k : Nat} {L : List Lt} {W W' : World} (h : LR B n L k W) (hb : Below W.heap.size W W') : LR B n L k W' :=
  ⟨Nat.lt_of_lt_of_le h.1 hb.size, fun i hi => ⟨by rw [hb.cell (p := ⟨B, i, none⟩) h.1]; exact (h.2.1 i hi).1, (hb.frozen (p := ⟨B, i, none⟩) h.1).trans (h.2.1 i hi).2⟩, fun i hi hk => (h.2.2 i hi hk).below hb h.1⟩
theorem LR.step {B n k : Nat} {L : List Lt} {W : World} (h : LR B n L k W) (hk : k < L.length) (hn : k < n) :
    LR B n L (k + 1) (((W.setCell ⟨B, k * 3, none⟩ (.int .i64 (L[k]).f)).setCell ⟨B, k * 3 + 1, none⟩ (.int .i64 (L[k]).t)).setCell ⟨B, k * 3 + 2, none⟩ (.string (L[k]).s)) := by
  refine ⟨by simp only [World.size_setCell]; exact h.1, fun i hi => ⟨three_is (h.2.1 i hi).1, by simp only [World.frozen?_setCell]; exact (h.2.1 i hi).2⟩, fun i hi hik => ?_⟩
  by_cases e : i = k
  · subst e
    exact three_at (fun t ht => (h.2.1 (i * 3 + t) (by omega)).1)
  · obtain ⟨d0, d1, d2⟩ := h.2.2 i hi (by omega)
    refine ⟨(three_off (by omega)).trans d0, ?_, ?_⟩
    · exact (three_off (j := i * 3 + 1) (by omega)).trans d1
    · exact (three_off (j := i * 3 + 2) (by omega)).trans d2
theorem LR.facts {B n k : Nat} {L : List Lt} {W : World} (h : LR B n L k W) (hn : k < n) : ∃ u0 u1 u2 : Value, (W.cell? ⟨B, k * 3, none⟩ = some u0 ∧ W.cell? ⟨B, k * 3 + 1, none⟩ = some u1 ∧ W.cell? ⟨B, k * 3 + 2, none⟩ = some u2) ∧
    W.frozen? ⟨B, k * 3, none⟩ = false ∧ W.frozen? ⟨B, k * 3 + 1, none⟩ = false ∧ W.frozen? ⟨B, k * 3 + 2, none⟩ = false := by
  obtain ⟨u0, h0⟩ := Option.isSome_iff_exists.1 (h.2.1 (k * 3) (by omega)).1
  obtain ⟨u1, h1⟩ := Option.isSome_iff_exists.1 (h.2.1 (k * 3 + 1) (by omega)).1
  obtain ⟨u2, h2⟩ := Option.isSome_iff_exists.1 (h.2.1 (k * 3 + 2) (by omega)).1
  exact ⟨u0, u1, u2, ⟨h0, h1, h2⟩, (h.2.1 _ (by omega)).2, (h.2.1 _ (by omega)).2, (h.2.1 _ (by omega)).2⟩
theorem infoL : (Try.prog.info? 32).map (fun i => (i.zero, i.size, i.bytes)) = some (some (.agg #[.int .i64 0, .int .i64 0, .string ByteArray.empty]), 3, 32) := by kernel_rfl

set_option maxRecDepth 20000 in
set_option maxHeartbeats 1000000 in
theorem tols_is (W : World) (v : Value) (L : List Lt) (h : Lts W v L) (hlen : L.length ≤ 1048576) :
    Calls Try.prog 28 #[v] W fun e w' => e = .returned (.slice (some ⟨W.heap.size, 0, none⟩) L.length L.length) ∧ Below W.heap.size W w' ∧ LR W.heap.size L.length L L.length w' := by
  obtain ⟨i0, hi, hz0, hz1, hz2⟩ := info_parts infoL
  have hmk : (Instr.makeSlice 23 (.int .i64 (L.length : Int)) (.int .i64 (L.length : Int))).run Try.prog W = .ok (.slice (some ⟨W.heap.size, 0, none⟩) L.length L.length) (W.alloc (.cells (madeCells (Value.agg #[.int .i64 0, .int .i64 0, .string ByteArray.empty]).cells (L.length * i0.size)) 32)) := by
    have h1 := run_make (P := Try.prog) W 23 32 i0 (.agg #[.int .i64 0, .int .i64 0, .string ByteArray.empty]) Try.underlying23 hi hz0 .i64 .i64 (L.length : Int) (L.length : Int) (by omega) (Int.le_refl _) (by rw [hz2]; omega) (by omega)
    simpa using h1
  obtain ⟨A, hA⟩ : ∃ A, A = madeCells (Value.agg #[.int .i64 0, .int .i64 0, .string ByteArray.empty]).cells (L.length * i0.size) := ⟨_, rfl⟩
  have hAs : A.size = L.length * 3 := by rw [hA, size_madeCells, hz1]
  rw [← hA] at hmk
  have HT : Hid (Below W.heap.size W (W.alloc (.cells A 32)) ∧ LR W.heap.size L.length L 0 (W.alloc (.cells A 32))) := by
    refine ⟨(Below.refl _ _).alloc (Nat.le_refl _) _, by simp, fun i hi => ⟨?_, frozen_of_row _ W.heap.size i _ 32 (heap_alloc_last W _)⟩, fun i _ h => by omega⟩
    rw [cell_of_row _ W.heap.size i _ 32 (0, 0) (heap_alloc_last W _), Array.getElem?_eq_getElem (by omega)]
    rfl
  clear hA hAs hi hz0 hz1 hz2
  have hlI : (L.length : Int) ≤ 1048576 := by omega
  obtain ⟨oa, cap, rfl, _⟩ := h.len
  have hcell := h.cells
  clear h
  go_enter Try.func28, Try.ntmps28
  go_wp2_with fail
  go_loopw [4] (fun i wr => ∃ k : Nat, k ≤ L.length ∧ i = .int .i64 (k : Int) ∧ Hid (Below W.heap.size W wr ∧ LR W.heap.size L.length L k wr)) (fun i _ => L.length - (intOf i).toNat)
  case atStart => exact ⟨0, by omega, rfl, HT⟩
  case round =>
    obtain ⟨k, hk, rfl, HR⟩ := hrel
    by_cases hlt : k < L.length
    · obtain ⟨a, rfl, hbl, hc⟩ := hcell k hlt
      have hd : LAt wr (a.add (k * 3)) L[k] := (hc k hlt).below HR.out.1 (by rw [add_block]; exact hbl)
      have ct : ∀ V : World, Calls Try.prog 40 #[.agg #[.int .i64 (L[k]).f, .int .i64 (L[k]).t, .string (L[k]).s]] V fun e w' => e = .returned (.agg #[.int .i64 (L[k]).f, .int .i64 (L[k]).t, .string (L[k]).s]) ∧ Below V.heap.size V w' := fun V => tolet_is _ _ _ V
      have HN : ∀ w1 : World, Below wr.heap.size wr w1 → LR W.heap.size L.length L k w1 ∧ Hid (Below W.heap.size W (((w1.setCell ⟨W.heap.size, k * 3, none⟩ (.int .i64 (L[k]).f)).setCell ⟨W.heap.size, k * 3 + 1, none⟩ (.int .i64 (L[k]).t)).setCell ⟨W.heap.size, k * 3 + 2, none⟩ (.string (L[k]).s)) ∧
          LR W.heap.size L.length L (k + 1) (((w1.setCell ⟨W.heap.size, k * 3, none⟩ (.int .i64 (L[k]).f)).setCell ⟨W.heap.size, k * 3 + 1, none⟩ (.int .i64 (L[k]).t)).setCell ⟨W.heap.size, k * 3 + 2, none⟩ (.string (L[k]).s))) := fun w1 hb1 =>
        ⟨HR.out.2.call hb1, (((HR.out.1.trans (hb1.mono HR.out.1.size)).setCell (Nat.le_refl _) _).setCell (Nat.le_refl _) _).setCell (Nat.le_refl _) _, (HR.out.2.call hb1).step hlt hlt⟩
      obtain ⟨q, hq⟩ : ∃ q, q = L[k] := ⟨_, rfl⟩
      rw [← hq] at hd ct HN
      obtain ⟨d0, d1, d2⟩ := hd
      have hk0 : (0 : Int) ≤ (k : Int) := by omega
      have hkI : (k : Int) < (L.length : Int) := by omega
      clear hq hc hcell HT hmk HR
      go_wp2_with (go_at_call 40; refine (ct _).mono ?_; rintro e w1 ⟨rfl, hb1⟩; obtain ⟨hr1, hn1⟩ := HN w1 hb1; obtain ⟨u0, u1, u2, ⟨c0, c1, c2⟩, f0, f1, f2⟩ := hr1.facts hlt; clear HN hr1)
      exact ⟨⟨k + 1, by omega, by go_num, hn1⟩, by simp [intOf]; omega⟩
    · have hkk : k = L.length := by omega
      subst hkk
      clear hcell HT hmk
      go_wp2
      go_ret
      exact ⟨rfl, HR.out⟩
/-- What a made block holds, as a slice. -/
theorem LR.lts {B : Nat} {L : List Lt} {W : World} (h : LR B L.length L L.length W) (hl : L.length ≤ 1048576) : Lts W (.slice (some ⟨B, 0, none⟩) L.length L.length) L := by
  refine .inr ⟨⟨B, 0, none⟩, L.length, rfl, Nat.le_refl _, by unfold maxLen; omega, fun _ => h.1, fun i hi => ?_⟩
  rw [Addr.add_mid, Nat.zero_add]
  exact h.2.2 i hi hi
set_option maxRecDepth 20000 in
theorem eqlet_is (l : Lt) (w : World) :
    Calls Try.prog 41 #[.agg #[.int .i64 (l).f, .int .i64 (l).t, .string (l).s], .agg #[.int .i64 (l).f, .int .i64 (l).t, .string (l).s]] w fun e w' => e = .returned (.bool true) ∧ Below w.heap.size w w' := by
  go_enter Try.func41, Try.ntmps41
  go_wp2
  go_ret
  exact ⟨rfl, (by repeat' (first | (with_reducible exact Below.refl _ _) | (with_reducible assumption) | (with_reducible refine below_drewN ?_ _) | (with_reducible refine Below.setCell ?_ ?_ _) | (with_reducible refine Below.alloc ?_ ?_ _) | (with_reducible refine Below.drew ?_) | go_size))⟩
set_option maxRecDepth 20000 in
set_option maxHeartbeats 1000000 in
theorem eqls_is (W : World) (u v : Value) (L : List Lt) (h : Lts W u L) (h' : Lts W v L) :
    Calls Try.prog 29 #[u, v] W fun e w' => e = .returned (.bool true) ∧ Below W.heap.size W w' := by
  by_cases hS : L = []
  · obtain ⟨a, c, rfl, _⟩ := h.len
    obtain ⟨a', c', rfl, _⟩ := h'.len
    subst hS
    clear h h'
    go_enter Try.func29, Try.ntmps29
    go_wp2_with fail
    refine wp_loop_rounds 1 ?_
    rw [rounds_succ]
    go_wp2
    go_ret
    exact ⟨rfl, Below.refl _ _⟩
  · rcases h with ⟨_, h0⟩ | ⟨a, cap, rfl, hl, hm, hbl, hc⟩
    · exact absurd h0 hS
    rcases h' with ⟨_, h0⟩ | ⟨a', cap', rfl, hl', hm', hbl', hc'⟩
    · exact absurd h0 hS
    have hcl : L.length ≤ 9223372036854775807 := by unfold maxLen at hm; omega
    go_enter Try.func29, Try.ntmps29
    go_wp2_with fail
    go_loopw [5] (fun i wr => ∃ k : Nat, k ≤ L.length ∧ i = .int .i64 (k : Int) ∧ Hid (Below W.heap.size W wr)) (fun i _ => L.length - (intOf i).toNat)
    case atStart => exact ⟨0, by omega, rfl, Below.refl _ _⟩
    case round =>
      obtain ⟨k, hk, rfl, HB⟩ := hrel
      by_cases hlt : k < L.length
      · have hd : LAt wr (a.add (k * 3)) L[k] := (hc k hlt).below HB.out (by rw [add_block]; exact hbl (by omega))
        have hd' : LAt wr (a'.add (k * 3)) L[k] := (hc' k hlt).below HB.out (by rw [add_block]; exact hbl' (by omega))
        have hz := HB.out.size
        have hpb : (a.add (k * 3)).block < wr.heap.size := by rw [add_block]; have := hbl (by omega); omega
        have hpb' : (a'.add (k * 3)).block < wr.heap.size := by rw [add_block]; have := hbl' (by omega); omega
        obtain ⟨q, hq⟩ : ∃ q, q = L[k] := ⟨_, rfl⟩
        rw [← hq] at hd hd'
        have hk0 : (0 : Int) ≤ (k : Int) := by omega
        have hkI : (k : Int) < (L.length : Int) := by omega
        clear hq hc hc'
        go_wp2_with fail
        obtain ⟨d0, d1, d2⟩ := hd
        obtain ⟨e0, e1, e2⟩ := hd'
        go_region_held (fun w' => w'.cell? (a.add (k * 3)) = some (Value.int .i64 q.f) ∧ w'.cell? ⟨(a.add (k * 3)).block, (a.add (k * 3)).off + 1, none⟩ = some (Value.int .i64 q.t) ∧ w'.cell? ⟨(a.add (k * 3)).block, (a.add (k * 3)).off + 2, none⟩ = some (Value.string q.s) ∧ w'.cell? (a'.add (k * 3)) = some (Value.int .i64 q.f) ∧ w'.cell? ⟨(a'.add (k * 3)).block, (a'.add (k * 3)).off + 1, none⟩ = some (Value.int .i64 q.t) ∧ w'.cell? ⟨(a'.add (k * 3)).block, (a'.add (k * 3)).off + 2, none⟩ = some (Value.string q.s)) ((refine ⟨?_, ?_, ?_, ?_, ?_, ?_⟩ <;> assumption))
          ((go_at_call 41; refine (eqlet_is q _).mono ?_; rintro e w1 ⟨rfl, hb1⟩; have m0 := (hb1.cell (p := a.add (k * 3)) hpb).trans d0; have m1 := (hb1.cell (p := ⟨(a.add (k * 3)).block, (a.add (k * 3)).off + 1, none⟩) hpb).trans d1; have m2 := (hb1.cell (p := ⟨(a.add (k * 3)).block, (a.add (k * 3)).off + 2, none⟩) hpb).trans d2; have n0 := (hb1.cell (p := a'.add (k * 3)) hpb').trans e0; have n1 := (hb1.cell (p := ⟨(a'.add (k * 3)).block, (a'.add (k * 3)).off + 1, none⟩) hpb').trans e1; have n2 := (hb1.cell (p := ⟨(a'.add (k * 3)).block, (a'.add (k * 3)).off + 2, none⟩) hpb').trans e2))
        all_goals (go_wp2_with fail)
        all_goals (exact ⟨⟨k + 1, by omega, by go_num, (HB.out.drew).trans (hb1.mono hz)⟩, by simp [intOf]; omega⟩)
      · go_wp2
        go_ret
        exact ⟨rfl, HB.out⟩
end Go.Proofs.Ytnfnhgloblfgnaa
