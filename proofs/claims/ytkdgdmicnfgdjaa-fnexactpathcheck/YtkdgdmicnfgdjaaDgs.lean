/-
  Slices of digests: measured, copied, compared.
-/
import Derived.Test.YtkdgdmicnfgdjaaJoinB1
import Derived.Test.YtkdgdmicnfgdjaaJoinB2
import Derived.Test.YtkdgdmicnfgdjaaTxt
import Derived.Deep.RegionHeld
namespace Go.Proofs.Ytkdgdmicnfgdjaa
open Go.RowKit

/-- The digest q lies at p. -/
def DAt (W : World) (p : Addr) (q : Qd) : Prop := W.cell? p = some (Value.int IntKind.u64 ((q.a).toNat : Int)) ∧ W.cell? ⟨p.block, p.off + 1, none⟩ = some (Value.int IntKind.u64 ((q.b).toNat : Int)) ∧ W.cell? ⟨p.block, p.off + 2, none⟩ = some (Value.int IntKind.u64 ((q.c).toNat : Int)) ∧ W.cell? ⟨p.block, p.off + 3, none⟩ = some (Value.int IntKind.u64 ((q.d).toNat : Int))
theorem DAt.below {W W' : World} {p : Addr} {q : Qd} {B : Nat} (h : DAt W p q) (hb : Below B W W') (hp : p.block < B) : DAt W' p q :=
  ⟨(hb.cell hp).trans h.1, (hb.cell (p := ⟨p.block, p.off + 1, none⟩) hp).trans h.2.1, (hb.cell (p := ⟨p.block, p.off + 2, none⟩) hp).trans h.2.2.1, (hb.cell (p := ⟨p.block, p.off + 3, none⟩) hp).trans h.2.2.2⟩
/-- The slice v holds the digests L. -/
def Dgs (W : World) (v : Value) (L : List Qd) : Prop :=
  (v = .slice none 0 0 ∧ L = []) ∨ ∃ (a : Addr) (cap : Nat), v = .slice (some a) L.length cap ∧ L.length ≤ cap ∧ cap ≤ maxLen ∧ (0 < L.length → a.block < W.heap.size) ∧ ∀ (i : Nat) (h : i < L.length), DAt W (a.add (i * 4)) L[i]
theorem Dgs.below {W W' : World} {v : Value} {L : List Qd} {B : Nat} (h : Dgs W v L) (hb : Below B W W') (hB : W.heap.size ≤ B) : Dgs W' v L := by
  rcases h with h | ⟨a, cap, hv, hl, hm, hbl, hc⟩
  · exact .inl h
  · exact .inr ⟨a, cap, hv, hl, hm, fun h0 => Nat.lt_of_lt_of_le (hbl h0) hb.size, fun i hi => (hc i hi).below hb (by rw [add_block]; have := hbl (by omega); omega)⟩
theorem Dgs.call {W W' : World} {v : Value} {L : List Qd} (h : Dgs W v L) (hb : Below W.heap.size W W') : Dgs W' v L := h.below hb (Nat.le_refl _)
theorem Dgs.len {W : World} {v : Value} {L : List Qd} (h : Dgs W v L) : ∃ a cap, v = .slice a L.length cap ∧ L.length ≤ 9223372036854775807 := by
  rcases h with ⟨rfl, rfl⟩ | ⟨a, cap, rfl, hl, hm, _⟩
  · exact ⟨none, 0, rfl, by simp⟩
  · exact ⟨some a, cap, rfl, by unfold maxLen at hm; omega⟩

theorem szd_is (W : World) (v : Value) (L : List Qd) (h : Dgs W v L) (m : Nat) (hm : m ≤ 1048576) :
    Calls Try.prog 18 #[v, .int .i64 (m : Int)] W fun e w' => ∃ r : Int, e = .returned (.int .i64 r) ∧ w' = W ∧ (0 ≤ r → L.length ≤ m) := by
  obtain ⟨a, cap, rfl, hl⟩ := h.len
  clear h
  have hw1 : IntKind.i64.wrap ((m : Int) - (L.length : Int)) = (m : Int) - (L.length : Int) := IntWalk.i64_in _ (by omega)
  by_cases hb : m < L.length
  · have hbI : (m : Int) - (L.length : Int) < 0 := by omega
    go_enter Try.func18, Try.ntmps18
    go_wp2
    go_ret
    exact ⟨-1, rfl, rfl, fun h => by omega⟩
  · have hbI : ¬ (m : Int) - (L.length : Int) < 0 := by omega
    go_enter Try.func18, Try.ntmps18
    go_wp2
    go_ret
    exact ⟨_, rfl, rfl, fun _ => by omega⟩

set_option maxRecDepth 20000 in
set_option maxHeartbeats 1000000 in
theorem eqds_is (W : World) (u v : Value) (L : List Qd) (h : Dgs W u L) (h' : Dgs W v L) :
    Calls Try.prog 13 #[u, v] W fun e w' => e = .returned (.bool true) ∧ Below W.heap.size W w' := by
  by_cases hS : L = []
  · obtain ⟨a, c, rfl, _⟩ := h.len
    obtain ⟨a', c', rfl, _⟩ := h'.len
    subst hS
    clear h h'
    go_enter Try.func13, Try.ntmps13
    go_wp2_with fail
    refine wp_loop_rounds 1 ?_
    rw [rounds_succ]
    go_wp2
    go_ret
    exact ⟨rfl, Below.refl _ _⟩
  · rcases h with ⟨_, h0⟩ | ⟨a, cap, rfl, hl, hm, hbl, hc⟩
    · exact absurd h0 hS
    rcases h' with ⟨_, h0⟩ | ⟨a', cap', rfl, hl', hm', hbl', hc'⟩
    · exact absurd h0 hS
    have hcl : L.length ≤ 9223372036854775807 := by unfold maxLen at hm; omega
    go_enter Try.func13, Try.ntmps13
    go_wp2_with fail
    go_loopw [5] (fun i wr => ∃ k : Nat, k ≤ L.length ∧ i = .int .i64 (k : Int) ∧ Hid (Below W.heap.size W wr)) (fun i _ => L.length - (intOf i).toNat)
    case atStart => exact ⟨0, by omega, rfl, Below.refl _ _⟩
    case round =>
      obtain ⟨k, hk, rfl, HB⟩ := hrel
      by_cases hlt : k < L.length
      · have hd : DAt wr (a.add (k * 4)) L[k] := (hc k hlt).below HB.out (by rw [add_block]; exact hbl (by omega))
        have hd' : DAt wr (a'.add (k * 4)) L[k] := (hc' k hlt).below HB.out (by rw [add_block]; exact hbl' (by omega))
        have hz := HB.out.size
        have hpb : (a.add (k * 4)).block < wr.heap.size := by rw [add_block]; have := hbl (by omega); omega
        have hpb' : (a'.add (k * 4)).block < wr.heap.size := by rw [add_block]; have := hbl' (by omega); omega
        obtain ⟨q, hq⟩ : ∃ q, q = L[k] := ⟨_, rfl⟩
        rw [← hq] at hd hd'
        have hk0 : (0 : Int) ≤ (k : Int) := by omega
        have hkI : (k : Int) < (L.length : Int) := by omega
        clear hq hc hc'
        go_wp2_with fail
        obtain ⟨d0, d1, d2, d3⟩ := hd
        obtain ⟨e0, e1, e2, e3⟩ := hd'
        go_region_held (fun w' => w'.cell? (a.add (k * 4)) = some (Value.int IntKind.u64 ((q.a).toNat : Int)) ∧ w'.cell? ⟨(a.add (k * 4)).block, (a.add (k * 4)).off + 1, none⟩ = some (Value.int IntKind.u64 ((q.b).toNat : Int)) ∧ w'.cell? ⟨(a.add (k * 4)).block, (a.add (k * 4)).off + 2, none⟩ = some (Value.int IntKind.u64 ((q.c).toNat : Int)) ∧ w'.cell? ⟨(a.add (k * 4)).block, (a.add (k * 4)).off + 3, none⟩ = some (Value.int IntKind.u64 ((q.d).toNat : Int)) ∧ w'.cell? (a'.add (k * 4)) = some (Value.int IntKind.u64 ((q.a).toNat : Int)) ∧ w'.cell? ⟨(a'.add (k * 4)).block, (a'.add (k * 4)).off + 1, none⟩ = some (Value.int IntKind.u64 ((q.b).toNat : Int)) ∧ w'.cell? ⟨(a'.add (k * 4)).block, (a'.add (k * 4)).off + 2, none⟩ = some (Value.int IntKind.u64 ((q.c).toNat : Int)) ∧ w'.cell? ⟨(a'.add (k * 4)).block, (a'.add (k * 4)).off + 3, none⟩ = some (Value.int IntKind.u64 ((q.d).toNat : Int))) ((refine ⟨?_, ?_, ?_, ?_, ?_, ?_, ?_, ?_⟩ <;> assumption))
          ((go_at_call 22; refine (eqd_same q _).mono ?_; rintro e w1 ⟨rfl, hb1⟩; have m0 := (hb1.cell (p := a.add (k * 4)) hpb).trans d0; have m1 := (hb1.cell (p := ⟨(a.add (k * 4)).block, (a.add (k * 4)).off + 1, none⟩) hpb).trans d1; have m2 := (hb1.cell (p := ⟨(a.add (k * 4)).block, (a.add (k * 4)).off + 2, none⟩) hpb).trans d2; have m3 := (hb1.cell (p := ⟨(a.add (k * 4)).block, (a.add (k * 4)).off + 3, none⟩) hpb).trans d3; have n0 := (hb1.cell (p := a'.add (k * 4)) hpb').trans e0; have n1 := (hb1.cell (p := ⟨(a'.add (k * 4)).block, (a'.add (k * 4)).off + 1, none⟩) hpb').trans e1; have n2 := (hb1.cell (p := ⟨(a'.add (k * 4)).block, (a'.add (k * 4)).off + 2, none⟩) hpb').trans e2; have n3 := (hb1.cell (p := ⟨(a'.add (k * 4)).block, (a'.add (k * 4)).off + 3, none⟩) hpb').trans e3))
        all_goals (go_wp2_with fail)
        all_goals (exact ⟨⟨k + 1, by omega, by go_num, (HB.out.drew).trans (hb1.mono hz)⟩, by simp [intOf]; omega⟩)
      · go_wp2
        go_ret
        exact ⟨rfl, HB.out⟩

/-- A digest is stored at an offset of a block: what lies there. -/
theorem four_at {w : World} {B o : Nat} {q : Qd} (h : ∀ t, t < 4 → (w.cell? ⟨B, o + t, none⟩).isSome = true) :
    DAt ((((w.setCell ⟨B, o, none⟩ (Value.int IntKind.u64 ((q.a).toNat : Int))).setCell ⟨B, o + 1, none⟩ (Value.int IntKind.u64 ((q.b).toNat : Int))).setCell ⟨B, o + 2, none⟩ (Value.int IntKind.u64 ((q.c).toNat : Int))).setCell ⟨B, o + 3, none⟩ (Value.int IntKind.u64 ((q.d).toNat : Int))) ⟨B, o, none⟩ q := by
  refine ⟨?_, ?_, ?_, ?_⟩
  · rw [set_off (by omega), set_off (by omega), set_off (by omega)]; exact set_same (h 0 (by omega))
  · show World.cell? _ ⟨B, o + 1, none⟩ = _
    rw [set_off (by omega), set_off (by omega)]; exact set_same (by rw [set_off (by omega)]; exact h 1 (by omega))
  · show World.cell? _ ⟨B, o + 2, none⟩ = _
    rw [set_off (by omega)]; exact set_same (by rw [set_off (by omega), set_off (by omega)]; exact h 2 (by omega))
  · exact set_same (by rw [set_off (by omega), set_off (by omega), set_off (by omega)]; exact h 3 (by omega))
theorem four_off {w : World} {B o j : Nat} {x0 x1 x2 x3 : Value} (h : j < o ∨ o + 4 ≤ j) :
    ((((w.setCell ⟨B, o, none⟩ x0).setCell ⟨B, o + 1, none⟩ x1).setCell ⟨B, o + 2, none⟩ x2).setCell ⟨B, o + 3, none⟩ x3).cell? ⟨B, j, none⟩ = w.cell? ⟨B, j, none⟩ := by
  rw [set_off (by omega), set_off (by omega), set_off (by omega), set_off (by omega)]
theorem four_is {w : World} {B o j : Nat} {x0 x1 x2 x3 : Value} (h : (w.cell? ⟨B, j, none⟩).isSome = true) :
    (((((w.setCell ⟨B, o, none⟩ x0).setCell ⟨B, o + 1, none⟩ x1).setCell ⟨B, o + 2, none⟩ x2).setCell ⟨B, o + 3, none⟩ x3).cell? ⟨B, j, none⟩).isSome = true := by
  have one : ∀ (w : World) (o : Nat) (x : Value), (w.cell? ⟨B, j, none⟩).isSome = true → ((w.setCell ⟨B, o, none⟩ x).cell? ⟨B, j, none⟩).isSome = true := fun w o x h => by
    by_cases e : o = j
    · subst e; rw [set_same h]; rfl
    · rw [set_off e]; exact h
  exact one _ _ _ (one _ _ _ (one _ _ _ (one _ _ _ h)))
/-- The block B has n places for digests, the first k of which are those of L. -/
def DR (B n : Nat) (L : List Qd) (k : Nat) (wr : World) : Prop :=
  B < wr.heap.size ∧ (∀ i, i < n * 4 → (wr.cell? ⟨B, i, none⟩).isSome = true ∧ wr.frozen? ⟨B, i, none⟩ = false) ∧ ∀ (i : Nat) (h : i < L.length), i < k → DAt wr ⟨B, i * 4, none⟩ L[i]
theorem DR.call {B n k : Nat} {L : List Qd} {W W' : World} (h : DR B n L k W) (hb : Below W.heap.size W W') : DR B n L k W' :=
  ⟨Nat.lt_of_lt_of_le h.1 hb.size, fun i hi => ⟨by rw [hb.cell (p := ⟨B, i, none⟩) h.1]; exact (h.2.1 i hi).1, (hb.frozen (p := ⟨B, i, none⟩) h.1).trans (h.2.1 i hi).2⟩, fun i hi hk => (h.2.2 i hi hk).below hb h.1⟩
theorem DR.step {B n k : Nat} {L : List Qd} {W : World} (h : DR B n L k W) (hk : k < L.length) (hn : k < n) :
    DR B n L (k + 1) ((((W.setCell ⟨B, k * 4, none⟩ (Value.int IntKind.u64 (((L[k]).a).toNat : Int))).setCell ⟨B, k * 4 + 1, none⟩ (Value.int IntKind.u64 (((L[k]).b).toNat : Int))).setCell ⟨B, k * 4 + 2, none⟩ (Value.int IntKind.u64 (((L[k]).c).toNat : Int))).setCell ⟨B, k * 4 + 3, none⟩ (Value.int IntKind.u64 (((L[k]).d).toNat : Int))) := by
  refine ⟨by simp only [World.size_setCell]; exact h.1, fun i hi => ⟨four_is (h.2.1 i hi).1, by simp only [World.frozen?_setCell]; exact (h.2.1 i hi).2⟩, fun i hi hik => ?_⟩
  by_cases e : i = k
  · subst e
    exact four_at (fun t ht => (h.2.1 (i * 4 + t) (by omega)).1)
  · obtain ⟨d0, d1, d2, d3⟩ := h.2.2 i hi (by omega)
    refine ⟨(four_off (by omega)).trans d0, ?_, ?_, ?_⟩
    · exact (four_off (j := i * 4 + 1) (by omega)).trans d1
    · exact (four_off (j := i * 4 + 2) (by omega)).trans d2
    · exact (four_off (j := i * 4 + 3) (by omega)).trans d3
theorem DR.facts {B n k : Nat} {L : List Qd} {W : World} (h : DR B n L k W) (hn : k < n) : ∃ u0 u1 u2 u3 : Value, (W.cell? ⟨B, k * 4, none⟩ = some u0 ∧ W.cell? ⟨B, k * 4 + 1, none⟩ = some u1 ∧ W.cell? ⟨B, k * 4 + 2, none⟩ = some u2 ∧ W.cell? ⟨B, k * 4 + 3, none⟩ = some u3) ∧
    W.frozen? ⟨B, k * 4, none⟩ = false ∧ W.frozen? ⟨B, k * 4 + 1, none⟩ = false ∧ W.frozen? ⟨B, k * 4 + 2, none⟩ = false ∧ W.frozen? ⟨B, k * 4 + 3, none⟩ = false := by
  obtain ⟨u0, h0⟩ := Option.isSome_iff_exists.1 (h.2.1 (k * 4) (by omega)).1
  obtain ⟨u1, h1⟩ := Option.isSome_iff_exists.1 (h.2.1 (k * 4 + 1) (by omega)).1
  obtain ⟨u2, h2⟩ := Option.isSome_iff_exists.1 (h.2.1 (k * 4 + 2) (by omega)).1
  obtain ⟨u3, h3⟩ := Option.isSome_iff_exists.1 (h.2.1 (k * 4 + 3) (by omega)).1
  exact ⟨u0, u1, u2, u3, ⟨h0, h1, h2, h3⟩, (h.2.1 _ (by omega)).2, (h.2.1 _ (by omega)).2, (h.2.1 _ (by omega)).2, (h.2.1 _ (by omega)).2⟩
theorem infoD : (Try.prog.info? 36).map (fun i => (i.zero, i.size, i.bytes)) = some (some (.agg #[.int .u64 0, .int .u64 0, .int .u64 0, .int .u64 0]), 4, 32) := by kernel_rfl

set_option maxRecDepth 20000 in
set_option maxHeartbeats 1000000 in
theorem tods_is (W : World) (v : Value) (L : List Qd) (h : Dgs W v L) (hlen : L.length ≤ 1048576) :
    Calls Try.prog 20 #[v] W fun e w' => e = .returned (.slice (some ⟨W.heap.size, 0, none⟩) L.length L.length) ∧ Below W.heap.size W w' ∧ DR W.heap.size L.length L L.length w' := by
  obtain ⟨i0, hi, hz0, hz1, hz2⟩ := info_parts infoD
  have hmk : (Instr.makeSlice 24 (.int .i64 (L.length : Int)) (.int .i64 (L.length : Int))).run Try.prog W = .ok (.slice (some ⟨W.heap.size, 0, none⟩) L.length L.length) (W.alloc (.cells (madeCells (Value.agg #[.int .u64 0, .int .u64 0, .int .u64 0, .int .u64 0]).cells (L.length * i0.size)) 36)) := by
    have h1 := run_make (P := Try.prog) W 24 36 i0 (.agg #[.int .u64 0, .int .u64 0, .int .u64 0, .int .u64 0]) Try.underlying24 hi hz0 .i64 .i64 (L.length : Int) (L.length : Int) (by omega) (Int.le_refl _) (by rw [hz2]; omega) (by omega)
    simpa using h1
  obtain ⟨A, hA⟩ : ∃ A, A = madeCells (Value.agg #[.int .u64 0, .int .u64 0, .int .u64 0, .int .u64 0]).cells (L.length * i0.size) := ⟨_, rfl⟩
  have hAs : A.size = L.length * 4 := by rw [hA, size_madeCells, hz1]
  rw [← hA] at hmk
  have HT : Hid (Below W.heap.size W (W.alloc (.cells A 36)) ∧ DR W.heap.size L.length L 0 (W.alloc (.cells A 36))) := by
    refine ⟨(Below.refl _ _).alloc (Nat.le_refl _) _, by simp, fun i hi => ⟨?_, frozen_of_row _ W.heap.size i _ 36 (heap_alloc_last W _)⟩, fun i _ h => by omega⟩
    rw [cell_of_row _ W.heap.size i _ 36 (0, 0) (heap_alloc_last W _), Array.getElem?_eq_getElem (by omega)]
    rfl
  clear hA hAs hi hz0 hz1 hz2
  have hlI : (L.length : Int) ≤ 1048576 := by omega
  have hcell : ∀ k, k < L.length → ∃ a cap, v = .slice (some a) L.length cap ∧ a.block < W.heap.size ∧ ∀ (i : Nat) (h : i < L.length), DAt W (a.add (i * 4)) L[i] := by
    intro k hk
    rcases h with ⟨rfl, rfl⟩ | ⟨a, cap, rfl, _, _, hb, hc⟩
    · simp at hk
    · exact ⟨a, cap, rfl, hb (by omega), hc⟩
  obtain ⟨oa, cap, rfl, _⟩ := h.len
  clear h
  go_enter Try.func20, Try.ntmps20
  go_wp2_with fail
  go_loopw [4] (fun i wr => ∃ k : Nat, k ≤ L.length ∧ i = .int .i64 (k : Int) ∧ Hid (Below W.heap.size W wr ∧ DR W.heap.size L.length L k wr)) (fun i _ => L.length - (intOf i).toNat)
  case atStart => exact ⟨0, by omega, rfl, HT⟩
  case round =>
    obtain ⟨k, hk, rfl, HR⟩ := hrel
    by_cases hlt : k < L.length
    · obtain ⟨a, cap', he, hbl, hc⟩ := hcell k hlt
      obtain ⟨rfl, _, rfl⟩ : oa = some a ∧ L.length = L.length ∧ cap = cap' := by simpa using he
      have hd : DAt wr (a.add (k * 4)) L[k] := (hc k hlt).below HR.out.1 (by rw [add_block]; exact hbl)
      have ct : ∀ V : World, Calls Try.prog 44 #[.agg #[.int .u64 ((L[k]).a.toNat : Int), .int .u64 ((L[k]).b.toNat : Int), .int .u64 ((L[k]).c.toNat : Int), .int .u64 ((L[k]).d.toNat : Int)]] V fun e w' => e = .returned (.agg #[.int .u64 ((L[k]).a.toNat : Int), .int .u64 ((L[k]).b.toNat : Int), .int .u64 ((L[k]).c.toNat : Int), .int .u64 ((L[k]).d.toNat : Int)]) ∧ Below V.heap.size V w' := fun V => (toD_is L[k] V).mono (by rintro e w' ⟨rfl, rfl⟩; exact ⟨rfl, (by repeat' (first | (with_reducible exact Below.refl _ _) | (with_reducible assumption) | (with_reducible refine below_drewN ?_ _) | (with_reducible refine Below.setCell ?_ ?_ _) | (with_reducible refine Below.alloc ?_ ?_ _) | (with_reducible refine Below.drew ?_) | go_size))⟩)
      have HN : ∀ w1 : World, Below wr.heap.size wr w1 → DR W.heap.size L.length L k w1 ∧ Hid (Below W.heap.size W ((((w1.setCell ⟨W.heap.size, k * 4, none⟩ (Value.int IntKind.u64 (((L[k]).a).toNat : Int))).setCell ⟨W.heap.size, k * 4 + 1, none⟩ (Value.int IntKind.u64 (((L[k]).b).toNat : Int))).setCell ⟨W.heap.size, k * 4 + 2, none⟩ (Value.int IntKind.u64 (((L[k]).c).toNat : Int))).setCell ⟨W.heap.size, k * 4 + 3, none⟩ (Value.int IntKind.u64 (((L[k]).d).toNat : Int))) ∧
          DR W.heap.size L.length L (k + 1) ((((w1.setCell ⟨W.heap.size, k * 4, none⟩ (Value.int IntKind.u64 (((L[k]).a).toNat : Int))).setCell ⟨W.heap.size, k * 4 + 1, none⟩ (Value.int IntKind.u64 (((L[k]).b).toNat : Int))).setCell ⟨W.heap.size, k * 4 + 2, none⟩ (Value.int IntKind.u64 (((L[k]).c).toNat : Int))).setCell ⟨W.heap.size, k * 4 + 3, none⟩ (Value.int IntKind.u64 (((L[k]).d).toNat : Int)))) := fun w1 hb1 =>
        ⟨HR.out.2.call hb1, ((((HR.out.1.trans (hb1.mono HR.out.1.size)).setCell (Nat.le_refl _) _).setCell (Nat.le_refl _) _).setCell (Nat.le_refl _) _).setCell (Nat.le_refl _) _, (HR.out.2.call hb1).step hlt hlt⟩
      obtain ⟨q, hq⟩ : ∃ q, q = L[k] := ⟨_, rfl⟩
      rw [← hq] at hd ct HN
      obtain ⟨d0, d1, d2, d3⟩ := hd
      have hk0 : (0 : Int) ≤ (k : Int) := by omega
      have hkI : (k : Int) < (L.length : Int) := by omega
      clear hq hc he hcell HT hmk HR
      go_wp2_with (go_at_call 44; refine (ct _).mono ?_; rintro e w1 ⟨rfl, hb1⟩; obtain ⟨hr1, hn1⟩ := HN w1 hb1; obtain ⟨u0, u1, u2, u3, ⟨c0, c1, c2, c3⟩, f0, f1, f2, f3⟩ := hr1.facts hlt; clear HN hr1)
      exact ⟨⟨k + 1, by omega, by go_num, hn1⟩, by simp [intOf]; omega⟩
    · have hkk : k = L.length := by omega
      subst hkk
      clear hcell HT hmk
      go_wp2
      go_ret
      exact ⟨rfl, HR.out⟩
/-- What a made block holds, as a slice. -/
theorem DR.dgs {B : Nat} {L : List Qd} {W : World} (h : DR B L.length L L.length W) (hl : L.length ≤ 1048576) : Dgs W (.slice (some ⟨B, 0, none⟩) L.length L.length) L := by
  refine .inr ⟨⟨B, 0, none⟩, L.length, rfl, Nat.le_refl _, by unfold maxLen; omega, fun _ => h.1, fun i hi => ?_⟩
  rw [Addr.add_mid, Nat.zero_add]
  exact h.2.2 i hi hi
end Go.Proofs.Ytkdgdmicnfgdjaa
