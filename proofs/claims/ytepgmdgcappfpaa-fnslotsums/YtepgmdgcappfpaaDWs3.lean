/-
  DiskWrite of the document, walked.
-/
import Derived.Test.YtepgmdgcappfpaaJoinB19
import Derived.Test.YtepgmdgcappfpaaSc
namespace Go.Proofs.Ytepgmdgcappfpaa
open Go.RowKit

def zro : Sl := ⟨0, 0, 0, ⟨0, 0, 0, 0⟩⟩
/-- The boxes of the disk and of the answer. -/
def DS (W : World) (d : Sl × Sl) (wr : World) : Prop := DK W.heap.size d wr ∧ DK (W.heap.size + 1) (zro, zro) wr ∧ Below W.heap.size W wr
theorem DS.call {W w1 w2 : World} {d : Sl × Sl} (h : DS W d w1) (hb : Below w1.heap.size w1 w2) : DS W d w2 := ⟨h.1.call hb, h.2.1.call hb, below_after h.2.2 hb h.2.2.size⟩
theorem DK.grown {B : Nat} {d : Sl × Sl} {W W' : World} {row : Option Nat} (h : DK B d W) (hg : W.grownBy W' row) (hr : row ≠ some B) : DK B d W' := by
  obtain ⟨⟨h0, a0, a1, a2, a3, a4, a5, a6⟩, ⟨t0, t1, t2, t3, t4, t5, t6⟩, hf⟩ := h
  have hb : W'.heap[B]? = W.heap[B]? := hg.block B h0 (fun e => hr e.symm)
  have e : ∀ i, W'.cell? ⟨B, i, none⟩ = W.cell? ⟨B, i, none⟩ := fun i => World.cell?_of_block (w := W) (a := ⟨B, i, none⟩) hb
  have f : ∀ i, W'.frozen? ⟨B, i, none⟩ = W.frozen? ⟨B, i, none⟩ := fun i => World.frozen?_of_block (w := W) (a := ⟨B, i, none⟩) hb
  exact ⟨⟨Nat.lt_of_lt_of_le h0 hg.size, (e _).trans a0, (e _).trans a1, (e _).trans a2, (e _).trans a3, (e _).trans a4, (e _).trans a5, (e _).trans a6⟩, ⟨(e _).trans t0, (e _).trans t1, (e _).trans t2, (e _).trans t3, (e _).trans t4, (e _).trans t5, (e _).trans t6⟩, fun i hi => (f i).trans (hf i hi)⟩
theorem DS.one' {W w1 : World} {d : Sl × Sl} (h : DS W d w1) (y : Sl) : DS W (y, d.2) (w1.setCells W.heap.size 0 [.int .u64 ((y).m.toNat : Int), .int .u64 ((y).q.toNat : Int), .int .u64 ((y).z.toNat : Int), .int .u64 ((y).r.a.toNat : Int), .int .u64 ((y).r.b.toNat : Int), .int .u64 ((y).r.c.toNat : Int), .int .u64 ((y).r.d.toNat : Int)]) :=
  ⟨h.1.one y, h.2.1.grown (sc_grown w1 W.heap.size 0 [.int .u64 ((y).m.toNat : Int), .int .u64 ((y).q.toNat : Int), .int .u64 ((y).z.toNat : Int), .int .u64 ((y).r.a.toNat : Int), .int .u64 ((y).r.b.toNat : Int), .int .u64 ((y).r.c.toNat : Int), .int .u64 ((y).r.d.toNat : Int)]) (fun e => by injection e with e; omega), Below.sc W.heap.size (Nat.le_refl _) _ _ _ h.2.2⟩
theorem DS.two' {W w1 : World} {d : Sl × Sl} (h : DS W d w1) (y : Sl) : DS W (d.1, y) (w1.setCells W.heap.size 7 [.int .u64 ((y).m.toNat : Int), .int .u64 ((y).q.toNat : Int), .int .u64 ((y).z.toNat : Int), .int .u64 ((y).r.a.toNat : Int), .int .u64 ((y).r.b.toNat : Int), .int .u64 ((y).r.c.toNat : Int), .int .u64 ((y).r.d.toNat : Int)]) :=
  ⟨h.1.two y, h.2.1.grown (sc_grown w1 W.heap.size 7 [.int .u64 ((y).m.toNat : Int), .int .u64 ((y).q.toNat : Int), .int .u64 ((y).z.toNat : Int), .int .u64 ((y).r.a.toNat : Int), .int .u64 ((y).r.b.toNat : Int), .int .u64 ((y).r.c.toNat : Int), .int .u64 ((y).r.d.toNat : Int)]) (fun e => by injection e with e; omega), Below.sc W.heap.size (Nat.le_refl _) _ _ _ h.2.2⟩
set_option maxRecDepth 20000 in
theorem info_slot : (Try.prog.info? 27).map (·.size) = some 7 := by kernel_rfl
set_option maxRecDepth 20000 in
theorem info_disk : (Try.prog.info? 29).map (·.size) = some 14 := by kernel_rfl
theorem agg_slot : AggTy 27 7 := ⟨⟨_, Try.underlying27, rfl⟩, info_slot⟩
theorem agg_disk : AggTy 29 14 := ⟨⟨_, Try.underlying29, rfl⟩, info_disk⟩
theorem DK.at1 {B : Nat} {d : Sl × Sl} {W : World} (h : DK B d W) : ∀ (j : Nat) (v : Value), ([.int .u64 ((d.1).m.toNat : Int), .int .u64 ((d.1).q.toNat : Int), .int .u64 ((d.1).z.toNat : Int), .int .u64 ((d.1).r.a.toNat : Int), .int .u64 ((d.1).r.b.toNat : Int), .int .u64 ((d.1).r.c.toNat : Int), .int .u64 ((d.1).r.d.toNat : Int)] : List Value)[j]? = some v → W.cell? ⟨B, 0 + j, none⟩ = some v := by
  obtain ⟨⟨-, a0, a1, a2, a3, a4, a5, a6⟩, -, -⟩ := h
  intro j v hj
  have hl : j < 7 := by
    obtain ⟨h, -⟩ := List.getElem?_eq_some_iff.1 hj
    exact h
  obtain rfl | rfl | rfl | rfl | rfl | rfl | rfl : j = 0 ∨ j = 1 ∨ j = 2 ∨ j = 3 ∨ j = 4 ∨ j = 5 ∨ j = 6 := by omega
  all_goals (injection hj with hj; subst hj; assumption)
theorem DK.at2 {B : Nat} {d : Sl × Sl} {W : World} (h : DK B d W) : ∀ (j : Nat) (v : Value), ([.int .u64 ((d.2).m.toNat : Int), .int .u64 ((d.2).q.toNat : Int), .int .u64 ((d.2).z.toNat : Int), .int .u64 ((d.2).r.a.toNat : Int), .int .u64 ((d.2).r.b.toNat : Int), .int .u64 ((d.2).r.c.toNat : Int), .int .u64 ((d.2).r.d.toNat : Int)] : List Value)[j]? = some v → W.cell? ⟨B, 7 + j, none⟩ = some v := by
  obtain ⟨-, ⟨a0, a1, a2, a3, a4, a5, a6⟩, -⟩ := h
  intro j v hj
  have hl : j < 7 := by
    obtain ⟨h, -⟩ := List.getElem?_eq_some_iff.1 hj
    exact h
  obtain rfl | rfl | rfl | rfl | rfl | rfl | rfl : j = 0 ∨ j = 1 ∨ j = 2 ∨ j = 3 ∨ j = 4 ∨ j = 5 ∨ j = 6 := by omega
  all_goals (injection hj with hj; subst hj; assumption)
theorem DK.atAll {B : Nat} {d : Sl × Sl} {W : World} (h : DK B d W) : ∀ (j : Nat) (v : Value), ([.int .u64 ((d.1).m.toNat : Int), .int .u64 ((d.1).q.toNat : Int), .int .u64 ((d.1).z.toNat : Int), .int .u64 ((d.1).r.a.toNat : Int), .int .u64 ((d.1).r.b.toNat : Int), .int .u64 ((d.1).r.c.toNat : Int), .int .u64 ((d.1).r.d.toNat : Int), .int .u64 ((d.2).m.toNat : Int), .int .u64 ((d.2).q.toNat : Int), .int .u64 ((d.2).z.toNat : Int), .int .u64 ((d.2).r.a.toNat : Int), .int .u64 ((d.2).r.b.toNat : Int), .int .u64 ((d.2).r.c.toNat : Int), .int .u64 ((d.2).r.d.toNat : Int)] : List Value)[j]? = some v → W.cell? ⟨B, 0 + j, none⟩ = some v := by
  intro j v hj
  by_cases h7 : j < 7
  · refine h.at1 j v ?_
    rw [← hj]
    obtain rfl | rfl | rfl | rfl | rfl | rfl | rfl : j = 0 ∨ j = 1 ∨ j = 2 ∨ j = 3 ∨ j = 4 ∨ j = 5 ∨ j = 6 := by omega
    all_goals rfl
  · have hl : j < 14 := by
      obtain ⟨h, -⟩ := List.getElem?_eq_some_iff.1 hj
      exact h
    have := h.at2 (j - 7) v (by
      rw [← hj]
      obtain rfl | rfl | rfl | rfl | rfl | rfl | rfl : j = 7 ∨ j = 8 ∨ j = 9 ∨ j = 10 ∨ j = 11 ∨ j = 12 ∨ j = 13 := by omega
      all_goals rfl)
    rwa [show 7 + (j - 7) = 0 + j by omega] at this
theorem DK.is {B : Nat} {d : Sl × Sl} {W : World} (h : DK B d W) (i : Nat) (hi : i < 14) : (W.cell? ⟨B, i, none⟩).isSome = true ∧ W.frozen? ⟨B, i, none⟩ = false := by
  refine ⟨?_, h.2.2 i hi⟩
  have := h.atAll i (([.int .u64 ((d.1).m.toNat : Int), .int .u64 ((d.1).q.toNat : Int), .int .u64 ((d.1).z.toNat : Int), .int .u64 ((d.1).r.a.toNat : Int), .int .u64 ((d.1).r.b.toNat : Int), .int .u64 ((d.1).r.c.toNat : Int), .int .u64 ((d.1).r.d.toNat : Int), .int .u64 ((d.2).m.toNat : Int), .int .u64 ((d.2).q.toNat : Int), .int .u64 ((d.2).z.toNat : Int), .int .u64 ((d.2).r.a.toNat : Int), .int .u64 ((d.2).r.b.toNat : Int), .int .u64 ((d.2).r.c.toNat : Int), .int .u64 ((d.2).r.d.toNat : Int)] : List Value)[i]'(by exact hi)) (List.getElem?_eq_getElem _)
  rw [Nat.zero_add] at this
  rw [this]
  rfl
set_option maxRecDepth 20000 in
set_option maxHeartbeats 4000000 in
theorem dw_spec (W : World) (s t : Sl) (v : Value) (L : List Rw) (h : Rws W v L) :
    Calls Try.prog 46 #[.agg #[.int .u64 ((s).m.toNat : Int), .int .u64 ((s).q.toNat : Int), .int .u64 ((s).z.toNat : Int), .int .u64 ((s).r.a.toNat : Int), .int .u64 ((s).r.b.toNat : Int), .int .u64 ((s).r.c.toNat : Int), .int .u64 ((s).r.d.toNat : Int), .int .u64 ((t).m.toNat : Int), .int .u64 ((t).q.toNat : Int), .int .u64 ((t).z.toNat : Int), .int .u64 ((t).r.a.toNat : Int), .int .u64 ((t).r.b.toNat : Int), .int .u64 ((t).r.c.toNat : Int), .int .u64 ((t).r.d.toNat : Int)], v] W fun e w' => e = .returned (.agg #[.int .u64 (((dws (s, t) L).1).m.toNat : Int), .int .u64 (((dws (s, t) L).1).q.toNat : Int), .int .u64 (((dws (s, t) L).1).z.toNat : Int), .int .u64 (((dws (s, t) L).1).r.a.toNat : Int), .int .u64 (((dws (s, t) L).1).r.b.toNat : Int), .int .u64 (((dws (s, t) L).1).r.c.toNat : Int), .int .u64 (((dws (s, t) L).1).r.d.toNat : Int), .int .u64 (((dws (s, t) L).2).m.toNat : Int), .int .u64 (((dws (s, t) L).2).q.toNat : Int), .int .u64 (((dws (s, t) L).2).z.toNat : Int), .int .u64 (((dws (s, t) L).2).r.a.toNat : Int), .int .u64 (((dws (s, t) L).2).r.b.toNat : Int), .int .u64 (((dws (s, t) L).2).r.c.toNat : Int), .int .u64 (((dws (s, t) L).2).r.d.toNat : Int)]) ∧ Below W.heap.size W w' := by
  have HT : Hid (DS W (dws (s, t) (L.take 0)) ((W.alloc (.cells #[.int .u64 ((s).m.toNat : Int), .int .u64 ((s).q.toNat : Int), .int .u64 ((s).z.toNat : Int), .int .u64 ((s).r.a.toNat : Int), .int .u64 ((s).r.b.toNat : Int), .int .u64 ((s).r.c.toNat : Int), .int .u64 ((s).r.d.toNat : Int), .int .u64 ((t).m.toNat : Int), .int .u64 ((t).q.toNat : Int), .int .u64 ((t).z.toNat : Int), .int .u64 ((t).r.a.toNat : Int), .int .u64 ((t).r.b.toNat : Int), .int .u64 ((t).r.c.toNat : Int), .int .u64 ((t).r.d.toNat : Int)] 29)).alloc (.cells #[.int .u64 0, .int .u64 0, .int .u64 0, .int .u64 0, .int .u64 0, .int .u64 0, .int .u64 0, .int .u64 0, .int .u64 0, .int .u64 0, .int .u64 0, .int .u64 0, .int .u64 0, .int .u64 0] 29))) := by
    refine ⟨(DK.new W (s, t) 29).call ((Below.refl _ _).alloc (Nat.le_refl _) _), ?_, (by repeat' (first | (with_reducible exact Below.refl _ _) | (with_reducible assumption) | (with_reducible refine below_drewN ?_ _) | (with_reducible refine Below.setCell ?_ ?_ _) | (with_reducible refine Below.alloc ?_ ?_ _) | (with_reducible refine Below.drew ?_) | go_size))⟩
    have := DK.new (W.alloc (.cells #[.int .u64 ((s).m.toNat : Int), .int .u64 ((s).q.toNat : Int), .int .u64 ((s).z.toNat : Int), .int .u64 ((s).r.a.toNat : Int), .int .u64 ((s).r.b.toNat : Int), .int .u64 ((s).r.c.toNat : Int), .int .u64 ((s).r.d.toNat : Int), .int .u64 ((t).m.toNat : Int), .int .u64 ((t).q.toNat : Int), .int .u64 ((t).z.toNat : Int), .int .u64 ((t).r.a.toNat : Int), .int .u64 ((t).r.b.toNat : Int), .int .u64 ((t).r.c.toNat : Int), .int .u64 ((t).r.d.toNat : Int)] 29)) (zro, zro) 29
    simp only [World.size_alloc] at this
    exact this
  obtain ⟨oa, cap, rfl, hl⟩ := h.len
  have hcell := h.cells
  clear h
  go_enter Try.func46, Try.ntmps46
  go_wp2_with fail
  go_loopw [5] (fun i wr => ∃ k : Nat, k ≤ L.length ∧ i = .int .i64 (k : Int) ∧ Hid (DS W (dws (s, t) (L.take k)) wr)) (fun i _ => L.length - (intOf i).toNat)
  case atStart => exact ⟨0, by omega, rfl, HT⟩
  case round =>
    obtain ⟨k, hk, rfl, HR⟩ := hrel
    by_cases hlt : k < L.length
    · obtain ⟨a, rfl, hbl, hc⟩ := hcell k hlt
      have hR := HR.out
      have hd : RAt wr (a.add (k * 3)) L[k] := (hc k hlt).below hR.2.2 (by rw [add_block]; exact hbl)
      have hst := dws_step (s, t) L k hlt
      obtain ⟨q, hq⟩ : ∃ q, q = L[k] := ⟨_, rfl⟩
      rw [← hq] at hd hst
      obtain ⟨d, hdd⟩ : ∃ d, d = dws (s, t) (L.take k) := ⟨_, rfl⟩
      rw [← hdd] at hR hst
      have HS : Hid (dws (s, t) (L.take (k + 1)) = dput d q) := hst
      obtain ⟨d0, d1, d2⟩ := hd
      have hS0 := hR.call ((Below.refl _ _).alloc (Nat.le_refl _) (.cells #[.int .i64 q.f, .int .i64 q.t, .int .u64 ((q.s).toNat : Int)] 56))
      have x0 : (wr.alloc (.cells #[.int .i64 q.f, .int .i64 q.t, .int .u64 ((q.s).toNat : Int)] 56)).cell? ⟨wr.heap.size, 0, none⟩ = some (.int .i64 q.f) := by simp [go_sem]
      have x1 : (wr.alloc (.cells #[.int .i64 q.f, .int .i64 q.t, .int .u64 ((q.s).toNat : Int)] 56)).cell? ⟨wr.heap.size, 1, none⟩ = some (.int .i64 q.t) := by simp [go_sem]
      have x2 : (wr.alloc (.cells #[.int .i64 q.f, .int .i64 q.t, .int .u64 ((q.s).toNat : Int)] 56)).cell? ⟨wr.heap.size, 2, none⟩ = some (.int .u64 ((q.s).toNat : Int)) := by simp [go_sem]
      have cp1 := fun V : World => put_spec d.1 q.t q.s V
      have cp2 := fun V : World => put_spec d.2 q.t q.s V
      have hk0 : (0 : Int) ≤ (k : Int) := by omega
      have hkI : (k : Int) < (L.length : Int) := by omega
      have hne : wr.heap.size ≠ W.heap.size := by
        have := hR.1.1.1
        omega
      clear hst hq hdd hc hcell HT HR hR
      by_cases h1 : q.f = 1
      · have e : dput d q = (sput d.1 q.t q.s, d.2) := by unfold dput; rw [if_pos h1]
        have g1 : (q.f == 1) = true := by rw [h1]; rfl
        have g2 : (q.f == 2) = false := by rw [h1]; rfl
        have HE : Hid (dws (s, t) (L.take (k + 1)) = (sput d.1 q.t q.s, d.2)) := HS.out.trans e
        generalize sput d.1 q.t q.s = y at cp1 HE
        clear h1 e HS cp2
        have HA0 : Lies W.heap.size 0 [.int .u64 ((d.1).m.toNat : Int), .int .u64 ((d.1).q.toNat : Int), .int .u64 ((d.1).z.toNat : Int), .int .u64 ((d.1).r.a.toNat : Int), .int .u64 ((d.1).r.b.toNat : Int), .int .u64 ((d.1).r.c.toNat : Int), .int .u64 ((d.1).r.d.toNat : Int)] (wr.alloc (.cells #[.int .i64 q.f, .int .i64 q.t, .int .u64 ((q.s).toNat : Int)] 56)) := hS0.1.at1
        go_wp2_with (first
          | (with_reducible refine wpl_load agg_slot W.heap.size 0 [.int .u64 ((d.1).m.toNat : Int), .int .u64 ((d.1).q.toNat : Int), .int .u64 ((d.1).z.toNat : Int), .int .u64 ((d.1).r.a.toNat : Int), .int .u64 ((d.1).r.b.toNat : Int), .int .u64 ((d.1).r.c.toNat : Int), .int .u64 ((d.1).r.d.toNat : Int)] (by kernel_rfl) (by kernel_rfl) HA0 ?_)
          | (go_at_call 61; refine (cp1 _).mono ?_; rintro e w1 ⟨rfl, hb1⟩; have hS1 := hS0.call hb1; have HR1 : Room W.heap.size 0 7 w1 := ⟨fun (j : Nat) (hj : j < 7) => (hS1.1.is (0 + j) (by omega)).1, fun (j : Nat) (hj : j < 7) => (hS1.1.is (0 + j) (by omega)).2⟩; have y0 := (hb1.cell (p := ⟨wr.heap.size, 0, none⟩) (by simp)).trans x0)
          | (with_reducible refine wpl_store agg_slot W.heap.size 0 [.int .u64 ((y).m.toNat : Int), .int .u64 ((y).q.toNat : Int), .int .u64 ((y).z.toNat : Int), .int .u64 ((y).r.a.toNat : Int), .int .u64 ((y).r.b.toNat : Int), .int .u64 ((y).r.c.toNat : Int), .int .u64 ((y).r.d.toNat : Int)] (by kernel_rfl) (by kernel_rfl) (by kernel_rfl) (by kernel_rfl) HR1 ?_; have y0' : (w1.setCells W.heap.size 0 [.int .u64 ((y).m.toNat : Int), .int .u64 ((y).q.toNat : Int), .int .u64 ((y).z.toNat : Int), .int .u64 ((y).r.a.toNat : Int), .int .u64 ((y).r.b.toNat : Int), .int .u64 ((y).r.c.toNat : Int), .int .u64 ((y).r.d.toNat : Int)]).cell? ⟨wr.heap.size, 0, none⟩ = some (.int .i64 q.f) := (World.cell?_setCells_out W.heap.size _ 0 w1 ⟨wr.heap.size, 0, none⟩ (fun e _ => absurd e hne)).trans y0))
        exact ⟨⟨k + 1, by omega, by go_num, by rw [HE.out]; exact hS1.one' y⟩, by simp [intOf]; omega⟩
      · by_cases h2 : q.f = 2
        · have e : dput d q = (d.1, sput d.2 q.t q.s) := by unfold dput; rw [if_neg h1, if_pos h2]
          have g1 : (q.f == 1) = false := by rw [h2]; rfl
          have g2 : (q.f == 2) = true := by rw [h2]; rfl
          have HE : Hid (dws (s, t) (L.take (k + 1)) = (d.1, sput d.2 q.t q.s)) := HS.out.trans e
          generalize sput d.2 q.t q.s = y at cp2 HE
          clear h1 h2 e HS cp1
          have HA0 : Lies W.heap.size 7 [.int .u64 ((d.2).m.toNat : Int), .int .u64 ((d.2).q.toNat : Int), .int .u64 ((d.2).z.toNat : Int), .int .u64 ((d.2).r.a.toNat : Int), .int .u64 ((d.2).r.b.toNat : Int), .int .u64 ((d.2).r.c.toNat : Int), .int .u64 ((d.2).r.d.toNat : Int)] (wr.alloc (.cells #[.int .i64 q.f, .int .i64 q.t, .int .u64 ((q.s).toNat : Int)] 56)) := hS0.1.at2
          go_wp2_with (first
          | (with_reducible refine wpl_load agg_slot W.heap.size 7 [.int .u64 ((d.2).m.toNat : Int), .int .u64 ((d.2).q.toNat : Int), .int .u64 ((d.2).z.toNat : Int), .int .u64 ((d.2).r.a.toNat : Int), .int .u64 ((d.2).r.b.toNat : Int), .int .u64 ((d.2).r.c.toNat : Int), .int .u64 ((d.2).r.d.toNat : Int)] (by kernel_rfl) (by kernel_rfl) HA0 ?_)
          | (go_at_call 61; refine (cp2 _).mono ?_; rintro e w1 ⟨rfl, hb1⟩; have hS1 := hS0.call hb1; have HR1 : Room W.heap.size 7 7 w1 := ⟨fun (j : Nat) (hj : j < 7) => (hS1.1.is (7 + j) (by omega)).1, fun (j : Nat) (hj : j < 7) => (hS1.1.is (7 + j) (by omega)).2⟩; have y0 := (hb1.cell (p := ⟨wr.heap.size, 0, none⟩) (by simp)).trans x0)
          | (with_reducible refine wpl_store agg_slot W.heap.size 7 [.int .u64 ((y).m.toNat : Int), .int .u64 ((y).q.toNat : Int), .int .u64 ((y).z.toNat : Int), .int .u64 ((y).r.a.toNat : Int), .int .u64 ((y).r.b.toNat : Int), .int .u64 ((y).r.c.toNat : Int), .int .u64 ((y).r.d.toNat : Int)] (by kernel_rfl) (by kernel_rfl) (by kernel_rfl) (by kernel_rfl) HR1 ?_; have y0' : (w1.setCells W.heap.size 7 [.int .u64 ((y).m.toNat : Int), .int .u64 ((y).q.toNat : Int), .int .u64 ((y).z.toNat : Int), .int .u64 ((y).r.a.toNat : Int), .int .u64 ((y).r.b.toNat : Int), .int .u64 ((y).r.c.toNat : Int), .int .u64 ((y).r.d.toNat : Int)]).cell? ⟨wr.heap.size, 0, none⟩ = some (.int .i64 q.f) := (World.cell?_setCells_out W.heap.size _ 7 w1 ⟨wr.heap.size, 0, none⟩ (fun e _ => absurd e hne)).trans y0))
          exact ⟨⟨k + 1, by omega, by go_num, by rw [HE.out]; exact hS1.two' y⟩, by simp [intOf]; omega⟩
        · have e : dput d q = d := by unfold dput; rw [if_neg h1, if_neg h2]
          have g1 : (q.f == 1) = false := beq_eq_false_iff_ne.2 h1
          have g2 : (q.f == 2) = false := beq_eq_false_iff_ne.2 h2
          have HE : Hid (dws (s, t) (L.take (k + 1)) = d) := HS.out.trans e
          clear h1 h2 e HS cp1 cp2
          go_wp2_with fail
          exact ⟨⟨k + 1, by omega, by go_num, by rw [HE.out]; exact hS0⟩, by simp [intOf]; omega⟩
    · have hkk : k = L.length := by omega
      subst hkk
      have hR := HR.out
      rw [List.take_length] at hR
      clear hcell HT HR
      obtain ⟨hD, hE, zz⟩ := hR
      have HA : Lies W.heap.size 0 [.int .u64 (((dws (s, t) L).1).m.toNat : Int), .int .u64 (((dws (s, t) L).1).q.toNat : Int), .int .u64 (((dws (s, t) L).1).z.toNat : Int), .int .u64 (((dws (s, t) L).1).r.a.toNat : Int), .int .u64 (((dws (s, t) L).1).r.b.toNat : Int), .int .u64 (((dws (s, t) L).1).r.c.toNat : Int), .int .u64 (((dws (s, t) L).1).r.d.toNat : Int), .int .u64 (((dws (s, t) L).2).m.toNat : Int), .int .u64 (((dws (s, t) L).2).q.toNat : Int), .int .u64 (((dws (s, t) L).2).z.toNat : Int), .int .u64 (((dws (s, t) L).2).r.a.toNat : Int), .int .u64 (((dws (s, t) L).2).r.b.toNat : Int), .int .u64 (((dws (s, t) L).2).r.c.toNat : Int), .int .u64 (((dws (s, t) L).2).r.d.toNat : Int)] wr := hD.atAll
      have HR : Room (W.heap.size + 1) 0 14 wr := ⟨fun (j : Nat) (hj : j < 14) => (hE.is (0 + j) (by omega)).1, fun (j : Nat) (hj : j < 14) => (hE.is (0 + j) (by omega)).2⟩
      go_wp2_with (first
        | (with_reducible refine wpl_load agg_disk W.heap.size 0 [.int .u64 (((dws (s, t) L).1).m.toNat : Int), .int .u64 (((dws (s, t) L).1).q.toNat : Int), .int .u64 (((dws (s, t) L).1).z.toNat : Int), .int .u64 (((dws (s, t) L).1).r.a.toNat : Int), .int .u64 (((dws (s, t) L).1).r.b.toNat : Int), .int .u64 (((dws (s, t) L).1).r.c.toNat : Int), .int .u64 (((dws (s, t) L).1).r.d.toNat : Int), .int .u64 (((dws (s, t) L).2).m.toNat : Int), .int .u64 (((dws (s, t) L).2).q.toNat : Int), .int .u64 (((dws (s, t) L).2).z.toNat : Int), .int .u64 (((dws (s, t) L).2).r.a.toNat : Int), .int .u64 (((dws (s, t) L).2).r.b.toNat : Int), .int .u64 (((dws (s, t) L).2).r.c.toNat : Int), .int .u64 (((dws (s, t) L).2).r.d.toNat : Int)] (by kernel_rfl) (by kernel_rfl) HA ?_)
        | (with_reducible refine wpl_store agg_disk (W.heap.size + 1) 0 [.int .u64 (((dws (s, t) L).1).m.toNat : Int), .int .u64 (((dws (s, t) L).1).q.toNat : Int), .int .u64 (((dws (s, t) L).1).z.toNat : Int), .int .u64 (((dws (s, t) L).1).r.a.toNat : Int), .int .u64 (((dws (s, t) L).1).r.b.toNat : Int), .int .u64 (((dws (s, t) L).1).r.c.toNat : Int), .int .u64 (((dws (s, t) L).1).r.d.toNat : Int), .int .u64 (((dws (s, t) L).2).m.toNat : Int), .int .u64 (((dws (s, t) L).2).q.toNat : Int), .int .u64 (((dws (s, t) L).2).z.toNat : Int), .int .u64 (((dws (s, t) L).2).r.a.toNat : Int), .int .u64 (((dws (s, t) L).2).r.b.toNat : Int), .int .u64 (((dws (s, t) L).2).r.c.toNat : Int), .int .u64 (((dws (s, t) L).2).r.d.toNat : Int)] (by kernel_rfl) (by kernel_rfl) (by kernel_rfl) (by kernel_rfl) HR ?_; have HL : Lies (W.heap.size + 1) 0 [.int .u64 (((dws (s, t) L).1).m.toNat : Int), .int .u64 (((dws (s, t) L).1).q.toNat : Int), .int .u64 (((dws (s, t) L).1).z.toNat : Int), .int .u64 (((dws (s, t) L).1).r.a.toNat : Int), .int .u64 (((dws (s, t) L).1).r.b.toNat : Int), .int .u64 (((dws (s, t) L).1).r.c.toNat : Int), .int .u64 (((dws (s, t) L).1).r.d.toNat : Int), .int .u64 (((dws (s, t) L).2).m.toNat : Int), .int .u64 (((dws (s, t) L).2).q.toNat : Int), .int .u64 (((dws (s, t) L).2).z.toNat : Int), .int .u64 (((dws (s, t) L).2).r.a.toNat : Int), .int .u64 (((dws (s, t) L).2).r.b.toNat : Int), .int .u64 (((dws (s, t) L).2).r.c.toNat : Int), .int .u64 (((dws (s, t) L).2).r.d.toNat : Int)] (wr.setCells (W.heap.size + 1) 0 [.int .u64 (((dws (s, t) L).1).m.toNat : Int), .int .u64 (((dws (s, t) L).1).q.toNat : Int), .int .u64 (((dws (s, t) L).1).z.toNat : Int), .int .u64 (((dws (s, t) L).1).r.a.toNat : Int), .int .u64 (((dws (s, t) L).1).r.b.toNat : Int), .int .u64 (((dws (s, t) L).1).r.c.toNat : Int), .int .u64 (((dws (s, t) L).1).r.d.toNat : Int), .int .u64 (((dws (s, t) L).2).m.toNat : Int), .int .u64 (((dws (s, t) L).2).q.toNat : Int), .int .u64 (((dws (s, t) L).2).z.toNat : Int), .int .u64 (((dws (s, t) L).2).r.a.toNat : Int), .int .u64 (((dws (s, t) L).2).r.b.toNat : Int), .int .u64 (((dws (s, t) L).2).r.c.toNat : Int), .int .u64 (((dws (s, t) L).2).r.d.toNat : Int)]) := Lies.sc (by kernel_rfl) HR; have HB := Below.sc (W.heap.size + 1) (Nat.le_succ _) [.int .u64 (((dws (s, t) L).1).m.toNat : Int), .int .u64 (((dws (s, t) L).1).q.toNat : Int), .int .u64 (((dws (s, t) L).1).z.toNat : Int), .int .u64 (((dws (s, t) L).1).r.a.toNat : Int), .int .u64 (((dws (s, t) L).1).r.b.toNat : Int), .int .u64 (((dws (s, t) L).1).r.c.toNat : Int), .int .u64 (((dws (s, t) L).1).r.d.toNat : Int), .int .u64 (((dws (s, t) L).2).m.toNat : Int), .int .u64 (((dws (s, t) L).2).q.toNat : Int), .int .u64 (((dws (s, t) L).2).z.toNat : Int), .int .u64 (((dws (s, t) L).2).r.a.toNat : Int), .int .u64 (((dws (s, t) L).2).r.b.toNat : Int), .int .u64 (((dws (s, t) L).2).r.c.toNat : Int), .int .u64 (((dws (s, t) L).2).r.d.toNat : Int)] 0 _ zz; generalize wr.setCells (W.heap.size + 1) 0 [.int .u64 (((dws (s, t) L).1).m.toNat : Int), .int .u64 (((dws (s, t) L).1).q.toNat : Int), .int .u64 (((dws (s, t) L).1).z.toNat : Int), .int .u64 (((dws (s, t) L).1).r.a.toNat : Int), .int .u64 (((dws (s, t) L).1).r.b.toNat : Int), .int .u64 (((dws (s, t) L).1).r.c.toNat : Int), .int .u64 (((dws (s, t) L).1).r.d.toNat : Int), .int .u64 (((dws (s, t) L).2).m.toNat : Int), .int .u64 (((dws (s, t) L).2).q.toNat : Int), .int .u64 (((dws (s, t) L).2).z.toNat : Int), .int .u64 (((dws (s, t) L).2).r.a.toNat : Int), .int .u64 (((dws (s, t) L).2).r.b.toNat : Int), .int .u64 (((dws (s, t) L).2).r.c.toNat : Int), .int .u64 (((dws (s, t) L).2).r.d.toNat : Int)] = wz at HL HB ⊢))
      exact bodyPost_ret (v := .agg #[.int .u64 (((dws (s, t) L).1).m.toNat : Int), .int .u64 (((dws (s, t) L).1).q.toNat : Int), .int .u64 (((dws (s, t) L).1).z.toNat : Int), .int .u64 (((dws (s, t) L).1).r.a.toNat : Int), .int .u64 (((dws (s, t) L).1).r.b.toNat : Int), .int .u64 (((dws (s, t) L).1).r.c.toNat : Int), .int .u64 (((dws (s, t) L).1).r.d.toNat : Int), .int .u64 (((dws (s, t) L).2).m.toNat : Int), .int .u64 (((dws (s, t) L).2).q.toNat : Int), .int .u64 (((dws (s, t) L).2).z.toNat : Int), .int .u64 (((dws (s, t) L).2).r.a.toNat : Int), .int .u64 (((dws (s, t) L).2).r.b.toNat : Int), .int .u64 (((dws (s, t) L).2).r.c.toNat : Int), .int .u64 (((dws (s, t) L).2).r.d.toNat : Int)]) (res_cells agg_disk Try.results46 _ _ (W.heap.size + 1) 0 [.int .u64 (((dws (s, t) L).1).m.toNat : Int), .int .u64 (((dws (s, t) L).1).q.toNat : Int), .int .u64 (((dws (s, t) L).1).z.toNat : Int), .int .u64 (((dws (s, t) L).1).r.a.toNat : Int), .int .u64 (((dws (s, t) L).1).r.b.toNat : Int), .int .u64 (((dws (s, t) L).1).r.c.toNat : Int), .int .u64 (((dws (s, t) L).1).r.d.toNat : Int), .int .u64 (((dws (s, t) L).2).m.toNat : Int), .int .u64 (((dws (s, t) L).2).q.toNat : Int), .int .u64 (((dws (s, t) L).2).z.toNat : Int), .int .u64 (((dws (s, t) L).2).r.a.toNat : Int), .int .u64 (((dws (s, t) L).2).r.b.toNat : Int), .int .u64 (((dws (s, t) L).2).r.c.toNat : Int), .int .u64 (((dws (s, t) L).2).r.d.toNat : Int)] (by kernel_rfl) (by kernel_rfl) HL) rfl ⟨rfl, HB⟩
end Go.Proofs.Ytepgmdgcappfpaa
