/-
  DiskWrite of the program, and RecordCut on both sides.
-/
import Derived.Test.YtepgmdgcappfpaaPlay3
namespace Go.Proofs.Ytepgmdgcappfpaa
open Go.RowKit

/-- What stands while raw writes are done to a play in the block B. -/
def PD (W : World) (d : Sl × Sl) (LL : List Rw) (B : Nat) (wr : World) : Prop :=
  PLY B d LL wr ∧ Room (W.heap.size + 1) 0 14 wr ∧ Below W.heap.size W wr ∧ W.heap.size + 2 ≤ B ∧ W.heap.size + 2 ≤ wr.heap.size
theorem PD.call {W w1 w2 : World} {d : Sl × Sl} {LL : List Rw} {B : Nat} (h : PD W d LL B w1) (hb : Below w1.heap.size w1 w2) : PD W d LL B w2 := by
  obtain ⟨h1, h2, h3, h4, h5⟩ := h
  exact ⟨h1.call hb, h2.call hb (by omega), below_after h3 hb h3.size, h4, Nat.le_trans h5 hb.size⟩
theorem PD.step {W w1 w2 : World} {d d' : Sl × Sl} {LL LL' : List Rw} {B : Nat} (h : PD W d LL B w1) (hp : PLY B d' LL' w2) (hb : Below B w1 w2) : PD W d' LL' B w2 := by
  obtain ⟨h1, h2, h3, h4, h5⟩ := h
  have hsz := hb.size
  refine ⟨hp, ⟨fun j hj => ?_, fun j hj => ?_⟩, h3.trans (hb.mono (by omega)), h4, Nat.le_trans h5 hsz⟩
  · rw [hb.cell (p := ⟨W.heap.size + 1, 0 + j, none⟩) (by show W.heap.size + 1 < B; omega)]
    exact h2.1 j hj
  · rw [hb.frozen (p := ⟨W.heap.size + 1, 0 + j, none⟩) (by show W.heap.size + 1 < B; omega)]
    exact h2.2 j hj
theorem wadd_len (L : List Rw) (l : Rw) : (wadd L l).length ≤ L.length + 1 := by
  unfold wadd
  split
  · simp
  · omega
set_option maxRecDepth 20000 in
set_option maxHeartbeats 4000000 in
theorem dw_impl (W : World) (s t : Sl) (v : Value) (L : List Rw) (h : Rws W v L) (hlen : L.length ≤ 1048576) :
    Calls Try.prog 11 #[.agg #[.int .u64 ((s).m.toNat : Int), .int .u64 ((s).q.toNat : Int), .int .u64 ((s).z.toNat : Int), .int .u64 ((s).r.a.toNat : Int), .int .u64 ((s).r.b.toNat : Int), .int .u64 ((s).r.c.toNat : Int), .int .u64 ((s).r.d.toNat : Int), .int .u64 ((t).m.toNat : Int), .int .u64 ((t).q.toNat : Int), .int .u64 ((t).z.toNat : Int), .int .u64 ((t).r.a.toNat : Int), .int .u64 ((t).r.b.toNat : Int), .int .u64 ((t).r.c.toNat : Int), .int .u64 ((t).r.d.toNat : Int)], v] W fun e w' => e = .returned (.agg #[.int .u64 (((dws (s, t) L).1).m.toNat : Int), .int .u64 (((dws (s, t) L).1).q.toNat : Int), .int .u64 (((dws (s, t) L).1).z.toNat : Int), .int .u64 (((dws (s, t) L).1).r.a.toNat : Int), .int .u64 (((dws (s, t) L).1).r.b.toNat : Int), .int .u64 (((dws (s, t) L).1).r.c.toNat : Int), .int .u64 (((dws (s, t) L).1).r.d.toNat : Int), .int .u64 (((dws (s, t) L).2).m.toNat : Int), .int .u64 (((dws (s, t) L).2).q.toNat : Int), .int .u64 (((dws (s, t) L).2).z.toNat : Int), .int .u64 (((dws (s, t) L).2).r.a.toNat : Int), .int .u64 (((dws (s, t) L).2).r.b.toNat : Int), .int .u64 (((dws (s, t) L).2).r.c.toNat : Int), .int .u64 (((dws (s, t) L).2).r.d.toNat : Int)]) ∧ Below W.heap.size W w' := by
  have cp := fun V : World => playOn_is (s, t) V
  simp only at cp
  have HR0 := Room.new (W.alloc (.cells #[.int .u64 ((s).m.toNat : Int), .int .u64 ((s).q.toNat : Int), .int .u64 ((s).z.toNat : Int), .int .u64 ((s).r.a.toNat : Int), .int .u64 ((s).r.b.toNat : Int), .int .u64 ((s).r.c.toNat : Int), .int .u64 ((s).r.d.toNat : Int), .int .u64 ((t).m.toNat : Int), .int .u64 ((t).q.toNat : Int), .int .u64 ((t).z.toNat : Int), .int .u64 ((t).r.a.toNat : Int), .int .u64 ((t).r.b.toNat : Int), .int .u64 ((t).r.c.toNat : Int), .int .u64 ((t).r.d.toNat : Int)] 29)) #[.int .u64 0, .int .u64 0, .int .u64 0, .int .u64 0, .int .u64 0, .int .u64 0, .int .u64 0, .int .u64 0, .int .u64 0, .int .u64 0, .int .u64 0, .int .u64 0, .int .u64 0, .int .u64 0] 29 14 rfl
  have hA0 := DK.new W (s, t) 29
  have HA : Lies W.heap.size 0 [.int .u64 ((s).m.toNat : Int), .int .u64 ((s).q.toNat : Int), .int .u64 ((s).z.toNat : Int), .int .u64 ((s).r.a.toNat : Int), .int .u64 ((s).r.b.toNat : Int), .int .u64 ((s).r.c.toNat : Int), .int .u64 ((s).r.d.toNat : Int), .int .u64 ((t).m.toNat : Int), .int .u64 ((t).q.toNat : Int), .int .u64 ((t).z.toNat : Int), .int .u64 ((t).r.a.toNat : Int), .int .u64 ((t).r.b.toNat : Int), .int .u64 ((t).r.c.toNat : Int), .int .u64 ((t).r.d.toNat : Int)] ((W.alloc (.cells #[.int .u64 ((s).m.toNat : Int), .int .u64 ((s).q.toNat : Int), .int .u64 ((s).z.toNat : Int), .int .u64 ((s).r.a.toNat : Int), .int .u64 ((s).r.b.toNat : Int), .int .u64 ((s).r.c.toNat : Int), .int .u64 ((s).r.d.toNat : Int), .int .u64 ((t).m.toNat : Int), .int .u64 ((t).q.toNat : Int), .int .u64 ((t).z.toNat : Int), .int .u64 ((t).r.a.toNat : Int), .int .u64 ((t).r.b.toNat : Int), .int .u64 ((t).r.c.toNat : Int), .int .u64 ((t).r.d.toNat : Int)] 29)).alloc (.cells #[.int .u64 0, .int .u64 0, .int .u64 0, .int .u64 0, .int .u64 0, .int .u64 0, .int .u64 0, .int .u64 0, .int .u64 0, .int .u64 0, .int .u64 0, .int .u64 0, .int .u64 0, .int .u64 0] 29)) := (hA0.call ((Below.refl _ _).alloc (Nat.le_refl _) _)).atAll
  obtain ⟨oa, cap, rfl, hl⟩ := h.len
  have hcell := h.cells
  clear h hA0
  go_enter Try.func11, Try.ntmps11
  go_wp2_with (first
    | (go_at_call 18; refine (cp _).mono ?_; rintro e w1 ⟨B, rfl, hp1, hb1, hB1⟩; have hz1 : W.heap.size + 2 ≤ B := Nat.le_trans (by simp) hB1; have HT : Hid (PD W (dws (s, t) (L.take 0)) [] B w1) := (by
        refine ⟨hp1, ?_, below_after (by repeat' (first | (with_reducible exact Below.refl _ _) | (with_reducible assumption) | (with_reducible refine below_drewN ?_ _) | (with_reducible refine Below.setCell ?_ ?_ _) | (with_reducible refine Below.alloc ?_ ?_ _) | (with_reducible refine Below.drew ?_) | go_size)) hb1 (by simp only [World.size_alloc]; omega), hz1, Nat.le_trans (by simp) hb1.size⟩
        rw [World.size_alloc] at HR0
        exact HR0.call hb1 (by simp)))
    | (with_reducible refine wpl_load agg_disk W.heap.size 0 [.int .u64 ((s).m.toNat : Int), .int .u64 ((s).q.toNat : Int), .int .u64 ((s).z.toNat : Int), .int .u64 ((s).r.a.toNat : Int), .int .u64 ((s).r.b.toNat : Int), .int .u64 ((s).r.c.toNat : Int), .int .u64 ((s).r.d.toNat : Int), .int .u64 ((t).m.toNat : Int), .int .u64 ((t).q.toNat : Int), .int .u64 ((t).z.toNat : Int), .int .u64 ((t).r.a.toNat : Int), .int .u64 ((t).r.b.toNat : Int), .int .u64 ((t).r.c.toNat : Int), .int .u64 ((t).r.d.toNat : Int)] (by kernel_rfl) (by kernel_rfl) HA ?_))
  clear cp HR0 HA hp1 hb1 hB1
  go_loopw [12] (fun i wr => ∃ (k : Nat) (LL : List Rw), k ≤ L.length ∧ LL.length ≤ k ∧ i = .int .i64 (k : Int) ∧ Hid (PD W (dws (s, t) (L.take k)) LL B wr)) (fun i _ => L.length - (intOf i).toNat)
  case atStart => exact ⟨0, [], by omega, by simp, rfl, HT⟩
  case round =>
    obtain ⟨k, LL, hk, hLL, rfl, HR⟩ := hrel
    by_cases hlt : k < L.length
    · obtain ⟨a, rfl, hbl, hc⟩ := hcell k hlt
      have hR := HR.out
      have hd : RAt wr (a.add (k * 3)) L[k] := (hc k hlt).below hR.2.2.1 (by rw [add_block]; exact hbl)
      have hst := dws_step (s, t) L k hlt
      obtain ⟨q, hq⟩ : ∃ q, q = L[k] := ⟨_, rfl⟩
      rw [← hq] at hd hst
      obtain ⟨d, hdd⟩ : ∃ d, d = dws (s, t) (L.take k) := ⟨_, rfl⟩
      rw [← hdd] at hR hst
      obtain ⟨d0, d1, d2⟩ := hd
      have hR1 := hR.call ((Below.refl _ _).alloc (Nat.le_refl _) (.cells #[.int .i64 q.f, .int .i64 q.t, .int .u64 ((q.s).toNat : Int)] 56))
      have cw := fun V : World => fun hV : PLY B d LL V => write_is B d LL q V hV (by omega)
      have HN : Hid (∀ w1 : World, PLY B (dput d q) (wadd LL q) w1 → Below B (wr.alloc (.cells #[.int .i64 q.f, .int .i64 q.t, .int .u64 ((q.s).toNat : Int)] 56)) w1 → PD W (dws (s, t) (L.take (k + 1))) (wadd LL q) B w1) := fun w1 hp hb => by
        rw [hst]
        exact hR1.step hp hb
      have HP : Hid (PLY B d LL (wr.alloc (.cells #[.int .i64 q.f, .int .i64 q.t, .int .u64 ((q.s).toNat : Int)] 56))) := hR1.1
      have hwl := wadd_len LL q
      have hk0 : (0 : Int) ≤ (k : Int) := by omega
      have hkI : (k : Int) < (L.length : Int) := by omega
      clear hst hq hdd hc hcell HT HR hR hR1
      go_wp2_with (go_at_call 22; refine (cw _ HP.out).mono ?_; rintro e w1 ⟨rfl, hp1, hb1⟩; have HN1 := HN.out w1 hp1 hb1)
      exact ⟨⟨k + 1, wadd LL q, by omega, by omega, by go_num, HN1⟩, by simp [intOf]; omega⟩
    · have hkk : k = L.length := by omega
      subst hkk
      have hR := HR.out
      rw [List.take_length] at hR
      clear hcell HT HR
      obtain ⟨⟨vd, hP, -⟩, HR, zz, hB1, -⟩ := hR
      have HA : Lies B 0 [.int .u64 (((dws (s, t) L).1).m.toNat : Int), .int .u64 (((dws (s, t) L).1).q.toNat : Int), .int .u64 (((dws (s, t) L).1).z.toNat : Int), .int .u64 (((dws (s, t) L).1).r.a.toNat : Int), .int .u64 (((dws (s, t) L).1).r.b.toNat : Int), .int .u64 (((dws (s, t) L).1).r.c.toNat : Int), .int .u64 (((dws (s, t) L).1).r.d.toNat : Int), .int .u64 (((dws (s, t) L).2).m.toNat : Int), .int .u64 (((dws (s, t) L).2).q.toNat : Int), .int .u64 (((dws (s, t) L).2).z.toNat : Int), .int .u64 (((dws (s, t) L).2).r.a.toNat : Int), .int .u64 (((dws (s, t) L).2).r.b.toNat : Int), .int .u64 (((dws (s, t) L).2).r.c.toNat : Int), .int .u64 (((dws (s, t) L).2).r.d.toNat : Int)] wr := hP.2.1.part 0 14
      have hBn : B ≠ W.heap.size + 1 := by omega
      go_wp2_with (first
        | (with_reducible refine wpl_load agg_disk B 0 [.int .u64 (((dws (s, t) L).1).m.toNat : Int), .int .u64 (((dws (s, t) L).1).q.toNat : Int), .int .u64 (((dws (s, t) L).1).z.toNat : Int), .int .u64 (((dws (s, t) L).1).r.a.toNat : Int), .int .u64 (((dws (s, t) L).1).r.b.toNat : Int), .int .u64 (((dws (s, t) L).1).r.c.toNat : Int), .int .u64 (((dws (s, t) L).1).r.d.toNat : Int), .int .u64 (((dws (s, t) L).2).m.toNat : Int), .int .u64 (((dws (s, t) L).2).q.toNat : Int), .int .u64 (((dws (s, t) L).2).z.toNat : Int), .int .u64 (((dws (s, t) L).2).r.a.toNat : Int), .int .u64 (((dws (s, t) L).2).r.b.toNat : Int), .int .u64 (((dws (s, t) L).2).r.c.toNat : Int), .int .u64 (((dws (s, t) L).2).r.d.toNat : Int)] (by kernel_rfl) (by kernel_rfl) HA ?_)
        | (with_reducible refine wpl_store agg_disk (W.heap.size + 1) 0 [.int .u64 (((dws (s, t) L).1).m.toNat : Int), .int .u64 (((dws (s, t) L).1).q.toNat : Int), .int .u64 (((dws (s, t) L).1).z.toNat : Int), .int .u64 (((dws (s, t) L).1).r.a.toNat : Int), .int .u64 (((dws (s, t) L).1).r.b.toNat : Int), .int .u64 (((dws (s, t) L).1).r.c.toNat : Int), .int .u64 (((dws (s, t) L).1).r.d.toNat : Int), .int .u64 (((dws (s, t) L).2).m.toNat : Int), .int .u64 (((dws (s, t) L).2).q.toNat : Int), .int .u64 (((dws (s, t) L).2).z.toNat : Int), .int .u64 (((dws (s, t) L).2).r.a.toNat : Int), .int .u64 (((dws (s, t) L).2).r.b.toNat : Int), .int .u64 (((dws (s, t) L).2).r.c.toNat : Int), .int .u64 (((dws (s, t) L).2).r.d.toNat : Int)] (by kernel_rfl) (by kernel_rfl) (by kernel_rfl) (by kernel_rfl) HR ?_; have HL : Lies (W.heap.size + 1) 0 [.int .u64 (((dws (s, t) L).1).m.toNat : Int), .int .u64 (((dws (s, t) L).1).q.toNat : Int), .int .u64 (((dws (s, t) L).1).z.toNat : Int), .int .u64 (((dws (s, t) L).1).r.a.toNat : Int), .int .u64 (((dws (s, t) L).1).r.b.toNat : Int), .int .u64 (((dws (s, t) L).1).r.c.toNat : Int), .int .u64 (((dws (s, t) L).1).r.d.toNat : Int), .int .u64 (((dws (s, t) L).2).m.toNat : Int), .int .u64 (((dws (s, t) L).2).q.toNat : Int), .int .u64 (((dws (s, t) L).2).z.toNat : Int), .int .u64 (((dws (s, t) L).2).r.a.toNat : Int), .int .u64 (((dws (s, t) L).2).r.b.toNat : Int), .int .u64 (((dws (s, t) L).2).r.c.toNat : Int), .int .u64 (((dws (s, t) L).2).r.d.toNat : Int)] (wr.setCells (W.heap.size + 1) 0 [.int .u64 (((dws (s, t) L).1).m.toNat : Int), .int .u64 (((dws (s, t) L).1).q.toNat : Int), .int .u64 (((dws (s, t) L).1).z.toNat : Int), .int .u64 (((dws (s, t) L).1).r.a.toNat : Int), .int .u64 (((dws (s, t) L).1).r.b.toNat : Int), .int .u64 (((dws (s, t) L).1).r.c.toNat : Int), .int .u64 (((dws (s, t) L).1).r.d.toNat : Int), .int .u64 (((dws (s, t) L).2).m.toNat : Int), .int .u64 (((dws (s, t) L).2).q.toNat : Int), .int .u64 (((dws (s, t) L).2).z.toNat : Int), .int .u64 (((dws (s, t) L).2).r.a.toNat : Int), .int .u64 (((dws (s, t) L).2).r.b.toNat : Int), .int .u64 (((dws (s, t) L).2).r.c.toNat : Int), .int .u64 (((dws (s, t) L).2).r.d.toNat : Int)]) := Lies.sc (by kernel_rfl) HR; have HB := Below.sc (W.heap.size + 1) (Nat.le_succ _) [.int .u64 (((dws (s, t) L).1).m.toNat : Int), .int .u64 (((dws (s, t) L).1).q.toNat : Int), .int .u64 (((dws (s, t) L).1).z.toNat : Int), .int .u64 (((dws (s, t) L).1).r.a.toNat : Int), .int .u64 (((dws (s, t) L).1).r.b.toNat : Int), .int .u64 (((dws (s, t) L).1).r.c.toNat : Int), .int .u64 (((dws (s, t) L).1).r.d.toNat : Int), .int .u64 (((dws (s, t) L).2).m.toNat : Int), .int .u64 (((dws (s, t) L).2).q.toNat : Int), .int .u64 (((dws (s, t) L).2).z.toNat : Int), .int .u64 (((dws (s, t) L).2).r.a.toNat : Int), .int .u64 (((dws (s, t) L).2).r.b.toNat : Int), .int .u64 (((dws (s, t) L).2).r.c.toNat : Int), .int .u64 (((dws (s, t) L).2).r.d.toNat : Int)] 0 _ zz; generalize wr.setCells (W.heap.size + 1) 0 [.int .u64 (((dws (s, t) L).1).m.toNat : Int), .int .u64 (((dws (s, t) L).1).q.toNat : Int), .int .u64 (((dws (s, t) L).1).z.toNat : Int), .int .u64 (((dws (s, t) L).1).r.a.toNat : Int), .int .u64 (((dws (s, t) L).1).r.b.toNat : Int), .int .u64 (((dws (s, t) L).1).r.c.toNat : Int), .int .u64 (((dws (s, t) L).1).r.d.toNat : Int), .int .u64 (((dws (s, t) L).2).m.toNat : Int), .int .u64 (((dws (s, t) L).2).q.toNat : Int), .int .u64 (((dws (s, t) L).2).z.toNat : Int), .int .u64 (((dws (s, t) L).2).r.a.toNat : Int), .int .u64 (((dws (s, t) L).2).r.b.toNat : Int), .int .u64 (((dws (s, t) L).2).r.c.toNat : Int), .int .u64 (((dws (s, t) L).2).r.d.toNat : Int)] = wz at HL HB ⊢))
      exact bodyPost_ret (v := .agg #[.int .u64 (((dws (s, t) L).1).m.toNat : Int), .int .u64 (((dws (s, t) L).1).q.toNat : Int), .int .u64 (((dws (s, t) L).1).z.toNat : Int), .int .u64 (((dws (s, t) L).1).r.a.toNat : Int), .int .u64 (((dws (s, t) L).1).r.b.toNat : Int), .int .u64 (((dws (s, t) L).1).r.c.toNat : Int), .int .u64 (((dws (s, t) L).1).r.d.toNat : Int), .int .u64 (((dws (s, t) L).2).m.toNat : Int), .int .u64 (((dws (s, t) L).2).q.toNat : Int), .int .u64 (((dws (s, t) L).2).z.toNat : Int), .int .u64 (((dws (s, t) L).2).r.a.toNat : Int), .int .u64 (((dws (s, t) L).2).r.b.toNat : Int), .int .u64 (((dws (s, t) L).2).r.c.toNat : Int), .int .u64 (((dws (s, t) L).2).r.d.toNat : Int)]) (res_cells agg_disk Try.results11 _ _ (W.heap.size + 1) 0 [.int .u64 (((dws (s, t) L).1).m.toNat : Int), .int .u64 (((dws (s, t) L).1).q.toNat : Int), .int .u64 (((dws (s, t) L).1).z.toNat : Int), .int .u64 (((dws (s, t) L).1).r.a.toNat : Int), .int .u64 (((dws (s, t) L).1).r.b.toNat : Int), .int .u64 (((dws (s, t) L).1).r.c.toNat : Int), .int .u64 (((dws (s, t) L).1).r.d.toNat : Int), .int .u64 (((dws (s, t) L).2).m.toNat : Int), .int .u64 (((dws (s, t) L).2).q.toNat : Int), .int .u64 (((dws (s, t) L).2).z.toNat : Int), .int .u64 (((dws (s, t) L).2).r.a.toNat : Int), .int .u64 (((dws (s, t) L).2).r.b.toNat : Int), .int .u64 (((dws (s, t) L).2).r.c.toNat : Int), .int .u64 (((dws (s, t) L).2).r.d.toNat : Int)] (by kernel_rfl) (by kernel_rfl) HL) rfl ⟨rfl, HB⟩
end Go.Proofs.Ytepgmdgcappfpaa
