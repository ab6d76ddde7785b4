/-
  RecordRead of the program.
-/
import Derived.Test.YteaaaojafipllaaDoorRRead
namespace Go.Proofs.YteaaaojafipllaaDoor
open Go.RowKit Go.MuLone

def zsl : Sl := ⟨0, 0, 0, ⟨0, 0, 0, 0⟩⟩
def rstep (st : Sl × Int) (x : Sl) (n : Int) : Sl × Int := if slok x = true ∧ st.1.q.toNat < x.q.toNat then (x, n) else st
/-- What is told behind j slots. -/
def rst (s t : Sl) (j : Nat) : Sl × Int := if j = 0 then (zsl, 0) else if j = 1 then rstep (zsl, 0) s 1 else rstep (rstep (zsl, 0) s 1) t 2
theorem rst_bnd (s t : Sl) (j : Nat) : ((rst s t j).1.q.toNat : Int) ≤ 1000000000 ∧ ((rst s t j).1.z.toNat : Int) ≤ 256 := by
  have hz : (zsl.q.toNat : Int) ≤ 1000000000 ∧ (zsl.z.toNat : Int) ≤ 256 := by decide
  have hs : ∀ (st : Sl × Int) (x : Sl) (n : Int), ((st.1.q.toNat : Int) ≤ 1000000000 ∧ (st.1.z.toNat : Int) ≤ 256) → (((rstep st x n).1.q.toNat : Int) ≤ 1000000000 ∧ ((rstep st x n).1.z.toNat : Int) ≤ 256) := by
    intro st x n h
    unfold rstep
    split
    · next hx => exact ⟨(slok_bnd hx.1).1.2, (slok_bnd hx.1).2.2⟩
    · exact h
  unfold rst
  split
  · exact hz
  · split
    · exact hs _ _ _ hz
    · exact hs _ _ _ (hs _ _ _ hz)
theorem rst_is (s t : Sl) : rst s t 2 = rread s t := by
  have hz : zsl.q.toNat = 0 := rfl
  unfold rst rstep rread
  rw [if_neg (by omega), if_neg (by omega)]
  cases hs : slok s with
  | false =>
    cases ht : slok t with
    | false => simp; rfl
    | true =>
      have := (slok_bnd ht).1.1
      simp [hz]
      omega
  | true =>
    have h1 := (slok_bnd hs).1.1
    cases ht : slok t with
    | false =>
      have h0 : 0 < s.q.toNat := by omega
      simp [hz, h0]
    | true =>
      have h0 : 0 < s.q.toNat := by omega
      by_cases hle : t.q.toNat ≤ s.q.toNat
      · have hn : ¬ s.q.toNat < t.q.toNat := by omega
        simp [hz, h0, hn, hle]
      · have hn : s.q.toNat < t.q.toNat := by omega
        simp [hz, h0, hn, hle]
/-- A slot's box that may be written. -/
def SW (B : Nat) (s : Sl) (W : World) : Prop := SB B s W ∧ ∀ i, i < 7 → W.frozen? ⟨B, i, none⟩ = false
theorem SW.call {B : Nat} {s : Sl} {W W' : World} (h : SW B s W) (hb : Below W.heap.size W W') : SW B s W' := ⟨h.1.call hb, fun i hi => (hb.frozen (p := ⟨B, i, none⟩) h.1.1).trans (h.2 i hi)⟩
theorem SW.put {B : Nat} {s : Sl} {W : World} (h : SW B s W) (y : Sl) :
    SW B y (((((((W.setCell ⟨B, 0, none⟩ (.int .u64 ((y.m).toNat : Int))).setCell ⟨B, 1, none⟩ (.int .u64 ((y.q).toNat : Int))).setCell ⟨B, 2, none⟩ (.int .u64 ((y.z).toNat : Int))).setCell ⟨B, 3, none⟩ (.int .u64 ((y.r.a).toNat : Int))).setCell ⟨B, 4, none⟩ (.int .u64 ((y.r.b).toNat : Int))).setCell ⟨B, 5, none⟩ (.int .u64 ((y.r.c).toNat : Int))).setCell ⟨B, 6, none⟩ (.int .u64 ((y.r.d).toNat : Int))) := by
  obtain ⟨⟨h0, t0, t1, t2, t3, t4, t5, t6⟩, hf⟩ := h
  refine ⟨⟨by simp only [World.size_setCell]; exact h0, ?_, ?_, ?_, ?_, ?_, ?_, ?_⟩, fun i hi => by simp only [World.frozen?_setCell]; exact hf i hi⟩
  · exact c_off (c_off (c_off (c_off (c_off (c_off (set_same (by rw [t0]; rfl)) (by omega)) (by omega)) (by omega)) (by omega)) (by omega)) (by omega)
  · exact c_off (c_off (c_off (c_off (c_off (set_same (by rw [set_off (by omega), t1]; rfl)) (by omega)) (by omega)) (by omega)) (by omega)) (by omega)
  · exact c_off (c_off (c_off (c_off (set_same (by rw [set_off (by omega), set_off (by omega), t2]; rfl)) (by omega)) (by omega)) (by omega)) (by omega)
  · exact c_off (c_off (c_off (set_same (by rw [set_off (by omega), set_off (by omega), set_off (by omega), t3]; rfl)) (by omega)) (by omega)) (by omega)
  · exact c_off (c_off (set_same (by rw [set_off (by omega), set_off (by omega), set_off (by omega), set_off (by omega), t4]; rfl)) (by omega)) (by omega)
  · exact c_off (set_same (by rw [set_off (by omega), set_off (by omega), set_off (by omega), set_off (by omega), set_off (by omega), t5]; rfl)) (by omega)
  · exact set_same (by rw [set_off (by omega), set_off (by omega), set_off (by omega), set_off (by omega), set_off (by omega), set_off (by omega), t6]; rfl)
theorem SW.new (W : World) (s : Sl) (t : TypeId) : SW W.heap.size s (W.alloc (.cells #[Value.int IntKind.u64 ((s).m.toNat : Int), Value.int IntKind.u64 ((s).q.toNat : Int), Value.int IntKind.u64 ((s).z.toNat : Int), Value.int IntKind.u64 ((s).r.a.toNat : Int), Value.int IntKind.u64 ((s).r.b.toNat : Int), Value.int IntKind.u64 ((s).r.c.toNat : Int), Value.int IntKind.u64 ((s).r.d.toNat : Int)] t)) := ⟨SB.new W s t, fun i hi => by simp [go_sem]⟩
theorem below7 {n : Nat} {w W : World} {B : Nat} (h : Below n w W) (hB : n ≤ B) (x0 x1 x2 x3 x4 x5 x6 : Value) :
    Below n w (((((((W.setCell ⟨B, 0, none⟩ x0).setCell ⟨B, 1, none⟩ x1).setCell ⟨B, 2, none⟩ x2).setCell ⟨B, 3, none⟩ x3).setCell ⟨B, 4, none⟩ x4).setCell ⟨B, 5, none⟩ x5).setCell ⟨B, 6, none⟩ x6) :=
  ((((((h.setCell hB _).setCell hB _).setCell hB _).setCell hB _).setCell hB _).setCell hB _).setCell hB _
theorem RB.far7 {R : Nat} {a b : Int} {q : Qd} {W : World} {B : Nat} (h : RB R a b q W) (hB : R < B) (x0 x1 x2 x3 x4 x5 x6 : Value) :
    RB R a b q (((((((W.setCell ⟨B, 0, none⟩ x0).setCell ⟨B, 1, none⟩ x1).setCell ⟨B, 2, none⟩ x2).setCell ⟨B, 3, none⟩ x3).setCell ⟨B, 4, none⟩ x4).setCell ⟨B, 5, none⟩ x5).setCell ⟨B, 6, none⟩ x6) := by
  have hb := below7 (Below.refl B W) (Nat.le_refl _) x0 x1 x2 x3 x4 x5 x6
  obtain ⟨hR, ⟨h0, h1, h2, h3, h4, h5⟩, hf⟩ := h
  exact ⟨Nat.lt_of_lt_of_le hR hb.size, ⟨(hb.cell hB).trans h0, (hb.cell hB).trans h1, (hb.cell hB).trans h2, (hb.cell hB).trans h3, (hb.cell hB).trans h4, (hb.cell hB).trans h5⟩, fun i hi => (hb.frozen (p := ⟨R, i, none⟩) hB).trans (hf i hi)⟩
/-- What stands in the loop. -/
def RL (w : World) (st : Sl) (W : World) : Prop := SW (w.heap.size + 1 + 1) st W ∧ RB (w.heap.size + 1) 0 0 ⟨0, 0, 0, 0⟩ W ∧ Below w.heap.size w W
theorem RL.call {w W W' : World} {st : Sl} (h : RL w st W) (hb : Below W.heap.size W W') : RL w st W' := ⟨h.1.call hb, h.2.1.call hb, below_after h.2.2 hb h.2.2.size⟩
theorem RL.put {w W : World} {st : Sl} (h : RL w st W) (y : Sl) : RL w y (((((((W.setCell ⟨w.heap.size + 1 + 1, 0, none⟩ (.int .u64 ((y.m).toNat : Int))).setCell ⟨w.heap.size + 1 + 1, 1, none⟩ (.int .u64 ((y.q).toNat : Int))).setCell ⟨w.heap.size + 1 + 1, 2, none⟩ (.int .u64 ((y.z).toNat : Int))).setCell ⟨w.heap.size + 1 + 1, 3, none⟩ (.int .u64 ((y.r.a).toNat : Int))).setCell ⟨w.heap.size + 1 + 1, 4, none⟩ (.int .u64 ((y.r.b).toNat : Int))).setCell ⟨w.heap.size + 1 + 1, 5, none⟩ (.int .u64 ((y.r.c).toNat : Int))).setCell ⟨w.heap.size + 1 + 1, 6, none⟩ (.int .u64 ((y.r.d).toNat : Int))) :=
  ⟨h.1.put y, h.2.1.far7 (by omega) _ _ _ _ _ _ _, below7 h.2.2 (by omega) _ _ _ _ _ _ _⟩

theorem pick0 (a0 a1 a2 a3 a4 a5 a6 b0 b1 b2 b3 b4 b5 b6 : Int) (W : World) : (Instr.index 83 (.agg #[.int .u64 a0, .int .u64 a1, .int .u64 a2, .int .u64 a3, .int .u64 a4, .int .u64 a5, .int .u64 a6, .int .u64 b0, .int .u64 b1, .int .u64 b2, .int .u64 b3, .int .u64 b4, .int .u64 b5, .int .u64 b6]) (.int .i64 0)).run Tryd.prog W = .ok (.agg #[.int .u64 a0, .int .u64 a1, .int .u64 a2, .int .u64 a3, .int .u64 a4, .int .u64 a5, .int .u64 a6]) W := by
  kernel_rfl
theorem pick1 (a0 a1 a2 a3 a4 a5 a6 b0 b1 b2 b3 b4 b5 b6 : Int) (W : World) : (Instr.index 83 (.agg #[.int .u64 a0, .int .u64 a1, .int .u64 a2, .int .u64 a3, .int .u64 a4, .int .u64 a5, .int .u64 a6, .int .u64 b0, .int .u64 b1, .int .u64 b2, .int .u64 b3, .int .u64 b4, .int .u64 b5, .int .u64 b6]) (.int .i64 1)).run Tryd.prog W = .ok (.agg #[.int .u64 b0, .int .u64 b1, .int .u64 b2, .int .u64 b3, .int .u64 b4, .int .u64 b5, .int .u64 b6]) W := by
  kernel_rfl
set_option maxRecDepth 20000 in
set_option maxHeartbeats 1600000 in
theorem rread_impl (s t : Sl) (w : World) :
    Calls Tryd.prog 22 #[.agg #[.int .u64 ((s).m.toNat : Int), .int .u64 ((s).q.toNat : Int), .int .u64 ((s).z.toNat : Int), .int .u64 ((s).r.a.toNat : Int), .int .u64 ((s).r.b.toNat : Int), .int .u64 ((s).r.c.toNat : Int), .int .u64 ((s).r.d.toNat : Int), .int .u64 ((t).m.toNat : Int), .int .u64 ((t).q.toNat : Int), .int .u64 ((t).z.toNat : Int), .int .u64 ((t).r.a.toNat : Int), .int .u64 ((t).r.b.toNat : Int), .int .u64 ((t).r.c.toNat : Int), .int .u64 ((t).r.d.toNat : Int)]] w fun e w' => e = .returned (.tuple #[.agg #[.int .i64 (((rread s t).1).q.toNat : Int), .int .i64 (((rread s t).1).z.toNat : Int), .int .u64 ((((rread s t).1).r.a).toNat : Int), .int .u64 ((((rread s t).1).r.b).toNat : Int), .int .u64 ((((rread s t).1).r.c).toNat : Int), .int .u64 ((((rread s t).1).r.d).toNat : Int)], .int .i64 (rread s t).2]) ∧ Below w.heap.size w w' := by
  rw [← rst_is]
  have HT : Hid (RL w (rst s t 0).1 (((w.alloc (.cells #[.int .u64 ((s).m.toNat : Int), .int .u64 ((s).q.toNat : Int), .int .u64 ((s).z.toNat : Int), .int .u64 ((s).r.a.toNat : Int), .int .u64 ((s).r.b.toNat : Int), .int .u64 ((s).r.c.toNat : Int), .int .u64 ((s).r.d.toNat : Int), .int .u64 ((t).m.toNat : Int), .int .u64 ((t).q.toNat : Int), .int .u64 ((t).z.toNat : Int), .int .u64 ((t).r.a.toNat : Int), .int .u64 ((t).r.b.toNat : Int), .int .u64 ((t).r.c.toNat : Int), .int .u64 ((t).r.d.toNat : Int)] 38)).alloc (.cells #[.int .i64 0, .int .i64 0, .int .u64 0, .int .u64 0, .int .u64 0, .int .u64 0] 58)).alloc (.cells #[.int .u64 0, .int .u64 0, .int .u64 0, .int .u64 0, .int .u64 0, .int .u64 0, .int .u64 0] 36))) := by
    refine ⟨?_, ?_, (by repeat' (first | (with_reducible exact Below.refl _ _) | (with_reducible assumption) | (with_reducible refine below_drewN ?_ _) | (with_reducible refine Below.setCell ?_ ?_ _) | (with_reducible refine Below.alloc ?_ ?_ _) | (with_reducible refine Below.drew ?_) | go_size))⟩
    · have := SW.new ((w.alloc (.cells #[.int .u64 ((s).m.toNat : Int), .int .u64 ((s).q.toNat : Int), .int .u64 ((s).z.toNat : Int), .int .u64 ((s).r.a.toNat : Int), .int .u64 ((s).r.b.toNat : Int), .int .u64 ((s).r.c.toNat : Int), .int .u64 ((s).r.d.toNat : Int), .int .u64 ((t).m.toNat : Int), .int .u64 ((t).q.toNat : Int), .int .u64 ((t).z.toNat : Int), .int .u64 ((t).r.a.toNat : Int), .int .u64 ((t).r.b.toNat : Int), .int .u64 ((t).r.c.toNat : Int), .int .u64 ((t).r.d.toNat : Int)] 38)).alloc (.cells #[.int .i64 0, .int .i64 0, .int .u64 0, .int .u64 0, .int .u64 0, .int .u64 0] 58)) zsl 36
      simp only [World.size_alloc] at this
      exact this
    · refine ⟨by simp, ⟨?_, ?_, ?_, ?_, ?_, ?_⟩, fun i hi => ?_⟩ <;> first | (simp [go_sem]; done) | (simp [go_sem]; rfl)
  have c1 := fun W : World => sok_impl s W
  have c2 := fun W : World => sok_impl t W
  have HB := fun j => rst_bnd s t j
  have hp0 := pick0
  have hp1 := pick1
  go_enter Tryd.func22, Tryd.ntmps22
  go_wp2_with fail
  go_loopw [5, 13] (fun n i wr => ∃ j : Nat, j ≤ 2 ∧ i = .int .i64 (j : Int) ∧ n = .int .i64 (rst s t j).2 ∧ Hid (RL w (rst s t j).1 wr)) (fun _ i _ => 2 - (intOf i).toNat)
  case atStart => exact ⟨0, by omega, rfl, rfl, HT⟩
  case round =>
    obtain ⟨j, hj, rfl, rfl, HR⟩ := hrel
    have hR := HR.out
    by_cases h2 : j = 2
    · subst h2
      obtain ⟨p1, p2⟩ := HB 2
      clear HR HT HB c1 c2
      obtain ⟨⟨⟨lT, a0, a1, a2, a3, a4, a5, a6⟩, -⟩, ⟨lR, ⟨r0, r1, r2, r3, r4, r5⟩, hf⟩, zz⟩ := id hR
      have f0 := hf 0 (by omega)
      have f1 := hf 1 (by omega)
      have f2 := hf 2 (by omega)
      have f3 := hf 3 (by omega)
      have f4 := hf 4 (by omega)
      have f5 := hf 5 (by omega)
      clear hf hR
      go_wp2_with fail
      exact bodyPost_ret (v := .tuple #[.agg #[.int .i64 (((rst s t 2).1).q.toNat : Int), .int .i64 (((rst s t 2).1).z.toNat : Int), .int .u64 ((((rst s t 2).1).r.a).toNat : Int), .int .u64 ((((rst s t 2).1).r.b).toNat : Int), .int .u64 ((((rst s t 2).1).r.c).toNat : Int), .int .u64 ((((rst s t 2).1).r.d).toNat : Int)], .int .i64 (rst s t 2).2]) (by simp [results, Tryd.results22, go_sem, r0, r1, r2, r3, r4, r5]) rfl ⟨rfl, (((((zz.setCell (by show w.heap.size ≤ w.heap.size + 1; omega) _).setCell (by show w.heap.size ≤ w.heap.size + 1; omega) _).setCell (by show w.heap.size ≤ w.heap.size + 1; omega) _).setCell (by show w.heap.size ≤ w.heap.size + 1; omega) _).setCell (by show w.heap.size ≤ w.heap.size + 1; omega) _).setCell (by show w.heap.size ≤ w.heap.size + 1; omega) _⟩
    · have h01 : j = 0 ∨ j = 1 := by omega
      clear hj h2
      rcases h01 with rfl | rfl
      · have hs : rst s t 1 = rstep (rst s t 0) s 1 := rfl
        have hR0 := hR.call ((Below.refl _ _).alloc (Nat.le_refl _) (.cells #[Value.int IntKind.u64 ((s).m.toNat : Int), Value.int IntKind.u64 ((s).q.toNat : Int), Value.int IntKind.u64 ((s).z.toNat : Int), Value.int IntKind.u64 ((s).r.a.toNat : Int), Value.int IntKind.u64 ((s).r.b.toNat : Int), Value.int IntKind.u64 ((s).r.c.toNat : Int), Value.int IntKind.u64 ((s).r.d.toNat : Int)] 36))
        have hX0 := SB.new wr s 36
        obtain ⟨y, hy⟩ : ∃ y, y = rst s t 0 := ⟨_, rfl⟩
        have HY : Hid (y = rst s t 0) := hy
        rw [← hy] at hR0 hs ⊢
        clear hy hR HR HT HB
        obtain ⟨-, b0, b1, b2, b3, b4, b5, b6⟩ := id hX0
        cases hk : slok s with
        | false =>
          rw [hk] at c1
          have hv : rst s t 1 = y := by rw [hs]; unfold rstep; simp [hk]
          clear hs hk
          go_wp2_with ((go_at_call 36; refine (c1 _).mono ?_; rintro e w1 ⟨rfl, hb1⟩; have hR1 := hR0.call hb1; have hX1 := hX0.call hb1; obtain ⟨lX1, x0, x1, x2, x3, x4, x5, x6⟩ := id hX1; obtain ⟨⟨⟨lT1, a0, a1, a2, a3, a4, a5, a6⟩, hf1⟩, -⟩ := id hR1; have f0 := hf1 0 (by omega); have f1 := hf1 1 (by omega); have f2 := hf1 2 (by omega); have f3 := hf1 3 (by omega); have f4 := hf1 4 (by omega); have f5 := hf1 5 (by omega); have f6 := hf1 6 (by omega); clear hf1))
          try go_wp2_with fail
          go_roundw
          case rel => exact ⟨1, by omega, by go_num, by rw [hv], by rw [hv]; exact hR1⟩
          case measure => first | (simp [intOf]; done) | (simp [intOf]; omega)
        | true =>
          rw [hk] at c1
          by_cases hlt : y.1.q.toNat < (s).q.toNat
          · have hv : rst s t 1 = (s, 1) := by rw [hs]; unfold rstep; simp [hk, hlt]
            clear hs hk
            go_wp2_with ((go_at_call 36; refine (c1 _).mono ?_; rintro e w1 ⟨rfl, hb1⟩; have hR1 := hR0.call hb1; have hX1 := hX0.call hb1; obtain ⟨lX1, x0, x1, x2, x3, x4, x5, x6⟩ := id hX1; obtain ⟨⟨⟨lT1, a0, a1, a2, a3, a4, a5, a6⟩, hf1⟩, -⟩ := id hR1; have f0 := hf1 0 (by omega); have f1 := hf1 1 (by omega); have f2 := hf1 2 (by omega); have f3 := hf1 3 (by omega); have f4 := hf1 4 (by omega); have f5 := hf1 5 (by omega); have f6 := hf1 6 (by omega); clear hf1))
            try go_wp2_with fail
            go_roundw
            case rel => exact ⟨1, by omega, by go_num, by rw [hv], by rw [hv]; exact hR1.put s⟩
            case measure => first | (simp [intOf]; done) | (simp [intOf]; omega)
          · have hv : rst s t 1 = y := by rw [hs]; unfold rstep; simp [hk, hlt]
            clear hs hk
            go_wp2_with ((go_at_call 36; refine (c1 _).mono ?_; rintro e w1 ⟨rfl, hb1⟩; have hR1 := hR0.call hb1; have hX1 := hX0.call hb1; obtain ⟨lX1, x0, x1, x2, x3, x4, x5, x6⟩ := id hX1; obtain ⟨⟨⟨lT1, a0, a1, a2, a3, a4, a5, a6⟩, hf1⟩, -⟩ := id hR1; have f0 := hf1 0 (by omega); have f1 := hf1 1 (by omega); have f2 := hf1 2 (by omega); have f3 := hf1 3 (by omega); have f4 := hf1 4 (by omega); have f5 := hf1 5 (by omega); have f6 := hf1 6 (by omega); clear hf1))
            try go_wp2_with fail
            go_roundw
            case rel => exact ⟨1, by omega, by go_num, by rw [hv], by rw [hv]; exact hR1⟩
            case measure => first | (simp [intOf]; done) | (simp [intOf]; omega)
      · have hs : rst s t 2 = rstep (rst s t 1) t 2 := rfl
        have hR0 := hR.call ((Below.refl _ _).alloc (Nat.le_refl _) (.cells #[Value.int IntKind.u64 ((t).m.toNat : Int), Value.int IntKind.u64 ((t).q.toNat : Int), Value.int IntKind.u64 ((t).z.toNat : Int), Value.int IntKind.u64 ((t).r.a.toNat : Int), Value.int IntKind.u64 ((t).r.b.toNat : Int), Value.int IntKind.u64 ((t).r.c.toNat : Int), Value.int IntKind.u64 ((t).r.d.toNat : Int)] 36))
        have hX0 := SB.new wr t 36
        obtain ⟨y, hy⟩ : ∃ y, y = rst s t 1 := ⟨_, rfl⟩
        have HY : Hid (y = rst s t 1) := hy
        rw [← hy] at hR0 hs ⊢
        clear hy hR HR HT HB
        obtain ⟨-, b0, b1, b2, b3, b4, b5, b6⟩ := id hX0
        cases hk : slok t with
        | false =>
          rw [hk] at c2
          have hv : rst s t 2 = y := by rw [hs]; unfold rstep; simp [hk]
          clear hs hk
          go_wp2_with ((go_at_call 36; refine (c2 _).mono ?_; rintro e w1 ⟨rfl, hb1⟩; have hR1 := hR0.call hb1; have hX1 := hX0.call hb1; obtain ⟨lX1, x0, x1, x2, x3, x4, x5, x6⟩ := id hX1; obtain ⟨⟨⟨lT1, a0, a1, a2, a3, a4, a5, a6⟩, hf1⟩, -⟩ := id hR1; have f0 := hf1 0 (by omega); have f1 := hf1 1 (by omega); have f2 := hf1 2 (by omega); have f3 := hf1 3 (by omega); have f4 := hf1 4 (by omega); have f5 := hf1 5 (by omega); have f6 := hf1 6 (by omega); clear hf1))
          try go_wp2_with fail
          go_roundw
          case rel => exact ⟨2, by omega, by go_num, by rw [hv], by rw [hv]; exact hR1⟩
          case measure => first | (simp [intOf]; done) | (simp [intOf]; omega)
        | true =>
          rw [hk] at c2
          by_cases hlt : y.1.q.toNat < (t).q.toNat
          · have hv : rst s t 2 = (t, 2) := by rw [hs]; unfold rstep; simp [hk, hlt]
            clear hs hk
            go_wp2_with ((go_at_call 36; refine (c2 _).mono ?_; rintro e w1 ⟨rfl, hb1⟩; have hR1 := hR0.call hb1; have hX1 := hX0.call hb1; obtain ⟨lX1, x0, x1, x2, x3, x4, x5, x6⟩ := id hX1; obtain ⟨⟨⟨lT1, a0, a1, a2, a3, a4, a5, a6⟩, hf1⟩, -⟩ := id hR1; have f0 := hf1 0 (by omega); have f1 := hf1 1 (by omega); have f2 := hf1 2 (by omega); have f3 := hf1 3 (by omega); have f4 := hf1 4 (by omega); have f5 := hf1 5 (by omega); have f6 := hf1 6 (by omega); clear hf1))
            try go_wp2_with fail
            go_roundw
            case rel => exact ⟨2, by omega, by go_num, by rw [hv], by rw [hv]; exact hR1.put t⟩
            case measure => first | (simp [intOf]; done) | (simp [intOf]; omega)
          · have hv : rst s t 2 = y := by rw [hs]; unfold rstep; simp [hk, hlt]
            clear hs hk
            go_wp2_with ((go_at_call 36; refine (c2 _).mono ?_; rintro e w1 ⟨rfl, hb1⟩; have hR1 := hR0.call hb1; have hX1 := hX0.call hb1; obtain ⟨lX1, x0, x1, x2, x3, x4, x5, x6⟩ := id hX1; obtain ⟨⟨⟨lT1, a0, a1, a2, a3, a4, a5, a6⟩, hf1⟩, -⟩ := id hR1; have f0 := hf1 0 (by omega); have f1 := hf1 1 (by omega); have f2 := hf1 2 (by omega); have f3 := hf1 3 (by omega); have f4 := hf1 4 (by omega); have f5 := hf1 5 (by omega); have f6 := hf1 6 (by omega); clear hf1))
            try go_wp2_with fail
            go_roundw
            case rel => exact ⟨2, by omega, by go_num, by rw [hv], by rw [hv]; exact hR1⟩
            case measure => first | (simp [intOf]; done) | (simp [intOf]; omega)
end Go.Proofs.YteaaaojafipllaaDoor
