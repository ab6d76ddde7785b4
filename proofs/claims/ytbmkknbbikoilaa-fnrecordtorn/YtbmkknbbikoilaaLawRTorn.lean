/-
  The law of records that are torn again and again, walked.
-/
import Derived.Test.YtbmkknbbikoilaaJoinB49
import Derived.Test.YtbmkknbbikoilaaJoinB53
import Derived.Deep.Cut
namespace Go.Proofs.Ytbmkknbbikoilaa
open Go.RowKit Go.MuLone

/-- What stands in the law's loop: the disk, the root, the record that is wanted. -/
def TN7 (D X : Nat) (d : Sl × Sl) (q : Qd) (x : Sl) (w : World) : Prop :=
  Lies D 0 [.int .u64 ((d.1).m.toNat : Int), .int .u64 ((d.1).q.toNat : Int), .int .u64 ((d.1).z.toNat : Int), .int .u64 ((d.1).r.a.toNat : Int), .int .u64 ((d.1).r.b.toNat : Int), .int .u64 ((d.1).r.c.toNat : Int), .int .u64 ((d.1).r.d.toNat : Int), .int .u64 ((d.2).m.toNat : Int), .int .u64 ((d.2).q.toNat : Int), .int .u64 ((d.2).z.toNat : Int), .int .u64 ((d.2).r.a.toNat : Int), .int .u64 ((d.2).r.b.toNat : Int), .int .u64 ((d.2).r.c.toNat : Int), .int .u64 ((d.2).r.d.toNat : Int)] w ∧ Room D 0 14 w ∧ Lies (D + 1) 0 [.int .u64 ((q.a).toNat : Int), .int .u64 ((q.b).toNat : Int), .int .u64 ((q.c).toNat : Int), .int .u64 ((q.d).toNat : Int)] w ∧ Room (D + 1) 0 4 w ∧ Lies X 0 [.int .i64 ((x).q.toNat : Int), .int .i64 ((x).z.toNat : Int), .int .u64 (((x).r.a).toNat : Int), .int .u64 (((x).r.b).toNat : Int), .int .u64 (((x).r.c).toNat : Int), .int .u64 (((x).r.d).toNat : Int)] w ∧ Room X 0 6 w ∧ D + 1 < X ∧ X < w.heap.size
theorem TN7.call {D X : Nat} {d : Sl × Sl} {q : Qd} {x : Sl} {w w' : World} (h : TN7 D X d q x w) (hb : Below w.heap.size w w') : TN7 D X d q x w' := by
  obtain ⟨h1, h2, h3, h4, h5, h6, h7, h8⟩ := h
  exact ⟨h1.call hb (by omega), h2.call hb (by omega), h3.call hb (by omega), h4.call hb (by omega), h5.call hb h8, h6.call hb h8, h7, Nat.lt_of_lt_of_le h8 hb.size⟩
theorem TN7.putD {D X : Nat} {d : Sl × Sl} {q : Qd} {x : Sl} {w : World} (h : TN7 D X d q x w) (e : Sl × Sl) : TN7 D X e q x (w.setCells D 0 [.int .u64 ((e.1).m.toNat : Int), .int .u64 ((e.1).q.toNat : Int), .int .u64 ((e.1).z.toNat : Int), .int .u64 ((e.1).r.a.toNat : Int), .int .u64 ((e.1).r.b.toNat : Int), .int .u64 ((e.1).r.c.toNat : Int), .int .u64 ((e.1).r.d.toNat : Int), .int .u64 ((e.2).m.toNat : Int), .int .u64 ((e.2).q.toNat : Int), .int .u64 ((e.2).z.toNat : Int), .int .u64 ((e.2).r.a.toNat : Int), .int .u64 ((e.2).r.b.toNat : Int), .int .u64 ((e.2).r.c.toNat : Int), .int .u64 ((e.2).r.d.toNat : Int)]) := by
  obtain ⟨h1, h2, h3, h4, h5, h6, h7, h8⟩ := h
  have g := sc_grown w D 0 [.int .u64 ((e.1).m.toNat : Int), .int .u64 ((e.1).q.toNat : Int), .int .u64 ((e.1).z.toNat : Int), .int .u64 ((e.1).r.a.toNat : Int), .int .u64 ((e.1).r.b.toNat : Int), .int .u64 ((e.1).r.c.toNat : Int), .int .u64 ((e.1).r.d.toNat : Int), .int .u64 ((e.2).m.toNat : Int), .int .u64 ((e.2).q.toNat : Int), .int .u64 ((e.2).z.toNat : Int), .int .u64 ((e.2).r.a.toNat : Int), .int .u64 ((e.2).r.b.toNat : Int), .int .u64 ((e.2).r.c.toNat : Int), .int .u64 ((e.2).r.d.toNat : Int)]
  exact ⟨Lies.sc rfl h2, h2.scs _ _ 0 _, h3.grown g (by omega) (fun e => by injection e with e; omega), h4.grown g (by omega) (fun e => by injection e with e; omega), h5.grown g h8 (fun e => by injection e with e; omega), h6.grown g h8 (fun e => by injection e with e; omega), h7, by rw [sc_size]; exact h8⟩
theorem TN7.putX {D X : Nat} {d : Sl × Sl} {q : Qd} {x : Sl} {w : World} (h : TN7 D X d q x w) (x : Sl) : TN7 D X d q x (w.setCells X 0 [.int .i64 ((x).q.toNat : Int), .int .i64 ((x).z.toNat : Int), .int .u64 (((x).r.a).toNat : Int), .int .u64 (((x).r.b).toNat : Int), .int .u64 (((x).r.c).toNat : Int), .int .u64 (((x).r.d).toNat : Int)]) := by
  obtain ⟨h1, h2, h3, h4, h5, h6, h7, h8⟩ := h
  have g := sc_grown w X 0 [.int .i64 ((x).q.toNat : Int), .int .i64 ((x).z.toNat : Int), .int .u64 (((x).r.a).toNat : Int), .int .u64 (((x).r.b).toNat : Int), .int .u64 (((x).r.c).toNat : Int), .int .u64 (((x).r.d).toNat : Int)]
  exact ⟨h1.grown g (by omega) (fun e => by injection e with e; omega), h2.grown g (by omega) (fun e => by injection e with e; omega), h3.grown g (by omega) (fun e => by injection e with e; omega), h4.grown g (by omega) (fun e => by injection e with e; omega), Lies.sc rfl h6, h6.scs _ _ 0 _, h7, by rw [sc_size]; exact h8⟩
theorem TN7.putA {D X : Nat} {d : Sl × Sl} {q : Qd} {x : Sl} {w : World} (h : TN7 D X d q x w) (u : UInt64) : TN7 D X d ⟨u, q.b, q.c, q.d⟩ x (w.setCell ⟨D + 1, 0, none⟩ (.int .u64 ((u).toNat : Int))) := by
  obtain ⟨h1, h2, h3, h4, h5, h6, h7, h8⟩ := h
  have g := grownR_set w (D + 1) 0 (.int .u64 ((u).toNat : Int))
  exact ⟨h1.grown g (by omega) (fun e => by injection e with e; omega), h2.grown g (by omega) (fun e => by injection e with e; omega), h3.set 0 (by simp) _, h4.set _ _ _, h5.grown g h8 (fun e => by injection e with e; omega), h6.grown g h8 (fun e => by injection e with e; omega), h7, by simpa using h8⟩
theorem rem10 (x : Nat) (hx : x < 256) : ∃ c : Nat, c < 10 ∧ (x : Int).tmod 10 = (c : Int) ∧ (x : Int) % 10 = (c : Int) := ⟨x % 10, Nat.mod_lt _ (by decide), by rw [Int.tmod_eq_emod_of_nonneg (by omega)]; simp, by simp⟩
theorem rem8 (x : Nat) (hx : x < 256) : ∃ c : Nat, c < 8 ∧ (x : Int).tmod 8 = (c : Int) ∧ (x : Int) % 8 = (c : Int) := ⟨x % 8, Nat.mod_lt _ (by decide), by rw [Int.tmod_eq_emod_of_nonneg (by omega)]; simp, by simp⟩
theorem rmend_len (s t : Sl) : (rmend s t).length ≤ 1000 := by
  unfold rmend
  have h1 := lclear_len 1 s
  have h2 := lclear_len 2 t
  rw [List.length_append]
  omega
set_option maxRecDepth 200000 in
set_option maxHeartbeats 8000000 in
theorem lawTorn (v : Value) (L : List UInt8) (w : World) (hV : Byt w v L) :
    Calls Try.prog 6 #[v] w fun e w' => e = .returned (.bool true) ∧ Below w.heap.size w w' := by
  obtain ⟨oa, cap, hv⟩ : ∃ a cap, v = .slice a L.length cap := by
    rcases hV with ⟨rfl, rfl⟩ | ⟨a, cap, rfl, _⟩
    · exact ⟨none, 0, rfl⟩
    · exact ⟨some a, cap, rfl⟩
  by_cases hbig : 1048576 < L.length
  · have hbI : (1048576 : Int) < (L.length : Int) := by omega
    subst hv
    clear hV
    go_enter Try.func6, Try.ntmps6
    go_wp2_with fail
    go_ret
    exact ⟨rfl, Below.refl _ _⟩
  · have hbI : ¬ (1048576 : Int) < (L.length : Int) := by omega
    have hL : L.length ≤ 1048576 := by omega
    have co := drawRaws_is w v L hV
    subst hv
    have HV : Hid (Byt w (.slice oa L.length cap) L) := hV
    clear hV hbig
    go_enter Try.func6, Try.ntmps6
    go_upto_region 4 with (go_at_call 16; refine co.mono ?_; rintro e w1 ⟨d, n, q, rfl, hn, b1⟩; clear co)
    have T2 := LT7.new w1 d q
    have R2 := (Room.new w1 #[.int .u64 ((d.1).m.toNat : Int), .int .u64 ((d.1).q.toNat : Int), .int .u64 ((d.1).z.toNat : Int), .int .u64 ((d.1).r.a.toNat : Int), .int .u64 ((d.1).r.b.toNat : Int), .int .u64 ((d.1).r.c.toNat : Int), .int .u64 ((d.1).r.d.toNat : Int), .int .u64 ((d.2).m.toNat : Int), .int .u64 ((d.2).q.toNat : Int), .int .u64 ((d.2).z.toNat : Int), .int .u64 ((d.2).r.a.toNat : Int), .int .u64 ((d.2).r.b.toNat : Int), .int .u64 ((d.2).r.c.toNat : Int), .int .u64 ((d.2).r.d.toNat : Int)] 35 14 rfl).call ((Below.refl _ _).alloc (Nat.le_refl _) (.cells #[.int .u64 ((q.a).toNat : Int), .int .u64 ((q.b).toNat : Int), .int .u64 ((q.c).toNat : Int), .int .u64 ((q.d).toNat : Int)] 31)) (by simp)
    have S2 := Room.new (w1.alloc (.cells #[.int .u64 ((d.1).m.toNat : Int), .int .u64 ((d.1).q.toNat : Int), .int .u64 ((d.1).z.toNat : Int), .int .u64 ((d.1).r.a.toNat : Int), .int .u64 ((d.1).r.b.toNat : Int), .int .u64 ((d.1).r.c.toNat : Int), .int .u64 ((d.1).r.d.toNat : Int), .int .u64 ((d.2).m.toNat : Int), .int .u64 ((d.2).q.toNat : Int), .int .u64 ((d.2).z.toNat : Int), .int .u64 ((d.2).r.a.toNat : Int), .int .u64 ((d.2).r.b.toNat : Int), .int .u64 ((d.2).r.c.toNat : Int), .int .u64 ((d.2).r.d.toNat : Int)] 35)) #[.int .u64 ((q.a).toNat : Int), .int .u64 ((q.b).toNat : Int), .int .u64 ((q.c).toNat : Int), .int .u64 ((q.d).toNat : Int)] 31 4 rfl
    rw [World.size_alloc] at S2
    have b2 : Below w.heap.size w ((w1.alloc (.cells #[.int .u64 ((d.1).m.toNat : Int), .int .u64 ((d.1).q.toNat : Int), .int .u64 ((d.1).z.toNat : Int), .int .u64 ((d.1).r.a.toNat : Int), .int .u64 ((d.1).r.b.toNat : Int), .int .u64 ((d.1).r.c.toNat : Int), .int .u64 ((d.1).r.d.toNat : Int), .int .u64 ((d.2).m.toNat : Int), .int .u64 ((d.2).q.toNat : Int), .int .u64 ((d.2).z.toNat : Int), .int .u64 ((d.2).r.a.toNat : Int), .int .u64 ((d.2).r.b.toNat : Int), .int .u64 ((d.2).r.c.toNat : Int), .int .u64 ((d.2).r.d.toNat : Int)] 35)).alloc (.cells #[.int .u64 ((q.a).toNat : Int), .int .u64 ((q.b).toNat : Int), .int .u64 ((q.c).toNat : Int), .int .u64 ((q.d).toNat : Int)] 31)) := (b1.alloc b1.size _).alloc (by have := b1.size; simp only [World.size_alloc]; omega) _
    have hDw := b1.size
    generalize (w1.alloc (.cells #[.int .u64 ((d.1).m.toNat : Int), .int .u64 ((d.1).q.toNat : Int), .int .u64 ((d.1).z.toNat : Int), .int .u64 ((d.1).r.a.toNat : Int), .int .u64 ((d.1).r.b.toNat : Int), .int .u64 ((d.1).r.c.toNat : Int), .int .u64 ((d.1).r.d.toNat : Int), .int .u64 ((d.2).m.toNat : Int), .int .u64 ((d.2).q.toNat : Int), .int .u64 ((d.2).z.toNat : Int), .int .u64 ((d.2).r.a.toNat : Int), .int .u64 ((d.2).r.b.toNat : Int), .int .u64 ((d.2).r.c.toNat : Int), .int .u64 ((d.2).r.d.toNat : Int)] 35)).alloc (.cells #[.int .u64 ((q.a).toNat : Int), .int .u64 ((q.b).toNat : Int), .int .u64 ((q.c).toNat : Int), .int .u64 ((q.d).toNat : Int)] 31) = w2 at T2 R2 S2 b2 ⊢
    generalize w1.heap.size = D at T2 R2 S2 hDw ⊢
    clear b1 w1 hbI
    obtain ⟨TD2, TQ2, lD2⟩ := id T2
    have cs := fun V : World => rread_spec d.1 d.2 V
    go_upto_region 5 with (first
      | (with_reducible refine wpl_load agg_disk D 0 [.int .u64 ((d.1).m.toNat : Int), .int .u64 ((d.1).q.toNat : Int), .int .u64 ((d.1).z.toNat : Int), .int .u64 ((d.1).r.a.toNat : Int), .int .u64 ((d.1).r.b.toNat : Int), .int .u64 ((d.1).r.c.toNat : Int), .int .u64 ((d.1).r.d.toNat : Int), .int .u64 ((d.2).m.toNat : Int), .int .u64 ((d.2).q.toNat : Int), .int .u64 ((d.2).z.toNat : Int), .int .u64 ((d.2).r.a.toNat : Int), .int .u64 ((d.2).r.b.toNat : Int), .int .u64 ((d.2).r.c.toNat : Int), .int .u64 ((d.2).r.d.toNat : Int)] (by kernel_rfl) (by kernel_rfl) TD2 ?_)
      | (go_at_call 17; refine (cs _).mono ?_; rintro e w4 ⟨rfl, b4⟩; have T4 := T2.call b4; have R4 := R2.call b4 (by omega); have S4 := S2.call b4 lD2; have z4 := below_after b2 b4 b2.size; have lD4 := T4.2.2; clear TD2 TQ2 T2 R2 S2 b2 lD2 b4))
    have hT5 : ∃ x, x = (rread d.1 d.2).1 := ⟨_, rfl⟩
    obtain ⟨x, hx⟩ := hT5
    rw [← hx]
    have ba := (Below.refl w4.heap.size w4).alloc (Nat.le_refl _) (.cells #[.int .i64 ((x).q.toNat : Int), .int .i64 ((x).z.toNat : Int), .int .u64 (((x).r.a).toNat : Int), .int .u64 (((x).r.b).toNat : Int), .int .u64 (((x).r.c).toNat : Int), .int .u64 (((x).r.d).toNat : Int)] 47)
    have T5 : TN7 D w4.heap.size d q x (w4.alloc (.cells #[.int .i64 ((x).q.toNat : Int), .int .i64 ((x).z.toNat : Int), .int .u64 (((x).r.a).toNat : Int), .int .u64 (((x).r.b).toNat : Int), .int .u64 (((x).r.c).toNat : Int), .int .u64 (((x).r.d).toNat : Int)] 47)) := ⟨(T4.call ba).1, R4.call ba (by omega), (T4.call ba).2.1, S4.call ba lD4, Lies.new w4 [.int .i64 ((x).q.toNat : Int), .int .i64 ((x).z.toNat : Int), .int .u64 (((x).r.a).toNat : Int), .int .u64 (((x).r.b).toNat : Int), .int .u64 (((x).r.c).toNat : Int), .int .u64 (((x).r.d).toNat : Int)] 47, Room.new w4 #[.int .i64 ((x).q.toNat : Int), .int .i64 ((x).z.toNat : Int), .int .u64 (((x).r.a).toNat : Int), .int .u64 (((x).r.b).toNat : Int), .int .u64 (((x).r.c).toNat : Int), .int .u64 (((x).r.d).toNat : Int)] 47 6 rfl, lD4, by simp⟩
    have z5 := z4.alloc z4.size (.cells #[.int .i64 ((x).q.toNat : Int), .int .i64 ((x).z.toNat : Int), .int .u64 (((x).r.a).toNat : Int), .int .u64 (((x).r.b).toNat : Int), .int .u64 (((x).r.c).toNat : Int), .int .u64 (((x).r.d).toNat : Int)] 47)
    generalize w4.alloc (.cells #[.int .i64 ((x).q.toNat : Int), .int .i64 ((x).z.toNat : Int), .int .u64 (((x).r.a).toNat : Int), .int .u64 (((x).r.b).toNat : Int), .int .u64 (((x).r.c).toNat : Int), .int .u64 (((x).r.d).toNat : Int)] 47) = w5 at T5 z5 ⊢
    generalize w4.heap.size = X at T5 ⊢
    rw [hx] at T5
    clear T4 R4 S4 z4 lD4 ba hx cs
    have hX := T5.2.2.2.2.2.2.1
    go_upto_region 6 with fail
    go_loopw [8, 9, 10, 11, 12, 13] (fun i _ _ _ _ _ wr => ∃ (j : Nat) (d : Sl × Sl) (q : Qd), i = .int .i64 (j : Int) ∧ j ≤ 6 ∧ Hid (TN7 D X d q (rread d.1 d.2).1 wr ∧ Below w.heap.size w wr)) (fun i _ _ _ _ _ _ => (6 - intOf i).toNat)
    case atStart => exact ⟨0, d, q, rfl, by omega, T5, z5⟩
    case round =>
      obtain ⟨j, d, q, rfl, hj, HW⟩ := hrel
      obtain ⟨T6, z6⟩ := HW.out
      clear HW T5 z5
      by_cases hj6 : j < 6
      · have hjI : (j : Int) < 6 := by omega
        obtain ⟨k, hk⟩ := rread_bnd d.1 d.2
        go_upto_region 9 with (go_at_call 21; refine (at_any j (by omega) _ _ L (HV.out.call z6) hL).mono ?_; rintro e w7 ⟨x7, hx7, rfl, b7⟩; have T7 := T6.call b7; have z7 := below_after z6 b7 z6.size; obtain ⟨c, hc, tm, tm'⟩ := rem10 x7 hx7; clear T6 z6 b7)
        clear tm tm' hx7
        obtain ⟨TD7, -, TQ7, -⟩ := id T7
        have cr := fun V : World => rraws_impl d.1 d.2 n q V
        have hkp := rread_kept d.1 d.2 n q c (by omega)
        have hRl : (rraws d.1 d.2 n q).length ≤ 1000 := kraws_le _ _
        generalize rraws d.1 d.2 n q = R at cr hkp hRl
        go_upto_region 10 with (first
          | (with_reducible refine wpl_load agg_disk D 0 [.int .u64 ((d.1).m.toNat : Int), .int .u64 ((d.1).q.toNat : Int), .int .u64 ((d.1).z.toNat : Int), .int .u64 ((d.1).r.a.toNat : Int), .int .u64 ((d.1).r.b.toNat : Int), .int .u64 ((d.1).r.c.toNat : Int), .int .u64 ((d.1).r.d.toNat : Int), .int .u64 ((d.2).m.toNat : Int), .int .u64 ((d.2).q.toNat : Int), .int .u64 ((d.2).z.toNat : Int), .int .u64 ((d.2).r.a.toNat : Int), .int .u64 ((d.2).r.b.toNat : Int), .int .u64 ((d.2).r.c.toNat : Int), .int .u64 ((d.2).r.d.toNat : Int)] (by kernel_rfl) (by kernel_rfl) TD7 ?_)
          | (with_reducible refine wpl_load agg_dg4 (D + 1) 0 [.int .u64 ((q.a).toNat : Int), .int .u64 ((q.b).toNat : Int), .int .u64 ((q.c).toNat : Int), .int .u64 ((q.d).toNat : Int)] (by kernel_rfl) (by kernel_rfl) TQ7 ?_)
          | (go_at_call 10; refine (cr _).mono ?_; rintro e w8 ⟨v8, rfl, ho8, b8⟩; have T8 := T7.call b8; have O8 := owr_rws ho8; have z8 := below_after z7 b8 z7.size; clear TD7 TQ7 T7 z7 ho8 b8 cr))
        obtain ⟨a8, c8, rfl, hl8⟩ := O8.len
        have ck := fun V : World => fun hV => cut_impl V d.1 d.2 (.slice a8 R.length c8) R (c : Int) hV (by omega)
        generalize dws (d.1, d.2) (R.take (ncut (c : Int) R.length)) = d1 at ck hkp
        have HK : Hid (∃ b : Bool, b = decide (R.length = 8 ∧ 8 ≤ c) ∧ (b = true → ∃ y : Sl, (y.q.toNat : Int) = ((rread d.1 d.2).1.q.toNat : Int) + 1 ∧ (y.z.toNat : Int) = n ∧ y.r = q ∧ (rread d1.1 d1.2).1 = y) ∧ (b = false → (rread d1.1 d1.2).1 = (rread d.1 d.2).1)) := by
          refine ⟨_, rfl, fun hb => ?_, fun hb => ?_⟩
          · have hb' := of_decide_eq_true hb
            rcases hkp with ⟨-, y, h1, h2, h3, -, h4⟩ | ⟨h1, -⟩
            · exact ⟨y, h1, h2, h3, h4⟩
            · exact absurd (h1 hb'.1) (by omega)
          · have hb' := of_decide_eq_false hb
            rcases hkp with ⟨h1, -⟩ | ⟨-, h1⟩
            · exact absurd h1 hb'
            · rw [h1]
        clear hkp hk
        go_cut [11] from 41 to 47 (fun nv wx => nv = .bool (decide (R.length = 8 ∧ 8 ≤ c)) ∧ wx = w8)
        case first =>
          clear HK ck O8 T8 z8 HV k
          by_cases h8 : R.length = 8
          · have h8I : ((R.length : Int) == 8) = true := by rw [beq_iff_eq]; omega
            by_cases h9 : 8 ≤ c
            · have h9I : (8 : Int) ≤ (c : Int) := by omega
              have e : decide (R.length = 8 ∧ 8 ≤ c) = true := decide_eq_true ⟨h8, h9⟩
              clear h8
              go_wp2_with fail
              go_meet
              exact ⟨by rw [e], rfl⟩
            · have h9I : ¬ (8 : Int) ≤ (c : Int) := by omega
              have e : decide (R.length = 8 ∧ 8 ≤ c) = false := decide_eq_false (fun h => h9 h.2)
              clear h8
              go_wp2_with fail
              go_meet
              exact ⟨by rw [e], rfl⟩
          · have h8I : ((R.length : Int) == 8) = false := by rw [beq_eq_false_iff_ne]; omega
            have e : decide (R.length = 8 ∧ 8 ≤ c) = false := decide_eq_false (fun h => h8 h.1)
            go_wp2_with fail
            go_meet
            exact ⟨by rw [e], rfl⟩
        case rest =>
          obtain ⟨rfl, rfl⟩ := hcut
          obtain ⟨b, hb, hb1, hb2⟩ := HK.out
          rw [← hb]
          clear HK hb
          obtain ⟨TD8, TR8, -⟩ := id T8
          have hwx : IntKind.i64.wrap (((rread d.1 d.2).1.q.toNat : Int) + 1) = ((rread d.1 d.2).1.q.toNat : Int) + 1 := IntWalk.i64_in _ (by omega)
          go_upto_if 52 with (first
            | (with_reducible refine wpl_load agg_disk D 0 [.int .u64 ((d.1).m.toNat : Int), .int .u64 ((d.1).q.toNat : Int), .int .u64 ((d.1).z.toNat : Int), .int .u64 ((d.1).r.a.toNat : Int), .int .u64 ((d.1).r.b.toNat : Int), .int .u64 ((d.1).r.c.toNat : Int), .int .u64 ((d.1).r.d.toNat : Int), .int .u64 ((d.2).m.toNat : Int), .int .u64 ((d.2).q.toNat : Int), .int .u64 ((d.2).z.toNat : Int), .int .u64 ((d.2).r.a.toNat : Int), .int .u64 ((d.2).r.b.toNat : Int), .int .u64 ((d.2).r.c.toNat : Int), .int .u64 ((d.2).r.d.toNat : Int)] (by kernel_rfl) (by kernel_rfl) TD8 ?_)
            | (with_reducible refine wpl_store agg_disk D 0 [.int .u64 ((d1.1).m.toNat : Int), .int .u64 ((d1.1).q.toNat : Int), .int .u64 ((d1.1).z.toNat : Int), .int .u64 ((d1.1).r.a.toNat : Int), .int .u64 ((d1.1).r.b.toNat : Int), .int .u64 ((d1.1).r.c.toNat : Int), .int .u64 ((d1.1).r.d.toNat : Int), .int .u64 ((d1.2).m.toNat : Int), .int .u64 ((d1.2).q.toNat : Int), .int .u64 ((d1.2).z.toNat : Int), .int .u64 ((d1.2).r.a.toNat : Int), .int .u64 ((d1.2).r.b.toNat : Int), .int .u64 ((d1.2).r.c.toNat : Int), .int .u64 ((d1.2).r.d.toNat : Int)] (by kernel_rfl) (by kernel_rfl) (by kernel_rfl) (by kernel_rfl) TR9 ?_; have T10 := T9.putD d1; have z10 := Below.sc D hDw [.int .u64 ((d1.1).m.toNat : Int), .int .u64 ((d1.1).q.toNat : Int), .int .u64 ((d1.1).z.toNat : Int), .int .u64 ((d1.1).r.a.toNat : Int), .int .u64 ((d1.1).r.b.toNat : Int), .int .u64 ((d1.1).r.c.toNat : Int), .int .u64 ((d1.1).r.d.toNat : Int), .int .u64 ((d1.2).m.toNat : Int), .int .u64 ((d1.2).q.toNat : Int), .int .u64 ((d1.2).z.toNat : Int), .int .u64 ((d1.2).r.a.toNat : Int), .int .u64 ((d1.2).r.b.toNat : Int), .int .u64 ((d1.2).r.c.toNat : Int), .int .u64 ((d1.2).r.d.toNat : Int)] 0 _ z9; clear TR9 T9 z9; generalize w9.setCells D 0 [.int .u64 ((d1.1).m.toNat : Int), .int .u64 ((d1.1).q.toNat : Int), .int .u64 ((d1.1).z.toNat : Int), .int .u64 ((d1.1).r.a.toNat : Int), .int .u64 ((d1.1).r.b.toNat : Int), .int .u64 ((d1.1).r.c.toNat : Int), .int .u64 ((d1.1).r.d.toNat : Int), .int .u64 ((d1.2).m.toNat : Int), .int .u64 ((d1.2).q.toNat : Int), .int .u64 ((d1.2).z.toNat : Int), .int .u64 ((d1.2).r.a.toNat : Int), .int .u64 ((d1.2).r.b.toNat : Int), .int .u64 ((d1.2).r.c.toNat : Int), .int .u64 ((d1.2).r.d.toNat : Int)] = w10 at T10 z10 ⊢)
            | (go_at_call 19; refine (ck _ O8).mono ?_; rintro e w9 ⟨rfl, b9⟩; have T9 := T8.call b9; have z9 := below_after z8 b9 z8.size; have TR9 := T9.2.1; clear TD8 TR8 T8 z8 O8 b9 ck))
          generalize rread d.1 d.2 = xx at T10 hb1 hb2 hwx k
          obtain ⟨x, xk⟩ := xx
          simp only at T10 hb1 hb2 hwx k
          go_cut [] from 52 to 58 (fun wx => Hid (TN7 D X d1 q (rread d1.1 d1.2).1 wx ∧ Below w.heap.size w wx))
          case first =>
            obtain ⟨-, -, TQ, -, TX, TXR, -⟩ := id T10
            have TX0 := TX 0 _ rfl
            rw [Nat.zero_add] at TX0
            cases b with
            | true =>
              obtain ⟨y, hy1, hy2, hy3, hy4⟩ := hb1 rfl
              clear hb1 hb2
              subst hy3
              have e : ([.int .i64 ((x.q.toNat : Int) + 1), .int .i64 n, .int .u64 ((y.r.a).toNat : Int), .int .u64 ((y.r.b).toNat : Int), .int .u64 ((y.r.c).toNat : Int), .int .u64 ((y.r.d).toNat : Int)] : List Value) = [.int .i64 ((y).q.toNat : Int), .int .i64 ((y).z.toNat : Int), .int .u64 (((y).r.a).toNat : Int), .int .u64 (((y).r.b).toNat : Int), .int .u64 (((y).r.c).toNat : Int), .int .u64 (((y).r.d).toNat : Int)] := by rw [← hy1, ← hy2]
              have T11 : TN7 D X d1 y.r y (w10.setCells X 0 [.int .i64 ((x.q.toNat : Int) + 1), .int .i64 n, .int .u64 ((y.r.a).toNat : Int), .int .u64 ((y.r.b).toNat : Int), .int .u64 ((y.r.c).toNat : Int), .int .u64 ((y.r.d).toNat : Int)]) := by rw [e]; exact T10.putX y
              have z11 := Below.sc X (by omega) [.int .i64 ((y).q.toNat : Int), .int .i64 ((y).z.toNat : Int), .int .u64 (((y).r.a).toNat : Int), .int .u64 (((y).r.b).toNat : Int), .int .u64 (((y).r.c).toNat : Int), .int .u64 (((y).r.d).toNat : Int)] 0 _ z10
              rw [← e] at z11
              clear hy1 hy2 T10 z10 e
              go_wp2_with (first
                | (with_reducible refine wpl_load agg_dg4 (D + 1) 0 [.int .u64 ((y.r.a).toNat : Int), .int .u64 ((y.r.b).toNat : Int), .int .u64 ((y.r.c).toNat : Int), .int .u64 ((y.r.d).toNat : Int)] (by kernel_rfl) (by kernel_rfl) TQ ?_)
                | (with_reducible refine wpl_store agg_rec X 0 [.int .i64 ((x.q.toNat : Int) + 1), .int .i64 n, .int .u64 ((y.r.a).toNat : Int), .int .u64 ((y.r.b).toNat : Int), .int .u64 ((y.r.c).toNat : Int), .int .u64 ((y.r.d).toNat : Int)] (by kernel_rfl) (by kernel_rfl) (by kernel_rfl) (by kernel_rfl) TXR ?_; generalize w10.setCells X 0 [.int .i64 ((x.q.toNat : Int) + 1), .int .i64 n, .int .u64 ((y.r.a).toNat : Int), .int .u64 ((y.r.b).toNat : Int), .int .u64 ((y.r.c).toNat : Int), .int .u64 ((y.r.d).toNat : Int)] = w11 at T11 z11 ⊢))
              go_meet
              exact ⟨by rw [hy4]; exact T11, z11⟩
            | false =>
              have hb3 := hb2 rfl
              clear hb1 hb2
              go_wp2_with fail
              go_meet
              exact ⟨by rw [hb3]; exact T10, z10⟩
          case rest =>
            clear hb1 hb2 hwx k T10 z10
            obtain ⟨T11, z11⟩ := hcut.out
            clear hcut
            have cm := fun V : World => rmend_impl d1.1 d1.2 V
            have hmd := rread_mend d1.1 d1.2
            have hml := rmend_len d1.1 d1.2
            generalize rmend d1.1 d1.2 = M at cm hmd hml
            go_upto_region 14 with fail
            have bd := (Below.refl wc.heap.size wc).drew
            have T12 := T11.call bd
            have z12 := below_after z11 bd z11.size
            have hwj7 : IntKind.i64.wrap ((j : Int) + 7) = ((j + 7 : Nat) : Int) := by rw [IntWalk.i64_in _ (by omega)]; omega
            clear T11 z11 bd
            refine wp_region_X (S := fun w' => Lies D 0 [.int .u64 ((d1.1).m.toNat : Int), .int .u64 ((d1.1).q.toNat : Int), .int .u64 ((d1.1).z.toNat : Int), .int .u64 ((d1.1).r.a.toNat : Int), .int .u64 ((d1.1).r.b.toNat : Int), .int .u64 ((d1.1).r.c.toNat : Int), .int .u64 ((d1.1).r.d.toNat : Int), .int .u64 ((d1.2).m.toNat : Int), .int .u64 ((d1.2).q.toNat : Int), .int .u64 ((d1.2).z.toNat : Int), .int .u64 ((d1.2).r.a.toNat : Int), .int .u64 ((d1.2).r.b.toNat : Int), .int .u64 ((d1.2).r.c.toNat : Int), .int .u64 ((d1.2).r.d.toNat : Int)] w') 10 (by kernel_rfl) T12.1 (fun hHeld => ?_)
            refine wpAnyX_take (i := 0) (oi := { dst := some 59, op := Op.load 35 (Operand.tmp 3), type := 35, pos := "laws.go:612", after := #[], guard := none }) (v := .agg #[.int .u64 ((d1.1).m.toNat : Int), .int .u64 ((d1.1).q.toNat : Int), .int .u64 ((d1.1).z.toNat : Int), .int .u64 ((d1.1).r.a.toNat : Int), .int .u64 ((d1.1).r.b.toNat : Int), .int .u64 ((d1.1).r.c.toNat : Int), .int .u64 ((d1.1).r.d.toNat : Int), .int .u64 ((d1.2).m.toNat : Int), .int .u64 ((d1.2).q.toNat : Int), .int .u64 ((d1.2).z.toNat : Int), .int .u64 ((d1.2).r.a.toNat : Int), .int .u64 ((d1.2).r.b.toNat : Int), .int .u64 ((d1.2).r.c.toNat : Int), .int .u64 ((d1.2).r.d.toNat : Int)]) rfl (by kernel_rfl) (by kernel_rfl) (by kernel_rfl) (by kernel_rfl) (fun _ _ _ h => h) (Or.inl ⟨by rfl, ?_⟩) (by assumption) ?_
            · (intro wq hq; exact run_load_op agg_disk D 0 [.int .u64 ((d1.1).m.toNat : Int), .int .u64 ((d1.1).q.toNat : Int), .int .u64 ((d1.1).z.toNat : Int), .int .u64 ((d1.1).r.a.toNat : Int), .int .u64 ((d1.1).r.b.toNat : Int), .int .u64 ((d1.1).r.c.toNat : Int), .int .u64 ((d1.1).r.d.toNat : Int), .int .u64 ((d1.2).m.toNat : Int), .int .u64 ((d1.2).q.toNat : Int), .int .u64 ((d1.2).z.toNat : Int), .int .u64 ((d1.2).r.a.toNat : Int), .int .u64 ((d1.2).r.b.toNat : Int), .int .u64 ((d1.2).r.c.toNat : Int), .int .u64 ((d1.2).r.d.toNat : Int)] (by kernel_rfl) (by kernel_rfl) hq)
            try simp only [Act.put, List.setIfInBounds_toArray, List.set_cons_zero, List.set_cons_succ]
            refine wpAnyX_take (i := 1) (oi := { dst := some 60, op := Op.load 35 (Operand.tmp 3), type := 35, pos := "laws.go:612", after := #[], guard := none }) (v := .agg #[.int .u64 ((d1.1).m.toNat : Int), .int .u64 ((d1.1).q.toNat : Int), .int .u64 ((d1.1).z.toNat : Int), .int .u64 ((d1.1).r.a.toNat : Int), .int .u64 ((d1.1).r.b.toNat : Int), .int .u64 ((d1.1).r.c.toNat : Int), .int .u64 ((d1.1).r.d.toNat : Int), .int .u64 ((d1.2).m.toNat : Int), .int .u64 ((d1.2).q.toNat : Int), .int .u64 ((d1.2).z.toNat : Int), .int .u64 ((d1.2).r.a.toNat : Int), .int .u64 ((d1.2).r.b.toNat : Int), .int .u64 ((d1.2).r.c.toNat : Int), .int .u64 ((d1.2).r.d.toNat : Int)]) rfl (by kernel_rfl) (by kernel_rfl) (by kernel_rfl) (by kernel_rfl) (fun _ _ _ h => h) (Or.inl ⟨by rfl, ?_⟩) (by assumption) ?_
            · (intro wq hq; exact run_load_op agg_disk D 0 [.int .u64 ((d1.1).m.toNat : Int), .int .u64 ((d1.1).q.toNat : Int), .int .u64 ((d1.1).z.toNat : Int), .int .u64 ((d1.1).r.a.toNat : Int), .int .u64 ((d1.1).r.b.toNat : Int), .int .u64 ((d1.1).r.c.toNat : Int), .int .u64 ((d1.1).r.d.toNat : Int), .int .u64 ((d1.2).m.toNat : Int), .int .u64 ((d1.2).q.toNat : Int), .int .u64 ((d1.2).z.toNat : Int), .int .u64 ((d1.2).r.a.toNat : Int), .int .u64 ((d1.2).r.b.toNat : Int), .int .u64 ((d1.2).r.c.toNat : Int), .int .u64 ((d1.2).r.d.toNat : Int)] (by kernel_rfl) (by kernel_rfl) hq)
            try simp only [Act.put, List.setIfInBounds_toArray, List.set_cons_zero, List.set_cons_succ]
            refine wpAnyX_take (i := 3) (oi := { dst := some 62, op := Op.move (Operand.tmp 0), type := 43, pos := "laws.go:612", after := #[], guard := none }) (v := .slice oa L.length cap) rfl (by kernel_rfl) (by kernel_rfl) (by kernel_rfl) (by kernel_rfl) (fun _ _ _ h => h) (Or.inl ⟨by rfl, ?_⟩) (by assumption) ?_
            · (intro wq hq; go_simp)
            try simp only [Act.put, List.setIfInBounds_toArray, List.set_cons_zero, List.set_cons_succ]
            refine wpAnyX_take (i := 4) (oi := { dst := some 63, op := Op.move (Operand.tmp 8), type := 3, pos := "laws.go:612", after := #[], guard := none }) (v := .int .i64 (j : Int)) rfl (by kernel_rfl) (by kernel_rfl) (by kernel_rfl) (by kernel_rfl) (fun _ _ _ h => h) (Or.inl ⟨by rfl, ?_⟩) (by assumption) ?_
            · (intro wq hq; go_simp)
            try simp only [Act.put, List.setIfInBounds_toArray, List.set_cons_zero, List.set_cons_succ]
            refine wpAnyX_take (i := 5) (oi := { dst := some 64, op := Op.binOp BinOp.add 3 (Operand.tmp 63) (Operand.const (Value.int IntKind.i64 7)) 3, type := 3, pos := "laws.go:612", after := #[{ on := 4, ground := Ground.data }], guard := none }) (v := .int .i64 ((j + 7 : Nat) : Int)) rfl (by kernel_rfl) (by kernel_rfl) (by kernel_rfl) (by kernel_rfl) (fun _ _ _ h => h) (Or.inl ⟨by rfl, ?_⟩) (by assumption) ?_
            · (intro wq hq; go_simp)
            try simp only [Act.put, List.setIfInBounds_toArray, List.set_cons_zero, List.set_cons_succ]
            refine wpAnyX_ready (i := 2) (o := { dst := some 61, op := Op.call { callee := Callee.value (Operand.func 15), args := #[Operand.tmp 60], argTypes := #[35] }, type := 29, pos := "laws.go:612", after := #[{ on := 1, ground := Ground.data }], guard := none }) (by kernel_rfl) rfl (fun K hK => ?_)
            go_simp
            go_at_call 15
            refine (cm _).mono ?_
            rintro e w13 ⟨v13, rfl, ho13, b13⟩
            have T13 := T12.call b13
            have z13 := below_after z12 b13 z12.size
            have O13 := owr_rws ho13
            clear T12 z12 b13 ho13 cm
            go_simp
            refine hK.out _ _ T13.1 (fun hHeld => ?_)
            clear hK K
            refine wpAnyX_ready (i := 6) (o := { dst := some 65, op := Op.call { callee := Callee.value (Operand.func 21), args := #[Operand.tmp 62, Operand.tmp 64], argTypes := #[43, 3] }, type := 5, pos := "laws.go:612", after := #[{ on := 3, ground := Ground.data }, { on := 5, ground := Ground.data }, { on := 2, ground := Ground.chain }], guard := none }) (by kernel_rfl) rfl (fun K hK => ?_)
            go_simp
            go_at_call 21
            refine (at_any (j + 7) (by omega) _ _ L (HV.out.call z13) hL).mono ?_
            rintro e w14 ⟨x14, hx14, rfl, b14⟩
            have T14 := T13.call b14
            have z14 := below_after z13 b14 z13.size
            have O14 := O13.call b14
            have hw14 : IntKind.i64.wrap (x14 : Int) = (x14 : Int) := IntWalk.i64_in _ (by omega)
            obtain ⟨m, hm, tm, tm'⟩ := rem8 x14 hx14
            clear T13 z13 O13 b14
            go_simp
            refine hK.out _ _ T14.1 (fun hHeld => ?_)
            clear hK K
            refine wpAnyX_take (i := 7) (oi := { dst := some 66, op := Op.convert 5 3 (Operand.tmp 65), type := 3, pos := "laws.go:612", after := #[{ on := 6, ground := Ground.data }], guard := none }) (v := .int .i64 (x14 : Int)) rfl (by kernel_rfl) (by kernel_rfl) (by kernel_rfl) (by kernel_rfl) (fun _ _ _ h => h) (Or.inl ⟨by rfl, ?_⟩) (by assumption) ?_
            · (intro wq hq; go_simp)
            try simp only [Act.put, List.setIfInBounds_toArray, List.set_cons_zero, List.set_cons_succ]
            refine wpAnyX_take (i := 8) (oi := { dst := some 67, op := Op.binOp BinOp.rem 3 (Operand.tmp 66) (Operand.const (Value.int IntKind.i64 8)) 3, type := 3, pos := "laws.go:612", after := #[{ on := 7, ground := Ground.data }], guard := none }) (v := .int .i64 (m : Int)) rfl (by kernel_rfl) (by kernel_rfl) (by kernel_rfl) (by kernel_rfl) (fun _ _ _ h => h) (Or.inl ⟨by rfl, ?_⟩) (by assumption) ?_
            · (intro wq hq; go_simp)
            try simp only [Act.put, List.setIfInBounds_toArray, List.set_cons_zero, List.set_cons_succ]
            refine wpAnyX_ready (i := 9) (o := { dst := some 68, op := Op.call { callee := Callee.value (Operand.func 19), args := #[Operand.tmp 59, Operand.tmp 61, Operand.tmp 67], argTypes := #[35, 29, 3] }, type := 35, pos := "laws.go:612", after := #[{ on := 0, ground := Ground.data }, { on := 2, ground := Ground.data }, { on := 8, ground := Ground.data }, { on := 6, ground := Ground.chain }], guard := none }) (by kernel_rfl) rfl (fun K hK => ?_)
            go_simp
            go_at_call 19
            refine (cut_impl _ d1.1 d1.2 v13 M (m : Int) O14 (by omega)).mono ?_
            rintro e w15 ⟨rfl, b15⟩
            have T15 := T14.call b15
            have z15 := below_after z14 b15 z14.size
            have hrd2 := hmd (ncut (m : Int) M.length)
            have TR15 := T15.2.1
            generalize dws (d1.1, d1.2) (M.take (ncut (m : Int) M.length)) = d2 at hrd2
            clear T14 z14 O14 b15 hmd tm tm' hx14 hw14
            go_simp
            refine hK.out _ _ T15.1 (fun hHeld => ?_)
            clear hK K
            refine wpAnyX_last (o := { dst := none, op := Op.store 35 (Operand.tmp 3) (Operand.tmp 68), type := 0, pos := "laws.go:612", after := #[{ on := 9, ground := Ground.data }, { on := 9, ground := Ground.chain }, { on := 0, ground := Ground.phase }, { on := 1, ground := Ground.phase }, { on := 2, ground := Ground.phase }, { on := 3, ground := Ground.phase }, { on := 4, ground := Ground.phase }, { on := 5, ground := Ground.phase }, { on := 6, ground := Ground.phase }, { on := 7, ground := Ground.phase }, { on := 8, ground := Ground.phase }, { on := 9, ground := Ground.phase }], guard := none }) (by kernel_rfl) rfl (fun K hK => ?_)
            rw [if_pos (by rfl)]
            refine wpo_store agg_disk D 0 [.int .u64 ((d2.1).m.toNat : Int), .int .u64 ((d2.1).q.toNat : Int), .int .u64 ((d2.1).z.toNat : Int), .int .u64 ((d2.1).r.a.toNat : Int), .int .u64 ((d2.1).r.b.toNat : Int), .int .u64 ((d2.1).r.c.toNat : Int), .int .u64 ((d2.1).r.d.toNat : Int), .int .u64 ((d2.2).m.toNat : Int), .int .u64 ((d2.2).q.toNat : Int), .int .u64 ((d2.2).z.toNat : Int), .int .u64 ((d2.2).r.a.toNat : Int), .int .u64 ((d2.2).r.b.toNat : Int), .int .u64 ((d2.2).r.c.toNat : Int), .int .u64 ((d2.2).r.d.toNat : Int)] (by kernel_rfl) (by kernel_rfl) (by kernel_rfl) (by kernel_rfl) TR15 ?_
            refine hK.out _ _ ?_
            clear hK K
            have T18 := T15.putD d2
            have z18 := Below.sc D hDw [.int .u64 ((d2.1).m.toNat : Int), .int .u64 ((d2.1).q.toNat : Int), .int .u64 ((d2.1).z.toNat : Int), .int .u64 ((d2.1).r.a.toNat : Int), .int .u64 ((d2.1).r.b.toNat : Int), .int .u64 ((d2.1).r.c.toNat : Int), .int .u64 ((d2.1).r.d.toNat : Int), .int .u64 ((d2.2).m.toNat : Int), .int .u64 ((d2.2).q.toNat : Int), .int .u64 ((d2.2).z.toNat : Int), .int .u64 ((d2.2).r.a.toNat : Int), .int .u64 ((d2.2).r.b.toNat : Int), .int .u64 ((d2.2).r.c.toNat : Int), .int .u64 ((d2.2).r.d.toNat : Int)] 0 _ z15
            clear hHeld T15 z15 TR15
            generalize w15.setCells D 0 [.int .u64 ((d2.1).m.toNat : Int), .int .u64 ((d2.1).q.toNat : Int), .int .u64 ((d2.1).z.toNat : Int), .int .u64 ((d2.1).r.a.toNat : Int), .int .u64 ((d2.1).r.b.toNat : Int), .int .u64 ((d2.1).r.c.toNat : Int), .int .u64 ((d2.1).r.d.toNat : Int), .int .u64 ((d2.2).m.toNat : Int), .int .u64 ((d2.2).q.toNat : Int), .int .u64 ((d2.2).z.toNat : Int), .int .u64 ((d2.2).r.a.toNat : Int), .int .u64 ((d2.2).r.b.toNat : Int), .int .u64 ((d2.2).r.c.toNat : Int), .int .u64 ((d2.2).r.d.toNat : Int)] = w18 at T18 z18 ⊢
            refine wpAnyX_done (by kernel_rfl) ?_ _
            have TD18 := T18.1
            have ci := fun V : World => rread_impl d2.1 d2.2 V
            rw [hrd2] at ci
            generalize hxx : rread d1.1 d1.2 = xx at T18 hrd2 ci ⊢
            go_upto_region 16 with (first
              | (with_reducible refine wpl_load agg_disk D 0 [.int .u64 ((d2.1).m.toNat : Int), .int .u64 ((d2.1).q.toNat : Int), .int .u64 ((d2.1).z.toNat : Int), .int .u64 ((d2.1).r.a.toNat : Int), .int .u64 ((d2.1).r.b.toNat : Int), .int .u64 ((d2.1).r.c.toNat : Int), .int .u64 ((d2.1).r.d.toNat : Int), .int .u64 ((d2.2).m.toNat : Int), .int .u64 ((d2.2).q.toNat : Int), .int .u64 ((d2.2).z.toNat : Int), .int .u64 ((d2.2).r.a.toNat : Int), .int .u64 ((d2.2).r.b.toNat : Int), .int .u64 ((d2.2).r.c.toNat : Int), .int .u64 ((d2.2).r.d.toNat : Int)] (by kernel_rfl) (by kernel_rfl) TD18 ?_)
              | (go_at_call 18; refine (ci _).mono ?_; rintro e w19 ⟨rfl, b19⟩; have T19 := T18.call b19; have z19 := below_after z18 b19 z18.size; clear TD18 T18 z18 b19))
            have ba := (Below.refl w19.heap.size w19).alloc (Nat.le_refl _) (.cells #[.int .i64 ((xx.1).q.toNat : Int), .int .i64 ((xx.1).z.toNat : Int), .int .u64 (((xx.1).r.a).toNat : Int), .int .u64 (((xx.1).r.b).toNat : Int), .int .u64 (((xx.1).r.c).toNat : Int), .int .u64 (((xx.1).r.d).toNat : Int)] 47)
            have T20 := T19.call ba
            have N20 : Lies w19.heap.size 0 [.int .i64 ((xx.1).q.toNat : Int), .int .i64 ((xx.1).z.toNat : Int), .int .u64 (((xx.1).r.a).toNat : Int), .int .u64 (((xx.1).r.b).toNat : Int), .int .u64 (((xx.1).r.c).toNat : Int), .int .u64 (((xx.1).r.d).toNat : Int)] (w19.alloc (.cells #[.int .i64 ((xx.1).q.toNat : Int), .int .i64 ((xx.1).z.toNat : Int), .int .u64 (((xx.1).r.a).toNat : Int), .int .u64 (((xx.1).r.b).toNat : Int), .int .u64 (((xx.1).r.c).toNat : Int), .int .u64 (((xx.1).r.d).toNat : Int)] 47)) := Lies.new w19 [.int .i64 ((xx.1).q.toNat : Int), .int .i64 ((xx.1).z.toNat : Int), .int .u64 (((xx.1).r.a).toNat : Int), .int .u64 (((xx.1).r.b).toNat : Int), .int .u64 (((xx.1).r.c).toNat : Int), .int .u64 (((xx.1).r.d).toNat : Int)] 47
            have z20 := z19.alloc z19.size (.cells #[.int .i64 ((xx.1).q.toNat : Int), .int .i64 ((xx.1).z.toNat : Int), .int .u64 (((xx.1).r.a).toNat : Int), .int .u64 (((xx.1).r.b).toNat : Int), .int .u64 (((xx.1).r.c).toNat : Int), .int .u64 (((xx.1).r.d).toNat : Int)] 47)
            clear T19 z19 ba hxx
            generalize w19.alloc (.cells #[.int .i64 ((xx.1).q.toNat : Int), .int .i64 ((xx.1).z.toNat : Int), .int .u64 (((xx.1).r.a).toNat : Int), .int .u64 (((xx.1).r.b).toNat : Int), .int .u64 (((xx.1).r.c).toNat : Int), .int .u64 (((xx.1).r.d).toNat : Int)] 47) = w20 at T20 N20 z20 ⊢
            generalize w19.heap.size = N at N20 ⊢
            obtain ⟨-, -, TQ20, TF20, TX20, -⟩ := id T20
            have q0 := TQ20 0 _ rfl
            have q1 := TF20.2 0 (by omega)
            rw [Nat.zero_add] at q0 q1
            clear TQ20 TF20
            go_wp2_with (first
              | (with_reducible refine wpl_load agg_rec N 0 [.int .i64 ((xx.1).q.toNat : Int), .int .i64 ((xx.1).z.toNat : Int), .int .u64 (((xx.1).r.a).toNat : Int), .int .u64 (((xx.1).r.b).toNat : Int), .int .u64 (((xx.1).r.c).toNat : Int), .int .u64 (((xx.1).r.d).toNat : Int)] (by kernel_rfl) ?_ N20 ?_; · (simp [Act.eval]; done))
              | (with_reducible refine wpl_load agg_rec X 0 [.int .i64 ((xx.1).q.toNat : Int), .int .i64 ((xx.1).z.toNat : Int), .int .u64 (((xx.1).r.a).toNat : Int), .int .u64 (((xx.1).r.b).toNat : Int), .int .u64 (((xx.1).r.c).toNat : Int), .int .u64 (((xx.1).r.d).toNat : Int)] (by kernel_rfl) ?_ TX20 ?_; · (simp [Act.eval, Act.put]; done)))
            go_roundw
            case measure => simp [intOf]; omega
            case rel => exact ⟨j + 1, d2, ⟨q.a + 1, q.b, q.c, q.d⟩, (by go_num), by omega, by rw [hrd2]; exact T20.putA (q.a + 1), z20.setCell (p := ⟨D + 1, 0, none⟩) (by show w.heap.size ≤ D + 1; omega) _⟩
      · have hj60 : j = 6 := by omega
        subst hj60
        have cr := fun V : World => rraws_impl d.1 d.2 n q V
        have cs := fun V : World => rraws_spec d.1 d.2 n q V (by omega) (by omega)
        generalize rraws d.1 d.2 n q = R at cr cs
        go_upto_region 19 with fail
        have bd := (Below.refl wr.heap.size wr).drew
        have T7 := T6.call bd
        have z7 := below_after z6 bd z6.size
        clear T6 z6 bd
        refine wp_region_held_drew (S := fun w' => Lies D 0 [.int .u64 ((d.1).m.toNat : Int), .int .u64 ((d.1).q.toNat : Int), .int .u64 ((d.1).z.toNat : Int), .int .u64 ((d.1).r.a.toNat : Int), .int .u64 ((d.1).r.b.toNat : Int), .int .u64 ((d.1).r.c.toNat : Int), .int .u64 ((d.1).r.d.toNat : Int), .int .u64 ((d.2).m.toNat : Int), .int .u64 ((d.2).q.toNat : Int), .int .u64 ((d.2).z.toNat : Int), .int .u64 ((d.2).r.a.toNat : Int), .int .u64 ((d.2).r.b.toNat : Int), .int .u64 ((d.2).r.c.toNat : Int), .int .u64 ((d.2).r.d.toNat : Int)] w' ∧ Lies (D + 1) 0 [.int .u64 ((q.a).toNat : Int), .int .u64 ((q.b).toNat : Int), .int .u64 ((q.c).toNat : Int), .int .u64 ((q.d).toNat : Int)] w') (by kernel_rfl) ⟨T7.1, T7.2.2.1⟩ (fun hHeld => ?_)
        refine wpAnyH_take (i := 0) (oi := { dst := some 81, op := Op.load 35 (Operand.tmp 3), type := 35, pos := "laws.go:619", after := #[], guard := none }) (v := .agg #[.int .u64 ((d.1).m.toNat : Int), .int .u64 ((d.1).q.toNat : Int), .int .u64 ((d.1).z.toNat : Int), .int .u64 ((d.1).r.a.toNat : Int), .int .u64 ((d.1).r.b.toNat : Int), .int .u64 ((d.1).r.c.toNat : Int), .int .u64 ((d.1).r.d.toNat : Int), .int .u64 ((d.2).m.toNat : Int), .int .u64 ((d.2).q.toNat : Int), .int .u64 ((d.2).z.toNat : Int), .int .u64 ((d.2).r.a.toNat : Int), .int .u64 ((d.2).r.b.toNat : Int), .int .u64 ((d.2).r.c.toNat : Int), .int .u64 ((d.2).r.d.toNat : Int)]) rfl (by kernel_rfl) (by kernel_rfl) (by kernel_rfl) (fun _ _ _ h => h) (Or.inl ⟨by rfl, ?_⟩) (by assumption) ?_
        · (intro wq hq; exact run_load_op agg_disk D 0 [.int .u64 ((d.1).m.toNat : Int), .int .u64 ((d.1).q.toNat : Int), .int .u64 ((d.1).z.toNat : Int), .int .u64 ((d.1).r.a.toNat : Int), .int .u64 ((d.1).r.b.toNat : Int), .int .u64 ((d.1).r.c.toNat : Int), .int .u64 ((d.1).r.d.toNat : Int), .int .u64 ((d.2).m.toNat : Int), .int .u64 ((d.2).q.toNat : Int), .int .u64 ((d.2).z.toNat : Int), .int .u64 ((d.2).r.a.toNat : Int), .int .u64 ((d.2).r.b.toNat : Int), .int .u64 ((d.2).r.c.toNat : Int), .int .u64 ((d.2).r.d.toNat : Int)] (by kernel_rfl) (by kernel_rfl) hq.1)
        try simp only [Act.put, List.setIfInBounds_toArray, List.set_cons_zero, List.set_cons_succ]
        refine wpAnyH_take (i := 5) (oi := { dst := some 86, op := Op.load 35 (Operand.tmp 3), type := 35, pos := "laws.go:619", after := #[], guard := none }) (v := .agg #[.int .u64 ((d.1).m.toNat : Int), .int .u64 ((d.1).q.toNat : Int), .int .u64 ((d.1).z.toNat : Int), .int .u64 ((d.1).r.a.toNat : Int), .int .u64 ((d.1).r.b.toNat : Int), .int .u64 ((d.1).r.c.toNat : Int), .int .u64 ((d.1).r.d.toNat : Int), .int .u64 ((d.2).m.toNat : Int), .int .u64 ((d.2).q.toNat : Int), .int .u64 ((d.2).z.toNat : Int), .int .u64 ((d.2).r.a.toNat : Int), .int .u64 ((d.2).r.b.toNat : Int), .int .u64 ((d.2).r.c.toNat : Int), .int .u64 ((d.2).r.d.toNat : Int)]) rfl (by kernel_rfl) (by kernel_rfl) (by kernel_rfl) (fun _ _ _ h => h) (Or.inl ⟨by rfl, ?_⟩) (by assumption) ?_
        · (intro wq hq; exact run_load_op agg_disk D 0 [.int .u64 ((d.1).m.toNat : Int), .int .u64 ((d.1).q.toNat : Int), .int .u64 ((d.1).z.toNat : Int), .int .u64 ((d.1).r.a.toNat : Int), .int .u64 ((d.1).r.b.toNat : Int), .int .u64 ((d.1).r.c.toNat : Int), .int .u64 ((d.1).r.d.toNat : Int), .int .u64 ((d.2).m.toNat : Int), .int .u64 ((d.2).q.toNat : Int), .int .u64 ((d.2).z.toNat : Int), .int .u64 ((d.2).r.a.toNat : Int), .int .u64 ((d.2).r.b.toNat : Int), .int .u64 ((d.2).r.c.toNat : Int), .int .u64 ((d.2).r.d.toNat : Int)] (by kernel_rfl) (by kernel_rfl) hq.1)
        try simp only [Act.put, List.setIfInBounds_toArray, List.set_cons_zero, List.set_cons_succ]
        refine wpAnyH_take (i := 1) (oi := { dst := some 82, op := Op.move (Operand.tmp 4), type := 3, pos := "laws.go:619", after := #[], guard := none }) (v := .int .i64 n) rfl (by kernel_rfl) (by kernel_rfl) (by kernel_rfl) (fun _ _ _ h => h) (Or.inl ⟨by rfl, ?_⟩) (by assumption) ?_
        · (intro wq hq; go_simp)
        try simp only [Act.put, List.setIfInBounds_toArray, List.set_cons_zero, List.set_cons_succ]
        refine wpAnyH_take (i := 6) (oi := { dst := some 87, op := Op.move (Operand.tmp 4), type := 3, pos := "laws.go:619", after := #[], guard := none }) (v := .int .i64 n) rfl (by kernel_rfl) (by kernel_rfl) (by kernel_rfl) (fun _ _ _ h => h) (Or.inl ⟨by rfl, ?_⟩) (by assumption) ?_
        · (intro wq hq; go_simp)
        try simp only [Act.put, List.setIfInBounds_toArray, List.set_cons_zero, List.set_cons_succ]
        refine wpAnyH_take (i := 2) (oi := { dst := some 83, op := Op.load 31 (Operand.tmp 5), type := 31, pos := "laws.go:619", after := #[], guard := none }) (v := .agg #[.int .u64 ((q.a).toNat : Int), .int .u64 ((q.b).toNat : Int), .int .u64 ((q.c).toNat : Int), .int .u64 ((q.d).toNat : Int)]) rfl (by kernel_rfl) (by kernel_rfl) (by kernel_rfl) (fun _ _ _ h => h) (Or.inl ⟨by rfl, ?_⟩) (by assumption) ?_
        · (intro wq hq; exact run_load_op agg_dg4 (D + 1) 0 [.int .u64 ((q.a).toNat : Int), .int .u64 ((q.b).toNat : Int), .int .u64 ((q.c).toNat : Int), .int .u64 ((q.d).toNat : Int)] (by kernel_rfl) (by kernel_rfl) hq.2)
        try simp only [Act.put, List.setIfInBounds_toArray, List.set_cons_zero, List.set_cons_succ]
        refine wpAnyH_take (i := 7) (oi := { dst := some 88, op := Op.load 31 (Operand.tmp 5), type := 31, pos := "laws.go:619", after := #[], guard := none }) (v := .agg #[.int .u64 ((q.a).toNat : Int), .int .u64 ((q.b).toNat : Int), .int .u64 ((q.c).toNat : Int), .int .u64 ((q.d).toNat : Int)]) rfl (by kernel_rfl) (by kernel_rfl) (by kernel_rfl) (fun _ _ _ h => h) (Or.inl ⟨by rfl, ?_⟩) (by assumption) ?_
        · (intro wq hq; exact run_load_op agg_dg4 (D + 1) 0 [.int .u64 ((q.a).toNat : Int), .int .u64 ((q.b).toNat : Int), .int .u64 ((q.c).toNat : Int), .int .u64 ((q.d).toNat : Int)] (by kernel_rfl) (by kernel_rfl) hq.2)
        try simp only [Act.put, List.setIfInBounds_toArray, List.set_cons_zero, List.set_cons_succ]
        refine wpAnyH_ready (rs := [3]) (by kernel_rfl) (by simp) ?_
        refine AllReadyH.cons (o := { dst := some 84, op := Op.call { callee := Callee.value (Operand.func 10), args := #[Operand.tmp 81, Operand.tmp 82, Operand.tmp 83], argTypes := #[35, 3, 31] }, type := 29, pos := "laws.go:619", after := #[{ on := 0, ground := Ground.data }, { on := 1, ground := Ground.data }, { on := 2, ground := Ground.data }], guard := none }) rfl (fun K hK => ?_) AllReadyH.nil
        go_simp
        go_at_call 10
        refine (cr _).mono ?_
        rintro e w8 ⟨v8, rfl, ho8, b8⟩
        have T8 := T7.call b8
        have z8 := below_after z7 b8 z7.size
        obtain ⟨a8, c8, rfl, hl8⟩ := (owr_rws ho8).len
        clear T7 z7 b8 ho8
        go_simp
        refine hK.out _ _ ⟨T8.1, T8.2.2.1⟩ (fun hHeld => ?_)
        clear hK K
        refine wpAnyH_take (i := 4) (oi := { dst := some 85, op := Op.call { callee := Callee.builtin Builtin.len, args := #[Operand.tmp 84], argTypes := #[29] }, type := 3, pos := "laws.go:619", after := #[{ on := 3, ground := Ground.data }], guard := none }) (v := .int .i64 (R.length : Int)) rfl (by kernel_rfl) (by kernel_rfl) (by kernel_rfl) (fun _ _ _ h => h) (Or.inl ⟨by rfl, ?_⟩) (by assumption) ?_
        · (intro wq hq; go_simp)
        try simp only [Act.put, List.setIfInBounds_toArray, List.set_cons_zero, List.set_cons_succ]
        refine wpAnyH_ready (rs := [8]) (by kernel_rfl) (by simp) ?_
        refine AllReadyH.cons (o := { dst := some 89, op := Op.call { callee := Callee.value (Operand.func 7), args := #[Operand.tmp 86, Operand.tmp 87, Operand.tmp 88], argTypes := #[35, 3, 31] }, type := 29, pos := "laws.go:619", after := #[{ on := 5, ground := Ground.data }, { on := 6, ground := Ground.data }, { on := 7, ground := Ground.data }, { on := 3, ground := Ground.chain }], guard := none }) rfl (fun K hK => ?_) AllReadyH.nil
        go_simp
        go_at_call 7
        refine (cs _).mono ?_
        rintro e w9 ⟨v9, rfl, ho9, b9⟩
        have T9 := T8.call b9
        have z9 := below_after z8 b9 z8.size
        obtain ⟨a9, c9, rfl, hl9⟩ := (owr_rws ho9).len
        clear T8 z8 b9 ho9
        go_simp
        refine hK.out _ _ ⟨T9.1, T9.2.2.1⟩ (fun hHeld => ?_)
        clear hK K
        refine wpAnyH_take (i := 9) (oi := { dst := some 90, op := Op.call { callee := Callee.builtin Builtin.len, args := #[Operand.tmp 89], argTypes := #[29] }, type := 3, pos := "laws.go:619", after := #[{ on := 8, ground := Ground.data }], guard := none }) (v := .int .i64 (R.length : Int)) rfl (by kernel_rfl) (by kernel_rfl) (by kernel_rfl) (fun _ _ _ h => h) (Or.inl ⟨by rfl, ?_⟩) (by assumption) ?_
        · (intro wq hq; go_simp)
        try simp only [Act.put, List.setIfInBounds_toArray, List.set_cons_zero, List.set_cons_succ]
        refine wpAnyH_take (i := 10) (oi := { dst := some 91, op := Op.binOp BinOp.eql 3 (Operand.tmp 85) (Operand.tmp 90) 3, type := 4, pos := "laws.go:619", after := #[{ on := 4, ground := Ground.data }, { on := 9, ground := Ground.data }], guard := none }) (v := .bool true) rfl (by kernel_rfl) (by kernel_rfl) (by kernel_rfl) (fun _ _ _ h => h) (Or.inl ⟨by rfl, ?_⟩) (by assumption) ?_
        · (intro wq hq; go_simp)
        try simp only [Act.put, List.setIfInBounds_toArray, List.set_cons_zero, List.set_cons_succ]
        refine wpAnyH_take (i := 11) (oi := { dst := some 2, op := Op.assign (Operand.tmp 91), type := 4, pos := "laws.go:619", after := #[{ on := 10, ground := Ground.data }, { on := 8, ground := Ground.chain }, { on := 0, ground := Ground.phase }, { on := 1, ground := Ground.phase }, { on := 2, ground := Ground.phase }, { on := 3, ground := Ground.phase }, { on := 4, ground := Ground.phase }, { on := 5, ground := Ground.phase }, { on := 6, ground := Ground.phase }, { on := 7, ground := Ground.phase }, { on := 8, ground := Ground.phase }, { on := 9, ground := Ground.phase }, { on := 10, ground := Ground.phase }], guard := none }) (v := .bool true) rfl (by kernel_rfl) (by kernel_rfl) (by kernel_rfl) (fun _ _ _ h => h) (Or.inl ⟨by rfl, ?_⟩) (by assumption) ?_
        · (intro wq hq; go_simp)
        try simp only [Act.put, List.setIfInBounds_toArray, List.set_cons_zero, List.set_cons_succ]
        refine wpAnyH_done (by kernel_rfl) ?_ _
        clear hHeld
        go_wp2_with fail
        go_ret
        exact ⟨rfl, z9⟩
end Go.Proofs.Ytbmkknbbikoilaa
