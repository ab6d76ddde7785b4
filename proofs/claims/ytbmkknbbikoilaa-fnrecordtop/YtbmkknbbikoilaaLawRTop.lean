/-
  The law of a record that is kept whole or not at all, walked.
-/
import Derived.Test.YtbmkknbbikoilaaLT7
namespace Go.Proofs.Ytbmkknbbikoilaa
open Go.RowKit Go.MuLone

set_option maxRecDepth 200000 in
set_option maxHeartbeats 8000000 in
theorem lawTop (v : Value) (L : List UInt8) (w : World) (hV : Byt w v L) :
    Calls Try.prog 5 #[v] w fun e w' => e = .returned (.bool true) ∧ Below w.heap.size w w' := by
  obtain ⟨oa, cap, hv⟩ : ∃ a cap, v = .slice a L.length cap := by
    rcases hV with ⟨rfl, rfl⟩ | ⟨a, cap, rfl, _⟩
    · exact ⟨none, 0, rfl⟩
    · exact ⟨some a, cap, rfl⟩
  by_cases hbig : 1048576 < L.length
  · have hbI : (1048576 : Int) < (L.length : Int) := by omega
    subst hv
    clear hV
    go_enter Try.func5, Try.ntmps5
    go_wp2_with fail
    go_ret
    exact ⟨rfl, Below.refl _ _⟩
  · have hbI : ¬ (1048576 : Int) < (L.length : Int) := by omega
    have co := drawRaws_is w v L hV
    subst hv
    clear hV hbig
    go_enter Try.func5, Try.ntmps5
    go_upto_region 4 with (go_at_call 16; refine co.mono ?_; rintro e w1 ⟨d, n, q, rfl, hn, b1⟩; clear co)
    have T2 := LT7.new w1 d q
    have b2 : Below w.heap.size w ((w1.alloc (.cells #[.int .u64 ((d.1).m.toNat : Int), .int .u64 ((d.1).q.toNat : Int), .int .u64 ((d.1).z.toNat : Int), .int .u64 ((d.1).r.a.toNat : Int), .int .u64 ((d.1).r.b.toNat : Int), .int .u64 ((d.1).r.c.toNat : Int), .int .u64 ((d.1).r.d.toNat : Int), .int .u64 ((d.2).m.toNat : Int), .int .u64 ((d.2).q.toNat : Int), .int .u64 ((d.2).z.toNat : Int), .int .u64 ((d.2).r.a.toNat : Int), .int .u64 ((d.2).r.b.toNat : Int), .int .u64 ((d.2).r.c.toNat : Int), .int .u64 ((d.2).r.d.toNat : Int)] 35)).alloc (.cells #[.int .u64 ((q.a).toNat : Int), .int .u64 ((q.b).toNat : Int), .int .u64 ((q.c).toNat : Int), .int .u64 ((q.d).toNat : Int)] 31)) := (b1.alloc b1.size _).alloc (by have := b1.size; simp only [World.size_alloc]; omega) _
    generalize (w1.alloc (.cells #[.int .u64 ((d.1).m.toNat : Int), .int .u64 ((d.1).q.toNat : Int), .int .u64 ((d.1).z.toNat : Int), .int .u64 ((d.1).r.a.toNat : Int), .int .u64 ((d.1).r.b.toNat : Int), .int .u64 ((d.1).r.c.toNat : Int), .int .u64 ((d.1).r.d.toNat : Int), .int .u64 ((d.2).m.toNat : Int), .int .u64 ((d.2).q.toNat : Int), .int .u64 ((d.2).z.toNat : Int), .int .u64 ((d.2).r.a.toNat : Int), .int .u64 ((d.2).r.b.toNat : Int), .int .u64 ((d.2).r.c.toNat : Int), .int .u64 ((d.2).r.d.toNat : Int)] 35)).alloc (.cells #[.int .u64 ((q.a).toNat : Int), .int .u64 ((q.b).toNat : Int), .int .u64 ((q.c).toNat : Int), .int .u64 ((q.d).toNat : Int)] 31) = w2 at T2 b2 ⊢
    generalize w1.heap.size = D at T2 ⊢
    clear b1 w1 hbI
    obtain ⟨TD2, TQ2, lD2⟩ := id T2
    have cr := fun V : World => rraws_impl d.1 d.2 n q V
    have cs := fun V : World => rread_spec d.1 d.2 V
    have F7 := fun (c : Nat) (hc : c ≤ 7) => rread_cut d.1 d.2 n q c hc
    have F8 := fun (c : Nat) (hc : 8 ≤ c) (h : slok (y1 (want (rread d.1 d.2).1 n q)) = true) => rread_full d.1 d.2 n q c hc h
    have FN := tonum_ne d.1 d.2
    have F0 := rraws_none d.1 d.2 n q
    have F1 := rraws_full d.1 d.2 n q
    obtain ⟨hxq, hx2⟩ := rread_bnd d.1 d.2
    have hok := want_ok (rread d.1 d.2).1 n q hxq (by omega) (by omega)
    generalize rread d.1 d.2 = x at cs F7 F8 FN F0 F1 hxq hx2 hok
    generalize rraws d.1 d.2 n q = R at cr F7 F8 F0 F1
    have hRl : slok (y1 (want x.1 n q)) = true → R.length = 8 := fun h => by rw [F1 h]; rfl
    have hR0 : slok (y1 (want x.1 n q)) = false → R.length = 0 := fun h => by rw [F0 h]; rfl
    generalize tonum d.1 d.2 = tn at F1 F8 FN
    clear F0 F1
    go_upto_region 5 with (first
      | (with_reducible refine wpl_load agg_disk D 0 [.int .u64 ((d.1).m.toNat : Int), .int .u64 ((d.1).q.toNat : Int), .int .u64 ((d.1).z.toNat : Int), .int .u64 ((d.1).r.a.toNat : Int), .int .u64 ((d.1).r.b.toNat : Int), .int .u64 ((d.1).r.c.toNat : Int), .int .u64 ((d.1).r.d.toNat : Int), .int .u64 ((d.2).m.toNat : Int), .int .u64 ((d.2).q.toNat : Int), .int .u64 ((d.2).z.toNat : Int), .int .u64 ((d.2).r.a.toNat : Int), .int .u64 ((d.2).r.b.toNat : Int), .int .u64 ((d.2).r.c.toNat : Int), .int .u64 ((d.2).r.d.toNat : Int)] (by kernel_rfl) (by kernel_rfl) TD2 ?_)
      | (with_reducible refine wpl_load agg_dg4 (D + 1) 0 [.int .u64 ((q.a).toNat : Int), .int .u64 ((q.b).toNat : Int), .int .u64 ((q.c).toNat : Int), .int .u64 ((q.d).toNat : Int)] (by kernel_rfl) (by kernel_rfl) TQ2 ?_)
      | (go_at_call 10; refine (cr _).mono ?_; rintro e w3 ⟨v3, rfl, ho3, b3⟩; have T3 := T2.call b3; have O3 := owr_rws ho3; have z3 := below_after b2 b3 b2.size; clear T2 TD2 TQ2 ho3 b3 b2 cr))
    obtain ⟨TD3, TQ3, lD3⟩ := id T3
    go_upto_region 6 with (first
      | (with_reducible refine wpl_load agg_disk D 0 [.int .u64 ((d.1).m.toNat : Int), .int .u64 ((d.1).q.toNat : Int), .int .u64 ((d.1).z.toNat : Int), .int .u64 ((d.1).r.a.toNat : Int), .int .u64 ((d.1).r.b.toNat : Int), .int .u64 ((d.1).r.c.toNat : Int), .int .u64 ((d.1).r.d.toNat : Int), .int .u64 ((d.2).m.toNat : Int), .int .u64 ((d.2).q.toNat : Int), .int .u64 ((d.2).z.toNat : Int), .int .u64 ((d.2).r.a.toNat : Int), .int .u64 ((d.2).r.b.toNat : Int), .int .u64 ((d.2).r.c.toNat : Int), .int .u64 ((d.2).r.d.toNat : Int)] (by kernel_rfl) (by kernel_rfl) TD3 ?_)
      | (go_at_call 17; refine (cs _).mono ?_; rintro e w4 ⟨rfl, b4⟩; have T4 := T3.call b4; have O4 := O3.call b4; have z4 := below_after z3 b4 z3.size; clear TD3 TQ3 O3 T3 b4))
    have T5 := T4.call ((Below.refl w4.heap.size w4).alloc (Nat.le_refl _) (.cells #[.int .i64 ((x.1).q.toNat : Int), .int .i64 ((x.1).z.toNat : Int), .int .u64 (((x.1).r.a).toNat : Int), .int .u64 (((x.1).r.b).toNat : Int), .int .u64 (((x.1).r.c).toNat : Int), .int .u64 (((x.1).r.d).toNat : Int)] 47))
    have O5 := O4.call ((Below.refl w4.heap.size w4).alloc (Nat.le_refl _) (.cells #[.int .i64 ((x.1).q.toNat : Int), .int .i64 ((x.1).z.toNat : Int), .int .u64 (((x.1).r.a).toNat : Int), .int .u64 (((x.1).r.b).toNat : Int), .int .u64 (((x.1).r.c).toNat : Int), .int .u64 (((x.1).r.d).toNat : Int)] 47))
    have z5 := z4.alloc z4.size (.cells #[.int .i64 ((x.1).q.toNat : Int), .int .i64 ((x.1).z.toNat : Int), .int .u64 (((x.1).r.a).toNat : Int), .int .u64 (((x.1).r.b).toNat : Int), .int .u64 (((x.1).r.c).toNat : Int), .int .u64 (((x.1).r.d).toNat : Int)] 47)
    have X5 := Lies.new w4 [.int .i64 ((x.1).q.toNat : Int), .int .i64 ((x.1).z.toNat : Int), .int .u64 (((x.1).r.a).toNat : Int), .int .u64 (((x.1).r.b).toNat : Int), .int .u64 (((x.1).r.c).toNat : Int), .int .u64 (((x.1).r.d).toNat : Int)] 47
    have lX5 : w4.heap.size < (w4.alloc (.cells #[.int .i64 ((x.1).q.toNat : Int), .int .i64 ((x.1).z.toNat : Int), .int .u64 (((x.1).r.a).toNat : Int), .int .u64 (((x.1).r.b).toNat : Int), .int .u64 (((x.1).r.c).toNat : Int), .int .u64 (((x.1).r.d).toNat : Int)] 47)).heap.size := by simp
    have X5 : Lies w4.heap.size 0 [.int .i64 ((x.1).q.toNat : Int), .int .i64 ((x.1).z.toNat : Int), .int .u64 (((x.1).r.a).toNat : Int), .int .u64 (((x.1).r.b).toNat : Int), .int .u64 (((x.1).r.c).toNat : Int), .int .u64 (((x.1).r.d).toNat : Int)] (w4.alloc (.cells #[.int .i64 ((x.1).q.toNat : Int), .int .i64 ((x.1).z.toNat : Int), .int .u64 (((x.1).r.a).toNat : Int), .int .u64 (((x.1).r.b).toNat : Int), .int .u64 (((x.1).r.c).toNat : Int), .int .u64 (((x.1).r.d).toNat : Int)] 47)) := X5
    generalize w4.alloc (.cells #[.int .i64 ((x.1).q.toNat : Int), .int .i64 ((x.1).z.toNat : Int), .int .u64 (((x.1).r.a).toNat : Int), .int .u64 (((x.1).r.b).toNat : Int), .int .u64 (((x.1).r.c).toNat : Int), .int .u64 (((x.1).r.d).toNat : Int)] 47) = w5 at T5 O5 z5 X5 lX5 ⊢
    generalize w4.heap.size = X at X5 lX5 ⊢
    clear T4 O4 z4
    have X50 := X5 0 _ rfl
    rw [Nat.zero_add] at X50
    obtain ⟨a5, c5, rfl, hl5⟩ := O5.len
    cases hk : slok (y1 (want x.1 n q)) with
    | false =>
      have hR := hR0 hk
      rw [hk] at hok
      have hlR : (R.length : Int) = 0 := by omega
      clear F7 F8 hRl hR0
      rw [hR]
      by_cases h1 : n < 1
      · go_wp2_with fail
        go_ret
        exact ⟨rfl, z5⟩
      · by_cases h2 : (256 : Int) < n
        · go_wp2_with fail
          go_ret
          exact ⟨rfl, z5⟩
        · have h3 : ¬ (x.1.q.toNat : Int) < 1000000000 := by
            intro h3
            rw [decide_eq_true (show 1 ≤ n ∧ n ≤ 256 by omega), decide_eq_true h3] at hok
            cases hok
          have h4 : decide ((1000000000 : Int) ≤ (x.1.q.toNat : Int)) = true := decide_eq_true (by omega)
          have h5 : decide (1000000000 ≤ x.1.q.toNat) = true := decide_eq_true (by omega)
          clear h3 hxq hok
          go_wp2_with fail
          go_ret
          exact ⟨rfl, z5⟩
    | true =>
      have hR := hRl hk
      have h12 : 1 ≤ n ∧ n ≤ 256 := by
        rw [hk] at hok
        by_cases h : 1 ≤ n ∧ n ≤ 256
        · exact h
        · rw [decide_eq_false h] at hok; cases hok
      have h13 : (x.1.q.toNat : Int) < 1000000000 := by
        rw [hk, decide_eq_true h12, Bool.true_and] at hok
        exact of_decide_eq_true hok.symm
      have h1 : ¬ n < 1 := by omega
      have h2 : ¬ (256 : Int) < n := by omega
      have h4 : decide ((1000000000 : Int) ≤ (x.1.q.toNat : Int)) = false := decide_eq_false (by omega)
      have h5 : decide (1000000000 ≤ x.1.q.toNat) = false := decide_eq_false (by omega)
      have hwq := want_q x.1 n q hxq
      have hwz := want_z x.1 n q h12.1 h12.2
      have hwr : (y1 (want x.1 n q)).r = q := rfl
      have F8' := fun (c : Nat) (hc : 8 ≤ c) => F8 c hc hk
      clear F8 hRl hR0 hok
      generalize y1 (want x.1 n q) = y at hwq hwz hwr F8' hk
      clear hk
      rw [hR] at O5
      have hwx : IntKind.i64.wrap ((x.1.q.toNat : Int) + 1) = (x.1.q.toNat : Int) + 1 := IntWalk.i64_in _ (by omega)
      clear h13 hxq
      go_upto_region 11 with fail
      go_loopw [9, 10, 11] (fun i _ _ wr => ∃ (k : Nat), i = .int .i64 ((k : Int) - 1) ∧ k ≤ 9 ∧ Hid (LT7 D d q wr ∧ Rws wr (.slice a5 8 c5) R ∧ Lies X 0 [.int .i64 ((x.1).q.toNat : Int), .int .i64 ((x.1).z.toNat : Int), .int .u64 (((x.1).r.a).toNat : Int), .int .u64 (((x.1).r.b).toNat : Int), .int .u64 (((x.1).r.c).toNat : Int), .int .u64 (((x.1).r.d).toNat : Int)] wr ∧ X < wr.heap.size ∧ Below w.heap.size w wr)) (fun i _ _ _ => (9 - (intOf i + 1)).toNat)
      case atStart => exact ⟨0, (by go_num), by omega, T5, O5, X5, lX5, z5⟩
      case round =>
        obtain ⟨k, rfl, hk9, HW⟩ := hrel
        obtain ⟨T6, O6, X6, lX6, z6⟩ := HW.out
        obtain ⟨TD6, TQ6, lD6⟩ := id T6
        clear HW T5 O5 X5 lX5 z5 X50
        by_cases hk8 : k < 9
        · have hkI : (k : Int) - 1 < 8 := by omega
          have hcut : ncut ((k : Int) - 1) R.length ≤ 7 := by unfold ncut; split <;> (try split) <;> omega
          have hrd := F7 _ hcut
          have cc := fun V : World => fun hV => cut_impl V d.1 d.2 (.slice a5 8 c5) R ((k : Int) - 1) hV (by omega)
          generalize dws (d.1, d.2) (R.take (ncut ((k : Int) - 1) R.length)) = dk at cc hrd
          have ci := fun V : World => rread_impl dk.1 dk.2 V
          rw [hrd] at ci
          have hwk : IntKind.i64.wrap ((k : Int) - 1 + 1) = ((k + 1 : Nat) : Int) - 1 := by rw [IntWalk.i64_in _ (by omega)]; omega
          clear hrd hcut F7 F8'
          go_upto_region 14 with (first
            | (with_reducible refine wpl_load agg_disk D 0 [.int .u64 ((d.1).m.toNat : Int), .int .u64 ((d.1).q.toNat : Int), .int .u64 ((d.1).z.toNat : Int), .int .u64 ((d.1).r.a.toNat : Int), .int .u64 ((d.1).r.b.toNat : Int), .int .u64 ((d.1).r.c.toNat : Int), .int .u64 ((d.1).r.d.toNat : Int), .int .u64 ((d.2).m.toNat : Int), .int .u64 ((d.2).q.toNat : Int), .int .u64 ((d.2).z.toNat : Int), .int .u64 ((d.2).r.a.toNat : Int), .int .u64 ((d.2).r.b.toNat : Int), .int .u64 ((d.2).r.c.toNat : Int), .int .u64 ((d.2).r.d.toNat : Int)] (by kernel_rfl) (by kernel_rfl) TD6 ?_)
            | (go_at_call 19; refine (cc _ O6).mono ?_; rintro e w7 ⟨rfl, b7⟩; have T7 := T6.call b7; have O7 := O6.call b7; have X7 := X6.call b7 lX6; have lX7 := Nat.lt_of_lt_of_le lX6 b7.size; have z7 := below_after z6 b7 z6.size; clear TD6 TQ6 lD6 T6 O6 X6 lX6 z6 b7)
            | (go_at_call 18; refine (ci _).mono ?_; rintro e w8 ⟨rfl, b8⟩; have T8 := T7.call b8; have O8 := O7.call b8; have X8 := X7.call b8 lX7; have lX8 := Nat.lt_of_lt_of_le lX7 b8.size; have z8 := below_after z7 b8 z7.size; clear T7 O7 X7 lX7 z7 b8))
          have ba := (Below.refl w8.heap.size w8).alloc (Nat.le_refl _) (.cells #[.int .i64 ((x.1).q.toNat : Int), .int .i64 ((x.1).z.toNat : Int), .int .u64 (((x.1).r.a).toNat : Int), .int .u64 (((x.1).r.b).toNat : Int), .int .u64 (((x.1).r.c).toNat : Int), .int .u64 (((x.1).r.d).toNat : Int)] 47)
          have T9 := T8.call ba
          have O9 := O8.call ba
          have X9 := X8.call ba lX8
          have lX9 := Nat.lt_of_lt_of_le lX8 ba.size
          have z9 := z8.alloc z8.size (.cells #[.int .i64 ((x.1).q.toNat : Int), .int .i64 ((x.1).z.toNat : Int), .int .u64 (((x.1).r.a).toNat : Int), .int .u64 (((x.1).r.b).toNat : Int), .int .u64 (((x.1).r.c).toNat : Int), .int .u64 (((x.1).r.d).toNat : Int)] 47)
          have N9 : Lies w8.heap.size 0 [.int .i64 ((x.1).q.toNat : Int), .int .i64 ((x.1).z.toNat : Int), .int .u64 (((x.1).r.a).toNat : Int), .int .u64 (((x.1).r.b).toNat : Int), .int .u64 (((x.1).r.c).toNat : Int), .int .u64 (((x.1).r.d).toNat : Int)] (w8.alloc (.cells #[.int .i64 ((x.1).q.toNat : Int), .int .i64 ((x.1).z.toNat : Int), .int .u64 (((x.1).r.a).toNat : Int), .int .u64 (((x.1).r.b).toNat : Int), .int .u64 (((x.1).r.c).toNat : Int), .int .u64 (((x.1).r.d).toNat : Int)] 47)) := Lies.new w8 [.int .i64 ((x.1).q.toNat : Int), .int .i64 ((x.1).z.toNat : Int), .int .u64 (((x.1).r.a).toNat : Int), .int .u64 (((x.1).r.b).toNat : Int), .int .u64 (((x.1).r.c).toNat : Int), .int .u64 (((x.1).r.d).toNat : Int)] 47
          clear ba T8 O8 X8 lX8 z8 cc ci
          generalize w8.alloc (.cells #[.int .i64 ((x.1).q.toNat : Int), .int .i64 ((x.1).z.toNat : Int), .int .u64 (((x.1).r.a).toNat : Int), .int .u64 (((x.1).r.b).toNat : Int), .int .u64 (((x.1).r.c).toNat : Int), .int .u64 (((x.1).r.d).toNat : Int)] 47) = w9 at T9 O9 X9 lX9 z9 N9 ⊢
          generalize w8.heap.size = N at N9 ⊢
          go_wp2_with (first
            | (with_reducible refine wpl_load agg_rec N 0 [.int .i64 ((x.1).q.toNat : Int), .int .i64 ((x.1).z.toNat : Int), .int .u64 (((x.1).r.a).toNat : Int), .int .u64 (((x.1).r.b).toNat : Int), .int .u64 (((x.1).r.c).toNat : Int), .int .u64 (((x.1).r.d).toNat : Int)] (by kernel_rfl) ?_ N9 ?_; · (simp [Act.eval]; done))
            | (with_reducible refine wpl_load agg_rec X 0 [.int .i64 ((x.1).q.toNat : Int), .int .i64 ((x.1).z.toNat : Int), .int .u64 (((x.1).r.a).toNat : Int), .int .u64 (((x.1).r.b).toNat : Int), .int .u64 (((x.1).r.c).toNat : Int), .int .u64 (((x.1).r.d).toNat : Int)] (by kernel_rfl) ?_ X9 ?_; · (simp [Act.eval, Act.put]; done)))
          go_roundw
          case measure => simp [intOf]; omega
          case rel => exact ⟨k + 1, (by first | rfl | go_num), by omega, T9, O9, X9, lX9, z9⟩
        · have hk90 : k = 9 := by omega
          subst hk90
          clear hk8 hk9 F7
          have hrd := F8' (ncut 8 R.length) (by unfold ncut; rw [hR]; decide)
          have cc := fun V : World => fun hV => cut_impl V d.1 d.2 (.slice a5 8 c5) R 8 hV (by omega)
          have cc9 := fun V : World => fun hV => cut_impl V d.1 d.2 (.slice a5 8 c5) R 9 hV (by omega)
          have cw := fun V : World => fun hV => dw_impl V d.1 d.2 (.slice a5 8 c5) R hV (by omega)
          rw [show R.take (ncut 8 R.length) = R from by rw [hR]; exact List.take_of_length_le (by rw [hR]; decide)] at cc hrd
          rw [show R.take (ncut 9 R.length) = R from by rw [hR]; exact List.take_of_length_le (by rw [hR]; decide)] at cc9
          generalize dws (d.1, d.2) R = dk at cc cc9 cw hrd
          have ci := fun V : World => rread_impl dk.1 dk.2 V
          rw [hrd] at ci
          simp only [hwq, hwz, hwr] at ci
          clear hrd F8'
          go_upto_region 17 with (first
            | (with_reducible refine wpl_load agg_disk D 0 [.int .u64 ((d.1).m.toNat : Int), .int .u64 ((d.1).q.toNat : Int), .int .u64 ((d.1).z.toNat : Int), .int .u64 ((d.1).r.a.toNat : Int), .int .u64 ((d.1).r.b.toNat : Int), .int .u64 ((d.1).r.c.toNat : Int), .int .u64 ((d.1).r.d.toNat : Int), .int .u64 ((d.2).m.toNat : Int), .int .u64 ((d.2).q.toNat : Int), .int .u64 ((d.2).z.toNat : Int), .int .u64 ((d.2).r.a.toNat : Int), .int .u64 ((d.2).r.b.toNat : Int), .int .u64 ((d.2).r.c.toNat : Int), .int .u64 ((d.2).r.d.toNat : Int)] (by kernel_rfl) (by kernel_rfl) TD6 ?_)
            | (go_at_call 19; refine (cc _ O6).mono ?_; rintro e w7 ⟨rfl, b7⟩; have T7 := T6.call b7; have O7 := O6.call b7; have X7 := X6.call b7 lX6; have lX7 := Nat.lt_of_lt_of_le lX6 b7.size; have z7 := below_after z6 b7 z6.size; clear TD6 TQ6 lD6 T6 O6 X6 lX6 z6 b7)
            | (go_at_call 18; refine (ci _).mono ?_; rintro e w8 ⟨rfl, b8⟩; have T8 := T7.call b8; have O8 := O7.call b8; have X8 := X7.call b8 lX7; have lX8 := Nat.lt_of_lt_of_le lX7 b8.size; have z8 := below_after z7 b8 z7.size; clear T7 O7 X7 lX7 z7 b8))
          have ba := (Below.refl w8.heap.size w8).alloc (Nat.le_refl _) (.cells #[.int .i64 ((x.1.q.toNat : Int) + 1), .int .i64 n, .int .u64 ((q.a).toNat : Int), .int .u64 ((q.b).toNat : Int), .int .u64 ((q.c).toNat : Int), .int .u64 ((q.d).toNat : Int)] 47)
          have T9 := T8.call ba
          have O9 := O8.call ba
          have X9 := X8.call ba lX8
          have lX9 := Nat.lt_of_lt_of_le lX8 ba.size
          have z9 := z8.alloc z8.size (.cells #[.int .i64 ((x.1.q.toNat : Int) + 1), .int .i64 n, .int .u64 ((q.a).toNat : Int), .int .u64 ((q.b).toNat : Int), .int .u64 ((q.c).toNat : Int), .int .u64 ((q.d).toNat : Int)] 47)
          have N9 : Lies w8.heap.size 0 [.int .i64 ((x.1.q.toNat : Int) + 1), .int .i64 n, .int .u64 ((q.a).toNat : Int), .int .u64 ((q.b).toNat : Int), .int .u64 ((q.c).toNat : Int), .int .u64 ((q.d).toNat : Int)] (w8.alloc (.cells #[.int .i64 ((x.1.q.toNat : Int) + 1), .int .i64 n, .int .u64 ((q.a).toNat : Int), .int .u64 ((q.b).toNat : Int), .int .u64 ((q.c).toNat : Int), .int .u64 ((q.d).toNat : Int)] 47)) := Lies.new w8 [.int .i64 ((x.1.q.toNat : Int) + 1), .int .i64 n, .int .u64 ((q.a).toNat : Int), .int .u64 ((q.b).toNat : Int), .int .u64 ((q.c).toNat : Int), .int .u64 ((q.d).toNat : Int)] 47
          have lN9 : w8.heap.size < (w8.alloc (.cells #[.int .i64 ((x.1.q.toNat : Int) + 1), .int .i64 n, .int .u64 ((q.a).toNat : Int), .int .u64 ((q.b).toNat : Int), .int .u64 ((q.c).toNat : Int), .int .u64 ((q.d).toNat : Int)] 47)).heap.size := by simp
          clear ba T8 O8 X8 lX8 z8 cc ci
          generalize w8.alloc (.cells #[.int .i64 ((x.1.q.toNat : Int) + 1), .int .i64 n, .int .u64 ((q.a).toNat : Int), .int .u64 ((q.b).toNat : Int), .int .u64 ((q.c).toNat : Int), .int .u64 ((q.d).toNat : Int)] 47) = w9 at T9 O9 X9 lX9 z9 N9 lN9 ⊢
          generalize w8.heap.size = N at N9 lN9 ⊢
          obtain ⟨TD9, TQ9, lD9⟩ := id T9
          go_upto_region 18 with (first
            | (with_reducible refine wpl_load agg_disk D 0 [.int .u64 ((d.1).m.toNat : Int), .int .u64 ((d.1).q.toNat : Int), .int .u64 ((d.1).z.toNat : Int), .int .u64 ((d.1).r.a.toNat : Int), .int .u64 ((d.1).r.b.toNat : Int), .int .u64 ((d.1).r.c.toNat : Int), .int .u64 ((d.1).r.d.toNat : Int), .int .u64 ((d.2).m.toNat : Int), .int .u64 ((d.2).q.toNat : Int), .int .u64 ((d.2).z.toNat : Int), .int .u64 ((d.2).r.a.toNat : Int), .int .u64 ((d.2).r.b.toNat : Int), .int .u64 ((d.2).r.c.toNat : Int), .int .u64 ((d.2).r.d.toNat : Int)] (by kernel_rfl) (by kernel_rfl) TD9 ?_)
            | (go_at_call 17; refine (cs _).mono ?_; rintro e wa ⟨rfl, ba⟩; have Ta := T9.call ba; have Oa := O9.call ba; have Xa := X9.call ba lX9; have lXa := Nat.lt_of_lt_of_le lX9 ba.size; have Na := N9.call ba lN9; have lNa := Nat.lt_of_lt_of_le lN9 ba.size; have za := below_after z9 ba z9.size; clear TD9 TQ9 lD9 T9 O9 X9 lX9 N9 lN9 z9 ba))
          have bb := ((Below.refl wa.heap.size wa).alloc (Nat.le_refl _) (.cells #[.int .i64 ((x.1).q.toNat : Int), .int .i64 ((x.1).z.toNat : Int), .int .u64 (((x.1).r.a).toNat : Int), .int .u64 (((x.1).r.b).toNat : Int), .int .u64 (((x.1).r.c).toNat : Int), .int .u64 (((x.1).r.d).toNat : Int)] 47)).drew
          have Tb := Ta.call bb
          have Ob := Oa.call bb
          have Xb := Xa.call bb lXa
          have lXb := Nat.lt_of_lt_of_le lXa bb.size
          have Nb := Na.call bb lNa
          have lNb := Nat.lt_of_lt_of_le lNa bb.size
          have zb := below_after za bb za.size
          clear bb Ta Oa Xa lXa Na lNa za
          have hne : (tn == x.2) = false := by rw [beq_eq_false_iff_ne]; exact FN
          have hne2 : (tn != x.2) = true := by rw [bne, hne]; rfl
          refine wp_region_held_drew (S := fun w' => Lies N 0 [.int .i64 ((x.1.q.toNat : Int) + 1), .int .i64 n, .int .u64 ((q.a).toNat : Int), .int .u64 ((q.b).toNat : Int), .int .u64 ((q.c).toNat : Int), .int .u64 ((q.d).toNat : Int)] w' ∧ Lies X 0 [.int .i64 ((x.1).q.toNat : Int), .int .i64 ((x.1).z.toNat : Int), .int .u64 (((x.1).r.a).toNat : Int), .int .u64 (((x.1).r.b).toNat : Int), .int .u64 (((x.1).r.c).toNat : Int), .int .u64 (((x.1).r.d).toNat : Int)] w' ∧ Lies (D + 1) 0 [.int .u64 ((q.a).toNat : Int), .int .u64 ((q.b).toNat : Int), .int .u64 ((q.c).toNat : Int), .int .u64 ((q.d).toNat : Int)] w' ∧ Lies D 0 [.int .u64 ((d.1).m.toNat : Int), .int .u64 ((d.1).q.toNat : Int), .int .u64 ((d.1).z.toNat : Int), .int .u64 ((d.1).r.a.toNat : Int), .int .u64 ((d.1).r.b.toNat : Int), .int .u64 ((d.1).r.c.toNat : Int), .int .u64 ((d.1).r.d.toNat : Int), .int .u64 ((d.2).m.toNat : Int), .int .u64 ((d.2).q.toNat : Int), .int .u64 ((d.2).z.toNat : Int), .int .u64 ((d.2).r.a.toNat : Int), .int .u64 ((d.2).r.b.toNat : Int), .int .u64 ((d.2).r.c.toNat : Int), .int .u64 ((d.2).r.d.toNat : Int)] w') (by kernel_rfl) ⟨Nb, Xb, Tb.2.1, Tb.1⟩ (fun hHeld => ?_)
          refine wpAnyH_take (i := 0) (oi := { dst := some 78, op := Op.load 47 (Operand.tmp 12), type := 47, pos := "laws.go:572", after := #[], guard := none }) (v := .agg #[.int .i64 ((x.1.q.toNat : Int) + 1), .int .i64 n, .int .u64 ((q.a).toNat : Int), .int .u64 ((q.b).toNat : Int), .int .u64 ((q.c).toNat : Int), .int .u64 ((q.d).toNat : Int)]) rfl (by kernel_rfl) (by kernel_rfl) (by kernel_rfl) (fun _ _ _ h => h) (Or.inl ⟨by rfl, ?_⟩) (by assumption) ?_
          · (intro wq hq; exact run_load_op agg_rec N 0 [.int .i64 ((x.1.q.toNat : Int) + 1), .int .i64 n, .int .u64 ((q.a).toNat : Int), .int .u64 ((q.b).toNat : Int), .int .u64 ((q.c).toNat : Int), .int .u64 ((q.d).toNat : Int)] (by kernel_rfl) (by kernel_rfl) hq.1)
          try simp only [Act.put, List.setIfInBounds_toArray, List.set_cons_zero, List.set_cons_succ]
          refine wpAnyH_take (i := 1) (oi := { dst := some 79, op := Op.fieldAddr 47 (Operand.tmp 7) 0, type := 0, pos := "laws.go:572", after := #[], guard := none }) (v := .pointer (some ⟨X, 0, none⟩)) rfl (by kernel_rfl) (by kernel_rfl) (by kernel_rfl) (fun _ _ _ h => h) (Or.inl ⟨by rfl, ?_⟩) (by assumption) ?_
          · (intro wq hq; go_simp)
          try simp only [Act.put, List.setIfInBounds_toArray, List.set_cons_zero, List.set_cons_succ]
          refine wpAnyH_take (i := 2) (oi := { dst := some 80, op := Op.load 3 (Operand.tmp 79), type := 3, pos := "laws.go:572", after := #[{ on := 1, ground := Ground.data }], guard := none }) (v := .int .i64 (x.1.q.toNat : Int)) rfl (by kernel_rfl) (by kernel_rfl) (by kernel_rfl) (fun _ _ _ h => h) (Or.inl ⟨by rfl, ?_⟩) (by assumption) ?_
          · (intro wq hq; have hq0 := hq.2.1 0 _ rfl; rw [Nat.zero_add] at hq0; go_simp)
          try simp only [Act.put, List.setIfInBounds_toArray, List.set_cons_zero, List.set_cons_succ]
          refine wpAnyH_take (i := 3) (oi := { dst := some 81, op := Op.binOp BinOp.add 3 (Operand.tmp 80) (Operand.const (Value.int IntKind.i64 1)) 3, type := 3, pos := "laws.go:572", after := #[{ on := 2, ground := Ground.data }], guard := none }) (v := .int .i64 ((x.1.q.toNat : Int) + 1)) rfl (by kernel_rfl) (by kernel_rfl) (by kernel_rfl) (fun _ _ _ h => h) (Or.inl ⟨by rfl, ?_⟩) (by assumption) ?_
          · (intro wq hq; go_simp)
          try simp only [Act.put, List.setIfInBounds_toArray, List.set_cons_zero, List.set_cons_succ]
          refine wpAnyH_take (i := 4) (oi := { dst := some 82, op := Op.move (Operand.tmp 4), type := 3, pos := "laws.go:572", after := #[], guard := none }) (v := .int .i64 n) rfl (by kernel_rfl) (by kernel_rfl) (by kernel_rfl) (fun _ _ _ h => h) (Or.inl ⟨by rfl, ?_⟩) (by assumption) ?_
          · (intro wq hq; go_simp)
          try simp only [Act.put, List.setIfInBounds_toArray, List.set_cons_zero, List.set_cons_succ]
          refine wpAnyH_take (i := 5) (oi := { dst := some 83, op := Op.load 31 (Operand.tmp 5), type := 31, pos := "laws.go:572", after := #[], guard := none }) (v := .agg #[.int .u64 ((q.a).toNat : Int), .int .u64 ((q.b).toNat : Int), .int .u64 ((q.c).toNat : Int), .int .u64 ((q.d).toNat : Int)]) rfl (by kernel_rfl) (by kernel_rfl) (by kernel_rfl) (fun _ _ _ h => h) (Or.inl ⟨by rfl, ?_⟩) (by assumption) ?_
          · (intro wq hq; exact run_load_op agg_dg4 (D + 1) 0 [.int .u64 ((q.a).toNat : Int), .int .u64 ((q.b).toNat : Int), .int .u64 ((q.c).toNat : Int), .int .u64 ((q.d).toNat : Int)] (by kernel_rfl) (by kernel_rfl) hq.2.2.1)
          try simp only [Act.put, List.setIfInBounds_toArray, List.set_cons_zero, List.set_cons_succ]
          refine wpAnyH_take (i := 6) (oi := { dst := some 84, op := Op.build 47 #[(0, Operand.tmp 81), (1, Operand.tmp 82), (2, Operand.tmp 83)], type := 47, pos := "laws.go:572", after := #[{ on := 3, ground := Ground.data }, { on := 4, ground := Ground.data }, { on := 5, ground := Ground.data }], guard := none }) (v := .agg #[.int .i64 ((x.1.q.toNat : Int) + 1), .int .i64 n, .int .u64 ((q.a).toNat : Int), .int .u64 ((q.b).toNat : Int), .int .u64 ((q.c).toNat : Int), .int .u64 ((q.d).toNat : Int)]) rfl (by kernel_rfl) (by kernel_rfl) (by kernel_rfl) (fun _ _ _ h => h) (Or.inl ⟨by rfl, ?_⟩) (by assumption) ?_
          · (intro wq hq; go_simp)
          try simp only [Act.put, List.setIfInBounds_toArray, List.set_cons_zero, List.set_cons_succ]
          refine wpAnyH_take (i := 7) (oi := { dst := some 85, op := Op.binOp BinOp.eql 47 (Operand.tmp 78) (Operand.tmp 84) 47, type := 4, pos := "laws.go:572", after := #[{ on := 0, ground := Ground.data }, { on := 6, ground := Ground.data }], guard := none }) (v := .bool true) rfl (by kernel_rfl) (by kernel_rfl) (by kernel_rfl) (fun _ _ _ h => h) (Or.inl ⟨by rfl, ?_⟩) (by assumption) ?_
          · (intro wq hq; go_simp)
          try simp only [Act.put, List.setIfInBounds_toArray, List.set_cons_zero, List.set_cons_succ]
          refine wpAnyH_take (i := 8) (oi := { dst := some 86, op := Op.move (Operand.tmp 85), type := 4, pos := "laws.go:572", after := #[{ on := 7, ground := Ground.data }], guard := none }) (v := .bool true) rfl (by kernel_rfl) (by kernel_rfl) (by kernel_rfl) (fun _ _ _ h => h) (Or.inl ⟨by rfl, ?_⟩) (by assumption) ?_
          · (intro wq hq; go_simp)
          try simp only [Act.put, List.setIfInBounds_toArray, List.set_cons_zero, List.set_cons_succ]
          refine wpAnyH_take (i := 9) (oi := { dst := some 87, op := Op.move (Operand.tmp 13), type := 3, pos := "laws.go:572", after := #[{ on := 8, ground := Ground.guard }], guard := some (8, true) }) (v := .int .i64 tn) rfl (by kernel_rfl) (by kernel_rfl) (by kernel_rfl) (fun _ _ _ h => h) (Or.inl ⟨by rfl, ?_⟩) (by assumption) ?_
          · (intro wq hq; go_simp)
          try simp only [Act.put, List.setIfInBounds_toArray, List.set_cons_zero, List.set_cons_succ]
          refine wpAnyH_take (i := 10) (oi := { dst := some 88, op := Op.move (Operand.tmp 15), type := 3, pos := "laws.go:572", after := #[{ on := 8, ground := Ground.guard }], guard := some (8, true) }) (v := .int .i64 x.2) rfl (by kernel_rfl) (by kernel_rfl) (by kernel_rfl) (fun _ _ _ h => h) (Or.inl ⟨by rfl, ?_⟩) (by assumption) ?_
          · (intro wq hq; go_simp)
          try simp only [Act.put, List.setIfInBounds_toArray, List.set_cons_zero, List.set_cons_succ]
          refine wpAnyH_take (i := 11) (oi := { dst := some 89, op := Op.binOp BinOp.neq 3 (Operand.tmp 87) (Operand.tmp 88) 3, type := 4, pos := "laws.go:572", after := #[{ on := 9, ground := Ground.data }, { on := 10, ground := Ground.data }, { on := 8, ground := Ground.guard }], guard := some (8, true) }) (v := .bool true) rfl (by kernel_rfl) (by kernel_rfl) (by kernel_rfl) (fun _ _ _ h => h) (Or.inl ⟨by rfl, ?_⟩) (by assumption) ?_
          · (intro wq hq; go_simp)
          try simp only [Act.put, List.setIfInBounds_toArray, List.set_cons_zero, List.set_cons_succ]
          refine wpAnyH_take (i := 12) (oi := { dst := some 90, op := Op.pick (Operand.tmp 86) (Operand.tmp 89) (Operand.const (Value.bool false)), type := 4, pos := "laws.go:572", after := #[{ on := 8, ground := Ground.data }, { on := 11, ground := Ground.data }], guard := none }) (v := .bool true) rfl (by kernel_rfl) (by kernel_rfl) (by kernel_rfl) (fun _ _ _ h => h) (Or.inl ⟨by rfl, ?_⟩) (by assumption) ?_
          · (intro wq hq; go_simp)
          try simp only [Act.put, List.setIfInBounds_toArray, List.set_cons_zero, List.set_cons_succ]
          refine wpAnyH_take (i := 13) (oi := { dst := some 91, op := Op.move (Operand.tmp 90), type := 4, pos := "laws.go:572", after := #[{ on := 12, ground := Ground.data }, { on := 8, ground := Ground.chain }], guard := none }) (v := .bool true) rfl (by kernel_rfl) (by kernel_rfl) (by kernel_rfl) (fun _ _ _ h => h) (Or.inl ⟨by rfl, ?_⟩) (by assumption) ?_
          · (intro wq hq; go_simp)
          try simp only [Act.put, List.setIfInBounds_toArray, List.set_cons_zero, List.set_cons_succ]
          refine wpAnyH_take (i := 14) (oi := { dst := some 92, op := Op.load 35 (Operand.tmp 3), type := 35, pos := "laws.go:572", after := #[{ on := 13, ground := Ground.guard }], guard := some (13, true) }) (v := .agg #[.int .u64 ((d.1).m.toNat : Int), .int .u64 ((d.1).q.toNat : Int), .int .u64 ((d.1).z.toNat : Int), .int .u64 ((d.1).r.a.toNat : Int), .int .u64 ((d.1).r.b.toNat : Int), .int .u64 ((d.1).r.c.toNat : Int), .int .u64 ((d.1).r.d.toNat : Int), .int .u64 ((d.2).m.toNat : Int), .int .u64 ((d.2).q.toNat : Int), .int .u64 ((d.2).z.toNat : Int), .int .u64 ((d.2).r.a.toNat : Int), .int .u64 ((d.2).r.b.toNat : Int), .int .u64 ((d.2).r.c.toNat : Int), .int .u64 ((d.2).r.d.toNat : Int)]) rfl (by kernel_rfl) (by kernel_rfl) (by kernel_rfl) (fun _ _ _ h => h) (Or.inl ⟨by rfl, ?_⟩) (by assumption) ?_
          · (intro wq hq; exact run_load_op agg_disk D 0 [.int .u64 ((d.1).m.toNat : Int), .int .u64 ((d.1).q.toNat : Int), .int .u64 ((d.1).z.toNat : Int), .int .u64 ((d.1).r.a.toNat : Int), .int .u64 ((d.1).r.b.toNat : Int), .int .u64 ((d.1).r.c.toNat : Int), .int .u64 ((d.1).r.d.toNat : Int), .int .u64 ((d.2).m.toNat : Int), .int .u64 ((d.2).q.toNat : Int), .int .u64 ((d.2).z.toNat : Int), .int .u64 ((d.2).r.a.toNat : Int), .int .u64 ((d.2).r.b.toNat : Int), .int .u64 ((d.2).r.c.toNat : Int), .int .u64 ((d.2).r.d.toNat : Int)] (by kernel_rfl) (by kernel_rfl) hq.2.2.2)
          try simp only [Act.put, List.setIfInBounds_toArray, List.set_cons_zero, List.set_cons_succ]
          refine wpAnyH_take (i := 15) (oi := { dst := some 93, op := Op.move (Operand.tmp 6), type := 29, pos := "laws.go:572", after := #[{ on := 13, ground := Ground.guard }], guard := some (13, true) }) (v := .slice a5 8 c5) rfl (by kernel_rfl) (by kernel_rfl) (by kernel_rfl) (fun _ _ _ h => h) (Or.inl ⟨by rfl, ?_⟩) (by assumption) ?_
          · (intro wq hq; go_simp)
          try simp only [Act.put, List.setIfInBounds_toArray, List.set_cons_zero, List.set_cons_succ]
          refine wpAnyH_take (i := 17) (oi := { dst := some 95, op := Op.load 35 (Operand.tmp 3), type := 35, pos := "laws.go:572", after := #[{ on := 13, ground := Ground.guard }], guard := some (13, true) }) (v := .agg #[.int .u64 ((d.1).m.toNat : Int), .int .u64 ((d.1).q.toNat : Int), .int .u64 ((d.1).z.toNat : Int), .int .u64 ((d.1).r.a.toNat : Int), .int .u64 ((d.1).r.b.toNat : Int), .int .u64 ((d.1).r.c.toNat : Int), .int .u64 ((d.1).r.d.toNat : Int), .int .u64 ((d.2).m.toNat : Int), .int .u64 ((d.2).q.toNat : Int), .int .u64 ((d.2).z.toNat : Int), .int .u64 ((d.2).r.a.toNat : Int), .int .u64 ((d.2).r.b.toNat : Int), .int .u64 ((d.2).r.c.toNat : Int), .int .u64 ((d.2).r.d.toNat : Int)]) rfl (by kernel_rfl) (by kernel_rfl) (by kernel_rfl) (fun _ _ _ h => h) (Or.inl ⟨by rfl, ?_⟩) (by assumption) ?_
          · (intro wq hq; exact run_load_op agg_disk D 0 [.int .u64 ((d.1).m.toNat : Int), .int .u64 ((d.1).q.toNat : Int), .int .u64 ((d.1).z.toNat : Int), .int .u64 ((d.1).r.a.toNat : Int), .int .u64 ((d.1).r.b.toNat : Int), .int .u64 ((d.1).r.c.toNat : Int), .int .u64 ((d.1).r.d.toNat : Int), .int .u64 ((d.2).m.toNat : Int), .int .u64 ((d.2).q.toNat : Int), .int .u64 ((d.2).z.toNat : Int), .int .u64 ((d.2).r.a.toNat : Int), .int .u64 ((d.2).r.b.toNat : Int), .int .u64 ((d.2).r.c.toNat : Int), .int .u64 ((d.2).r.d.toNat : Int)] (by kernel_rfl) (by kernel_rfl) hq.2.2.2)
          try simp only [Act.put, List.setIfInBounds_toArray, List.set_cons_zero, List.set_cons_succ]
          refine wpAnyH_take (i := 18) (oi := { dst := some 96, op := Op.move (Operand.tmp 6), type := 29, pos := "laws.go:572", after := #[{ on := 13, ground := Ground.guard }], guard := some (13, true) }) (v := .slice a5 8 c5) rfl (by kernel_rfl) (by kernel_rfl) (by kernel_rfl) (fun _ _ _ h => h) (Or.inl ⟨by rfl, ?_⟩) (by assumption) ?_
          · (intro wq hq; go_simp)
          try simp only [Act.put, List.setIfInBounds_toArray, List.set_cons_zero, List.set_cons_succ]
          refine wpAnyH_ready (rs := [16]) (by kernel_rfl) (by simp) ?_
          refine AllReadyH.cons (o := { dst := some 94, op := Op.call { callee := Callee.value (Operand.func 20), args := #[Operand.tmp 92, Operand.tmp 93], argTypes := #[35, 29] }, type := 35, pos := "laws.go:572", after := #[{ on := 14, ground := Ground.data }, { on := 15, ground := Ground.data }, { on := 13, ground := Ground.chain }, { on := 13, ground := Ground.guard }], guard := some (13, true) }) rfl (fun K hK => ?_) AllReadyH.nil
          go_simp
          go_at_call 20
          refine (cw _ Ob).mono ?_
          rintro e wc ⟨rfl, bc⟩
          have Tc := Tb.call bc
          have Oc := Ob.call bc
          have Xc := Xb.call bc lXb
          have lXc := Nat.lt_of_lt_of_le lXb bc.size
          have Nc := Nb.call bc lNb
          have lNc := Nat.lt_of_lt_of_le lNb bc.size
          have zc := below_after zb bc zb.size
          clear Tb Ob Xb lXb Nb lNb zb bc
          go_simp
          refine hK.out _ _ ⟨Nc, Xc, Tc.2.1, Tc.1⟩ (fun hHeld => ?_)
          clear hK K
          refine wpAnyH_ready (rs := [19]) (by kernel_rfl) (by simp) ?_
          refine AllReadyH.cons (o := { dst := some 97, op := Op.call { callee := Callee.value (Operand.func 19), args := #[Operand.tmp 95, Operand.tmp 96, Operand.const (Value.int IntKind.i64 9)], argTypes := #[35, 29, 3] }, type := 35, pos := "laws.go:572", after := #[{ on := 17, ground := Ground.data }, { on := 18, ground := Ground.data }, { on := 16, ground := Ground.chain }, { on := 13, ground := Ground.guard }], guard := some (13, true) }) rfl (fun K hK => ?_) AllReadyH.nil
          go_simp
          go_at_call 19
          refine (cc9 _ Oc).mono ?_
          rintro e wd ⟨rfl, bd⟩
          have Td := Tc.call bd
          have Xd := Xc.call bd lXc
          have Nd := Nc.call bd lNc
          have zd := below_after zc bd zc.size
          go_simp
          refine hK.out _ _ ⟨Nd, Xd, Td.2.1, Td.1⟩ (fun hHeld => ?_)
          clear hK K
          refine wpAnyH_take (i := 20) (oi := { dst := some 98, op := Op.binOp BinOp.eql 35 (Operand.tmp 94) (Operand.tmp 97) 35, type := 4, pos := "laws.go:572", after := #[{ on := 16, ground := Ground.data }, { on := 19, ground := Ground.data }, { on := 13, ground := Ground.guard }], guard := some (13, true) }) (v := .bool true) rfl (by kernel_rfl) (by kernel_rfl) (by kernel_rfl) (fun _ _ _ h => h) (Or.inl ⟨by rfl, ?_⟩) (by assumption) ?_
          · (intro wq hq; go_simp)
          try simp only [Act.put, List.setIfInBounds_toArray, List.set_cons_zero, List.set_cons_succ]
          refine wpAnyH_take (i := 21) (oi := { dst := some 99, op := Op.pick (Operand.tmp 91) (Operand.tmp 98) (Operand.const (Value.bool false)), type := 4, pos := "laws.go:572", after := #[{ on := 13, ground := Ground.data }, { on := 20, ground := Ground.data }], guard := none }) (v := .bool true) rfl (by kernel_rfl) (by kernel_rfl) (by kernel_rfl) (fun _ _ _ h => h) (Or.inl ⟨by rfl, ?_⟩) (by assumption) ?_
          · (intro wq hq; go_simp)
          try simp only [Act.put, List.setIfInBounds_toArray, List.set_cons_zero, List.set_cons_succ]
          refine wpAnyH_take (i := 22) (oi := { dst := some 2, op := Op.assign (Operand.tmp 99), type := 4, pos := "laws.go:572", after := #[{ on := 21, ground := Ground.data }, { on := 19, ground := Ground.chain }, { on := 0, ground := Ground.phase }, { on := 1, ground := Ground.phase }, { on := 2, ground := Ground.phase }, { on := 3, ground := Ground.phase }, { on := 4, ground := Ground.phase }, { on := 5, ground := Ground.phase }, { on := 6, ground := Ground.phase }, { on := 7, ground := Ground.phase }, { on := 8, ground := Ground.phase }, { on := 9, ground := Ground.phase }, { on := 10, ground := Ground.phase }, { on := 11, ground := Ground.phase }, { on := 12, ground := Ground.phase }, { on := 13, ground := Ground.phase }, { on := 14, ground := Ground.phase }, { on := 15, ground := Ground.phase }, { on := 16, ground := Ground.phase }, { on := 17, ground := Ground.phase }, { on := 18, ground := Ground.phase }, { on := 19, ground := Ground.phase }, { on := 20, ground := Ground.phase }, { on := 21, ground := Ground.phase }], guard := none }) (v := .bool true) rfl (by kernel_rfl) (by kernel_rfl) (by kernel_rfl) (fun _ _ _ h => h) (Or.inl ⟨by rfl, ?_⟩) (by assumption) ?_
          · (intro wq hq; go_simp)
          try simp only [Act.put, List.setIfInBounds_toArray, List.set_cons_zero, List.set_cons_succ]
          refine wpAnyH_done (by kernel_rfl) ?_ _
          clear hHeld
          go_wp2_with fail
          go_ret
          exact ⟨rfl, zd⟩
end Go.Proofs.Ytbmkknbbikoilaa
