/-
  A witness that is ok: the program's side.
-/
import Derived.Test.YteaaaojafipllaaDoorWi3
namespace Go.Proofs.YteaaaojafipllaaDoor
open Go.RowKit Go.MuLone

/-- What start-up lays of the numbers of sessions. -/
def Gw (W : World) : Prop := W.cell? ⟨0, 0, none⟩ = some (.int .i64 3) ∧ W.cell? ⟨0, 1, none⟩ = some (.int .i64 1) ∧ W.cell? ⟨0, 2, none⟩ = some (.int .i64 1000000) ∧ W.cell? ⟨0, 3, none⟩ = some (.int .i64 3)
theorem Gw.call {w w' : World} (h : Gw w) (hb : Below w.heap.size w w') : Gw w' := by
  obtain ⟨h0, h1, h2, h3⟩ := h
  have l := World.block_lt_of_cell? _ _ h0
  exact ⟨(hb.cell (p := ⟨0, 0, none⟩) l).trans h0, (hb.cell (p := ⟨0, 1, none⟩) l).trans h1, (hb.cell (p := ⟨0, 2, none⟩) l).trans h2, (hb.cell (p := ⟨0, 3, none⟩) l).trans h3⟩
set_option maxRecDepth 20000 in
set_option maxHeartbeats 1000000 in
theorem takes_w (a b c d x : Int) (w : World) : Calls Tryd.prog 25 #[.agg #[.int .i64 a, .int .i64 b, .int .i64 c, .int .i64 d], .int .i64 x] w fun e w' => e = .returned (.bool (decide (b ≤ x ∧ x ≤ c))) ∧ Below w.heap.size w w' := by
  by_cases h1 : b ≤ x
  · by_cases h2 : x ≤ c
    · rw [decide_eq_true ⟨h1, h2⟩]
      go_enter Tryd.func25, Tryd.ntmps25
      go_wp2_with fail
      go_ret
      exact ⟨rfl, (by repeat' (first | (with_reducible exact Below.refl _ _) | (with_reducible assumption) | (with_reducible refine below_drewN ?_ _) | (with_reducible refine Below.setCell ?_ ?_ _) | (with_reducible refine Below.alloc ?_ ?_ _) | (with_reducible refine Below.drew ?_) | go_size))⟩
    · rw [decide_eq_false (fun h => h2 h.2)]
      go_enter Tryd.func25, Tryd.ntmps25
      go_wp2_with fail
      go_ret
      exact ⟨rfl, (by repeat' (first | (with_reducible exact Below.refl _ _) | (with_reducible assumption) | (with_reducible refine below_drewN ?_ _) | (with_reducible refine Below.setCell ?_ ?_ _) | (with_reducible refine Below.alloc ?_ ?_ _) | (with_reducible refine Below.drew ?_) | go_size))⟩
  · rw [decide_eq_false (fun h => h1 h.1)]
    go_enter Tryd.func25, Tryd.ntmps25
    go_wp2_with fail
    go_ret
    exact ⟨rfl, (by repeat' (first | (with_reducible exact Below.refl _ _) | (with_reducible assumption) | (with_reducible refine below_drewN ?_ _) | (with_reducible refine Below.setCell ?_ ?_ _) | (with_reducible refine Below.alloc ?_ ?_ _) | (with_reducible refine Below.drew ?_) | go_size))⟩
theorem above_is (n : Int) (w : World) : Calls Tryd.prog 24 #[.int .i64 n] w fun e w' => e = .returned (.bool (decide (1 ≤ n ∧ n ≤ 20))) ∧ w' = w := by
  have cn := fun V : World => node_is n V
  by_cases h1 : 0 ≤ n ∧ n ≤ 20
  · rw [decide_eq_true h1] at cn
    by_cases h0 : n = 0
    · subst h0
      go_enter Tryd.func24, Tryd.ntmps24
      go_wp2_with (go_at_call 39; refine (cn _).mono ?_; rintro e w1 ⟨rfl, hw⟩; subst hw)
      go_ret
      exact ⟨rfl, rfl⟩
    · have hb : (n != 0) = true := by rw [bne, beq_eq_false_iff_ne.2 h0]; rfl
      rw [decide_eq_true (show 1 ≤ n ∧ n ≤ 20 by omega)]
      go_enter Tryd.func24, Tryd.ntmps24
      go_wp2_with (go_at_call 39; refine (cn _).mono ?_; rintro e w1 ⟨rfl, hw⟩; subst hw)
      go_ret
      exact ⟨rfl, rfl⟩
  · rw [decide_eq_false h1] at cn
    rw [decide_eq_false (show ¬ (1 ≤ n ∧ n ≤ 20) by omega)]
    go_enter Tryd.func24, Tryd.ntmps24
    go_wp2_with (go_at_call 39; refine (cn _).mono ?_; rintro e w1 ⟨rfl, hw⟩; subst hw)
    go_ret
    exact ⟨rfl, rfl⟩
/-- A wish that is in order, for more than n. -/
def Wsh (n : Int) (x : Wh) : Prop := (1 ≤ x.w ∧ x.w ≤ 20) ∧ (1 ≤ x.e ∧ x.e ≤ 1000000) ∧ (n + 1 ≤ x.s ∧ x.s ≤ 256)
set_option maxRecDepth 20000 in
set_option maxHeartbeats 2000000 in
theorem wsok_is (x : Wh) (n : Int) (q : Qd) (W : World) (hG : Gw W) : Calls Tryd.prog 15 #[.agg #[.int .i64 x.w, .int .i64 x.e, .int .i64 x.s, .int .u64 ((x.q.a).toNat : Int), .int .u64 ((x.q.b).toNat : Int), .int .u64 ((x.q.c).toNat : Int), .int .u64 ((x.q.d).toNat : Int)], .agg #[.int .i64 n, .int .u64 ((q.a).toNat : Int), .int .u64 ((q.b).toNat : Int), .int .u64 ((q.c).toNat : Int), .int .u64 ((q.d).toNat : Int)]] W fun e w' => ∃ b, e = .returned (.bool b) ∧ Below W.heap.size W w' ∧ (b = true ↔ Wsh n x) := by
  have ca := fun V : World => above_is x.w V
  have ct := fun V : World => takes_w 3 1 1000000 3 x.e V
  have E0 : E2 W [.int .i64 x.w, .int .i64 x.e, .int .i64 x.s, .int .u64 ((x.q.a).toNat : Int), .int .u64 ((x.q.b).toNat : Int), .int .u64 ((x.q.c).toNat : Int), .int .u64 ((x.q.d).toNat : Int)] [.int .i64 n, .int .u64 ((q.a).toNat : Int), .int .u64 ((q.b).toNat : Int), .int .u64 ((q.c).toNat : Int), .int .u64 ((q.d).toNat : Int)] _ := E2.new W [.int .i64 x.w, .int .i64 x.e, .int .i64 x.s, .int .u64 ((x.q.a).toNat : Int), .int .u64 ((x.q.b).toNat : Int), .int .u64 ((x.q.c).toNat : Int), .int .u64 ((x.q.d).toNat : Int)] [.int .i64 n, .int .u64 ((q.a).toNat : Int), .int .u64 ((q.b).toNat : Int), .int .u64 ((q.c).toNat : Int), .int .u64 ((q.d).toNat : Int)] 50 47
  have G0 := hG.call E0.2.2.1
  clear hG
  go_enter Tryd.func15, Tryd.ntmps15
  go_upto_region 1 with fail
  generalize (W.alloc (.cells #[.int .i64 x.w, .int .i64 x.e, .int .i64 x.s, .int .u64 ((x.q.a).toNat : Int), .int .u64 ((x.q.b).toNat : Int), .int .u64 ((x.q.c).toNat : Int), .int .u64 ((x.q.d).toNat : Int)] 50)).alloc (.cells #[.int .i64 n, .int .u64 ((q.a).toNat : Int), .int .u64 ((q.b).toNat : Int), .int .u64 ((q.c).toNat : Int), .int .u64 ((q.d).toNat : Int)] 47) = w0 at E0 G0 ⊢
  have x1 := E0.1 1 _ rfl
  have x0 := E0.1 0 _ rfl
  have x2 := E0.1 2 _ rfl
  have p0 := E0.2.1 0 _ rfl
  simp only [Nat.zero_add] at x0 x1 x2 p0
  obtain ⟨g0, g1, g2, g3⟩ := G0
  have zz := E0.2.2.1
  by_cases r1 : 1 ≤ x.w ∧ x.w ≤ 20
  · rw [decide_eq_true r1] at ca
    by_cases r2 : 1 ≤ x.e ∧ x.e ≤ 1000000
    · rw [decide_eq_true r2] at ct
      by_cases r3 : n < x.s
      · by_cases r4 : x.s ≤ 256
        · have hyes : Wsh n x := ⟨r1, r2, by omega, r4⟩
          clear r1 r2
          go_wp2_with (first | (go_at_call 24; refine (ca _).mono ?_; rintro e w1 ⟨rfl, hw1⟩; subst hw1) | (go_at_call 25; refine (ct _).mono ?_; rintro e w2 ⟨rfl, b2⟩; have zd := below_after zz b2 zz.size; have E1 := E0.call b2; clear x0 x1 x2 p0 g0 g1 g2 g3; have x0 := E1.1 0 _ rfl; have x1 := E1.1 1 _ rfl; have x2 := E1.1 2 _ rfl; have p0 := E1.2.1 0 _ rfl; simp only [Nat.zero_add] at x0 x1 x2 p0; clear b2))
          go_ret
          first | exact ⟨true, rfl, zd, yes_w hyes⟩ | exact ⟨_, rfl, zd, by simp [hyes, r4]⟩
        · have hno : ¬ Wsh n x := fun h => r4 h.2.2.2
          clear r1 r2
          go_wp2_with (first | (go_at_call 24; refine (ca _).mono ?_; rintro e w1 ⟨rfl, hw1⟩; subst hw1) | (go_at_call 25; refine (ct _).mono ?_; rintro e w2 ⟨rfl, b2⟩; have zd := below_after zz b2 zz.size; have E1 := E0.call b2; clear x0 x1 x2 p0 g0 g1 g2 g3; have x0 := E1.1 0 _ rfl; have x1 := E1.1 1 _ rfl; have x2 := E1.1 2 _ rfl; have p0 := E1.2.1 0 _ rfl; simp only [Nat.zero_add] at x0 x1 x2 p0; clear b2))
          go_ret
          first | exact ⟨false, rfl, zd, no_w hno⟩ | exact ⟨rfl, zd⟩ | exact ⟨rfl, zd, hno⟩ | exact ⟨_, rfl, zd, by simp [hno]; omega⟩
      · have hno : ¬ Wsh n x := fun h => r3 (by have := h.2.2.1; omega)
        clear r1 r2
        go_wp2_with (first | (go_at_call 24; refine (ca _).mono ?_; rintro e w1 ⟨rfl, hw1⟩; subst hw1) | (go_at_call 25; refine (ct _).mono ?_; rintro e w2 ⟨rfl, b2⟩; have zd := below_after zz b2 zz.size; have E1 := E0.call b2; clear x0 x1 x2 p0 g0 g1 g2 g3; have x0 := E1.1 0 _ rfl; have x1 := E1.1 1 _ rfl; have x2 := E1.1 2 _ rfl; have p0 := E1.2.1 0 _ rfl; simp only [Nat.zero_add] at x0 x1 x2 p0; clear b2))
        go_ret
        first | exact ⟨false, rfl, zd, no_w hno⟩ | exact ⟨rfl, zd⟩ | exact ⟨rfl, zd, hno⟩ | exact ⟨_, rfl, zd, by simp [hno]; omega⟩
    · have hno : ¬ Wsh n x := fun h => r2 h.2.1
      rw [decide_eq_false r2] at ct
      clear r1 r2
      go_wp2_with (first | (go_at_call 24; refine (ca _).mono ?_; rintro e w1 ⟨rfl, hw1⟩; subst hw1) | (go_at_call 25; refine (ct _).mono ?_; rintro e w2 ⟨rfl, b2⟩; have zd := below_after zz b2 zz.size; have E1 := E0.call b2; clear x0 x1 x2 p0 g0 g1 g2 g3; have x0 := E1.1 0 _ rfl; have x1 := E1.1 1 _ rfl; have x2 := E1.1 2 _ rfl; have p0 := E1.2.1 0 _ rfl; simp only [Nat.zero_add] at x0 x1 x2 p0; clear b2))
      go_ret
      first | exact ⟨false, rfl, zd, no_w hno⟩ | exact ⟨rfl, zd⟩ | exact ⟨rfl, zd, hno⟩ | exact ⟨_, rfl, zd, by simp [hno]; omega⟩
  · have hno : ¬ Wsh n x := fun h => r1 h.1
    rw [decide_eq_false r1] at ca
    clear r1
    go_wp2_with (first | (go_at_call 24; refine (ca _).mono ?_; rintro e w1 ⟨rfl, hw1⟩; subst hw1) | (go_at_call 25; refine (ct _).mono ?_; rintro e w2 ⟨rfl, b2⟩; have zd := below_after zz b2 zz.size; have E1 := E0.call b2; clear x0 x1 x2 p0 g0 g1 g2 g3; have x0 := E1.1 0 _ rfl; have x1 := E1.1 1 _ rfl; have x2 := E1.1 2 _ rfl; have p0 := E1.2.1 0 _ rfl; simp only [Nat.zero_add] at x0 x1 x2 p0; clear b2))
    go_ret
    first | exact ⟨false, rfl, zz, no_w hno⟩ | exact ⟨rfl, zz⟩ | exact ⟨rfl, zz, hno⟩ | exact ⟨_, rfl, zz, by simp [hno]; omega⟩
set_option maxRecDepth 20000 in
set_option maxHeartbeats 4000000 in
theorem wok_impl (W : World) (d : Sl × Sl) (g : Nat) (L : List Wh) (h : WO g L W) (hlen : L.length ≤ 1048576) (hG : Gw W) :
    Calls Tryd.prog 7 #[.agg #[.int .u64 ((d.1).m.toNat : Int), .int .u64 ((d.1).q.toNat : Int), .int .u64 ((d.1).z.toNat : Int), .int .u64 ((d.1).r.a.toNat : Int), .int .u64 ((d.1).r.b.toNat : Int), .int .u64 ((d.1).r.c.toNat : Int), .int .u64 ((d.1).r.d.toNat : Int), .int .u64 ((d.2).m.toNat : Int), .int .u64 ((d.2).q.toNat : Int), .int .u64 ((d.2).z.toNat : Int), .int .u64 ((d.2).r.a.toNat : Int), .int .u64 ((d.2).r.b.toNat : Int), .int .u64 ((d.2).r.c.toNat : Int), .int .u64 ((d.2).r.d.toNat : Int), (.slice (some ⟨g, 0, none⟩) L.length L.length)]] W fun e w' => ∃ b, e = .returned (.bool b) ∧ Below W.heap.size W w' ∧ (b = true ↔ Wok d L) := by
  have H : Hid (WO g L W) := h
  have HG : Hid (Gw W) := hG
  have hgW := h.1
  clear h hG
  have cw := fun V : World => wh_impl d.1 d.2 V
  have A0 := WA.new W d (.slice (some ⟨g, 0, none⟩) L.length L.length)
  go_enter Tryd.func7, Tryd.ntmps7
  go_upto_region 1 with fail
  generalize W.alloc (.cells #[.int .u64 ((d.1).m.toNat : Int), .int .u64 ((d.1).q.toNat : Int), .int .u64 ((d.1).z.toNat : Int), .int .u64 ((d.1).r.a.toNat : Int), .int .u64 ((d.1).r.b.toNat : Int), .int .u64 ((d.1).r.c.toNat : Int), .int .u64 ((d.1).r.d.toNat : Int), .int .u64 ((d.2).m.toNat : Int), .int .u64 ((d.2).q.toNat : Int), .int .u64 ((d.2).z.toNat : Int), .int .u64 ((d.2).r.a.toNat : Int), .int .u64 ((d.2).r.b.toNat : Int), .int .u64 ((d.2).r.c.toNat : Int), .int .u64 ((d.2).r.d.toNat : Int), (.slice (some ⟨g, 0, none⟩) L.length L.length)] 41) = w0 at A0 ⊢
  have k14 := A0.list
  have zz := A0.2.2
  by_cases h8 : L.length ≤ 8
  · have h8I : ¬ (8 : Int) < (L.length : Int) := by omega
    go_upto_region 3 with fail
    have k0 := A0.disk
    clear k14 h8I
    go_upto_region 4 with (first
      | (with_reducible refine wpl_load agg_dki W.heap.size 0 [.int .u64 ((d.1).m.toNat : Int), .int .u64 ((d.1).q.toNat : Int), .int .u64 ((d.1).z.toNat : Int), .int .u64 ((d.1).r.a.toNat : Int), .int .u64 ((d.1).r.b.toNat : Int), .int .u64 ((d.1).r.c.toNat : Int), .int .u64 ((d.1).r.d.toNat : Int), .int .u64 ((d.2).m.toNat : Int), .int .u64 ((d.2).q.toNat : Int), .int .u64 ((d.2).z.toNat : Int), .int .u64 ((d.2).r.a.toNat : Int), .int .u64 ((d.2).r.b.toNat : Int), .int .u64 ((d.2).r.c.toNat : Int), .int .u64 ((d.2).r.d.toNat : Int)] (by kernel_rfl) (by kernel_rfl) k0 ?_)
      | (go_at_call 14; refine (cw _).mono ?_; rintro e w1 ⟨rfl, b1⟩; have A1 := A0.call b1; clear k0 b1 A0 zz))
    have ba := (Below.refl w1.heap.size w1).alloc (Nat.le_refl _) (.cells #[.int .i64 (whn d.1 d.2), .int .u64 (((whq d.1 d.2).a).toNat : Int), .int .u64 (((whq d.1 d.2).b).toNat : Int), .int .u64 (((whq d.1 d.2).c).toNat : Int), .int .u64 (((whq d.1 d.2).d).toNat : Int)] 47)
    have A2 := A1.call ba
    have P2 : Lies w1.heap.size 0 [.int .i64 (whn d.1 d.2), .int .u64 (((whq d.1 d.2).a).toNat : Int), .int .u64 (((whq d.1 d.2).b).toNat : Int), .int .u64 (((whq d.1 d.2).c).toNat : Int), .int .u64 (((whq d.1 d.2).d).toNat : Int)] (w1.alloc (.cells #[.int .i64 (whn d.1 d.2), .int .u64 (((whq d.1 d.2).a).toNat : Int), .int .u64 (((whq d.1 d.2).b).toNat : Int), .int .u64 (((whq d.1 d.2).c).toNat : Int), .int .u64 (((whq d.1 d.2).d).toNat : Int)] 47)) := Lies.new w1 [.int .i64 (whn d.1 d.2), .int .u64 (((whq d.1 d.2).a).toNat : Int), .int .u64 (((whq d.1 d.2).b).toNat : Int), .int .u64 (((whq d.1 d.2).c).toNat : Int), .int .u64 (((whq d.1 d.2).d).toNat : Int)] 47
    have lP : w1.heap.size < (w1.alloc (.cells #[.int .i64 (whn d.1 d.2), .int .u64 (((whq d.1 d.2).a).toNat : Int), .int .u64 (((whq d.1 d.2).b).toNat : Int), .int .u64 (((whq d.1 d.2).c).toNat : Int), .int .u64 (((whq d.1 d.2).d).toNat : Int)] 47)).heap.size := by simp
    clear ba A1 cw
    generalize w1.alloc (.cells #[.int .i64 (whn d.1 d.2), .int .u64 (((whq d.1 d.2).a).toNat : Int), .int .u64 (((whq d.1 d.2).b).toNat : Int), .int .u64 (((whq d.1 d.2).c).toNat : Int), .int .u64 (((whq d.1 d.2).d).toNat : Int)] 47) = w2 at A2 P2 lP ⊢
    generalize w1.heap.size = P at P2 lP ⊢
    have hC : Wok d L ↔ AscW (whn d.1 d.2) L L.length := ⟨fun h => h.2, fun h => ⟨h8, h⟩⟩
    obtain ⟨hn0, hn1⟩ := whn_bnd d.1 d.2
    generalize whn d.1 d.2 = n at P2 hC hn0 hn1
    have k14 := A2.list
    go_upto_region 5 with fail
    clear k14
    go_loopw [16] (fun i wr => ∃ k : Nat, k ≤ L.length ∧ i = .int .i64 (k : Int) ∧ Hid (AscW n L k ∧ WA W d (.slice (some ⟨g, 0, none⟩) L.length L.length) wr ∧ Lies P 0 [.int .i64 n, .int .u64 (((whq d.1 d.2).a).toNat : Int), .int .u64 (((whq d.1 d.2).b).toNat : Int), .int .u64 (((whq d.1 d.2).c).toNat : Int), .int .u64 (((whq d.1 d.2).d).toNat : Int)] wr ∧ P < wr.heap.size)) (fun i _ => L.length - (intOf i).toNat)
    case atStart => exact ⟨0, by omega, rfl, AscW.zero _ _, A2, P2, lP⟩
    case round =>
      obtain ⟨k, hkx, rfl, HK⟩ := hrel
      obtain ⟨hA, A3, P3, l3⟩ := HK.out
      clear HK A2 P2 lP
      have zz := A3.2.2
      by_cases hlt : k < L.length
      · have hkI : (k : Int) < (L.length : Int) := by omega
        have hk00 : (0 : Int) ≤ (k : Int) := by omega
        have ex := (H.out.call zz).2 k hlt
        obtain ⟨x, hx⟩ : ∃ x, x = L[k] := ⟨_, rfl⟩
        have hst := hA.step hlt
        have hfail : AscW n L L.length → _ := fun h => h k hlt hlt
        rw [← hx] at ex hst hfail
        clear hx
        go_upto_region 7 with (with_reducible refine wpl_load agg_wsh g (k * 7) [.int .i64 x.w, .int .i64 x.e, .int .i64 x.s, .int .u64 ((x.q.a).toNat : Int), .int .u64 ((x.q.b).toNat : Int), .int .u64 ((x.q.c).toNat : Int), .int .u64 ((x.q.d).toNat : Int)] (by kernel_rfl) (by kernel_rfl) ex ?_)
        have ba := (Below.refl wr.heap.size wr).alloc (Nat.le_refl _) (.cells #[.int .i64 x.w, .int .i64 x.e, .int .i64 x.s, .int .u64 ((x.q.a).toNat : Int), .int .u64 ((x.q.b).toNat : Int), .int .u64 ((x.q.c).toNat : Int), .int .u64 ((x.q.d).toNat : Int)] 50)
        have A4 := A3.call ba
        have P4 := P3.call ba l3
        have l4 := Nat.lt_of_lt_of_le l3 ba.size
        have X4 : Lies wr.heap.size 0 [.int .i64 x.w, .int .i64 x.e, .int .i64 x.s, .int .u64 ((x.q.a).toNat : Int), .int .u64 ((x.q.b).toNat : Int), .int .u64 ((x.q.c).toNat : Int), .int .u64 ((x.q.d).toNat : Int)] (wr.alloc (.cells #[.int .i64 x.w, .int .i64 x.e, .int .i64 x.s, .int .u64 ((x.q.a).toNat : Int), .int .u64 ((x.q.b).toNat : Int), .int .u64 ((x.q.c).toNat : Int), .int .u64 ((x.q.d).toNat : Int)] 50)) := Lies.new wr [.int .i64 x.w, .int .i64 x.e, .int .i64 x.s, .int .u64 ((x.q.a).toNat : Int), .int .u64 ((x.q.b).toNat : Int), .int .u64 ((x.q.c).toNat : Int), .int .u64 ((x.q.d).toNat : Int)] 50
        have lX : wr.heap.size < (wr.alloc (.cells #[.int .i64 x.w, .int .i64 x.e, .int .i64 x.s, .int .u64 ((x.q.a).toNat : Int), .int .u64 ((x.q.b).toNat : Int), .int .u64 ((x.q.c).toNat : Int), .int .u64 ((x.q.d).toNat : Int)] 50)).heap.size := by simp
        clear ba A3 P3 l3 zz ex
        generalize wr.alloc (.cells #[.int .i64 x.w, .int .i64 x.e, .int .i64 x.s, .int .u64 ((x.q.a).toNat : Int), .int .u64 ((x.q.b).toNat : Int), .int .u64 ((x.q.c).toNat : Int), .int .u64 ((x.q.d).toNat : Int)] 50) = w4 at A4 P4 l4 X4 lX ⊢
        generalize wr.heap.size = X at X4 lX ⊢
        have bd := (Below.refl w4.heap.size w4).drew
        have A5 := A4.call bd
        have P5 := P4.call bd l4
        have l5 := Nat.lt_of_lt_of_le l4 bd.size
        have X5 := X4.call bd lX
        have lX5 := Nat.lt_of_lt_of_le lX bd.size
        have e14 := A5.list
        have zc := A5.2.2
        have co := wsok_is x n (whq d.1 d.2) _ (HG.out.call zc)
        clear A4 P4 l4 X4 lX bd
        by_cases hr : Wsh n x
        · obtain ⟨r1, r2, r3⟩ := id hr
          by_cases hk0 : k = 0
          · subst hk0
            have hN0 := hst r1 r2 r3 (fun h => absurd h (by omega))
            clear hst hfail hA r1 r2 r3
            refine wp_region_held_drew (S := fun w' => Lies X 0 [.int .i64 x.w, .int .i64 x.e, .int .i64 x.s, .int .u64 ((x.q.a).toNat : Int), .int .u64 ((x.q.b).toNat : Int), .int .u64 ((x.q.c).toNat : Int), .int .u64 ((x.q.d).toNat : Int)] w' ∧ Lies P 0 [.int .i64 n, .int .u64 (((whq d.1 d.2).a).toNat : Int), .int .u64 (((whq d.1 d.2).b).toNat : Int), .int .u64 (((whq d.1 d.2).c).toNat : Int), .int .u64 (((whq d.1 d.2).d).toNat : Int)] w' ∧ w'.cell? ⟨W.heap.size, 14, none⟩ = some (.slice (some ⟨g, 0, none⟩) L.length L.length)) (by kernel_rfl) ⟨X5, P5, e14⟩ (fun hHeld => ?_)
            refine wpAnyH_take (i := 0) (oi := { dst := some 21, op := Op.load 50 (Operand.tmp 5), type := 50, pos := "l9_witness.go:237", after := #[], guard := none }) (v := .agg #[.int .i64 x.w, .int .i64 x.e, .int .i64 x.s, .int .u64 ((x.q.a).toNat : Int), .int .u64 ((x.q.b).toNat : Int), .int .u64 ((x.q.c).toNat : Int), .int .u64 ((x.q.d).toNat : Int)]) rfl (by kernel_rfl) (by kernel_rfl) (by kernel_rfl) (fun _ _ _ h => h) (Or.inl ⟨by rfl, ?_⟩) (by assumption) ?_
            · (intro wq hq; exact run_load_wi agg_wsh X 0 [.int .i64 x.w, .int .i64 x.e, .int .i64 x.s, .int .u64 ((x.q.a).toNat : Int), .int .u64 ((x.q.b).toNat : Int), .int .u64 ((x.q.c).toNat : Int), .int .u64 ((x.q.d).toNat : Int)] (by kernel_rfl) (by kernel_rfl) hq.1)
            try simp only [Act.put, List.setIfInBounds_toArray, List.set_cons_zero, List.set_cons_succ]
            refine wpAnyH_take (i := 1) (oi := { dst := some 22, op := Op.load 47 (Operand.tmp 3), type := 47, pos := "l9_witness.go:237", after := #[], guard := none }) (v := .agg #[.int .i64 n, .int .u64 (((whq d.1 d.2).a).toNat : Int), .int .u64 (((whq d.1 d.2).b).toNat : Int), .int .u64 (((whq d.1 d.2).c).toNat : Int), .int .u64 (((whq d.1 d.2).d).toNat : Int)]) rfl (by kernel_rfl) (by kernel_rfl) (by kernel_rfl) (fun _ _ _ h => h) (Or.inl ⟨by rfl, ?_⟩) (by assumption) ?_
            · (intro wq hq; exact run_load_wi agg_ip5 P 0 [.int .i64 n, .int .u64 (((whq d.1 d.2).a).toNat : Int), .int .u64 (((whq d.1 d.2).b).toNat : Int), .int .u64 (((whq d.1 d.2).c).toNat : Int), .int .u64 (((whq d.1 d.2).d).toNat : Int)] (by kernel_rfl) (by kernel_rfl) hq.2.1)
            try simp only [Act.put, List.setIfInBounds_toArray, List.set_cons_zero, List.set_cons_succ]
            refine wpAnyH_ready (rs := [2]) (by kernel_rfl) (by simp) ?_
            refine AllReadyH.cons (o := { dst := some 23, op := Op.call { callee := Callee.value (Operand.func 15), args := #[Operand.tmp 21, Operand.tmp 22], argTypes := #[50, 47] }, type := 4, pos := "l9_witness.go:237", after := #[{ on := 0, ground := Ground.data }, { on := 1, ground := Ground.data }], guard := none }) rfl (fun K hK => ?_) AllReadyH.nil
            go_simp
            go_at_call 15
            refine co.mono ?_
            rintro e w9 ⟨b, rfl, b9, hb⟩
            have A6 := A5.call b9
            have fX := X5.call b9 lX5
            have fP := P5.call b9 l5
            have l6 := Nat.lt_of_lt_of_le l5 b9.size
            have f14 := A6.list
            have zd := A6.2.2
            obtain rfl : b = true := hb.2 hr
            go_simp
            refine hK.out _ _ ⟨fX, fP, f14⟩ (fun hHeld => ?_)
            clear hK K
            refine wpAnyH_take (i := 3) (oi := { dst := some 24, op := Op.unOp UnOp.not 4 (Operand.tmp 23), type := 4, pos := "l9_witness.go:237", after := #[{ on := 2, ground := Ground.data }], guard := none }) (v := .bool false) rfl (by kernel_rfl) (by kernel_rfl) (by kernel_rfl) (fun _ _ _ h => h) (Or.inl ⟨by rfl, ?_⟩) (by assumption) ?_
            · (intro wq hq; first | (go_simp; done) | (go_simp; rfl) | (go_simp; omega))
            try simp only [Act.put, List.setIfInBounds_toArray, List.set_cons_zero, List.set_cons_succ]
            refine wpAnyH_take (i := 4) (oi := { dst := some 25, op := Op.move (Operand.tmp 24), type := 4, pos := "l9_witness.go:237", after := #[{ on := 3, ground := Ground.data }, { on := 2, ground := Ground.chain }], guard := none }) (v := .bool false) rfl (by kernel_rfl) (by kernel_rfl) (by kernel_rfl) (fun _ _ _ h => h) (Or.inl ⟨by rfl, ?_⟩) (by assumption) ?_
            · (intro wq hq; first | (go_simp; done) | (go_simp; rfl) | (go_simp; omega))
            try simp only [Act.put, List.setIfInBounds_toArray, List.set_cons_zero, List.set_cons_succ]
            refine wpAnyH_take (i := 5) (oi := { dst := some 26, op := Op.move (Operand.tmp 4), type := 3, pos := "l9_witness.go:237", after := #[{ on := 4, ground := Ground.guard }], guard := some (4, false) }) (v := .int .i64 0) rfl (by kernel_rfl) (by kernel_rfl) (by kernel_rfl) (fun _ _ _ h => h) (Or.inl ⟨by rfl, ?_⟩) (by assumption) ?_
            · (intro wq hq; first | (go_simp; done) | (go_simp; rfl) | (go_simp; omega))
            try simp only [Act.put, List.setIfInBounds_toArray, List.set_cons_zero, List.set_cons_succ]
            refine wpAnyH_take (i := 6) (oi := { dst := some 27, op := Op.binOp BinOp.gtr 3 (Operand.tmp 26) (Operand.const (Value.int IntKind.i64 0)) 3, type := 4, pos := "l9_witness.go:237", after := #[{ on := 5, ground := Ground.data }, { on := 4, ground := Ground.guard }], guard := some (4, false) }) (v := .bool false) rfl (by kernel_rfl) (by kernel_rfl) (by kernel_rfl) (fun _ _ _ h => h) (Or.inl ⟨by rfl, ?_⟩) (by assumption) ?_
            · (intro wq hq; first | (go_simp; done) | (go_simp; rfl) | (go_simp; omega))
            try simp only [Act.put, List.setIfInBounds_toArray, List.set_cons_zero, List.set_cons_succ]
            refine wpAnyH_take (i := 7) (oi := { dst := some 28, op := Op.move (Operand.tmp 27), type := 4, pos := "l9_witness.go:237", after := #[{ on := 6, ground := Ground.data }, { on := 4, ground := Ground.chain }, { on := 4, ground := Ground.guard }], guard := some (4, false) }) (v := .bool false) rfl (by kernel_rfl) (by kernel_rfl) (by kernel_rfl) (fun _ _ _ h => h) (Or.inl ⟨by rfl, ?_⟩) (by assumption) ?_
            · (intro wq hq; first | (go_simp; done) | (go_simp; rfl) | (go_simp; omega))
            try simp only [Act.put, List.setIfInBounds_toArray, List.set_cons_zero, List.set_cons_succ]
            refine wpAnyH_take (i := 8) (oi := { dst := some 29, op := Op.fieldAddr 50 (Operand.tmp 5) 0, type := 0, pos := "l9_witness.go:237", after := #[{ on := 7, ground := Ground.guard }], guard := some (7, true) }) (v := undef) rfl (by kernel_rfl) (by kernel_rfl) (by kernel_rfl) (fun _ _ _ h => h) (Or.inr ⟨by rfl, rfl⟩) (by assumption) ?_
            try simp only [Act.put, List.setIfInBounds_toArray, List.set_cons_zero, List.set_cons_succ]
            refine wpAnyH_take (i := 9) (oi := { dst := some 30, op := Op.load 3 (Operand.tmp 29), type := 3, pos := "l9_witness.go:237", after := #[{ on := 8, ground := Ground.data }, { on := 7, ground := Ground.guard }], guard := some (7, true) }) (v := undef) rfl (by kernel_rfl) (by kernel_rfl) (by kernel_rfl) (fun _ _ _ h => h) (Or.inr ⟨by rfl, rfl⟩) (by assumption) ?_
            try simp only [Act.put, List.setIfInBounds_toArray, List.set_cons_zero, List.set_cons_succ]
            refine wpAnyH_take (i := 10) (oi := { dst := some 31, op := Op.fieldAddr 41 (Operand.tmp 1) 1, type := 0, pos := "l9_witness.go:237", after := #[{ on := 7, ground := Ground.guard }], guard := some (7, true) }) (v := undef) rfl (by kernel_rfl) (by kernel_rfl) (by kernel_rfl) (fun _ _ _ h => h) (Or.inr ⟨by rfl, rfl⟩) (by assumption) ?_
            try simp only [Act.put, List.setIfInBounds_toArray, List.set_cons_zero, List.set_cons_succ]
            refine wpAnyH_take (i := 11) (oi := { dst := some 32, op := Op.load 39 (Operand.tmp 31), type := 39, pos := "l9_witness.go:237", after := #[{ on := 10, ground := Ground.data }, { on := 7, ground := Ground.guard }], guard := some (7, true) }) (v := undef) rfl (by kernel_rfl) (by kernel_rfl) (by kernel_rfl) (fun _ _ _ h => h) (Or.inr ⟨by rfl, rfl⟩) (by assumption) ?_
            try simp only [Act.put, List.setIfInBounds_toArray, List.set_cons_zero, List.set_cons_succ]
            refine wpAnyH_take (i := 12) (oi := { dst := some 33, op := Op.move (Operand.tmp 4), type := 3, pos := "l9_witness.go:237", after := #[{ on := 7, ground := Ground.guard }], guard := some (7, true) }) (v := undef) rfl (by kernel_rfl) (by kernel_rfl) (by kernel_rfl) (fun _ _ _ h => h) (Or.inr ⟨by rfl, rfl⟩) (by assumption) ?_
            try simp only [Act.put, List.setIfInBounds_toArray, List.set_cons_zero, List.set_cons_succ]
            refine wpAnyH_take (i := 13) (oi := { dst := some 34, op := Op.binOp BinOp.sub 3 (Operand.tmp 33) (Operand.const (Value.int IntKind.i64 1)) 3, type := 3, pos := "l9_witness.go:237", after := #[{ on := 12, ground := Ground.data }, { on := 7, ground := Ground.guard }], guard := some (7, true) }) (v := undef) rfl (by kernel_rfl) (by kernel_rfl) (by kernel_rfl) (fun _ _ _ h => h) (Or.inr ⟨by rfl, rfl⟩) (by assumption) ?_
            try simp only [Act.put, List.setIfInBounds_toArray, List.set_cons_zero, List.set_cons_succ]
            refine wpAnyH_take (i := 14) (oi := { dst := some 35, op := Op.indexAddr 39 (Operand.tmp 32) (Operand.tmp 34), type := 0, pos := "l9_witness.go:237", after := #[{ on := 11, ground := Ground.data }, { on := 13, ground := Ground.data }, { on := 7, ground := Ground.guard }], guard := some (7, true) }) (v := undef) rfl (by kernel_rfl) (by kernel_rfl) (by kernel_rfl) (fun _ _ _ h => h) (Or.inr ⟨by rfl, rfl⟩) (by assumption) ?_
            try simp only [Act.put, List.setIfInBounds_toArray, List.set_cons_zero, List.set_cons_succ]
            refine wpAnyH_take (i := 15) (oi := { dst := some 36, op := Op.fieldAddr 50 (Operand.tmp 35) 0, type := 0, pos := "l9_witness.go:237", after := #[{ on := 14, ground := Ground.data }, { on := 7, ground := Ground.guard }], guard := some (7, true) }) (v := undef) rfl (by kernel_rfl) (by kernel_rfl) (by kernel_rfl) (fun _ _ _ h => h) (Or.inr ⟨by rfl, rfl⟩) (by assumption) ?_
            try simp only [Act.put, List.setIfInBounds_toArray, List.set_cons_zero, List.set_cons_succ]
            refine wpAnyH_take (i := 16) (oi := { dst := some 37, op := Op.load 3 (Operand.tmp 36), type := 3, pos := "l9_witness.go:237", after := #[{ on := 15, ground := Ground.data }, { on := 7, ground := Ground.guard }], guard := some (7, true) }) (v := undef) rfl (by kernel_rfl) (by kernel_rfl) (by kernel_rfl) (fun _ _ _ h => h) (Or.inr ⟨by rfl, rfl⟩) (by assumption) ?_
            try simp only [Act.put, List.setIfInBounds_toArray, List.set_cons_zero, List.set_cons_succ]
            refine wpAnyH_take (i := 17) (oi := { dst := some 38, op := Op.binOp BinOp.leq 3 (Operand.tmp 30) (Operand.tmp 37) 3, type := 4, pos := "l9_witness.go:237", after := #[{ on := 9, ground := Ground.data }, { on := 16, ground := Ground.data }, { on := 7, ground := Ground.guard }], guard := some (7, true) }) (v := undef) rfl (by kernel_rfl) (by kernel_rfl) (by kernel_rfl) (fun _ _ _ h => h) (Or.inr ⟨by rfl, rfl⟩) (by assumption) ?_
            try simp only [Act.put, List.setIfInBounds_toArray, List.set_cons_zero, List.set_cons_succ]
            refine wpAnyH_take (i := 18) (oi := { dst := some 39, op := Op.pick (Operand.tmp 28) (Operand.tmp 38) (Operand.const (Value.bool false)), type := 4, pos := "l9_witness.go:237", after := #[{ on := 7, ground := Ground.data }, { on := 17, ground := Ground.data }, { on := 4, ground := Ground.guard }], guard := some (4, false) }) (v := .bool false) rfl (by kernel_rfl) (by kernel_rfl) (by kernel_rfl) (fun _ _ _ h => h) (Or.inl ⟨by rfl, ?_⟩) (by assumption) ?_
            · (intro wq hq; first | (go_simp; done) | (go_simp; rfl) | (go_simp; omega))
            try simp only [Act.put, List.setIfInBounds_toArray, List.set_cons_zero, List.set_cons_succ]
            refine wpAnyH_take (i := 19) (oi := { dst := some 40, op := Op.pick (Operand.tmp 25) (Operand.const (Value.bool true)) (Operand.tmp 39), type := 4, pos := "l9_witness.go:237", after := #[{ on := 4, ground := Ground.data }, { on := 18, ground := Ground.data }], guard := none }) (v := .bool false) rfl (by kernel_rfl) (by kernel_rfl) (by kernel_rfl) (fun _ _ _ h => h) (Or.inl ⟨by rfl, ?_⟩) (by assumption) ?_
            · (intro wq hq; first | (go_simp; done) | (go_simp; rfl) | (go_simp; omega))
            try simp only [Act.put, List.setIfInBounds_toArray, List.set_cons_zero, List.set_cons_succ]
            refine wpAnyH_done (by kernel_rfl) ?_ _
            clear hHeld
            go_wp2_with fail
            have HN : Hid (AscW n L 1 ∧ WA W d (.slice (some ⟨g, 0, none⟩) L.length L.length) _ ∧ Lies P 0 [.int .i64 n, .int .u64 (((whq d.1 d.2).a).toNat : Int), .int .u64 (((whq d.1 d.2).b).toNat : Int), .int .u64 (((whq d.1 d.2).c).toNat : Int), .int .u64 (((whq d.1 d.2).d).toNat : Int)] _ ∧ P < _) := ⟨hN0, A6, fP, l6⟩
            exact ⟨⟨1, by omega, by go_num, HN⟩, by simp [intOf]; omega⟩
          · obtain ⟨j, hkj⟩ : ∃ j, k = j + 1 := ⟨k - 1, by omega⟩
            have hj : j < L.length := by omega
            have hwj : IntKind.i64.wrap ((k : Int) - 1) = (j : Int) := by rw [IntWalk.i64_in _ (by omega)]; omega
            have hk1 : (0 : Int) < (k : Int) := by omega
            have hjI : (j : Int) < (L.length : Int) := by omega
            have hprev : ∀ h : k - 1 < L.length, L[k - 1] = L[j] := fun h => by congr 1; omega
            have ez := first_of ((H.out.call zc).2 j hj)
            obtain ⟨z, hz⟩ : ∃ z : Wh, z = L[j] := ⟨_, rfl⟩
            have hzw : (some (Value.int .i64 L[j].w)) = some (Value.int .i64 z.w) := by rw [hz]
            rw [hzw] at ez
            by_cases hzx : z.w < x.w
            · have hzI : ¬ x.w ≤ z.w := by omega
              have hN0 := hst r1 r2 r3 (fun _ => by rw [hprev, ← hz]; exact hzx)
              clear hst hfail hA r1 r2 r3 hprev hkj hz hzx
              refine wp_region_held_drew (S := fun w' => Lies X 0 [.int .i64 x.w, .int .i64 x.e, .int .i64 x.s, .int .u64 ((x.q.a).toNat : Int), .int .u64 ((x.q.b).toNat : Int), .int .u64 ((x.q.c).toNat : Int), .int .u64 ((x.q.d).toNat : Int)] w' ∧ Lies P 0 [.int .i64 n, .int .u64 (((whq d.1 d.2).a).toNat : Int), .int .u64 (((whq d.1 d.2).b).toNat : Int), .int .u64 (((whq d.1 d.2).c).toNat : Int), .int .u64 (((whq d.1 d.2).d).toNat : Int)] w' ∧ w'.cell? ⟨W.heap.size, 14, none⟩ = some (.slice (some ⟨g, 0, none⟩) L.length L.length) ∧ w'.cell? ⟨g, j * 7, none⟩ = some (.int .i64 z.w)) (by kernel_rfl) ⟨X5, P5, e14, ez⟩ (fun hHeld => ?_)
              refine wpAnyH_take (i := 0) (oi := { dst := some 21, op := Op.load 50 (Operand.tmp 5), type := 50, pos := "l9_witness.go:237", after := #[], guard := none }) (v := .agg #[.int .i64 x.w, .int .i64 x.e, .int .i64 x.s, .int .u64 ((x.q.a).toNat : Int), .int .u64 ((x.q.b).toNat : Int), .int .u64 ((x.q.c).toNat : Int), .int .u64 ((x.q.d).toNat : Int)]) rfl (by kernel_rfl) (by kernel_rfl) (by kernel_rfl) (fun _ _ _ h => h) (Or.inl ⟨by rfl, ?_⟩) (by assumption) ?_
              · (intro wq hq; exact run_load_wi agg_wsh X 0 [.int .i64 x.w, .int .i64 x.e, .int .i64 x.s, .int .u64 ((x.q.a).toNat : Int), .int .u64 ((x.q.b).toNat : Int), .int .u64 ((x.q.c).toNat : Int), .int .u64 ((x.q.d).toNat : Int)] (by kernel_rfl) (by kernel_rfl) hq.1)
              try simp only [Act.put, List.setIfInBounds_toArray, List.set_cons_zero, List.set_cons_succ]
              refine wpAnyH_take (i := 1) (oi := { dst := some 22, op := Op.load 47 (Operand.tmp 3), type := 47, pos := "l9_witness.go:237", after := #[], guard := none }) (v := .agg #[.int .i64 n, .int .u64 (((whq d.1 d.2).a).toNat : Int), .int .u64 (((whq d.1 d.2).b).toNat : Int), .int .u64 (((whq d.1 d.2).c).toNat : Int), .int .u64 (((whq d.1 d.2).d).toNat : Int)]) rfl (by kernel_rfl) (by kernel_rfl) (by kernel_rfl) (fun _ _ _ h => h) (Or.inl ⟨by rfl, ?_⟩) (by assumption) ?_
              · (intro wq hq; exact run_load_wi agg_ip5 P 0 [.int .i64 n, .int .u64 (((whq d.1 d.2).a).toNat : Int), .int .u64 (((whq d.1 d.2).b).toNat : Int), .int .u64 (((whq d.1 d.2).c).toNat : Int), .int .u64 (((whq d.1 d.2).d).toNat : Int)] (by kernel_rfl) (by kernel_rfl) hq.2.1)
              try simp only [Act.put, List.setIfInBounds_toArray, List.set_cons_zero, List.set_cons_succ]
              refine wpAnyH_ready (rs := [2]) (by kernel_rfl) (by simp) ?_
              refine AllReadyH.cons (o := { dst := some 23, op := Op.call { callee := Callee.value (Operand.func 15), args := #[Operand.tmp 21, Operand.tmp 22], argTypes := #[50, 47] }, type := 4, pos := "l9_witness.go:237", after := #[{ on := 0, ground := Ground.data }, { on := 1, ground := Ground.data }], guard := none }) rfl (fun K hK => ?_) AllReadyH.nil
              go_simp
              go_at_call 15
              refine co.mono ?_
              rintro e w9 ⟨b, rfl, b9, hb⟩
              have A6 := A5.call b9
              have fX := X5.call b9 lX5
              have fP := P5.call b9 l5
              have l6 := Nat.lt_of_lt_of_le l5 b9.size
              have f14 := A6.list
              have zd := A6.2.2
              have fz := first_of ((H.out.call zd).2 j hj)
              rw [hzw] at fz
              obtain rfl : b = true := hb.2 hr
              go_simp
              refine hK.out _ _ ⟨fX, fP, f14, fz⟩ (fun hHeld => ?_)
              clear hK K
              refine wpAnyH_take (i := 3) (oi := { dst := some 24, op := Op.unOp UnOp.not 4 (Operand.tmp 23), type := 4, pos := "l9_witness.go:237", after := #[{ on := 2, ground := Ground.data }], guard := none }) (v := .bool false) rfl (by kernel_rfl) (by kernel_rfl) (by kernel_rfl) (fun _ _ _ h => h) (Or.inl ⟨by rfl, ?_⟩) (by assumption) ?_
              · (intro wq hq; first | (go_simp; done) | (go_simp; rfl) | (go_simp; omega))
              try simp only [Act.put, List.setIfInBounds_toArray, List.set_cons_zero, List.set_cons_succ]
              refine wpAnyH_take (i := 4) (oi := { dst := some 25, op := Op.move (Operand.tmp 24), type := 4, pos := "l9_witness.go:237", after := #[{ on := 3, ground := Ground.data }, { on := 2, ground := Ground.chain }], guard := none }) (v := .bool false) rfl (by kernel_rfl) (by kernel_rfl) (by kernel_rfl) (fun _ _ _ h => h) (Or.inl ⟨by rfl, ?_⟩) (by assumption) ?_
              · (intro wq hq; first | (go_simp; done) | (go_simp; rfl) | (go_simp; omega))
              try simp only [Act.put, List.setIfInBounds_toArray, List.set_cons_zero, List.set_cons_succ]
              refine wpAnyH_take (i := 5) (oi := { dst := some 26, op := Op.move (Operand.tmp 4), type := 3, pos := "l9_witness.go:237", after := #[{ on := 4, ground := Ground.guard }], guard := some (4, false) }) (v := .int .i64 (k : Int)) rfl (by kernel_rfl) (by kernel_rfl) (by kernel_rfl) (fun _ _ _ h => h) (Or.inl ⟨by rfl, ?_⟩) (by assumption) ?_
              · (intro wq hq; first | (go_simp; done) | (go_simp; rfl) | (go_simp; omega))
              try simp only [Act.put, List.setIfInBounds_toArray, List.set_cons_zero, List.set_cons_succ]
              refine wpAnyH_take (i := 6) (oi := { dst := some 27, op := Op.binOp BinOp.gtr 3 (Operand.tmp 26) (Operand.const (Value.int IntKind.i64 0)) 3, type := 4, pos := "l9_witness.go:237", after := #[{ on := 5, ground := Ground.data }, { on := 4, ground := Ground.guard }], guard := some (4, false) }) (v := .bool true) rfl (by kernel_rfl) (by kernel_rfl) (by kernel_rfl) (fun _ _ _ h => h) (Or.inl ⟨by rfl, ?_⟩) (by assumption) ?_
              · (intro wq hq; first | (go_simp; done) | (go_simp; rfl) | (go_simp; omega))
              try simp only [Act.put, List.setIfInBounds_toArray, List.set_cons_zero, List.set_cons_succ]
              refine wpAnyH_take (i := 7) (oi := { dst := some 28, op := Op.move (Operand.tmp 27), type := 4, pos := "l9_witness.go:237", after := #[{ on := 6, ground := Ground.data }, { on := 4, ground := Ground.chain }, { on := 4, ground := Ground.guard }], guard := some (4, false) }) (v := .bool true) rfl (by kernel_rfl) (by kernel_rfl) (by kernel_rfl) (fun _ _ _ h => h) (Or.inl ⟨by rfl, ?_⟩) (by assumption) ?_
              · (intro wq hq; first | (go_simp; done) | (go_simp; rfl) | (go_simp; omega))
              try simp only [Act.put, List.setIfInBounds_toArray, List.set_cons_zero, List.set_cons_succ]
              refine wpAnyH_take (i := 8) (oi := { dst := some 29, op := Op.fieldAddr 50 (Operand.tmp 5) 0, type := 0, pos := "l9_witness.go:237", after := #[{ on := 7, ground := Ground.guard }], guard := some (7, true) }) (v := .pointer (some ⟨X, 0, none⟩)) rfl (by kernel_rfl) (by kernel_rfl) (by kernel_rfl) (fun _ _ _ h => h) (Or.inl ⟨by rfl, ?_⟩) (by assumption) ?_
              · (intro wq hq; first | (go_simp; done) | (go_simp; rfl) | (go_simp; omega))
              try simp only [Act.put, List.setIfInBounds_toArray, List.set_cons_zero, List.set_cons_succ]
              refine wpAnyH_take (i := 9) (oi := { dst := some 30, op := Op.load 3 (Operand.tmp 29), type := 3, pos := "l9_witness.go:237", after := #[{ on := 8, ground := Ground.data }, { on := 7, ground := Ground.guard }], guard := some (7, true) }) (v := .int .i64 x.w) rfl (by kernel_rfl) (by kernel_rfl) (by kernel_rfl) (fun _ _ _ h => h) (Or.inl ⟨by rfl, ?_⟩) (by assumption) ?_
              · (intro wq hq; have hx := first_of hq.1; clear hq; first | (go_simp; done) | (go_simp; rfl))
              try simp only [Act.put, List.setIfInBounds_toArray, List.set_cons_zero, List.set_cons_succ]
              refine wpAnyH_take (i := 10) (oi := { dst := some 31, op := Op.fieldAddr 41 (Operand.tmp 1) 1, type := 0, pos := "l9_witness.go:237", after := #[{ on := 7, ground := Ground.guard }], guard := some (7, true) }) (v := .pointer (some ⟨W.heap.size, 14, none⟩)) rfl (by kernel_rfl) (by kernel_rfl) (by kernel_rfl) (fun _ _ _ h => h) (Or.inl ⟨by rfl, ?_⟩) (by assumption) ?_
              · (intro wq hq; first | (go_simp; done) | (go_simp; rfl) | (go_simp; omega))
              try simp only [Act.put, List.setIfInBounds_toArray, List.set_cons_zero, List.set_cons_succ]
              refine wpAnyH_take (i := 11) (oi := { dst := some 32, op := Op.load 39 (Operand.tmp 31), type := 39, pos := "l9_witness.go:237", after := #[{ on := 10, ground := Ground.data }, { on := 7, ground := Ground.guard }], guard := some (7, true) }) (v := (.slice (some ⟨g, 0, none⟩) L.length L.length)) rfl (by kernel_rfl) (by kernel_rfl) (by kernel_rfl) (fun _ _ _ h => h) (Or.inl ⟨by rfl, ?_⟩) (by assumption) ?_
              · (intro wq hq; have hx := hq.2.2.1; clear hq; first | (go_simp; done) | (go_simp; rfl))
              try simp only [Act.put, List.setIfInBounds_toArray, List.set_cons_zero, List.set_cons_succ]
              refine wpAnyH_take (i := 12) (oi := { dst := some 33, op := Op.move (Operand.tmp 4), type := 3, pos := "l9_witness.go:237", after := #[{ on := 7, ground := Ground.guard }], guard := some (7, true) }) (v := .int .i64 (k : Int)) rfl (by kernel_rfl) (by kernel_rfl) (by kernel_rfl) (fun _ _ _ h => h) (Or.inl ⟨by rfl, ?_⟩) (by assumption) ?_
              · (intro wq hq; first | (go_simp; done) | (go_simp; rfl) | (go_simp; omega))
              try simp only [Act.put, List.setIfInBounds_toArray, List.set_cons_zero, List.set_cons_succ]
              refine wpAnyH_take (i := 13) (oi := { dst := some 34, op := Op.binOp BinOp.sub 3 (Operand.tmp 33) (Operand.const (Value.int IntKind.i64 1)) 3, type := 3, pos := "l9_witness.go:237", after := #[{ on := 12, ground := Ground.data }, { on := 7, ground := Ground.guard }], guard := some (7, true) }) (v := .int .i64 (j : Int)) rfl (by kernel_rfl) (by kernel_rfl) (by kernel_rfl) (fun _ _ _ h => h) (Or.inl ⟨by rfl, ?_⟩) (by assumption) ?_
              · (intro wq hq; first | (go_simp; done) | (go_simp; rfl) | (go_simp; rw [hwj]))
              try simp only [Act.put, List.setIfInBounds_toArray, List.set_cons_zero, List.set_cons_succ]
              refine wpAnyH_take (i := 14) (oi := { dst := some 35, op := Op.indexAddr 39 (Operand.tmp 32) (Operand.tmp 34), type := 0, pos := "l9_witness.go:237", after := #[{ on := 11, ground := Ground.data }, { on := 13, ground := Ground.data }, { on := 7, ground := Ground.guard }], guard := some (7, true) }) (v := .pointer (some ⟨g, j * 7, none⟩)) rfl (by kernel_rfl) (by kernel_rfl) (by kernel_rfl) (fun _ _ _ h => h) (Or.inl ⟨by rfl, ?_⟩) (by assumption) ?_
              · (intro wq hq; first | (go_simp; done) | (go_simp; rfl) | (go_simp; omega))
              try simp only [Act.put, List.setIfInBounds_toArray, List.set_cons_zero, List.set_cons_succ]
              refine wpAnyH_take (i := 15) (oi := { dst := some 36, op := Op.fieldAddr 50 (Operand.tmp 35) 0, type := 0, pos := "l9_witness.go:237", after := #[{ on := 14, ground := Ground.data }, { on := 7, ground := Ground.guard }], guard := some (7, true) }) (v := .pointer (some ⟨g, j * 7, none⟩)) rfl (by kernel_rfl) (by kernel_rfl) (by kernel_rfl) (fun _ _ _ h => h) (Or.inl ⟨by rfl, ?_⟩) (by assumption) ?_
              · (intro wq hq; first | (go_simp; done) | (go_simp; rfl) | (go_simp; omega))
              try simp only [Act.put, List.setIfInBounds_toArray, List.set_cons_zero, List.set_cons_succ]
              refine wpAnyH_take (i := 16) (oi := { dst := some 37, op := Op.load 3 (Operand.tmp 36), type := 3, pos := "l9_witness.go:237", after := #[{ on := 15, ground := Ground.data }, { on := 7, ground := Ground.guard }], guard := some (7, true) }) (v := .int .i64 z.w) rfl (by kernel_rfl) (by kernel_rfl) (by kernel_rfl) (fun _ _ _ h => h) (Or.inl ⟨by rfl, ?_⟩) (by assumption) ?_
              · (intro wq hq; have hx := hq.2.2.2; clear hq; first | (go_simp; done) | (go_simp; rfl))
              try simp only [Act.put, List.setIfInBounds_toArray, List.set_cons_zero, List.set_cons_succ]
              refine wpAnyH_take (i := 17) (oi := { dst := some 38, op := Op.binOp BinOp.leq 3 (Operand.tmp 30) (Operand.tmp 37) 3, type := 4, pos := "l9_witness.go:237", after := #[{ on := 9, ground := Ground.data }, { on := 16, ground := Ground.data }, { on := 7, ground := Ground.guard }], guard := some (7, true) }) (v := .bool false) rfl (by kernel_rfl) (by kernel_rfl) (by kernel_rfl) (fun _ _ _ h => h) (Or.inl ⟨by rfl, ?_⟩) (by assumption) ?_
              · (intro wq hq; first | (go_simp; done) | (go_simp; rfl) | (go_simp; omega))
              try simp only [Act.put, List.setIfInBounds_toArray, List.set_cons_zero, List.set_cons_succ]
              refine wpAnyH_take (i := 18) (oi := { dst := some 39, op := Op.pick (Operand.tmp 28) (Operand.tmp 38) (Operand.const (Value.bool false)), type := 4, pos := "l9_witness.go:237", after := #[{ on := 7, ground := Ground.data }, { on := 17, ground := Ground.data }, { on := 4, ground := Ground.guard }], guard := some (4, false) }) (v := .bool false) rfl (by kernel_rfl) (by kernel_rfl) (by kernel_rfl) (fun _ _ _ h => h) (Or.inl ⟨by rfl, ?_⟩) (by assumption) ?_
              · (intro wq hq; first | (go_simp; done) | (go_simp; rfl) | (go_simp; omega))
              try simp only [Act.put, List.setIfInBounds_toArray, List.set_cons_zero, List.set_cons_succ]
              refine wpAnyH_take (i := 19) (oi := { dst := some 40, op := Op.pick (Operand.tmp 25) (Operand.const (Value.bool true)) (Operand.tmp 39), type := 4, pos := "l9_witness.go:237", after := #[{ on := 4, ground := Ground.data }, { on := 18, ground := Ground.data }], guard := none }) (v := .bool false) rfl (by kernel_rfl) (by kernel_rfl) (by kernel_rfl) (fun _ _ _ h => h) (Or.inl ⟨by rfl, ?_⟩) (by assumption) ?_
              · (intro wq hq; first | (go_simp; done) | (go_simp; rfl) | (go_simp; omega))
              try simp only [Act.put, List.setIfInBounds_toArray, List.set_cons_zero, List.set_cons_succ]
              refine wpAnyH_done (by kernel_rfl) ?_ _
              clear hHeld
              go_wp2_with fail
              have HN : Hid (AscW n L (k + 1) ∧ WA W d (.slice (some ⟨g, 0, none⟩) L.length L.length) _ ∧ Lies P 0 [.int .i64 n, .int .u64 (((whq d.1 d.2).a).toNat : Int), .int .u64 (((whq d.1 d.2).b).toNat : Int), .int .u64 (((whq d.1 d.2).c).toNat : Int), .int .u64 (((whq d.1 d.2).d).toNat : Int)] _ ∧ P < _) := ⟨hN0, A6, fP, l6⟩
              exact ⟨⟨k + 1, by omega, by go_num, HN⟩, by simp [intOf]; omega⟩
            · have hzI : x.w ≤ z.w := by omega
              have hno : ¬ Wok d L := fun h => by
                have := (hfail (hC.1 h)).2.2.2 (by omega)
                rw [hprev, ← hz] at this
                exact hzx this
              clear hst hfail hA r1 r2 r3 hprev hkj hz hzx hC
              refine wp_region_held_drew (S := fun w' => Lies X 0 [.int .i64 x.w, .int .i64 x.e, .int .i64 x.s, .int .u64 ((x.q.a).toNat : Int), .int .u64 ((x.q.b).toNat : Int), .int .u64 ((x.q.c).toNat : Int), .int .u64 ((x.q.d).toNat : Int)] w' ∧ Lies P 0 [.int .i64 n, .int .u64 (((whq d.1 d.2).a).toNat : Int), .int .u64 (((whq d.1 d.2).b).toNat : Int), .int .u64 (((whq d.1 d.2).c).toNat : Int), .int .u64 (((whq d.1 d.2).d).toNat : Int)] w' ∧ w'.cell? ⟨W.heap.size, 14, none⟩ = some (.slice (some ⟨g, 0, none⟩) L.length L.length) ∧ w'.cell? ⟨g, j * 7, none⟩ = some (.int .i64 z.w)) (by kernel_rfl) ⟨X5, P5, e14, ez⟩ (fun hHeld => ?_)
              refine wpAnyH_take (i := 0) (oi := { dst := some 21, op := Op.load 50 (Operand.tmp 5), type := 50, pos := "l9_witness.go:237", after := #[], guard := none }) (v := .agg #[.int .i64 x.w, .int .i64 x.e, .int .i64 x.s, .int .u64 ((x.q.a).toNat : Int), .int .u64 ((x.q.b).toNat : Int), .int .u64 ((x.q.c).toNat : Int), .int .u64 ((x.q.d).toNat : Int)]) rfl (by kernel_rfl) (by kernel_rfl) (by kernel_rfl) (fun _ _ _ h => h) (Or.inl ⟨by rfl, ?_⟩) (by assumption) ?_
              · (intro wq hq; exact run_load_wi agg_wsh X 0 [.int .i64 x.w, .int .i64 x.e, .int .i64 x.s, .int .u64 ((x.q.a).toNat : Int), .int .u64 ((x.q.b).toNat : Int), .int .u64 ((x.q.c).toNat : Int), .int .u64 ((x.q.d).toNat : Int)] (by kernel_rfl) (by kernel_rfl) hq.1)
              try simp only [Act.put, List.setIfInBounds_toArray, List.set_cons_zero, List.set_cons_succ]
              refine wpAnyH_take (i := 1) (oi := { dst := some 22, op := Op.load 47 (Operand.tmp 3), type := 47, pos := "l9_witness.go:237", after := #[], guard := none }) (v := .agg #[.int .i64 n, .int .u64 (((whq d.1 d.2).a).toNat : Int), .int .u64 (((whq d.1 d.2).b).toNat : Int), .int .u64 (((whq d.1 d.2).c).toNat : Int), .int .u64 (((whq d.1 d.2).d).toNat : Int)]) rfl (by kernel_rfl) (by kernel_rfl) (by kernel_rfl) (fun _ _ _ h => h) (Or.inl ⟨by rfl, ?_⟩) (by assumption) ?_
              · (intro wq hq; exact run_load_wi agg_ip5 P 0 [.int .i64 n, .int .u64 (((whq d.1 d.2).a).toNat : Int), .int .u64 (((whq d.1 d.2).b).toNat : Int), .int .u64 (((whq d.1 d.2).c).toNat : Int), .int .u64 (((whq d.1 d.2).d).toNat : Int)] (by kernel_rfl) (by kernel_rfl) hq.2.1)
              try simp only [Act.put, List.setIfInBounds_toArray, List.set_cons_zero, List.set_cons_succ]
              refine wpAnyH_ready (rs := [2]) (by kernel_rfl) (by simp) ?_
              refine AllReadyH.cons (o := { dst := some 23, op := Op.call { callee := Callee.value (Operand.func 15), args := #[Operand.tmp 21, Operand.tmp 22], argTypes := #[50, 47] }, type := 4, pos := "l9_witness.go:237", after := #[{ on := 0, ground := Ground.data }, { on := 1, ground := Ground.data }], guard := none }) rfl (fun K hK => ?_) AllReadyH.nil
              go_simp
              go_at_call 15
              refine co.mono ?_
              rintro e w9 ⟨b, rfl, b9, hb⟩
              have A6 := A5.call b9
              have fX := X5.call b9 lX5
              have fP := P5.call b9 l5
              have l6 := Nat.lt_of_lt_of_le l5 b9.size
              have f14 := A6.list
              have zd := A6.2.2
              have fz := first_of ((H.out.call zd).2 j hj)
              rw [hzw] at fz
              obtain rfl : b = true := hb.2 hr
              go_simp
              refine hK.out _ _ ⟨fX, fP, f14, fz⟩ (fun hHeld => ?_)
              clear hK K
              refine wpAnyH_take (i := 3) (oi := { dst := some 24, op := Op.unOp UnOp.not 4 (Operand.tmp 23), type := 4, pos := "l9_witness.go:237", after := #[{ on := 2, ground := Ground.data }], guard := none }) (v := .bool false) rfl (by kernel_rfl) (by kernel_rfl) (by kernel_rfl) (fun _ _ _ h => h) (Or.inl ⟨by rfl, ?_⟩) (by assumption) ?_
              · (intro wq hq; first | (go_simp; done) | (go_simp; rfl) | (go_simp; omega))
              try simp only [Act.put, List.setIfInBounds_toArray, List.set_cons_zero, List.set_cons_succ]
              refine wpAnyH_take (i := 4) (oi := { dst := some 25, op := Op.move (Operand.tmp 24), type := 4, pos := "l9_witness.go:237", after := #[{ on := 3, ground := Ground.data }, { on := 2, ground := Ground.chain }], guard := none }) (v := .bool false) rfl (by kernel_rfl) (by kernel_rfl) (by kernel_rfl) (fun _ _ _ h => h) (Or.inl ⟨by rfl, ?_⟩) (by assumption) ?_
              · (intro wq hq; first | (go_simp; done) | (go_simp; rfl) | (go_simp; omega))
              try simp only [Act.put, List.setIfInBounds_toArray, List.set_cons_zero, List.set_cons_succ]
              refine wpAnyH_take (i := 5) (oi := { dst := some 26, op := Op.move (Operand.tmp 4), type := 3, pos := "l9_witness.go:237", after := #[{ on := 4, ground := Ground.guard }], guard := some (4, false) }) (v := .int .i64 (k : Int)) rfl (by kernel_rfl) (by kernel_rfl) (by kernel_rfl) (fun _ _ _ h => h) (Or.inl ⟨by rfl, ?_⟩) (by assumption) ?_
              · (intro wq hq; first | (go_simp; done) | (go_simp; rfl) | (go_simp; omega))
              try simp only [Act.put, List.setIfInBounds_toArray, List.set_cons_zero, List.set_cons_succ]
              refine wpAnyH_take (i := 6) (oi := { dst := some 27, op := Op.binOp BinOp.gtr 3 (Operand.tmp 26) (Operand.const (Value.int IntKind.i64 0)) 3, type := 4, pos := "l9_witness.go:237", after := #[{ on := 5, ground := Ground.data }, { on := 4, ground := Ground.guard }], guard := some (4, false) }) (v := .bool true) rfl (by kernel_rfl) (by kernel_rfl) (by kernel_rfl) (fun _ _ _ h => h) (Or.inl ⟨by rfl, ?_⟩) (by assumption) ?_
              · (intro wq hq; first | (go_simp; done) | (go_simp; rfl) | (go_simp; omega))
              try simp only [Act.put, List.setIfInBounds_toArray, List.set_cons_zero, List.set_cons_succ]
              refine wpAnyH_take (i := 7) (oi := { dst := some 28, op := Op.move (Operand.tmp 27), type := 4, pos := "l9_witness.go:237", after := #[{ on := 6, ground := Ground.data }, { on := 4, ground := Ground.chain }, { on := 4, ground := Ground.guard }], guard := some (4, false) }) (v := .bool true) rfl (by kernel_rfl) (by kernel_rfl) (by kernel_rfl) (fun _ _ _ h => h) (Or.inl ⟨by rfl, ?_⟩) (by assumption) ?_
              · (intro wq hq; first | (go_simp; done) | (go_simp; rfl) | (go_simp; omega))
              try simp only [Act.put, List.setIfInBounds_toArray, List.set_cons_zero, List.set_cons_succ]
              refine wpAnyH_take (i := 8) (oi := { dst := some 29, op := Op.fieldAddr 50 (Operand.tmp 5) 0, type := 0, pos := "l9_witness.go:237", after := #[{ on := 7, ground := Ground.guard }], guard := some (7, true) }) (v := .pointer (some ⟨X, 0, none⟩)) rfl (by kernel_rfl) (by kernel_rfl) (by kernel_rfl) (fun _ _ _ h => h) (Or.inl ⟨by rfl, ?_⟩) (by assumption) ?_
              · (intro wq hq; first | (go_simp; done) | (go_simp; rfl) | (go_simp; omega))
              try simp only [Act.put, List.setIfInBounds_toArray, List.set_cons_zero, List.set_cons_succ]
              refine wpAnyH_take (i := 9) (oi := { dst := some 30, op := Op.load 3 (Operand.tmp 29), type := 3, pos := "l9_witness.go:237", after := #[{ on := 8, ground := Ground.data }, { on := 7, ground := Ground.guard }], guard := some (7, true) }) (v := .int .i64 x.w) rfl (by kernel_rfl) (by kernel_rfl) (by kernel_rfl) (fun _ _ _ h => h) (Or.inl ⟨by rfl, ?_⟩) (by assumption) ?_
              · (intro wq hq; have hx := first_of hq.1; clear hq; first | (go_simp; done) | (go_simp; rfl))
              try simp only [Act.put, List.setIfInBounds_toArray, List.set_cons_zero, List.set_cons_succ]
              refine wpAnyH_take (i := 10) (oi := { dst := some 31, op := Op.fieldAddr 41 (Operand.tmp 1) 1, type := 0, pos := "l9_witness.go:237", after := #[{ on := 7, ground := Ground.guard }], guard := some (7, true) }) (v := .pointer (some ⟨W.heap.size, 14, none⟩)) rfl (by kernel_rfl) (by kernel_rfl) (by kernel_rfl) (fun _ _ _ h => h) (Or.inl ⟨by rfl, ?_⟩) (by assumption) ?_
              · (intro wq hq; first | (go_simp; done) | (go_simp; rfl) | (go_simp; omega))
              try simp only [Act.put, List.setIfInBounds_toArray, List.set_cons_zero, List.set_cons_succ]
              refine wpAnyH_take (i := 11) (oi := { dst := some 32, op := Op.load 39 (Operand.tmp 31), type := 39, pos := "l9_witness.go:237", after := #[{ on := 10, ground := Ground.data }, { on := 7, ground := Ground.guard }], guard := some (7, true) }) (v := (.slice (some ⟨g, 0, none⟩) L.length L.length)) rfl (by kernel_rfl) (by kernel_rfl) (by kernel_rfl) (fun _ _ _ h => h) (Or.inl ⟨by rfl, ?_⟩) (by assumption) ?_
              · (intro wq hq; have hx := hq.2.2.1; clear hq; first | (go_simp; done) | (go_simp; rfl))
              try simp only [Act.put, List.setIfInBounds_toArray, List.set_cons_zero, List.set_cons_succ]
              refine wpAnyH_take (i := 12) (oi := { dst := some 33, op := Op.move (Operand.tmp 4), type := 3, pos := "l9_witness.go:237", after := #[{ on := 7, ground := Ground.guard }], guard := some (7, true) }) (v := .int .i64 (k : Int)) rfl (by kernel_rfl) (by kernel_rfl) (by kernel_rfl) (fun _ _ _ h => h) (Or.inl ⟨by rfl, ?_⟩) (by assumption) ?_
              · (intro wq hq; first | (go_simp; done) | (go_simp; rfl) | (go_simp; omega))
              try simp only [Act.put, List.setIfInBounds_toArray, List.set_cons_zero, List.set_cons_succ]
              refine wpAnyH_take (i := 13) (oi := { dst := some 34, op := Op.binOp BinOp.sub 3 (Operand.tmp 33) (Operand.const (Value.int IntKind.i64 1)) 3, type := 3, pos := "l9_witness.go:237", after := #[{ on := 12, ground := Ground.data }, { on := 7, ground := Ground.guard }], guard := some (7, true) }) (v := .int .i64 (j : Int)) rfl (by kernel_rfl) (by kernel_rfl) (by kernel_rfl) (fun _ _ _ h => h) (Or.inl ⟨by rfl, ?_⟩) (by assumption) ?_
              · (intro wq hq; first | (go_simp; done) | (go_simp; rfl) | (go_simp; rw [hwj]))
              try simp only [Act.put, List.setIfInBounds_toArray, List.set_cons_zero, List.set_cons_succ]
              refine wpAnyH_take (i := 14) (oi := { dst := some 35, op := Op.indexAddr 39 (Operand.tmp 32) (Operand.tmp 34), type := 0, pos := "l9_witness.go:237", after := #[{ on := 11, ground := Ground.data }, { on := 13, ground := Ground.data }, { on := 7, ground := Ground.guard }], guard := some (7, true) }) (v := .pointer (some ⟨g, j * 7, none⟩)) rfl (by kernel_rfl) (by kernel_rfl) (by kernel_rfl) (fun _ _ _ h => h) (Or.inl ⟨by rfl, ?_⟩) (by assumption) ?_
              · (intro wq hq; first | (go_simp; done) | (go_simp; rfl) | (go_simp; omega))
              try simp only [Act.put, List.setIfInBounds_toArray, List.set_cons_zero, List.set_cons_succ]
              refine wpAnyH_take (i := 15) (oi := { dst := some 36, op := Op.fieldAddr 50 (Operand.tmp 35) 0, type := 0, pos := "l9_witness.go:237", after := #[{ on := 14, ground := Ground.data }, { on := 7, ground := Ground.guard }], guard := some (7, true) }) (v := .pointer (some ⟨g, j * 7, none⟩)) rfl (by kernel_rfl) (by kernel_rfl) (by kernel_rfl) (fun _ _ _ h => h) (Or.inl ⟨by rfl, ?_⟩) (by assumption) ?_
              · (intro wq hq; first | (go_simp; done) | (go_simp; rfl) | (go_simp; omega))
              try simp only [Act.put, List.setIfInBounds_toArray, List.set_cons_zero, List.set_cons_succ]
              refine wpAnyH_take (i := 16) (oi := { dst := some 37, op := Op.load 3 (Operand.tmp 36), type := 3, pos := "l9_witness.go:237", after := #[{ on := 15, ground := Ground.data }, { on := 7, ground := Ground.guard }], guard := some (7, true) }) (v := .int .i64 z.w) rfl (by kernel_rfl) (by kernel_rfl) (by kernel_rfl) (fun _ _ _ h => h) (Or.inl ⟨by rfl, ?_⟩) (by assumption) ?_
              · (intro wq hq; have hx := hq.2.2.2; clear hq; first | (go_simp; done) | (go_simp; rfl))
              try simp only [Act.put, List.setIfInBounds_toArray, List.set_cons_zero, List.set_cons_succ]
              refine wpAnyH_take (i := 17) (oi := { dst := some 38, op := Op.binOp BinOp.leq 3 (Operand.tmp 30) (Operand.tmp 37) 3, type := 4, pos := "l9_witness.go:237", after := #[{ on := 9, ground := Ground.data }, { on := 16, ground := Ground.data }, { on := 7, ground := Ground.guard }], guard := some (7, true) }) (v := .bool true) rfl (by kernel_rfl) (by kernel_rfl) (by kernel_rfl) (fun _ _ _ h => h) (Or.inl ⟨by rfl, ?_⟩) (by assumption) ?_
              · (intro wq hq; first | (go_simp; done) | (go_simp; rfl) | (go_simp; omega))
              try simp only [Act.put, List.setIfInBounds_toArray, List.set_cons_zero, List.set_cons_succ]
              refine wpAnyH_take (i := 18) (oi := { dst := some 39, op := Op.pick (Operand.tmp 28) (Operand.tmp 38) (Operand.const (Value.bool false)), type := 4, pos := "l9_witness.go:237", after := #[{ on := 7, ground := Ground.data }, { on := 17, ground := Ground.data }, { on := 4, ground := Ground.guard }], guard := some (4, false) }) (v := .bool true) rfl (by kernel_rfl) (by kernel_rfl) (by kernel_rfl) (fun _ _ _ h => h) (Or.inl ⟨by rfl, ?_⟩) (by assumption) ?_
              · (intro wq hq; first | (go_simp; done) | (go_simp; rfl) | (go_simp; omega))
              try simp only [Act.put, List.setIfInBounds_toArray, List.set_cons_zero, List.set_cons_succ]
              refine wpAnyH_take (i := 19) (oi := { dst := some 40, op := Op.pick (Operand.tmp 25) (Operand.const (Value.bool true)) (Operand.tmp 39), type := 4, pos := "l9_witness.go:237", after := #[{ on := 4, ground := Ground.data }, { on := 18, ground := Ground.data }], guard := none }) (v := .bool true) rfl (by kernel_rfl) (by kernel_rfl) (by kernel_rfl) (fun _ _ _ h => h) (Or.inl ⟨by rfl, ?_⟩) (by assumption) ?_
              · (intro wq hq; first | (go_simp; done) | (go_simp; rfl) | (go_simp; omega))
              try simp only [Act.put, List.setIfInBounds_toArray, List.set_cons_zero, List.set_cons_succ]
              refine wpAnyH_done (by kernel_rfl) ?_ _
              clear hHeld
              go_wp2_with fail
              go_ret
              first | exact ⟨false, rfl, zd, no_w hno⟩ | exact ⟨rfl, zd⟩ | exact ⟨rfl, zd, hno⟩ | exact ⟨_, rfl, zd, by simp [hno]; omega⟩
        · have hno : ¬ Wok d L := fun h => hr ⟨(hfail (hC.1 h)).1, (hfail (hC.1 h)).2.1, (hfail (hC.1 h)).2.2.1⟩
          clear hst hfail hA hC
          refine wp_region_held_drew (S := fun w' => Lies X 0 [.int .i64 x.w, .int .i64 x.e, .int .i64 x.s, .int .u64 ((x.q.a).toNat : Int), .int .u64 ((x.q.b).toNat : Int), .int .u64 ((x.q.c).toNat : Int), .int .u64 ((x.q.d).toNat : Int)] w' ∧ Lies P 0 [.int .i64 n, .int .u64 (((whq d.1 d.2).a).toNat : Int), .int .u64 (((whq d.1 d.2).b).toNat : Int), .int .u64 (((whq d.1 d.2).c).toNat : Int), .int .u64 (((whq d.1 d.2).d).toNat : Int)] w' ∧ w'.cell? ⟨W.heap.size, 14, none⟩ = some (.slice (some ⟨g, 0, none⟩) L.length L.length)) (by kernel_rfl) ⟨X5, P5, e14⟩ (fun hHeld => ?_)
          refine wpAnyH_take (i := 0) (oi := { dst := some 21, op := Op.load 50 (Operand.tmp 5), type := 50, pos := "l9_witness.go:237", after := #[], guard := none }) (v := .agg #[.int .i64 x.w, .int .i64 x.e, .int .i64 x.s, .int .u64 ((x.q.a).toNat : Int), .int .u64 ((x.q.b).toNat : Int), .int .u64 ((x.q.c).toNat : Int), .int .u64 ((x.q.d).toNat : Int)]) rfl (by kernel_rfl) (by kernel_rfl) (by kernel_rfl) (fun _ _ _ h => h) (Or.inl ⟨by rfl, ?_⟩) (by assumption) ?_
          · (intro wq hq; exact run_load_wi agg_wsh X 0 [.int .i64 x.w, .int .i64 x.e, .int .i64 x.s, .int .u64 ((x.q.a).toNat : Int), .int .u64 ((x.q.b).toNat : Int), .int .u64 ((x.q.c).toNat : Int), .int .u64 ((x.q.d).toNat : Int)] (by kernel_rfl) (by kernel_rfl) hq.1)
          try simp only [Act.put, List.setIfInBounds_toArray, List.set_cons_zero, List.set_cons_succ]
          refine wpAnyH_take (i := 1) (oi := { dst := some 22, op := Op.load 47 (Operand.tmp 3), type := 47, pos := "l9_witness.go:237", after := #[], guard := none }) (v := .agg #[.int .i64 n, .int .u64 (((whq d.1 d.2).a).toNat : Int), .int .u64 (((whq d.1 d.2).b).toNat : Int), .int .u64 (((whq d.1 d.2).c).toNat : Int), .int .u64 (((whq d.1 d.2).d).toNat : Int)]) rfl (by kernel_rfl) (by kernel_rfl) (by kernel_rfl) (fun _ _ _ h => h) (Or.inl ⟨by rfl, ?_⟩) (by assumption) ?_
          · (intro wq hq; exact run_load_wi agg_ip5 P 0 [.int .i64 n, .int .u64 (((whq d.1 d.2).a).toNat : Int), .int .u64 (((whq d.1 d.2).b).toNat : Int), .int .u64 (((whq d.1 d.2).c).toNat : Int), .int .u64 (((whq d.1 d.2).d).toNat : Int)] (by kernel_rfl) (by kernel_rfl) hq.2.1)
          try simp only [Act.put, List.setIfInBounds_toArray, List.set_cons_zero, List.set_cons_succ]
          refine wpAnyH_ready (rs := [2]) (by kernel_rfl) (by simp) ?_
          refine AllReadyH.cons (o := { dst := some 23, op := Op.call { callee := Callee.value (Operand.func 15), args := #[Operand.tmp 21, Operand.tmp 22], argTypes := #[50, 47] }, type := 4, pos := "l9_witness.go:237", after := #[{ on := 0, ground := Ground.data }, { on := 1, ground := Ground.data }], guard := none }) rfl (fun K hK => ?_) AllReadyH.nil
          go_simp
          go_at_call 15
          refine co.mono ?_
          rintro e w9 ⟨b, rfl, b9, hb⟩
          have A6 := A5.call b9
          have fX := X5.call b9 lX5
          have fP := P5.call b9 l5
          have l6 := Nat.lt_of_lt_of_le l5 b9.size
          have f14 := A6.list
          have zd := A6.2.2
          obtain rfl : b = false := by cases b with | false => rfl | true => exact absurd (hb.1 rfl) hr
          go_simp
          refine hK.out _ _ ⟨fX, fP, f14⟩ (fun hHeld => ?_)
          clear hK K
          refine wpAnyH_take (i := 3) (oi := { dst := some 24, op := Op.unOp UnOp.not 4 (Operand.tmp 23), type := 4, pos := "l9_witness.go:237", after := #[{ on := 2, ground := Ground.data }], guard := none }) (v := .bool true) rfl (by kernel_rfl) (by kernel_rfl) (by kernel_rfl) (fun _ _ _ h => h) (Or.inl ⟨by rfl, ?_⟩) (by assumption) ?_
          · (intro wq hq; first | (go_simp; done) | (go_simp; rfl) | (go_simp; omega))
          try simp only [Act.put, List.setIfInBounds_toArray, List.set_cons_zero, List.set_cons_succ]
          refine wpAnyH_take (i := 4) (oi := { dst := some 25, op := Op.move (Operand.tmp 24), type := 4, pos := "l9_witness.go:237", after := #[{ on := 3, ground := Ground.data }, { on := 2, ground := Ground.chain }], guard := none }) (v := .bool true) rfl (by kernel_rfl) (by kernel_rfl) (by kernel_rfl) (fun _ _ _ h => h) (Or.inl ⟨by rfl, ?_⟩) (by assumption) ?_
          · (intro wq hq; first | (go_simp; done) | (go_simp; rfl) | (go_simp; omega))
          try simp only [Act.put, List.setIfInBounds_toArray, List.set_cons_zero, List.set_cons_succ]
          refine wpAnyH_take (i := 5) (oi := { dst := some 26, op := Op.move (Operand.tmp 4), type := 3, pos := "l9_witness.go:237", after := #[{ on := 4, ground := Ground.guard }], guard := some (4, false) }) (v := undef) rfl (by kernel_rfl) (by kernel_rfl) (by kernel_rfl) (fun _ _ _ h => h) (Or.inr ⟨by rfl, rfl⟩) (by assumption) ?_
          try simp only [Act.put, List.setIfInBounds_toArray, List.set_cons_zero, List.set_cons_succ]
          refine wpAnyH_take (i := 6) (oi := { dst := some 27, op := Op.binOp BinOp.gtr 3 (Operand.tmp 26) (Operand.const (Value.int IntKind.i64 0)) 3, type := 4, pos := "l9_witness.go:237", after := #[{ on := 5, ground := Ground.data }, { on := 4, ground := Ground.guard }], guard := some (4, false) }) (v := undef) rfl (by kernel_rfl) (by kernel_rfl) (by kernel_rfl) (fun _ _ _ h => h) (Or.inr ⟨by rfl, rfl⟩) (by assumption) ?_
          try simp only [Act.put, List.setIfInBounds_toArray, List.set_cons_zero, List.set_cons_succ]
          refine wpAnyH_take (i := 7) (oi := { dst := some 28, op := Op.move (Operand.tmp 27), type := 4, pos := "l9_witness.go:237", after := #[{ on := 6, ground := Ground.data }, { on := 4, ground := Ground.chain }, { on := 4, ground := Ground.guard }], guard := some (4, false) }) (v := undef) rfl (by kernel_rfl) (by kernel_rfl) (by kernel_rfl) (fun _ _ _ h => h) (Or.inr ⟨by rfl, rfl⟩) (by assumption) ?_
          try simp only [Act.put, List.setIfInBounds_toArray, List.set_cons_zero, List.set_cons_succ]
          refine wpAnyH_take (i := 8) (oi := { dst := some 29, op := Op.fieldAddr 50 (Operand.tmp 5) 0, type := 0, pos := "l9_witness.go:237", after := #[{ on := 7, ground := Ground.guard }], guard := some (7, true) }) (v := undef) rfl (by kernel_rfl) (by kernel_rfl) (by kernel_rfl) (fun _ _ _ h => h) (Or.inr ⟨by rfl, rfl⟩) (by assumption) ?_
          try simp only [Act.put, List.setIfInBounds_toArray, List.set_cons_zero, List.set_cons_succ]
          refine wpAnyH_take (i := 9) (oi := { dst := some 30, op := Op.load 3 (Operand.tmp 29), type := 3, pos := "l9_witness.go:237", after := #[{ on := 8, ground := Ground.data }, { on := 7, ground := Ground.guard }], guard := some (7, true) }) (v := undef) rfl (by kernel_rfl) (by kernel_rfl) (by kernel_rfl) (fun _ _ _ h => h) (Or.inr ⟨by rfl, rfl⟩) (by assumption) ?_
          try simp only [Act.put, List.setIfInBounds_toArray, List.set_cons_zero, List.set_cons_succ]
          refine wpAnyH_take (i := 10) (oi := { dst := some 31, op := Op.fieldAddr 41 (Operand.tmp 1) 1, type := 0, pos := "l9_witness.go:237", after := #[{ on := 7, ground := Ground.guard }], guard := some (7, true) }) (v := undef) rfl (by kernel_rfl) (by kernel_rfl) (by kernel_rfl) (fun _ _ _ h => h) (Or.inr ⟨by rfl, rfl⟩) (by assumption) ?_
          try simp only [Act.put, List.setIfInBounds_toArray, List.set_cons_zero, List.set_cons_succ]
          refine wpAnyH_take (i := 11) (oi := { dst := some 32, op := Op.load 39 (Operand.tmp 31), type := 39, pos := "l9_witness.go:237", after := #[{ on := 10, ground := Ground.data }, { on := 7, ground := Ground.guard }], guard := some (7, true) }) (v := undef) rfl (by kernel_rfl) (by kernel_rfl) (by kernel_rfl) (fun _ _ _ h => h) (Or.inr ⟨by rfl, rfl⟩) (by assumption) ?_
          try simp only [Act.put, List.setIfInBounds_toArray, List.set_cons_zero, List.set_cons_succ]
          refine wpAnyH_take (i := 12) (oi := { dst := some 33, op := Op.move (Operand.tmp 4), type := 3, pos := "l9_witness.go:237", after := #[{ on := 7, ground := Ground.guard }], guard := some (7, true) }) (v := undef) rfl (by kernel_rfl) (by kernel_rfl) (by kernel_rfl) (fun _ _ _ h => h) (Or.inr ⟨by rfl, rfl⟩) (by assumption) ?_
          try simp only [Act.put, List.setIfInBounds_toArray, List.set_cons_zero, List.set_cons_succ]
          refine wpAnyH_take (i := 13) (oi := { dst := some 34, op := Op.binOp BinOp.sub 3 (Operand.tmp 33) (Operand.const (Value.int IntKind.i64 1)) 3, type := 3, pos := "l9_witness.go:237", after := #[{ on := 12, ground := Ground.data }, { on := 7, ground := Ground.guard }], guard := some (7, true) }) (v := undef) rfl (by kernel_rfl) (by kernel_rfl) (by kernel_rfl) (fun _ _ _ h => h) (Or.inr ⟨by rfl, rfl⟩) (by assumption) ?_
          try simp only [Act.put, List.setIfInBounds_toArray, List.set_cons_zero, List.set_cons_succ]
          refine wpAnyH_take (i := 14) (oi := { dst := some 35, op := Op.indexAddr 39 (Operand.tmp 32) (Operand.tmp 34), type := 0, pos := "l9_witness.go:237", after := #[{ on := 11, ground := Ground.data }, { on := 13, ground := Ground.data }, { on := 7, ground := Ground.guard }], guard := some (7, true) }) (v := undef) rfl (by kernel_rfl) (by kernel_rfl) (by kernel_rfl) (fun _ _ _ h => h) (Or.inr ⟨by rfl, rfl⟩) (by assumption) ?_
          try simp only [Act.put, List.setIfInBounds_toArray, List.set_cons_zero, List.set_cons_succ]
          refine wpAnyH_take (i := 15) (oi := { dst := some 36, op := Op.fieldAddr 50 (Operand.tmp 35) 0, type := 0, pos := "l9_witness.go:237", after := #[{ on := 14, ground := Ground.data }, { on := 7, ground := Ground.guard }], guard := some (7, true) }) (v := undef) rfl (by kernel_rfl) (by kernel_rfl) (by kernel_rfl) (fun _ _ _ h => h) (Or.inr ⟨by rfl, rfl⟩) (by assumption) ?_
          try simp only [Act.put, List.setIfInBounds_toArray, List.set_cons_zero, List.set_cons_succ]
          refine wpAnyH_take (i := 16) (oi := { dst := some 37, op := Op.load 3 (Operand.tmp 36), type := 3, pos := "l9_witness.go:237", after := #[{ on := 15, ground := Ground.data }, { on := 7, ground := Ground.guard }], guard := some (7, true) }) (v := undef) rfl (by kernel_rfl) (by kernel_rfl) (by kernel_rfl) (fun _ _ _ h => h) (Or.inr ⟨by rfl, rfl⟩) (by assumption) ?_
          try simp only [Act.put, List.setIfInBounds_toArray, List.set_cons_zero, List.set_cons_succ]
          refine wpAnyH_take (i := 17) (oi := { dst := some 38, op := Op.binOp BinOp.leq 3 (Operand.tmp 30) (Operand.tmp 37) 3, type := 4, pos := "l9_witness.go:237", after := #[{ on := 9, ground := Ground.data }, { on := 16, ground := Ground.data }, { on := 7, ground := Ground.guard }], guard := some (7, true) }) (v := undef) rfl (by kernel_rfl) (by kernel_rfl) (by kernel_rfl) (fun _ _ _ h => h) (Or.inr ⟨by rfl, rfl⟩) (by assumption) ?_
          try simp only [Act.put, List.setIfInBounds_toArray, List.set_cons_zero, List.set_cons_succ]
          refine wpAnyH_take (i := 18) (oi := { dst := some 39, op := Op.pick (Operand.tmp 28) (Operand.tmp 38) (Operand.const (Value.bool false)), type := 4, pos := "l9_witness.go:237", after := #[{ on := 7, ground := Ground.data }, { on := 17, ground := Ground.data }, { on := 4, ground := Ground.guard }], guard := some (4, false) }) (v := undef) rfl (by kernel_rfl) (by kernel_rfl) (by kernel_rfl) (fun _ _ _ h => h) (Or.inr ⟨by rfl, rfl⟩) (by assumption) ?_
          try simp only [Act.put, List.setIfInBounds_toArray, List.set_cons_zero, List.set_cons_succ]
          refine wpAnyH_take (i := 19) (oi := { dst := some 40, op := Op.pick (Operand.tmp 25) (Operand.const (Value.bool true)) (Operand.tmp 39), type := 4, pos := "l9_witness.go:237", after := #[{ on := 4, ground := Ground.data }, { on := 18, ground := Ground.data }], guard := none }) (v := .bool true) rfl (by kernel_rfl) (by kernel_rfl) (by kernel_rfl) (fun _ _ _ h => h) (Or.inl ⟨by rfl, ?_⟩) (by assumption) ?_
          · (intro wq hq; first | (go_simp; done) | (go_simp; rfl) | (go_simp; omega))
          try simp only [Act.put, List.setIfInBounds_toArray, List.set_cons_zero, List.set_cons_succ]
          refine wpAnyH_done (by kernel_rfl) ?_ _
          clear hHeld
          go_wp2_with fail
          go_ret
          first | exact ⟨false, rfl, zd, no_w hno⟩ | exact ⟨rfl, zd⟩ | exact ⟨rfl, zd, hno⟩ | exact ⟨_, rfl, zd, by simp [hno]; omega⟩
      · have hkk : k = L.length := by omega
        subst hkk
        have hyes : Wok d L := hC.2 hA
        clear hC hA A3 P3
        go_wp2_with fail
        go_ret
        first | exact ⟨true, rfl, zz, yes_w hyes⟩ | exact ⟨rfl, zz⟩ | exact ⟨rfl, zz, hyes⟩
  · have h8I : (8 : Int) < (L.length : Int) := by omega
    have hno : ¬ Wok d L := fun h => h8 h.1
    go_wp2_with fail
    go_ret
    first | exact ⟨false, rfl, zz, no_w hno⟩ | exact ⟨rfl, zz⟩ | exact ⟨rfl, zz, hno⟩ | exact ⟨_, rfl, zz, by simp [hno]; omega⟩
end Go.Proofs.YteaaaojafipllaaDoor
