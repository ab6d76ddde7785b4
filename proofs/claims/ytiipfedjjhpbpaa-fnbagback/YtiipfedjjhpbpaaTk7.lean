/-
  BagTake of the document, where there is a letter.
-/
import Derived.Test.YtiipfedjjhpbpaaTk6
namespace Go.Proofs.Ytiipfedjjhpbpaa
open Go.RowKit

theorem less_le (L : List Lt) (p j : Nat) : (less (L.take j) p).length ≤ j := by
  unfold less
  rw [List.length_append, List.length_take, List.length_drop, List.length_take]
  omega
set_option maxRecDepth 20000 in
set_option maxHeartbeats 4000000 in
theorem stake_some (W : World) (m : Int) (v : Value) (L : List Lt) (k : Int) (h : Lts W v L) (hbk : bagOk m L = true) (hp : 0 < L.length) :
    Calls Try.prog 20 #[.agg #[.int .i64 m, v], .int .i64 k] W fun e w' => ∃ u cap, e = .returned (.tuple #[.agg #[.int .i64 m, .slice u (less L (bpos k L.length)).length cap], .agg #[.int .i64 ((L[bpos k L.length]'(bpos_lt k _ hp))).f, .int .i64 ((L[bpos k L.length]'(bpos_lt k _ hp))).t, .string ((L[bpos k L.length]'(bpos_lt k _ hp))).s], .bool true]) ∧ w'.ownsRow W.heap.size 27 3 (.slice u (less L (bpos k L.length)).length cap) (less L (bpos k L.length)).length (lcs (less L (bpos k L.length))) ∧ Below W.heap.size W w' := by
  obtain ⟨i0, hi, hz0, hz1, hz2⟩ := info_parts infoL
  obtain ⟨hs, hl64, -, -, -⟩ := bagOk_sizes hbk
  have hB0 := B3.new W m v
  have h0 := h.call hB0.2.2.2
  have cb := bagok_spec _ m v L h0 (fun l hl => by have := hs l hl; unfold maxLen; omega)
  rw [hbk] at cb
  have cm := fun V : World => l6mod_is k L.length hp (by omega) V
  have hlt := bpos_lt k L.length hp
  have hsz0 : W.heap.size + 1 + 1 < (((W.alloc (.cells #[.int .i64 m, v] 25)).alloc (.cells #[.int .i64 0, .slice none 0 0] 25)).alloc (.cells #[.int .i64 0, .int .i64 0, .string ByteArray.empty] 27)).heap.size := hB0.2.2.1.1.1
  obtain ⟨oa, cap, rfl, _⟩ := h.len
  obtain ⟨a, rfl, hbl, hc⟩ := h.cells _ hp
  obtain ⟨x, hx⟩ : ∃ x, x = L[bpos k L.length]'hlt := ⟨_, rfl⟩
  have hcx := hc _ hlt
  rw [← hx] at hcx ⊢
  clear hx
  generalize bpos k L.length = p at cm hlt hcx ⊢
  obtain ⟨⟨-, a0, a1, -, -⟩, -, -, -⟩ := id hB0
  have hz : ((L.length : Int) == 0) = false := by rw [beq_eq_false_iff_ne]; omega
  clear h hbk hs
  go_enter Try.func20, Try.ntmps20
  go_upto_region 7 with (first
    | (go_at_call 12; refine cb.mono ?_; rintro e w1 ⟨rfl, hb1⟩; have hB1 := hB0.call hb1; have hs1 := hb1.size; obtain ⟨⟨-, e0, e1, -, -⟩, -, -⟩ := id hB1; clear cb hb1)
    | (go_at_call 44; refine (cm _).mono ?_; rintro e w2 ⟨rfl, hw⟩; replace hw := hw.symm; subst hw))
  have HP0 : Hid (CT W m (.slice (some a) L.length cap) w1.heap.size (less (L.take 0) p) none 0 (w1.alloc (.cells #[.int .i64 m, .slice none 0 0] 25))) := by
    rw [List.take_zero, less_nil]
    exact ⟨hB1.call ((Below.refl _ _).alloc (Nat.le_refl _) _), C2.new _ _ _ _, World.ownsRow_nil _ _ _ _, by omega⟩
  have HX : Hid (W.heap.size + 1 + 1 < w1.heap.size) := by show _ < _; omega
  clear hB0 hB1 h0 a0 a1 e0 e1 hsz0 hs1
  go_wp2_with fail
  obtain ⟨X, hXe⟩ : ∃ X, X = w1.heap.size := ⟨_, rfl⟩
  rw [← hXe] at HP0 HX ⊢
  clear hXe
  have hbX : a.block < W.heap.size + 1 + 1 := by omega
  go_loopw [8] (fun i wr => ∃ (j : Nat) (ob : Option Addr) (cq : Nat), j ≤ L.length ∧ i = .int .i64 (j : Int) ∧ Hid (CT W m (.slice (some a) L.length cap) X (less (L.take j) p) ob cq wr)) (fun i _ => L.length - (intOf i).toNat)
  case atStart => exact ⟨0, none, 0, by omega, rfl, HP0⟩
  case round =>
    obtain ⟨j, ob, cq, hj, rfl, HW⟩ := hrel
    obtain ⟨⟨hc1, hc2, hc3, hb⟩, hcX, ho, -⟩ := id HW.out
    obtain ⟨x0, x1, x2, x3, x4⟩ := id hc1
    obtain ⟨y0, y1, y2, y3, y4⟩ := id hcX
    obtain ⟨z0, z1, z2, z3, z4⟩ := id hc2
    obtain ⟨⟨u0, u1, u2, u3⟩, u4, u5, u6⟩ := id hc3
    by_cases hlj : j < L.length
    · have hd : LAt wr (a.add (j * 3)) L[j] := (hc j hlj).below hb (by rw [add_block]; exact hbl)
      obtain ⟨d0, d1, d2⟩ := hd
      have hk0 : (0 : Int) ≤ (j : Int) := by omega
      have hkI : (j : Int) < (L.length : Int) := by omega
      by_cases hjp : j = p
      · have hne : ((j : Int) != (p : Int)) = false := by rw [hjp]; simp
        have HN : Hid (CT W m (.slice (some a) L.length cap) X (less (L.take (j + 1)) p) ob cq wr) := by
          have e : less (L.take (j + 1)) p = less (L.take j) p := by rw [hjp]; exact less_skip L p hlt
          rw [e]
          exact HW.out
        clear hjp hc HP0 HW
        go_wp2_with fail
        go_roundw
        case rel => exact ⟨j + 1, _, _, by omega, by go_num, HN⟩
        case measure => simp [intOf]; omega
      · have hne : ((j : Int) != (p : Int)) = true := by rw [bne_iff_ne]; omega
        have hmore := less_more L p j hlj hjp
        have hYl : (less (L.take j) p).length ≤ 64 := by have := less_le L p j; omega
        have hdA : ∀ C : World, Below W.heap.size W C → LAt C (a.add (j * 3)) L[j] := fun C hC => (hc j hlj).below hC (by rw [add_block]; exact hbl)
        obtain ⟨q, hq⟩ : ∃ q, q = L[j] := ⟨_, rfl⟩
        rw [← hq] at d0 d1 d2 hmore hdA
        obtain ⟨Y, hY⟩ : ∃ Y, Y = less (L.take j) p := ⟨_, rfl⟩
        have HY1 : Hid (less (L.take (j + 1)) p = Y ++ [q]) := by rw [hY]; exact hmore
        rw [← hY] at HW hYl ho y2
        have HM : Hid (∀ (w5 w6 : World) (v' : Value), Below wr.heap.size wr w5 → w6.ownsRow (X + 1) 27 3 v' (Y.length + 1) (lcs Y ++ lc q) → w5.grownBy w6 (Value.slice ob Y.length cq).ownBlock → ∃ oc cp, v' = .slice oc (Y.length + 1) cp ∧ C2 X (.int .i64 m) (.slice ob Y.length cq) w6 ∧ C2 W.heap.size (.int .i64 m) (.slice (some a) L.length cap) w6 ∧ LAt w6 (a.add (j * 3)) q ∧ CT W m (.slice (some a) L.length cap) X (Y ++ [q]) oc cp (w6.setCell ⟨X, 1, none⟩ (.slice oc (Y.length + 1) cp))) := fun w5 w6 v' hb1 ho2 hg2 => by
          obtain ⟨oc, cp, p1, p2, p3, p4, p5⟩ := (HW.out.call hb1).more ho2 hg2
          exact ⟨oc, cp, p1, p2, p3, hdA _ p4, p5⟩
        have hlk : (lcs Y).length = Y.length * 3 := lcs_len Y
        have hXw : X < wr.heap.size := hcX.1
        obtain ⟨n, hn⟩ : ∃ n, n = Y.length := ⟨_, rfl⟩
        have HN0 : Hid (n = Y.length) := hn
        rw [← hn] at y2 ho hlk HM hYl
        obtain ⟨Z, hZ⟩ : ∃ Z, Z = lcs Y := ⟨_, rfl⟩
        rw [← hZ] at ho HM hlk
        clear hc HP0 HW hc1 hc2 hc3 hcX hq hZ hY hn hmore hdA hjp hcx
        have hab : (a.add (j * 3)).block < W.heap.size := by rw [add_block]; exact hbl
        have n1 := World.new_ne wr ⟨W.heap.size, 1, none⟩ x2
        have n2 := World.new_ne wr ⟨X, 1, none⟩ y2
        have n3 := World.new_ne wr (a.add (j * 3)) d0
        go_wp2_with fail
        go_region_law (refine step_append_lies _ rfl (.tmp 40) (.tmp 46) 23 rfl (X + 1) 27 i0 _ 3 32 Try.underlying23 hi hz0 hz1 hz2 rfl (by decide) (.slice ob n cq) n Z (by simp [Act.eval]) (own_callL ho (by repeat' (first | (with_reducible exact Below.refl _ _) | (with_reducible assumption) | (with_reducible refine below_drewN ?_ _) | (with_reducible refine Below.setCell ?_ ?_ _) | (with_reducible refine Below.alloc ?_ ?_ _) | (with_reducible refine Below.drew ?_) | go_size))) ⟨wr.heap.size, 0, none⟩ 1 1 (lc q) (by simp [Act.eval]) rfl (lc_cells (by simp [go_sem]) (by simp [go_sem]) (by simp [go_sem])) lc_one (by decide) (by unfold maxLen; omega) (by omega) (by simp; omega) _ rfl ?_; intro g cp w3 ho3 hg3 hat3 hlt3; obtain ⟨oc, cp', hv3, ⟨-, e0, e1, e2, e3⟩, ⟨-, f0, f1, f2, f3⟩, ⟨s0, s1, s2⟩, HN⟩ := HM.out _ w3 _ (by repeat' (first | (with_reducible exact Below.refl _ _) | (with_reducible assumption) | (with_reducible refine below_drewN ?_ _) | (with_reducible refine Below.setCell ?_ ?_ _) | (with_reducible refine Below.alloc ?_ ?_ _) | (with_reducible refine Below.drew ?_) | go_size)) ho3 hg3; injection hv3 with hv1 hv2 hv3; subst hv1 hv3; clear hat3)
        all_goals (go_wp2_with fail)
        all_goals go_roundw
        all_goals try (case measure => simp [intOf]; omega)
        all_goals (case rel => exact ⟨j + 1, _, _, by omega, by go_num, by rw [HY1.out]; exact HN⟩)
    · have hjj : j = L.length := by omega
      subst hjj
      rw [less_all L p _ (Nat.le_refl _)] at ho y2 HW
      obtain ⟨d0, d1, d2⟩ := hcx.below hb (by rw [add_block]; exact hbl)
      have hp0 : (0 : Int) ≤ (p : Int) := by omega
      have hpI : (p : Int) < (L.length : Int) := by omega
      have hXw : X < wr.heap.size := hcX.1
      have hap : (a.add (p * 3)).block ≠ W.heap.size + 1 := by rw [add_block]; omega
      have hap2 : (a.add (p * 3)).block ≠ W.heap.size + 1 + 1 := by rw [add_block]; omega
      have hX1 := HX.out
      obtain ⟨Y, hY⟩ : ∃ Y, Y = less L p := ⟨_, rfl⟩
      rw [← hY] at HW ho y2
      have HYL : Hid (Y = less L p) := hY
      clear hY
      clear hc HP0
      go_wp2_with fail
      have hB := HW.out.1
      have hO := own_put (W := W) (x0 := .int .i64 m) (y0 := .slice ob Y.length cq) (x1 := .int .i64 x.f) (y1 := .int .i64 x.t) (z1 := .string x.s) ho (by omega)
      obtain ⟨p1, ⟨⟨-, q0, q1, q2⟩, -, -, -⟩, p3⟩ := hB.put (m' := m) (u := .slice ob Y.length cq) (x := x)
      obtain ⟨-, p4, p5, -, -⟩ := p1
      clear hB HW hc1 hc2 hc3 hcX hcx ho
      go_region_held3 (fun w' => w'.cell? ⟨X, 0, none⟩ = some (.int .i64 m) ∧ w'.cell? ⟨X, 1, none⟩ = some (.slice ob Y.length cq) ∧ w'.cell? ⟨W.heap.size, 1, none⟩ = some (.slice (some a) L.length cap) ∧ w'.cell? (a.add (p * 3)) = some (.int .i64 x.f) ∧ w'.cell? ⟨(a.add (p * 3)).block, (a.add (p * 3)).off + 1, none⟩ = some (.int .i64 x.t) ∧ w'.cell? ⟨(a.add (p * 3)).block, (a.add (p * 3)).off + 2, none⟩ = some (.string x.s)) ((refine ⟨?_, ?_, ?_, ?_, ?_, ?_⟩ <;> (repeat (first | (with_reducible assumption) | (with_reducible refine c_drew ?_) | (with_reducible refine c_set ?_ (by first | (show W.heap.size + 1 ≠ X; omega) | (show W.heap.size + 1 ≠ W.heap.size; omega) | exact hap.symm | (show W.heap.size + 1 + 1 ≠ X; omega) | (show W.heap.size + 1 + 1 ≠ W.heap.size; omega) | exact hap2.symm)))))) (fail)
      go_wp2_with fail
      generalize ((((wr.setCell ⟨W.heap.size + 1, 0, none⟩ (.int .i64 m)).setCell ⟨W.heap.size + 1, 1, none⟩ (.slice ob Y.length cq)).setCell ⟨W.heap.size + 1 + 1, 0, none⟩ (.int .i64 x.f)).setCell ⟨W.heap.size + 1 + 1, 1, none⟩ (.int .i64 x.t)).setCell ⟨W.heap.size + 1 + 1, 2, none⟩ (.string x.s) = Z at p3 p4 p5 q0 q1 q2 hO ⊢
      obtain rfl := HYL.out
      refine bodyPost_ret (v := .tuple #[.agg #[.int .i64 m, .slice ob (less L p).length cq], .agg #[.int .i64 (x).f, .int .i64 (x).t, .string (x).s], .bool true]) ?_ rfl ⟨_, _, rfl, own_callL hO (Below.refl _ _).drew, p3.drew⟩
      simp [results, Try.results20, go_sem, p4, p5, q0, q1, q2]
/-- BagTake of the document, wherever it comes to. -/
theorem btake_spec (W : World) (m : Int) (v : Value) (L : List Lt) (k : Int) (h : Lts W v L) (hs : ∀ l ∈ L, l.s.size ≤ maxLen) :
    Calls Try.prog 20 #[.agg #[.int .i64 m, v], .int .i64 k] W fun e w' => ∃ u cap, e = .returned (.tuple #[.agg #[.int .i64 (btake m L k).1, .slice u (btake m L k).2.1.length cap], .agg #[.int .i64 ((btake m L k).2.2.1).f, .int .i64 ((btake m L k).2.2.1).t, .string ((btake m L k).2.2.1).s], .bool (btake m L k).2.2.2]) ∧ w'.ownsRow W.heap.size 27 3 (.slice u (btake m L k).2.1.length cap) (btake m L k).2.1.length (lcs (btake m L k).2.1) ∧ Below W.heap.size W w' := by
  cases hok : bagOk m L with
  | true =>
    have e : btake m L k = (m, (tk L k).1, (tk L k).2.1, (tk L k).2.2) := by unfold btake; rw [if_pos hok]
    rw [e]
    by_cases hp : 0 < L.length
    · have e2 : tk L k = (less L (bpos k L.length), L[bpos k L.length]'(bpos_lt k _ hp), true) := by unfold tk; rw [dif_pos hp]
      rw [e2]
      exact stake_some W m v L k h hok hp
    · have hL : L = [] := List.length_eq_zero_iff.1 (by omega)
      subst hL
      have e2 : tk [] k = ([], ⟨0, 0, ByteArray.empty⟩, false) := by unfold tk; rw [dif_neg (by simp)]
      rw [e2]
      exact stake_none W m v k h hok
  | false =>
    have e : btake m L k = (0, [], ⟨0, 0, ByteArray.empty⟩, false) := by unfold btake; rw [if_neg (by rw [hok]; simp)]
    rw [e]
    exact (stake_out W m v L k h hs hok).mono (fun e w' ⟨he, hb⟩ => ⟨none, 0, he, World.ownsRow_nil _ _ _ _, hb⟩)
end Go.Proofs.Ytiipfedjjhpbpaa
