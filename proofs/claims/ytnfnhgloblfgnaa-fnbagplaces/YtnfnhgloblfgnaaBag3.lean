/-
  Bags: measured, copied, compared; whether one is ok, by both.
-/
import Derived.Test.YtnfnhgloblfgnaaBag2
namespace Go.Proofs.Ytnfnhgloblfgnaa
open Go.RowKit

theorem szbag_is (W : World) (m : Int) (v : Value) (L : List Lt) (h : Lts W v L) (hs : ∀ l ∈ L, l.s.size ≤ maxLen) :
    Calls Try.prog 10 #[.agg #[.int .i64 m, v], .int .i64 1048576] W fun e w' => ∃ r : Int, e = .returned (.int .i64 r) ∧ Below W.heap.size W w' ∧ (0 ≤ r → r ≤ 1048576 ∧ L.length ≤ 1048576) := by
  have hb0 : Below W.heap.size W (W.alloc (.cells #[.int .i64 m, v] 39)) := (Below.refl _ _).alloc (Nat.le_refl _) _
  have c := szls_is _ v L (h.call hb0) hs
  obtain ⟨oa, cap, rfl, _⟩ := h.len
  clear h
  go_enter Try.func10, Try.ntmps10
  go_wp2_with (go_at_call 27; refine c.mono ?_; rintro e w1 ⟨r, rfl, hb1, hr⟩; clear c)
  · go_ret
    exact ⟨-1, rfl, below_after hb0 hb1 hb0.size, fun h => by omega⟩
  · go_ret
    exact ⟨r, rfl, below_after hb0 hb1 hb0.size, hr⟩
theorem LR.set {B n k : Nat} {L : List Lt} {W : World} (h : LR B n L k W) (X o : Nat) (x : Value) (hX : X ≠ B) : LR B n L k (W.setCell ⟨X, o, none⟩ x) := by
  have e : ∀ j, (W.setCell ⟨X, o, none⟩ x).cell? ⟨B, j, none⟩ = W.cell? ⟨B, j, none⟩ := fun j => World.cell?_setCell_other _ _ _ _ (fun e => hX (congrArg Addr.block e))
  refine ⟨by simp only [World.size_setCell]; exact h.1, fun i hi => ⟨by rw [e]; exact (h.2.1 i hi).1, by simp only [World.frozen?_setCell]; exact (h.2.1 i hi).2⟩, fun i hi hk => ?_⟩
  obtain ⟨d0, d1, d2⟩ := h.2.2 i hi hk
  exact ⟨(e _).trans d0, (e _).trans d1, (e _).trans d2⟩
/-- The block B holds two values, and may be written. -/
def C2 (B : Nat) (x y : Value) (W : World) : Prop := B < W.heap.size ∧ W.cell? ⟨B, 0, none⟩ = some x ∧ W.cell? ⟨B, 1, none⟩ = some y ∧ W.frozen? ⟨B, 0, none⟩ = false ∧ W.frozen? ⟨B, 1, none⟩ = false
theorem C2.new (w : World) (x y : Value) (t : TypeId) : C2 w.heap.size x y (w.alloc (.cells #[x, y] t)) := by
  refine ⟨by simp, ?_, ?_, ?_, ?_⟩ <;> simp [go_sem]
theorem C2.call {B : Nat} {x y : Value} {W W' : World} (h : C2 B x y W) (hb : Below W.heap.size W W') : C2 B x y W' := by
  obtain ⟨h0, h1, h2, h3, h4⟩ := h
  exact ⟨Nat.lt_of_lt_of_le h0 hb.size, (hb.cell (p := ⟨B, 0, none⟩) h0).trans h1, (hb.cell (p := ⟨B, 1, none⟩) h0).trans h2, (hb.frozen (p := ⟨B, 0, none⟩) h0).trans h3, (hb.frozen (p := ⟨B, 1, none⟩) h0).trans h4⟩
theorem C2.alloc {B : Nat} {x y : Value} {W : World} (h : C2 B x y W) (o : Obj) : C2 B x y (W.alloc o) := h.call ((Below.refl _ _).alloc (Nat.le_refl _) _)
theorem C2.set {B : Nat} {x y : Value} {W : World} (h : C2 B x y W) (X : Nat) (o : Nat) (z : Value) (hX : X ≠ B) : C2 B x y (W.setCell ⟨X, o, none⟩ z) :=
  ⟨by simp only [World.size_setCell]; exact h.1, c_set h.2.1 (by exact hX), c_set h.2.2.1 (by exact hX), by rw [World.frozen?_setCell]; exact h.2.2.2.1, by rw [World.frozen?_setCell]; exact h.2.2.2.2⟩
set_option maxRecDepth 20000 in
set_option maxHeartbeats 1000000 in
theorem tobag_is (W : World) (m : Int) (v : Value) (L : List Lt) (h : Lts W v L) (hlen : L.length ≤ 1048576) :
    Calls Try.prog 12 #[.agg #[.int .i64 m, v]] W fun e w' => ∃ B : Nat, e = .returned (.agg #[.int .i64 m, .slice (some ⟨B, 0, none⟩) L.length L.length]) ∧ W.heap.size ≤ B ∧ LR B L.length L L.length w' ∧ Below W.heap.size W w' := by
  obtain ⟨V, hV⟩ : ∃ V, V = ((W.alloc (.cells #[.int .i64 m, v] 39)).alloc (.cells #[.int .i64 0, .slice none 0 0] 25)).alloc (.cells #[.int .i64 m, .slice none 0 0] 25) := ⟨_, rfl⟩
  have hb0 : Below W.heap.size W V := by rw [hV]; exact (by repeat' (first | (with_reducible exact Below.refl _ _) | (with_reducible assumption) | (with_reducible refine below_drewN ?_ _) | (with_reducible refine Below.setCell ?_ ?_ _) | (with_reducible refine Below.alloc ?_ ?_ _) | (with_reducible refine Below.drew ?_) | go_size))
  have hzV : V.heap.size = W.heap.size + 3 := by rw [hV]; simp
  have x1 : C2 (W.heap.size + 1) (.int .i64 0) (.slice none 0 0) V := by
    have := (C2.new (W.alloc (.cells #[.int .i64 m, v] 39)) (.int .i64 0) (.slice none 0 0) 25).alloc (.cells #[.int .i64 m, .slice none 0 0] 25)
    rw [World.size_alloc] at this
    rw [hV]; exact this
  have x2 : C2 (W.heap.size + 1 + 1) (.int .i64 m) (.slice none 0 0) V := by
    have := C2.new ((W.alloc (.cells #[.int .i64 m, v] 39)).alloc (.cells #[.int .i64 0, .slice none 0 0] 25)) (.int .i64 m) (.slice none 0 0) 25
    rw [World.size_alloc, World.size_alloc] at this
    rw [hV]; exact this
  have c : Calls Try.prog 28 #[v] V fun e w' => e = .returned (.slice (some ⟨W.heap.size + 3, 0, none⟩) L.length L.length) ∧ C2 (W.heap.size + 1) (.int .i64 0) (.slice none 0 0) w' ∧ C2 (W.heap.size + 1 + 1) (.int .i64 m) (.slice none 0 0) w' ∧ Below W.heap.size W w' ∧ LR (W.heap.size + 3) L.length L L.length w' := by
    have := tols_is V v L (h.call hb0) hlen
    rw [hzV] at this
    refine this.mono ?_
    rintro e w' ⟨h1, h2, h3⟩
    rw [← hzV] at h2
    exact ⟨h1, x1.call h2, x2.call h2, below_after hb0 h2 hb0.size, h3⟩
  rw [hV] at c
  clear hV x1 x2 hzV hb0
  obtain ⟨oa, cap, rfl, _⟩ := h.len
  clear h
  go_enter Try.func12, Try.ntmps12
  go_wp2_with (go_at_call 28; refine c.mono ?_; rintro e w1 ⟨rfl, ⟨b0, b1, b2, b3, b4⟩, ⟨c0, c1, c2, c3, c4⟩, hB, hr1⟩; clear c)
  refine bodyPost_ret (v := .agg #[.int .i64 m, .slice (some ⟨W.heap.size + 3, 0, none⟩) L.length L.length]) (by simp [results, Try.results12, go_sem, b1, b2]) rfl ⟨_, rfl, by omega, ?_, ?_⟩
  · exact ((hr1.set _ _ _ (by omega)).set _ _ _ (by omega)).set _ _ _ (by omega)
  · exact ((hB.setCell (by show W.heap.size ≤ W.heap.size + 1 + 1; omega) _).setCell (by show W.heap.size ≤ W.heap.size + 1; omega) _).setCell (by show W.heap.size ≤ W.heap.size + 1; omega) _
set_option maxRecDepth 20000 in
theorem eqbag_is (W : World) (m : Int) (u v : Value) (L : List Lt) (h : Lts W u L) (h' : Lts W v L) :
    Calls Try.prog 14 #[.agg #[.int .i64 m, u], .agg #[.int .i64 m, v]] W fun e w' => e = .returned (.bool true) ∧ Below W.heap.size W w' := by
  have hb0 : Below W.heap.size W ((W.alloc (.cells #[.int .i64 m, u] 25)).alloc (.cells #[.int .i64 m, v] 25)) := (by repeat' (first | (with_reducible exact Below.refl _ _) | (with_reducible assumption) | (with_reducible refine below_drewN ?_ _) | (with_reducible refine Below.setCell ?_ ?_ _) | (with_reducible refine Below.alloc ?_ ?_ _) | (with_reducible refine Below.drew ?_) | go_size))
  have c := eqls_is _ u v L (h.call hb0) (h'.call hb0)
  obtain ⟨oa, cap, rfl, _⟩ := h.len
  obtain ⟨oa', cap', rfl, _⟩ := h'.len
  clear h h'
  go_enter Try.func14, Try.ntmps14
  go_wp2_with (go_at_call 29; refine c.mono ?_; rintro e w1 ⟨rfl, hb1⟩; clear c)
  go_ret
  exact ⟨rfl, below_after hb0 hb1 hb0.size⟩

/-- A bag that is ok. -/
def bagOk (m : Int) (L : List Lt) : Bool := decide (1 ≤ m ∧ m ≤ 64 ∧ (L.length : Int) ≤ m) && L.all (fun l => letOk l.f l.t l.s.size)
theorem bagOk_room {m : Int} {L : List Lt} (h : ¬ (1 ≤ m ∧ m ≤ 64 ∧ (L.length : Int) ≤ m)) : bagOk m L = false := by
  unfold bagOk; rw [decide_eq_false h]; rfl
theorem bagOk_all {m : Int} {L : List Lt} (h : 1 ≤ m ∧ m ≤ 64 ∧ (L.length : Int) ≤ m) : bagOk m L = L.all (fun l => letOk l.f l.t l.s.size) := by
  unfold bagOk; rw [decide_eq_true h, Bool.true_and]
set_option maxRecDepth 20000 in
set_option maxHeartbeats 1000000 in
theorem bagok_spec (W : World) (m : Int) (v : Value) (L : List Lt) (h : Lts W v L) (hs : ∀ l ∈ L, l.s.size ≤ maxLen) :
    Calls Try.prog 6 #[.agg #[.int .i64 m, v]] W fun e w' => e = .returned (.bool (bagOk m L)) ∧ Below W.heap.size W w' := by
  have ci := fun V : World => in_is m 1 64 V
  have hb0 : Below W.heap.size W (W.alloc (.cells #[.int .i64 m, v] 25)) := (Below.refl _ _).alloc (Nat.le_refl _) _
  have hcx := C2.new W (.int .i64 m) v 25
  obtain ⟨oa, cap, rfl, hl⟩ := h.len
  have hcell := h.cells
  clear h
  by_cases h1 : 1 ≤ m ∧ m ≤ 64
  · have e1 : (decide ((1 : Int) ≤ m) && decide (m ≤ 64)) = true := by simp; omega
    rw [e1] at ci
    by_cases h2 : m < (L.length : Int)
    · have HR : Hid (bagOk m L = false) := bagOk_room (by omega)
      clear hcell hcx
      go_enter Try.func6, Try.ntmps6
      go_wp2_with (go_at_call 21; refine (ci _).mono ?_; rintro e w1 ⟨rfl, hw⟩; replace hw := hw.symm; subst hw)
      go_ret
      exact ⟨by rw [HR.out]; rfl, hb0⟩
    · obtain ⟨R, hR⟩ : ∃ R, R = bagOk m L := ⟨_, rfl⟩
      rw [← hR]
      have HR : Hid (R = L.all (fun l => letOk l.f l.t l.s.size)) := by show _ = _; rw [hR, bagOk_all (by omega)]
      clear hR h1 e1
      have HB0 : Hid (Below W.heap.size W (W.alloc (.cells #[.int .i64 m, .slice oa L.length cap] 25)) ∧ C2 W.heap.size (.int .i64 m) (.slice oa L.length cap) (W.alloc (.cells #[.int .i64 m, .slice oa L.length cap] 25))) := ⟨hb0, hcx⟩
      clear hb0 hcx
      go_enter Try.func6, Try.ntmps6
      go_wp2_with (go_at_call 21; refine (ci _).mono ?_; rintro e w1 ⟨rfl, hw⟩; replace hw := hw.symm; subst hw)
      clear ci
      go_loopw [3] (fun i wr => ∃ k : Nat, k ≤ L.length ∧ i = .int .i64 (k : Int) ∧ Hid ((L.take k).all (fun l => letOk l.f l.t l.s.size) = true) ∧ Hid (Below W.heap.size W wr ∧ C2 W.heap.size (.int .i64 m) (.slice oa L.length cap) wr)) (fun i _ => L.length - (intOf i).toNat)
      case atStart => exact ⟨0, by omega, rfl, rfl, HB0⟩
      case round =>
        obtain ⟨k, hk, rfl, HA, HW⟩ := hrel
        obtain ⟨hb, hc2⟩ := HW.out
        obtain ⟨x0, x1, x2, -, -⟩ := id hc2
        by_cases hlt : k < L.length
        · obtain ⟨a, rfl, hbl, hc⟩ := hcell k hlt
          have hd : LAt wr (a.add (k * 3)) L[k] := (hc k hlt).below hb (by rw [add_block]; exact hbl)
          have hsl := hs L[k] (List.getElem_mem _)
          obtain ⟨l, hq⟩ : ∃ q, q = L[k] := ⟨_, rfl⟩
          have HT : Hid (L.take (k + 1) = L.take k ++ [l]) := by
            show _ = _
            rw [List.take_succ_eq_append_getElem hlt, hq]
          have hmem : l ∈ L := by rw [hq]; exact List.getElem_mem _
          rw [← hq] at hd hsl
          obtain ⟨d0, d1, d2⟩ := hd
          have cl := fun V : World => letok_spec l.f l.t l.s hsl V
          have hk0 : (0 : Int) ≤ (k : Int) := by omega
          have hkI : (k : Int) < (L.length : Int) := by omega
          clear hq hc hcell hsl HB0
          cases hb2 : letOk l.f l.t l.s.size with
          | false =>
            rw [hb2] at cl
            have HN : Hid (R = false) := by
              show _ = _
              rw [HR.out, List.all_eq_false]
              exact ⟨l, hmem, by rw [hb2]; decide⟩
            clear hb2
            go_wp2_with (go_at_call 22; refine (cl _).mono ?_; rintro e w1 ⟨rfl, hb1⟩)
            go_ret
            exact ⟨by rw [HN.out]; rfl, below_after hb hb1 hb.size⟩
          | true =>
            rw [hb2] at cl
            have HA2 : Hid ((L.take (k + 1)).all (fun l => letOk l.f l.t l.s.size) = true) := by
              show _ = _
              rw [HT.out, List.all_append, HA.out]
              simp [hb2]
            clear hb2
            go_wp2_with (go_at_call 22; refine (cl _).mono ?_; rintro e w1 ⟨rfl, hb1⟩)
            exact ⟨⟨k + 1, by omega, by go_num, HA2, below_after hb hb1 hb.size, hc2.call hb1⟩, by simp [intOf]; omega⟩
        · have HN : Hid (R = true) := by
            show _ = _
            have ht : L.take k = L := List.take_of_length_le (by omega)
            have := HA.out
            rw [ht] at this
            rw [HR.out]
            exact this
          clear hcell HB0
          go_wp2
          go_ret
          exact ⟨by rw [HN.out]; rfl, hb⟩
  · have e1 : (decide ((1 : Int) ≤ m) && decide (m ≤ 64)) = false := by rw [Bool.and_eq_false_iff, decide_eq_false_iff_not, decide_eq_false_iff_not]; omega
    rw [e1] at ci
    have HR : Hid (bagOk m L = false) := bagOk_room (by omega)
    clear hcell hcx e1
    go_enter Try.func6, Try.ntmps6
    go_wp2_with (go_at_call 21; refine (ci _).mono ?_; rintro e w1 ⟨rfl, hw⟩; replace hw := hw.symm; subst hw)
    go_ret
    exact ⟨by rw [HR.out]; rfl, hb0⟩
end Go.Proofs.Ytnfnhgloblfgnaa
