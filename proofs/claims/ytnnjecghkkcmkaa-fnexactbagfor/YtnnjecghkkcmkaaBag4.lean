/-
  A bag that is ok, by the program; the law of BagOk, walked.
-/
import Derived.Test.YtnnjecghkkcmkaaBag3
namespace Go.Proofs.Ytnnjecghkkcmkaa
open Go.RowKit

set_option maxRecDepth 20000 in
set_option maxHeartbeats 1000000 in
theorem bagok_impl (W : World) (m : Int) (v : Value) (L : List Lt) (h : Lts W v L) (hs : ∀ l ∈ L, l.s.size ≤ maxLen) :
    Calls Try.prog 13 #[.agg #[.int .i64 m, v]] W fun e w' => e = .returned (.bool (bagOk m L)) ∧ Below W.heap.size W w' := by
  have hb0 : Below W.heap.size W (W.alloc (.cells #[.int .i64 m, v] 36)) := (Below.refl _ _).alloc (Nat.le_refl _) _
  have hcx := C2.new W (.int .i64 m) v 36
  obtain ⟨oa, cap, rfl, hl⟩ := h.len
  have hcell := h.cells
  clear h
  by_cases h1 : 1 ≤ m ∧ m ≤ 64
  · obtain ⟨g1, g2⟩ := id h1
    have n1 : ¬ m < 1 := by omega
    have n2 : ¬ 64 < m := by omega
    by_cases h2 : m < (L.length : Int)
    · have HR : Hid (bagOk m L = false) := bagOk_room (by omega)
      clear hcell hcx
      go_enter Try.func13, Try.ntmps13
      go_wp2_with fail
      go_ret
      exact ⟨by rw [HR.out]; rfl, hb0⟩
    · obtain ⟨R, hR⟩ : ∃ R, R = bagOk m L := ⟨_, rfl⟩
      rw [← hR]
      have HR : Hid (R = L.all (fun l => letOk l.f l.t l.s.size)) := by show _ = _; rw [hR, bagOk_all (by omega)]
      clear hR h1
      have HB0 : Hid (Below W.heap.size W (W.alloc (.cells #[.int .i64 m, .slice oa L.length cap] 36)) ∧ C2 W.heap.size (.int .i64 m) (.slice oa L.length cap) (W.alloc (.cells #[.int .i64 m, .slice oa L.length cap] 36))) := ⟨hb0, hcx⟩
      clear hb0 hcx
      go_enter Try.func13, Try.ntmps13
      go_wp2_with fail
      go_loopw [24] (fun i wr => ∃ k : Nat, k ≤ L.length ∧ i = .int .i64 (k : Int) ∧ Hid ((L.take k).all (fun l => letOk l.f l.t l.s.size) = true) ∧ Hid (Below W.heap.size W wr ∧ C2 W.heap.size (.int .i64 m) (.slice oa L.length cap) wr)) (fun i _ => L.length - (intOf i).toNat)
      case atStart => exact ⟨0, by omega, rfl, rfl, HB0⟩
      case round =>
        obtain ⟨k, hk, rfl, HA, HW⟩ := hrel
        obtain ⟨hb, hc2⟩ := HW.out
        obtain ⟨x0, x1, x2, -, -⟩ := id hc2
        by_cases hlt : k < L.length
        · obtain ⟨a, rfl, hbl, hc⟩ := hcell k hlt
          have hd : LAt wr (a.add (k * 3)) L[k] := (hc k hlt).below hb (by rw [add_block]; exact hbl)
          have hsl := hs L[k] (List.getElem_mem _)
          obtain ⟨l, hq⟩ : ∃ q, q = L[k] := ⟨_, rfl⟩
          have HT : Hid (L.take (k + 1) = L.take k ++ [l]) := by
            show _ = _
            rw [List.take_succ_eq_append_getElem hlt, hq]
          have hmem : l ∈ L := by rw [hq]; exact List.getElem_mem _
          rw [← hq] at hd hsl
          obtain ⟨d0, d1, d2⟩ := hd
          have cl := fun V : World => letok_impl l.f l.t l.s hsl V
          have hk0 : (0 : Int) ≤ (k : Int) := by omega
          have hkI : (k : Int) < (L.length : Int) := by omega
          clear hq hc hcell hsl HB0
          cases hb2 : letOk l.f l.t l.s.size with
          | false =>
            rw [hb2] at cl
            have HN : Hid (R = false) := by
              show _ = _
              rw [HR.out, List.all_eq_false]
              exact ⟨l, hmem, by rw [hb2]; decide⟩
            clear hb2
            go_wp2_with (go_at_call 9; refine (cl _).mono ?_; rintro e w1 ⟨rfl, hb1⟩)
            go_ret
            exact ⟨by rw [HN.out]; rfl, below_after (hb.alloc hb.size _) hb1 (hb.alloc hb.size _).size⟩
          | true =>
            rw [hb2] at cl
            have HA2 : Hid ((L.take (k + 1)).all (fun l => letOk l.f l.t l.s.size) = true) := by
              show _ = _
              rw [HT.out, List.all_append, HA.out]
              simp [hb2]
            clear hb2
            go_wp2_with (go_at_call 9; refine (cl _).mono ?_; rintro e w1 ⟨rfl, hb1⟩)
            exact ⟨⟨k + 1, by omega, by go_num, HA2, below_after (hb.alloc hb.size _) hb1 (hb.alloc hb.size _).size, (hc2.alloc _).call hb1⟩, by simp [intOf]; omega⟩
        · have HN : Hid (R = true) := by
            show _ = _
            have ht : L.take k = L := List.take_of_length_le (by omega)
            have := HA.out
            rw [ht] at this
            rw [HR.out]
            exact this
          clear hcell HB0
          go_wp2
          go_ret
          exact ⟨by rw [HN.out]; rfl, hb⟩
  · have HR : Hid (bagOk m L = false) := bagOk_room (by omega)
    clear hcell hcx
    by_cases n1 : m < 1
    · go_enter Try.func13, Try.ntmps13
      go_wp2
      go_ret
      exact ⟨by rw [HR.out]; rfl, hb0⟩
    · have n2 : 64 < m := by omega
      go_enter Try.func13, Try.ntmps13
      go_wp2
      go_ret
      exact ⟨by rw [HR.out]; rfl, hb0⟩
set_option maxRecDepth 20000 in
set_option maxHeartbeats 1000000 in
theorem lawBagOk (m : Int) (v : Value) (L : List Lt) (w : World) (h : Lts w v L ∧ ∀ l ∈ L, l.s.size ≤ maxLen) :
    Calls Try.prog 4 #[.agg #[.int .i64 m, v]] w fun e w' => e = .returned (.bool true) ∧ Below w.heap.size w w' := by
  obtain ⟨hT, hs⟩ := h
  have c1 := fun (W : World) (h : Lts W v L) => szbag_is W m v L h hs
  have c3 := fun (W : World) (u : Value) (h : Lts W u L) => bagok_spec W m u L h hs
  have c4 := fun (W : World) (u : Value) (h : Lts W u L) => bagok_impl W m u L h hs
  generalize bagOk m L = b at c3 c4
  have hb0 : Below w.heap.size w (w.alloc (.cells #[.int .i64 m, v] 31)) := (Below.refl _ _).alloc (Nat.le_refl _) _
  have hB0 := C2.new w (.int .i64 m) v 31
  have hT0 := hT.call hb0
  go_enter Try.func4, Try.ntmps4
  obtain ⟨oa, cap, hv, _⟩ := hT.len
  clear hT hs
  subst hv
  go_wp2_with (go_at_call 10; refine (c1 _ hT0).mono ?_; rintro e w1 ⟨r, rfl, hb1, hr⟩; obtain ⟨l1, d0, d1, -, -⟩ := id (hB0.call hb1); have hB1 := hB0.call hb1; have hT1 := hT0.call hb1; have z1 := below_after hb0 hb1 hb0.size; clear hB0 hb0 hb1 hT0 c1)
  · go_ret
    exact ⟨rfl, z1⟩
  · have hlen := (hr (by omega)).2
    have c2 := fun (W : World) (h : Lts W (.slice oa L.length cap) L) => tobag_is W m _ L h hlen
    clear hr
    go_wp2_with (first
      | (go_at_call 13; refine (c4 _ _ Y4).mono ?_; rintro e w5 ⟨rfl, hb5⟩; have hB5 := (hB4.alloc (.cells #[.int .i64 m, .slice (some ⟨b4, 0, none⟩) L.length L.length] 36)).call hb5; have hT5 := (hT4.call X4).call hb5; have hY5 := Y4.call hb5; have z5 := below_after z4 hb5 z4.size; have hX5 := (C2.new w4 (.int .i64 m) (.slice (some ⟨b4, 0, none⟩) L.length L.length) 36).call hb5; obtain ⟨-, g0, g1, -, -⟩ := id hB5; obtain ⟨-, k0, k1, -, -⟩ := id hX5; clear hB4 hT4 Y4 X4 hb5)
      | (go_at_call 11; refine (c3 _ _ (R2.lts hlen)).mono ?_; rintro e w3 ⟨rfl, hb3⟩; have hB3 := hB2.call hb3; have hT3 := hT2.call hb3; have z3 := below_after z2 hb3 z2.size; obtain ⟨-, f0, f1, -, -⟩ := id hB3; clear hB2 hT2 hb3 R2)
      | (have hh := hT3; go_at_call 12; refine (c2 _ hT3).mono ?_; rintro e w4 ⟨b4, rfl, lb4, R4, hb4⟩; have hB4 := hB3.call hb4; have hT4 := hT3.call hb4; have X4 : Below w4.heap.size w4 (w4.alloc (.cells #[.int .i64 m, .slice (some ⟨b4, 0, none⟩) L.length L.length] 36)) := (Below.refl _ _).alloc (Nat.le_refl _) _; have Y4 := (R4.lts hlen).call X4; have z4 := (below_after z3 hb4 z3.size).alloc (by have := z3.size; have := hb4.size; omega) (.cells #[.int .i64 m, .slice (some ⟨b4, 0, none⟩) L.length L.length] 36); clear hB3 hT3 hb4 R4)
      | (go_at_call 12; refine (c2 _ hT1).mono ?_; rintro e w2 ⟨b2, rfl, lb2, R2, hb2⟩; have hB2 := hB1.call hb2; have hT2 := hT1.call hb2; have z2 := below_after z1 hb2 z1.size; clear hB1 hT1 hb2))
    have c6 : ∀ W : World, Below w5.heap.size w5 W → Calls Try.prog 12 #[.agg #[.int .i64 m, .slice oa L.length cap]] W fun e w' => ∃ B : Nat, e = .returned (.agg #[.int .i64 m, .slice (some ⟨B, 0, none⟩) L.length L.length]) ∧ LR B L.length L L.length w' ∧ Below w5.heap.size w5 w' := fun W h => (c2 W (hT5.call h)).mono (fun e w' ⟨B, e1, _, e3, e4⟩ => ⟨B, e1, e3, below_after h e4 h.size⟩)
    go_region_with (first
      | (go_at_call 14; refine (eqbag_is _ m _ _ L hY6 (R6.lts hlen)).mono ?_; rintro e w7 ⟨rfl, hb7⟩; have z7 := below_after z6 hb7 z6.size)
      | (go_at_call 12; refine (c6 _ (by repeat' (first | (with_reducible exact Below.refl _ _) | (with_reducible assumption) | (with_reducible refine below_drewN ?_ _) | (with_reducible refine Below.setCell ?_ ?_ _) | (with_reducible refine Below.alloc ?_ ?_ _) | (with_reducible refine Below.drew ?_) | go_size))).mono ?_; rintro e w6 ⟨b6, rfl, R6, hb6⟩; have z6 := below_after z5 hb6 z5.size; have hY6 := hY5.call hb6; obtain ⟨-, k0', k1', -, -⟩ := id (hX5.call hb6)))
    all_goals (go_wp2_with fail)
    all_goals go_ret
    all_goals exact ⟨rfl, z7⟩
end Go.Proofs.Ytnnjecghkkcmkaa
