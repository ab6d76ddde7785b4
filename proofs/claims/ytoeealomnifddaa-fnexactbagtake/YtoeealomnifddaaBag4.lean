/-
  A bag that is ok, by the program; the law of BagOk, walked.
-/
import Derived.Test.YtoeealomnifddaaBag3
namespace Go.Proofs.Ytoeealomnifddaa
open Go.RowKit

set_option maxRecDepth 20000 in
set_option maxHeartbeats 1000000 in
theorem bagok_impl (W : World) (m : Int) (v : Value) (L : List Lt) (h : Lts W v L) (hs : ∀ l ∈ L, l.s.size ≤ maxLen) :
    Calls Try.prog 34 #[.agg #[.int .i64 m, v]] W fun e w' => e = .returned (.bool (bagOk m L)) ∧ Below W.heap.size W w' := by
  have hb0 : Below W.heap.size W (W.alloc (.cells #[.int .i64 m, v] 25)) := (Below.refl _ _).alloc (Nat.le_refl _) _
  have hcx := C2.new W (.int .i64 m) v 25
  obtain ⟨oa, cap, rfl, hl⟩ := h.len
  have hcell := h.cells
  clear h
  by_cases h1 : 1 ≤ m ∧ m ≤ 64
  · obtain ⟨g1, g2⟩ := id h1
    have n1 : ¬ m < 1 := by omega
    have n2 : ¬ 64 < m := by omega
    by_cases h2 : m < (L.length : Int)
    · have HR : Hid (bagOk m L = false) := bagOk_room (by omega)
      clear hcell hcx
      go_enter Try.func34, Try.ntmps34
      go_wp2_with fail
      go_ret
      exact ⟨by rw [HR.out]; rfl, hb0⟩
    · obtain ⟨R, hR⟩ : ∃ R, R = bagOk m L := ⟨_, rfl⟩
      rw [← hR]
      have HR : Hid (R = L.all (fun l => letOk l.f l.t l.s.size)) := by show _ = _; rw [hR, bagOk_all (by omega)]
      clear hR h1
      have HB0 : Hid (Below W.heap.size W (W.alloc (.cells #[.int .i64 m, .slice oa L.length cap] 25)) ∧ C2 W.heap.size (.int .i64 m) (.slice oa L.length cap) (W.alloc (.cells #[.int .i64 m, .slice oa L.length cap] 25))) := ⟨hb0, hcx⟩
      clear hb0 hcx
      go_enter Try.func34, Try.ntmps34
      go_wp2_with fail
      go_loopw [24] (fun i wr => ∃ k : Nat, k ≤ L.length ∧ i = .int .i64 (k : Int) ∧ Hid ((L.take k).all (fun l => letOk l.f l.t l.s.size) = true) ∧ Hid (Below W.heap.size W wr ∧ C2 W.heap.size (.int .i64 m) (.slice oa L.length cap) wr)) (fun i _ => L.length - (intOf i).toNat)
      case atStart => exact ⟨0, by omega, rfl, rfl, HB0⟩
      case round =>
        obtain ⟨k, hk, rfl, HA, HW⟩ := hrel
        obtain ⟨hb, hc2⟩ := HW.out
        obtain ⟨x0, x1, x2, -, -⟩ := id hc2
        by_cases hlt : k < L.length
        · obtain ⟨a, rfl, hbl, hc⟩ := hcell k hlt
          have hd : LAt wr (a.add (k * 3)) L[k] := (hc k hlt).below hb (by rw [add_block]; exact hbl)
          have hsl := hs L[k] (List.getElem_mem _)
          obtain ⟨l, hq⟩ : ∃ q, q = L[k] := ⟨_, rfl⟩
          have HT : Hid (L.take (k + 1) = L.take k ++ [l]) := by
            show _ = _
            rw [List.take_succ_eq_append_getElem hlt, hq]
          have hmem : l ∈ L := by rw [hq]; exact List.getElem_mem _
          rw [← hq] at hd hsl
          obtain ⟨d0, d1, d2⟩ := hd
          have cl := fun V : World => letok_impl l.f l.t l.s hsl V
          have hk0 : (0 : Int) ≤ (k : Int) := by omega
          have hkI : (k : Int) < (L.length : Int) := by omega
          clear hq hc hcell hsl HB0
          cases hb2 : letOk l.f l.t l.s.size with
          | false =>
            rw [hb2] at cl
            have HN : Hid (R = false) := by
              show _ = _
              rw [HR.out, List.all_eq_false]
              exact ⟨l, hmem, by rw [hb2]; decide⟩
            clear hb2
            go_wp2_with (go_at_call 35; refine (cl _).mono ?_; rintro e w1 ⟨rfl, hb1⟩)
            go_ret
            exact ⟨by rw [HN.out]; rfl, below_after (hb.alloc hb.size _) hb1 (hb.alloc hb.size _).size⟩
          | true =>
            rw [hb2] at cl
            have HA2 : Hid ((L.take (k + 1)).all (fun l => letOk l.f l.t l.s.size) = true) := by
              show _ = _
              rw [HT.out, List.all_append, HA.out]
              simp [hb2]
            clear hb2
            go_wp2_with (go_at_call 35; refine (cl _).mono ?_; rintro e w1 ⟨rfl, hb1⟩)
            exact ⟨⟨k + 1, by omega, by go_num, HA2, below_after (hb.alloc hb.size _) hb1 (hb.alloc hb.size _).size, (hc2.alloc _).call hb1⟩, by simp [intOf]; omega⟩
        · have HN : Hid (R = true) := by
            show _ = _
            have ht : L.take k = L := List.take_of_length_le (by omega)
            have := HA.out
            rw [ht] at this
            rw [HR.out]
            exact this
          clear hcell HB0
          go_wp2
          go_ret
          exact ⟨by rw [HN.out]; rfl, hb⟩
  · have HR : Hid (bagOk m L = false) := bagOk_room (by omega)
    clear hcell hcx
    by_cases n1 : m < 1
    · go_enter Try.func34, Try.ntmps34
      go_wp2
      go_ret
      exact ⟨by rw [HR.out]; rfl, hb0⟩
    · have n2 : 64 < m := by omega
      go_enter Try.func34, Try.ntmps34
      go_wp2
      go_ret
      exact ⟨by rw [HR.out]; rfl, hb0⟩
end Go.Proofs.Ytoeealomnifddaa
