/-
  BagDouble of the document, where there is room.
-/
import Derived.Test.YtiipfedjjhpbpaaDbl3
import Derived.Test.YtiipfedjjhpbpaaSend6
import Derived.Deep.CutRange
import Derived.Deep.DeepCutAuto
namespace Go.Proofs.Ytiipfedjjhpbpaa
open Go.RowKit

set_option maxRecDepth 20000 in
set_option maxHeartbeats 4000000 in
/-- There is a letter, and room for it. -/
theorem sdbl_room (W : World) (m : Int) (v : Value) (L : List Lt) (k : Int) (h : Lts W v L) (hbk : bagOk m L = true) (hp : 0 < L.length) (hm : (L.length : Int) < m) :
    Calls Try.prog 19 #[.agg #[.int .i64 m, v], .int .i64 k] W fun e w' => ∃ u cap, e = .returned (.tuple #[.agg #[.int .i64 m, .slice u (L ++ [L[bpos k L.length]'(bpos_lt k _ hp)]).length cap], .bool true]) ∧ w'.ownsRow W.heap.size 27 3 (.slice u (L ++ [L[bpos k L.length]'(bpos_lt k _ hp)]).length cap) (L ++ [L[bpos k L.length]'(bpos_lt k _ hp)]).length (lcs (L ++ [L[bpos k L.length]'(bpos_lt k _ hp)])) ∧ Below W.heap.size W w' := by
  rw [show (L ++ [L[bpos k L.length]'(bpos_lt k _ hp)]).length = L.length + 1 from by simp]
  obtain ⟨x, hxe⟩ : ∃ x, x = L[bpos k L.length]'(bpos_lt k _ hp) := ⟨_, rfl⟩
  rw [← hxe]
  obtain ⟨i0, hi, hz0, hz1, hz2⟩ := info_parts infoL
  obtain ⟨hs, hl64, -, -, -⟩ := bagOk_sizes hbk
  have hB0 := B2.new W m v
  have h0 := h.call hB0.2.2
  have cb := bagok_spec _ m v L h0 (fun l hl => by have := hs l hl; unfold maxLen; omega)
  rw [hbk] at cb
  have cc := fun (V : World) (h : Lts V v L) => l6copy_is V m v L h hl64
  have cm := fun V : World => l6mod_is k L.length hp (by omega) V
  have hlt := bpos_lt k L.length hp
  obtain ⟨oa, cap, rfl, _⟩ := h.len
  obtain ⟨⟨-, a0, a1, -, -⟩, ⟨-, c0, c1, -, -⟩, -⟩ := id hB0
  have hsz0 : W.heap.size + 1 < ((W.alloc (.cells #[.int .i64 m, .slice oa L.length cap] 25)).alloc (.cells #[.int .i64 0, .slice none 0 0] 25)).heap.size := hB0.2.1.1
  have hz : ((L.length : Int) == 0) = false := by rw [beq_eq_false_iff_ne]; omega
  clear h hbk hs
  go_enter Try.func19, Try.ntmps19
  go_wp2_with (first
    | (go_at_call 12; refine cb.mono ?_; rintro e w1 ⟨rfl, hb1⟩; have hB1 := hB0.call hb1; have hT1 := h0.call hb1; have hs1 := hb1.size; obtain ⟨⟨-, e0, e1, -, -⟩, -, -⟩ := id hB1; clear cb hb1)
    | (go_at_call 40; refine (cc _ hT1).mono ?_; rintro e w3 ⟨u3, q3, rfl, ho3, hb3⟩; have hs3 := hb3.size; have hB3 := hB1.call hb3; have hB4 := hB3.call ((Below.refl _ _).alloc (Nat.le_refl _) (.cells #[.int .i64 m, .slice u3 L.length q3] 25)); have hC4 := C2.new w3 (.int .i64 m) (.slice u3 L.length q3) 25; have ho4 := ho3.alloc (.cells #[.int .i64 m, .slice u3 L.length q3] 25); have hown3 := ho3.lt; clear cc hb3 hT1))
  have hs4 : (w3.alloc (.cells #[.int .i64 m, .slice u3 L.length q3] 25)).heap.size = w3.heap.size + 1 := World.size_alloc _ _
  have HS4 : Hid ((w3.alloc (.cells #[.int .i64 m, .slice u3 L.length q3] 25)).heap.size = w3.heap.size + 1) := hs4
  clear hs4
  generalize w3.alloc (.cells #[.int .i64 m, .slice u3 L.length q3] 25) = V at hB4 hC4 ho4 HS4 ⊢
  obtain ⟨b, rfl, -, hat⟩ := (own_lts ho4).cells _ hp
  have hx := hat _ hlt
  rw [← hxe] at hx
  obtain ⟨x0, x1, x2⟩ := id hx
  obtain ⟨lC, y0, y1, y2, y3⟩ := id hC4
  obtain ⟨-, ⟨lA, d0, d1, d2, d3⟩, -⟩ := id hB4
  generalize bpos k L.length = p at cm hlt x0 x1 x2 hx
  have hlt' : (p : Int) < (L.length : Int) := by omega
  have hp0 : (0 : Int) ≤ (p : Int) := by omega
  clear hxe hat hB0 hB1 hB3 ho3 a0 a1 c0 c1 e0 e1 h0
  have hw1 : W.heap.size + 1 < w1.heap.size := by omega
  have HM : Hid (∀ (A C : World) (g cp : Nat), Below V.heap.size V A → C.ownsRow w1.heap.size 27 3 (.slice (some ⟨g, 0, none⟩) (L.length + 1) cp) (L.length + 1) (lcs L ++ lc x) → A.grownBy C (Value.slice (some b) L.length q3).ownBlock → ((Value.slice (some b) L.length q3).ownBlock = some g ∨ g = A.heap.size) →
      C2 w3.heap.size (.int .i64 m) (.slice (some b) L.length q3) C ∧ Hid (C2 w3.heap.size (.int .i64 m) (.slice (some ⟨g, 0, none⟩) (L.length + 1) cp) (C.setCell ⟨w3.heap.size, 1, none⟩ (.slice (some ⟨g, 0, none⟩) (L.length + 1) cp)) ∧ B2 W m (.slice oa L.length cap) (C.setCell ⟨w3.heap.size, 1, none⟩ (.slice (some ⟨g, 0, none⟩) (L.length + 1) cp)) ∧ (C.setCell ⟨w3.heap.size, 1, none⟩ (.slice (some ⟨g, 0, none⟩) (L.length + 1) cp)).ownsRow w1.heap.size 27 3 (.slice (some ⟨g, 0, none⟩) (L.length + 1) cp) (L.length + 1) (lcs (L ++ [x])))) := fun A C g cp hA ho hg hat => by
    have hz4 := HS4.out
    have hcA := hC4.call hA
    have hbA := hB4.call hA
    have hsA := hA.size
    have n1 : ∀ j, (j < w1.heap.size ∨ w3.heap.size ≤ j) → (Value.slice (some b) L.length q3).ownBlock ≠ some j := fun j hj e => by have := hown3 j e; omega
    have hcC := hcA.grown hg (n1 _ (.inr (Nat.le_refl _)))
    have hgne : g ≠ w3.heap.size := by
      rcases hat with h | h
      · have := hown3 g h; omega
      · omega
    have gs := grown_set C w3.heap.size 1 (.slice (some ⟨g, 0, none⟩) (L.length + 1) cp)
    refine ⟨hcC, ?_, ⟨?_, ?_, ?_⟩, ?_⟩
    · obtain ⟨q0, q1, q2, q3, q4⟩ := hcC
      refine ⟨by simpa using q0, ?_, ?_, ?_, ?_⟩ <;> simp [go_sem, q1, q2, q3, q4]
    · exact (hbA.1.grown hg (n1 _ (.inl (by omega)))).grown gs (fun e => by injection e with e; omega)
    · exact (hbA.2.1.grown hg (n1 _ (.inl (by omega)))).grown gs (fun e => by injection e with e; omega)
    · exact (hbA.2.2.grown hg hbA.2.2.size (fun j e => by have := hown3 j e; omega)).setCell (by show W.heap.size ≤ w3.heap.size; omega) _
    · have := ho.kept gs (.inr (fun e => hgne (by have e' : some g = some w3.heap.size := e; injection e' with e')))
      rw [lcs_append]
      simpa [lcs] using this
  have hlk : (lcs L).length = L.length * 3 := by rw [lcs_len]
  obtain ⟨X, hX⟩ : ∃ X, X = lcs L := ⟨_, rfl⟩
  rw [← hX] at ho4 HM hlk
  have n2 := World.new_ne V ⟨W.heap.size + 1, 1, none⟩ d1
  have n3 := World.new_ne V (b.add (p * 3)) x0
  have n4 := World.new_ne V ⟨w3.heap.size, 1, none⟩ y1
  clear hX hB4 hC4 hx hown3
  go_cut [26] (fun _ wx => ∃ (g cp : Nat), Hid (C2 w3.heap.size (.int .i64 m) (.slice (some ⟨g, 0, none⟩) (L.length + 1) cp) wx ∧ B2 W m (.slice oa L.length cap) wx ∧ wx.ownsRow w1.heap.size 27 3 (.slice (some ⟨g, 0, none⟩) (L.length + 1) cp) (L.length + 1) (lcs (L ++ [x]))))
  case first =>
    go_region_law (first
      | (refine step_append_lies _ rfl (.tmp 27) (.tmp 37) 23 rfl w1.heap.size 27 i0 _ 3 32 Try.underlying23 hi hz0 hz1 hz2 rfl (by decide) (.slice (some b) L.length q3) L.length X (by simp [Act.eval]) (own_callL ho4 (by repeat' (first | (with_reducible exact Below.refl _ _) | (with_reducible assumption) | (with_reducible refine below_drewN ?_ _) | (with_reducible refine Below.setCell ?_ ?_ _) | (with_reducible refine Below.alloc ?_ ?_ _) | (with_reducible refine Below.drew ?_) | go_size))) ⟨V.heap.size, 0, none⟩ 1 1 (lc x) (by simp [Act.eval]) rfl (lc_cells (by simp [go_sem]) (by simp [go_sem]) (by simp [go_sem])) lc_one (by decide) (by unfold maxLen; omega) (by omega) (by have := HS4.out; simp; omega) _ rfl ?_; intro g cp w5 ho5 hg5 hat5 hlt5; obtain ⟨⟨-, f0, f1, f2, f3⟩, HN⟩ := HM.out _ w5 g cp (by repeat' (first | (with_reducible exact Below.refl _ _) | (with_reducible assumption) | (with_reducible refine below_drewN ?_ _) | (with_reducible refine Below.setCell ?_ ?_ _) | (with_reducible refine Below.alloc ?_ ?_ _) | (with_reducible refine Below.drew ?_) | go_size)) ho5 hg5 hat5; clear hat5)
      | (go_simp; go_at_call 44; refine (cm _).mono ?_; rintro e wz ⟨rfl, hw⟩; replace hw := hw.symm; subst hw; go_simp))
    all_goals (go_wp2_with fail; go_meet)
    all_goals exact ⟨_, _, HN⟩
  case rest =>
    obtain ⟨g, cp, HN⟩ := hcut
    rename World => w6
    obtain ⟨hC5, hB5, hO5⟩ := HN.out
    obtain ⟨lC5, p0, p1, -, -⟩ := id hC5
    obtain ⟨-, ⟨lA5, q0, q1, q2, q3'⟩, hbl⟩ := id hB5
    have hlt5 := hO5.lt
    clear HM hC5 hB5
    go_wp2_with fail
    refine bodyPost_ret (v := .tuple #[.agg #[.int .i64 m, .slice (some ⟨g, 0, none⟩) (L.length + 1) cp], .bool true]) (by simp [results, Try.results19, go_sem, q0, q1]) rfl ⟨_, _, rfl, ?_, (hbl.setCell (by show W.heap.size ≤ W.heap.size + 1; omega) _).setCell (by show W.heap.size ≤ W.heap.size + 1; omega) _⟩
    exact (own_down hO5 (by omega)).kept ((grown_set _ (W.heap.size + 1) 0 (.int .i64 m)).trans2 (grown_set _ (W.heap.size + 1) 1 (.slice (some ⟨g, 0, none⟩) (L.length + 1) cp))) (.inr (fun e => by have := (hlt5 _ e).1; omega))
/-- BagDouble of the document, wherever it comes to. -/
theorem bdbl_spec (W : World) (m : Int) (v : Value) (L : List Lt) (k : Int) (h : Lts W v L) (hs : ∀ l ∈ L, l.s.size ≤ maxLen) :
    Calls Try.prog 19 #[.agg #[.int .i64 m, v], .int .i64 k] W fun e w' => ∃ u cap, e = .returned (.tuple #[.agg #[.int .i64 (bdbl m L k).1, .slice u (bdbl m L k).2.1.length cap], .bool (bdbl m L k).2.2]) ∧ w'.ownsRow W.heap.size 27 3 (.slice u (bdbl m L k).2.1.length cap) (bdbl m L k).2.1.length (lcs (bdbl m L k).2.1) ∧ Below W.heap.size W w' := by
  cases hok : bagOk m L with
  | true =>
    by_cases hp : 0 < L.length
    · by_cases hm : (L.length : Int) < m
      · have e : bdbl m L k = (m, L ++ [L[bpos k L.length]'(bpos_lt k _ hp)], true) := by unfold bdbl; rw [if_pos hok, dif_pos hp, if_pos hm]
        rw [e]
        exact sdbl_room W m v L k h hok hp hm
      · have e : bdbl m L k = (m, L, false) := by unfold bdbl; rw [if_pos hok, dif_pos hp, if_neg hm]
        rw [e]
        exact sdbl_same W m v L k h hok (.inr (by omega))
    · have e : bdbl m L k = (m, L, false) := by unfold bdbl; rw [if_pos hok, dif_neg hp]
      rw [e]
      exact sdbl_same W m v L k h hok (.inl (by omega))
  | false =>
    have e : bdbl m L k = (0, [], false) := by unfold bdbl; rw [if_neg (by rw [hok]; simp)]
    rw [e]
    exact (sdbl_out W m v L k h hs hok).mono (fun e w' ⟨he, hb⟩ => ⟨none, 0, he, World.ownsRow_nil _ _ _ _, hb⟩)
/-- BagDouble of the program, wherever it comes to. -/
theorem bdbl_impl (W : World) (m : Int) (v : Value) (L : List Lt) (k : Int) (h : Lts W v L) (hs : ∀ l ∈ L, l.s.size ≤ maxLen) :
    Calls Try.prog 14 #[.agg #[.int .i64 m, v], .int .i64 k] W fun e w' => ∃ u, e = .returned (.tuple #[.agg #[.int .i64 (bdbl m L k).1, u], .bool (bdbl m L k).2.2]) ∧ OwnL W.heap.size w' u (bdbl m L k).2.1 ∧ Below W.heap.size W w' := by
  cases hok : bagOk m L with
  | true =>
    by_cases hp : 0 < L.length
    · by_cases hm : (L.length : Int) < m
      · have e : bdbl m L k = (m, L ++ [L[bpos k L.length]'(bpos_lt k _ hp)], true) := by unfold bdbl; rw [if_pos hok, dif_pos hp, if_pos hm]
        rw [e]
        exact bdbl_room W m v L k h hok hp hm
      · have e : bdbl m L k = (m, L, false) := by unfold bdbl; rw [if_pos hok, dif_pos hp, if_neg hm]
        rw [e]
        exact bdbl_full W m v L k h hok hp (by omega)
    · have e : bdbl m L k = (m, L, false) := by unfold bdbl; rw [if_pos hok, dif_neg hp]
      have hL : L = [] := List.length_eq_zero_iff.1 (by omega)
      rw [e]
      subst hL
      exact bdbl_none W m v k h hok
  | false =>
    have e : bdbl m L k = (0, [], false) := by unfold bdbl; rw [if_neg (by rw [hok]; simp)]
    rw [e]
    exact (bdbl_out W m v L k h hs hok).mono (fun e w' ⟨he, hb⟩ => ⟨_, he, .inl ⟨rfl, none, rfl⟩, hb⟩)
end Go.Proofs.Ytiipfedjjhpbpaa
