/-
  The places of the letters to a node, by both.
-/
import Derived.Test.YtnfnhgloblfgnaaJoinB8
import Derived.Test.YtnfnhgloblfgnaaIntR
namespace Go.Proofs.Ytnfnhgloblfgnaa
open Go.RowKit

theorem own_down {W : World} {b base e size n : Nat} {v : Value} {xs : List Value} (h : W.ownsRow base e size v n xs) (hb : b ≤ base) : W.ownsRow b e size v n xs := by
  obtain ⟨h1, h2 | ⟨g, cap, cur, h3, h4, h5⟩⟩ := h
  · exact ⟨h1, .inl h2⟩
  · exact ⟨h1, .inr ⟨g, cap, cur, h3, Nat.le_trans hb h4, h5⟩⟩
theorem C2.grown {B : Nat} {x y : Value} {W W' : World} {row : Option Nat} (h : C2 B x y W) (hg : W.grownBy W' row) (hr : row ≠ some B) : C2 B x y W' := by
  obtain ⟨h0, h1, h2, h3, h4⟩ := h
  have hb : W'.heap[B]? = W.heap[B]? := hg.block B h0 (fun e => hr e.symm)
  exact ⟨Nat.lt_of_lt_of_le h0 hg.size, (World.cell?_of_block (w := W) (a := ⟨B, 0, none⟩) hb).trans h1, (World.cell?_of_block (w := W) (a := ⟨B, 1, none⟩) hb).trans h2, (World.frozen?_of_block (w := W) (a := ⟨B, 0, none⟩) hb).trans h3, (World.frozen?_of_block (w := W) (a := ⟨B, 1, none⟩) hb).trans h4⟩
/-- The places of the letters to a node among the first k. -/
def posn (node : Int) (L : List Lt) : Nat → List Int
  | 0 => []
  | k + 1 => if (L.getD k ⟨0, 0, ByteArray.empty⟩).t = node then posn node L k ++ [(k : Int)] else posn node L k
theorem posn_len (node : Int) (L : List Lt) : ∀ k, (posn node L k).length ≤ k
  | 0 => Nat.le_refl _
  | k + 1 => by
    have := posn_len node L k
    unfold posn
    split
    · simp; omega
    · omega
/-- What BagFor tells. -/
def bagFor (m : Int) (L : List Lt) (node : Int) : List Int := if bagOk m L = true then posn node L L.length else []
theorem bagOk_len {m : Int} {L : List Lt} (h : bagOk m L = true) : L.length ≤ 64 := by
  unfold bagOk at h
  rw [Bool.and_eq_true, decide_eq_true_iff] at h
  omega
theorem bagFor_len (m : Int) (L : List Lt) (node : Int) : (bagFor m L node).length ≤ 64 := by
  unfold bagFor
  split
  · rename_i h
    exact Nat.le_trans (posn_len node L _) (bagOk_len h)
  · simp

set_option maxRecDepth 20000 in
set_option maxHeartbeats 1000000 in
theorem bfor_spec (W : World) (m node : Int) (v : Value) (L : List Lt) (h : Lts W v L) (hs : ∀ l ∈ L, l.s.size ≤ maxLen) :
    Calls Try.prog 11 #[.agg #[.int .i64 m, v], .int .i64 node] W fun e w' => ∃ u, e = .returned u ∧ w'.ownsRow W.heap.size 3 1 u (bagFor m L node).length (ics (bagFor m L node)) ∧ Below W.heap.size W w' := by
  have hb0 : Below W.heap.size W ((W.alloc (.cells #[.int .i64 m, v] 25)).alloc (.cells #[] 3)) := (by repeat' (first | (with_reducible exact Below.refl _ _) | (with_reducible assumption) | (with_reducible refine below_drewN ?_ _) | (with_reducible refine Below.setCell ?_ ?_ _) | (with_reducible refine Below.alloc ?_ ?_ _) | (with_reducible refine Below.drew ?_) | go_size))
  have hcx := (C2.new W (.int .i64 m) v 25).alloc (.cells #[] 3)
  have ho0 : ((W.alloc (.cells #[.int .i64 m, v] 25)).alloc (.cells #[] 3)).ownsRow (W.heap.size + 1) 3 1 (.slice (some ⟨W.heap.size + 1, 0, none⟩) 0 0) 0 [] := by
    have := World.ownsRow_lit (base := W.heap.size + 1) (e := 3) (size := 1) (W.alloc (.cells #[.int .i64 m, v] 25)) #[] 0 (by simp) (by unfold maxLen; omega) rfl
    simpa using this
  have cb := bagok_spec _ m v L (h.call hb0) hs
  obtain ⟨oa, cap, rfl, hl⟩ := h.len
  have hcell := h.cells
  clear h
  cases hbk : bagOk m L with
  | false =>
    have e0 : bagFor m L node = [] := by unfold bagFor; rw [if_neg (by rw [hbk]; decide)]
    rw [hbk] at cb
    rw [e0]
    clear hcell hcx e0 hbk
    go_enter Try.func11, Try.ntmps11
    go_wp2_with (go_at_call 6; refine cb.mono ?_; rintro e w1 ⟨rfl, hb1⟩; clear cb)
    go_ret
    exact ⟨_, rfl, own_down (own_callI ho0 hb1) (by omega), below_after hb0 hb1 hb0.size⟩
  | true =>
    have hl64 := bagOk_len hbk
    have e0 : bagFor m L node = posn node L L.length := by unfold bagFor; rw [if_pos hbk]
    rw [hbk] at cb
    rw [e0]
    have HB0 : Hid (Below W.heap.size W ((W.alloc (.cells #[.int .i64 m, .slice oa L.length cap] 25)).alloc (.cells #[] 3)) ∧ C2 W.heap.size (.int .i64 m) (.slice oa L.length cap) ((W.alloc (.cells #[.int .i64 m, .slice oa L.length cap] 25)).alloc (.cells #[] 3)) ∧ ((W.alloc (.cells #[.int .i64 m, .slice oa L.length cap] 25)).alloc (.cells #[] 3)).ownsRow (W.heap.size + 1) 3 1 (.slice (some ⟨W.heap.size + 1, 0, none⟩) 0 0) 0 []) := ⟨hb0, hcx, ho0⟩
    clear e0 hbk hb0 hcx ho0 hs
    go_enter Try.func11, Try.ntmps11
    go_wp2_with (go_at_call 6; refine cb.mono ?_; rintro e w1 ⟨rfl, hb1⟩; clear cb)
    have HB1 : Hid (Below W.heap.size W w1 ∧ C2 W.heap.size (.int .i64 m) (.slice oa L.length cap) w1 ∧ w1.ownsRow (W.heap.size + 1) 3 1 (.slice (some ⟨W.heap.size + 1, 0, none⟩) 0 0) 0 []) := ⟨below_after HB0.out.1 hb1 HB0.out.1.size, HB0.out.2.1.call hb1, own_callI HB0.out.2.2 hb1⟩
    clear HB0 hb1
    go_loopw [5, 6] (fun u i wr => ∃ (k : Nat) (ob : Option Addr) (cb : Nat), k ≤ L.length ∧ i = .int .i64 (k : Int) ∧ u = .slice ob (posn node L k).length cb ∧ Hid (Below W.heap.size W wr ∧ C2 W.heap.size (.int .i64 m) (.slice oa L.length cap) wr ∧ wr.ownsRow (W.heap.size + 1) 3 1 (.slice ob (posn node L k).length cb) (posn node L k).length (ics (posn node L k)))) (fun _ i _ => L.length - (intOf i).toNat)
    case atStart => exact ⟨0, _, _, by omega, rfl, rfl, HB1⟩
    case round =>
      obtain ⟨k, ob, cq, hk, rfl, rfl, HW⟩ := hrel
      obtain ⟨hb, hc2, ho⟩ := HW.out
      obtain ⟨x0, x1, x2, -, -⟩ := id hc2
      by_cases hlt : k < L.length
      · obtain ⟨a, rfl, hbl, hc⟩ := hcell k hlt
        have hd : LAt wr (a.add (k * 3)) L[k] := (hc k hlt).below hb (by rw [add_block]; exact hbl)
        have hpl := posn_len node L k
        have lw := hb.size
        have eg : L.getD k ⟨0, 0, ByteArray.empty⟩ = L[k] := by simp [List.getD, List.getElem?_eq_getElem hlt]
        have hn1 : posn node L (k + 1) = if (L[k]).t = node then posn node L k ++ [(k : Int)] else posn node L k := by
          show (if (L.getD k ⟨0, 0, ByteArray.empty⟩).t = node then _ else _) = _
          rw [eg]
        obtain ⟨l, hq⟩ : ∃ q, q = L[k] := ⟨_, rfl⟩
        rw [← hq] at hd hn1
        obtain ⟨d0, d1, d2⟩ := hd
        have hk0 : (0 : Int) ≤ (k : Int) := by omega
        have hkI : (k : Int) < (L.length : Int) := by omega
        obtain ⟨X, hX⟩ : ∃ X, X = posn node L k := ⟨_, rfl⟩
        rw [← hX] at hpl ho hn1 ⊢
        clear hq hc hcell HB1 HW eg
        by_cases ht : l.t = node
        · rw [if_pos ht] at hn1
          rw [ht] at d1
          have HX : Hid (posn node L (k + 1) = X ++ [(k : Int)] ∧ X.length ≤ 64) := ⟨hn1, by omega⟩
          have hO : Hid (wr.ownsRow (W.heap.size + 1) 3 1 (.slice ob X.length cq) X.length (ics X)) := ho
          have lx : W.heap.size + 1 ≤ wr.heap.size := by omega
          clear hX hn1 ht ho
          go_wp2_with (at_builtin; refine wpList_append_int rfl _ _ rfl (W.heap.size + 1) _ X (k : Int) rfl (hO.out.alloc _) wr.heap.size rfl (by simp [go_sem]) (by have := HX.out.2; omega) (by simp only [World.size_alloc]; omega) ?_; intro v' w3 ho3 hg3; obtain ⟨oc, cp, hv3⟩ := owi_len ho3; subst hv3)
          refine ⟨⟨k + 1, oc, cp, by omega, by go_num, by rw [HX.out.1, List.length_append]; rfl, ?_, ?_, ?_⟩, by simp only [intOf]; omega⟩
          · exact (hb.alloc lw _).grown hg3 (by simp only [World.size_alloc]; omega) (fun j e => Nat.le_of_lt (hO.out.lt j e).1)
          · refine (hc2.alloc (.cells #[.int .i64 (k : Int)] 3)).grown hg3 (fun e => absurd (hO.out.lt _ e).1 (by omega))
          · rw [HX.out.1]; exact ho3
        · rw [if_neg ht] at hn1
          have htI : (l.t == node) = false := by simp [ht]
          have HX : Hid (posn node L (k + 1) = X) := hn1
          have hO : Hid (wr.ownsRow (W.heap.size + 1) 3 1 (.slice ob X.length cq) X.length (ics X)) := ho
          clear hX hn1 ho
          go_wp2_with fail
          refine ⟨⟨k + 1, ob, cq, by omega, by go_num, by rw [HX.out], hb, hc2, ?_⟩, by simp only [intOf]; omega⟩
          rw [HX.out]; exact hO.out
      · have hkk : k = L.length := by omega
        subst hkk
        clear hcell HB1
        go_wp2_with fail
        go_ret
        exact ⟨_, rfl, own_down ho (by omega), hb⟩
end Go.Proofs.Ytnfnhgloblfgnaa
