/-
  A network made of a bag; how many letters were lost.
-/
import Derived.Test.YtnfnhgloblfgnaaJoinB10
import Derived.Test.YtnfnhgloblfgnaaBFor
import Derived.Laws.LoneSync
namespace Go.Proofs.Ytnfnhgloblfgnaa
open Go.RowKit

set_option maxRecDepth 20000 in
set_option maxHeartbeats 1000000 in
theorem netof_is (W : World) (m : Int) (v : Value) (L : List Lt) (h : Lts W v L) (hs : ∀ l ∈ L, l.s.size ≤ 600) (hlen : L.length ≤ 64) :
    Calls Try.prog 24 #[.agg #[.int .i64 m, v]] W fun e w' => ∃ (N : Nat) (u : Value), e = .returned (.pointer (some ⟨N, 0, none⟩)) ∧ Nw N 0 m u 0 w' ∧ W.heap.size ≤ N ∧ u.ownBlock ≠ some N ∧ w'.ownsRow W.heap.size 32 3 u L.length (lcs L) ∧ Below W.heap.size W w' := by
  obtain ⟨i0, hi, hz0, hz1, hz2⟩ := info_parts infoL
  obtain ⟨W0, hW0⟩ : ∃ W0, W0 = W.alloc (.cells #[.int .i64 m, v] 25) := ⟨_, rfl⟩
  have hz : W0.heap.size = W.heap.size + 1 := by rw [hW0]; simp
  have hmk : (Instr.makeSlice 23 (.int .i64 0) (.int .i64 (L.length : Int))).run Try.prog W0 = .ok (.slice (some ⟨W.heap.size + 1, 0, none⟩) 0 L.length) (W0.alloc (.cells (madeCells (Value.agg #[.int .i64 0, .int .i64 0, .string ByteArray.empty]).cells (L.length * i0.size)) 32)) := by
    have h1 := run_make (P := Try.prog) W0 23 32 i0 (.agg #[.int .i64 0, .int .i64 0, .string ByteArray.empty]) Try.underlying23 hi hz0 .i64 .i64 0 (L.length : Int) (by omega) (by omega) (by rw [hz2]; omega) (by omega)
    rw [hz] at h1
    simpa using h1
  obtain ⟨A, hA⟩ : ∃ A, A = madeCells (Value.agg #[.int .i64 0, .int .i64 0, .string ByteArray.empty]).cells (L.length * i0.size) := ⟨_, rfl⟩
  have hAs : A.size = L.length * 3 := by rw [hA, size_madeCells, hz1]
  rw [← hA] at hmk
  have hb0 : Below W.heap.size W (W0.alloc (.cells A 32)) := by rw [hW0]; exact (by repeat' (first | (with_reducible exact Below.refl _ _) | (with_reducible assumption) | (with_reducible refine below_drewN ?_ _) | (with_reducible refine Below.setCell ?_ ?_ _) | (with_reducible refine Below.alloc ?_ ?_ _) | (with_reducible refine Below.drew ?_) | go_size))
  have HT : Hid (Below W.heap.size W (W0.alloc (.cells A 32)) ∧ C2 W.heap.size (.int .i64 m) v (W0.alloc (.cells A 32)) ∧ (W0.alloc (.cells A 32)).ownsRow (W.heap.size + 1) 32 3 (.slice (some ⟨W.heap.size + 1, 0, none⟩) 0 L.length) 0 (lcs (L.take 0))) := by
    refine ⟨hb0, by rw [hW0]; exact (C2.new W (.int .i64 m) v 25).alloc _, rfl, .inr ⟨W.heap.size + 1, L.length, A, rfl, Nat.le_refl _, ?_, Nat.zero_le _, by unfold maxLen; omega, hAs, by simp [lcs]⟩⟩
    have := heap_alloc_new W0 (.cells A 32)
    rwa [hz] at this
  obtain ⟨oa, cap, rfl, hl⟩ := h.len
  have hcell := h.cells
  have hcx := (C2.new W (.int .i64 m) (.slice oa L.length cap) 25)
  obtain ⟨-, x0, x1, -, -⟩ := C2.alloc hcx (.cells A 32)
  rw [hW0] at hmk HT hz
  clear hA hAs hi hz0 hz1 hz2 h hb0 hW0 hcx
  go_enter Try.func24, Try.ntmps24
  go_wp2_with fail
  go_loopw [3, 13] (fun u i wr => ∃ (k : Nat) (ob : Option Addr) (cb : Nat), k ≤ L.length ∧ i = .int .i64 (k : Int) ∧ u = .slice ob k cb ∧ Hid (Below W.heap.size W wr ∧ C2 W.heap.size (.int .i64 m) (.slice oa L.length cap) wr ∧ wr.ownsRow (W.heap.size + 1) 32 3 (.slice ob k cb) k (lcs (L.take k)))) (fun _ i _ => L.length - (intOf i).toNat)
  case atStart => exact ⟨0, _, _, by omega, rfl, rfl, HT⟩
  case round =>
    obtain ⟨k, ob, cb, hk, rfl, rfl, HW⟩ := hrel
    obtain ⟨hb, hc2, ho⟩ := HW.out
    by_cases hlt : k < L.length
    · obtain ⟨a, rfl, hbl, hc⟩ := hcell k hlt
      have hd : LAt wr (a.add (k * 3)) L[k] := (hc k hlt).below hb (by rw [add_block]; exact hbl)
      have hsl := hs L[k] (List.getElem_mem _)
      have HTK : Hid (L.take (k + 1) = L.take k ++ [L[k]] ∧ (L.take k).length = k) := ⟨List.take_succ_eq_append_getElem hlt, by rw [List.length_take]; omega⟩
      obtain ⟨l, hq⟩ : ∃ q, q = L[k] := ⟨_, rfl⟩
      rw [← hq] at hd hsl HTK
      obtain ⟨d0, d1, d2⟩ := hd
      have co := fun V : World => ownlet_is l.f l.t l.s V (by omega)
      have lw := hb.size
      have lx : W.heap.size + 1 ≤ wr.heap.size := hc2.1
      have hk0 : (0 : Int) ≤ (k : Int) := by omega
      have hkI : (k : Int) < (L.length : Int) := by omega
      obtain ⟨K, hK⟩ : ∃ K, K = L.take k := ⟨_, rfl⟩
      rw [← hK] at ho HTK
      have HO : Hid (wr.ownsRow (W.heap.size + 1) 32 3 (.slice ob k cb) k (lcs K)) := ho
      have e1 : L3 wr.heap.size l.f l.t l.s (wr.alloc (.cells #[Value.int IntKind.i64 (l).f, Value.int IntKind.i64 (l).t, Value.string (l).s] 32)) := L3.new wr _ _ _ _
      obtain ⟨⟨-, y0, y1, y2⟩, -, -, -⟩ := id e1
      clear hq hc hcell HT hmk HW hK ho hsl x0 x1 hs
      go_wp2_with (first
        | (go_at_call 34; refine (co _).mono ?_; rintro e w1 ⟨rfl, hb1⟩; have hB1 := below_after (hb.alloc lw _) hb1 (hb.alloc lw _).size; have hC1 := (hc2.alloc _).call hb1; have hO1 := own_callL (HO.out.alloc _) hb1; have hs1 := hb1.size; simp only [World.size_alloc] at hs1)
        | (at_builtin; refine wpList_append_let rfl _ _ rfl (W.heap.size + 1) _ K l rfl (by have := HTK.out.2; rw [this]; exact hO1.alloc _) w1.heap.size rfl (lc_cells (by simp [go_sem]) (by simp [go_sem]) (by simp [go_sem])) (by have := HTK.out.2; omega) (by simp only [World.size_alloc]; omega) ?_; intro v' w3 ho3 hg3; obtain ⟨oc, cq, hv3⟩ := owl_len ho3; rw [List.length_append, HTK.out.2] at hv3; subst hv3))
      refine ⟨⟨k + 1, oc, cq, by omega, by go_num, rfl, ?_, ?_, ?_⟩, by simp only [intOf]; omega⟩
      · exact (hB1.alloc hB1.size _).grown hg3 (by simp only [World.size_alloc]; omega) (fun j e => Nat.le_of_lt (hO1.lt j e).1)
      · exact (hC1.alloc _).grown hg3 (fun e => absurd (hO1.lt _ e).1 (by omega))
      · rw [HTK.out.1]
        have e3 : (K ++ [l]).length = k + 1 := by rw [List.length_append, HTK.out.2]; rfl
        rw [← e3]
        have := ho3
        rw [List.length_append, HTK.out.2] at this ⊢
        exact this
    · have hkk : k = L.length := by omega
      subst hkk
      obtain ⟨-, z0, z1, -, -⟩ := id hc2
      rw [List.take_length] at ho
      clear hcell HT hmk x0 x1
      go_wp2_with fail
      go_ret
      refine ⟨wr.heap.size, _, rfl, Nw.new wr m _ _, hb.size, fun e => ?_, own_down (ho.alloc _) (by omega), hb.alloc hb.size _⟩
      exact absurd (ho.lt _ e).2 (by omega)
end Go.Proofs.Ytnfnhgloblfgnaa
