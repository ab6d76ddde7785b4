/-
  Two bags held to be the same.
-/
import Derived.Test.YtiipfedjjhpbpaaTk7
import Derived.Deep.RegionHeld3
namespace Go.Proofs.Ytiipfedjjhpbpaa
open Go.RowKit

/-- The boxes of two bags of the same room. -/
def SM (W : World) (m : Int) (u v : Value) (wr : World) : Prop := C2 W.heap.size (.int .i64 m) u wr ∧ C2 (W.heap.size + 1) (.int .i64 m) v wr ∧ Below W.heap.size W wr
theorem SM.call {W : World} {m : Int} {u v : Value} {w1 w2 : World} (h : SM W m u v w1) (hb : Below w1.heap.size w1 w2) : SM W m u v w2 := ⟨h.1.call hb, h.2.1.call hb, below_after h.2.2 hb h.2.2.size⟩
theorem SM.new (W : World) (m : Int) (u v : Value) : SM W m u v ((W.alloc (.cells #[.int .i64 m, u] 25)).alloc (.cells #[.int .i64 m, v] 25)) := by
  refine ⟨(C2.new W (.int .i64 m) u 25).alloc _, ?_, (by repeat' (first | (with_reducible exact Below.refl _ _) | (with_reducible assumption) | (with_reducible refine below_drewN ?_ _) | (with_reducible refine Below.setCell ?_ ?_ _) | (with_reducible refine Below.alloc ?_ ?_ _) | (with_reducible refine Below.drew ?_) | go_size))⟩
  have := C2.new (W.alloc (.cells #[.int .i64 m, u] 25)) (.int .i64 m) v 25
  rwa [World.size_alloc] at this
set_option maxRecDepth 20000 in
set_option maxHeartbeats 2000000 in
theorem same_is (W : World) (m : Int) (u v : Value) (L : List Lt) (h : Lts W u L) (h' : Lts W v L) :
    Calls Try.prog 18 #[.agg #[.int .i64 m, u], .agg #[.int .i64 m, v]] W fun e w' => e = .returned (.bool true) ∧ Below W.heap.size W w' := by
  have HS : Hid (SM W m u v ((W.alloc (.cells #[.int .i64 m, u] 25)).alloc (.cells #[.int .i64 m, v] 25))) := SM.new W m u v
  obtain ⟨oa, cap, rfl, hl⟩ := h.len
  obtain ⟨ob, caq, rfl, _⟩ := h'.len
  have hcell := h.cells
  have hcell' := h'.cells
  clear h h'
  obtain ⟨⟨-, a0, a1, -, -⟩, ⟨-, b0, b1, -, -⟩, -⟩ := id HS.out
  go_enter Try.func18, Try.ntmps18
  go_wp2_with fail
  go_loopw [5] (fun i wr => ∃ k : Nat, k ≤ L.length ∧ i = .int .i64 (k : Int) ∧ Hid (SM W m (.slice oa L.length cap) (.slice ob L.length caq) wr)) (fun i _ => L.length - (intOf i).toNat)
  case atStart => exact ⟨0, by omega, rfl, HS⟩
  case round =>
    obtain ⟨k, hk, rfl, HB⟩ := hrel
    obtain ⟨⟨-, x0, x1, -, -⟩, ⟨-, y0, y1, -, -⟩, hbl0⟩ := id HB.out
    by_cases hlt : k < L.length
    · obtain ⟨a, rfl, hbl, hc⟩ := hcell k hlt
      obtain ⟨b, rfl, hbl', hc'⟩ := hcell' k hlt
      have hd : LAt wr (a.add (k * 3)) L[k] := (hc k hlt).below hbl0 (by rw [add_block]; exact hbl)
      have hd' : LAt wr (b.add (k * 3)) L[k] := (hc' k hlt).below hbl0 (by rw [add_block]; exact hbl')
      obtain ⟨q, hq⟩ : ∃ q, q = L[k] := ⟨_, rfl⟩
      rw [← hq] at hd hd'
      have hk0 : (0 : Int) ≤ (k : Int) := by omega
      have hkI : (k : Int) < (L.length : Int) := by omega
      have HN := HB.out.call (Below.refl _ wr).drew
      clear hq hc hc' hcell hcell' HS a0 a1 b0 b1
      obtain ⟨d0, d1, d2⟩ := hd
      obtain ⟨e0, e1, e2⟩ := hd'
      go_wp2_with fail
      go_region_held3 (fun w' => (w'.cell? (a.add (k * 3)) = some (Value.int .i64 q.f) ∧ w'.cell? ⟨(a.add (k * 3)).block, (a.add (k * 3)).off + 1, none⟩ = some (Value.int .i64 q.t) ∧ w'.cell? ⟨(a.add (k * 3)).block, (a.add (k * 3)).off + 2, none⟩ = some (Value.string q.s) ∧ w'.cell? (b.add (k * 3)) = some (Value.int .i64 q.f) ∧ w'.cell? ⟨(b.add (k * 3)).block, (b.add (k * 3)).off + 1, none⟩ = some (Value.int .i64 q.t) ∧ w'.cell? ⟨(b.add (k * 3)).block, (b.add (k * 3)).off + 2, none⟩ = some (Value.string q.s)) ∧ w'.cell? ⟨W.heap.size, 1, none⟩ = some (.slice (some a) L.length cap) ∧ w'.cell? ⟨W.heap.size + 1, 1, none⟩ = some (.slice (some b) L.length caq)) ((refine ⟨⟨?_, ?_, ?_, ?_, ?_, ?_⟩, ?_, ?_⟩ <;> (repeat (first | (with_reducible assumption) | (with_reducible refine c_drew ?_))))) (fail)
      all_goals (go_wp2_with fail)
      all_goals go_roundw
      all_goals try (case measure => simp [intOf]; omega)
      all_goals (case rel => exact ⟨k + 1, by omega, by go_num, HN⟩)
    · go_wp2_with fail
      go_ret
      exact ⟨rfl, hbl0⟩
/-- Taken at its last place a list with one more letter is the list. -/
theorem tk_last (Y : List Lt) (x : Lt) (k : Int) (hk : bpos k (Y.length + 1) = Y.length) : tk (Y ++ [x]) k = (Y, x, true) := by
  have hl : (Y ++ [x]).length = Y.length + 1 := by simp
  have hp : 0 < (Y ++ [x]).length := by rw [hl]; omega
  unfold tk
  rw [dif_pos hp]
  have e : bpos k (Y ++ [x]).length = Y.length := by rw [hl, hk]
  have h1 : less (Y ++ [x]) (bpos k (Y ++ [x]).length) = Y := by
    rw [e]
    unfold less
    rw [List.take_left', List.drop_of_length_le (by rw [hl]; omega), List.append_nil]
    rfl
  have h2 : (Y ++ [x])[bpos k (Y ++ [x]).length]'(bpos_lt k _ hp) = x := by
    simp only [e]
    simp
  rw [h1, h2]
theorem bpos_at (n : Nat) : bpos (n : Int) (n + 1) = n := by
  unfold bpos
  rw [Int.emod_eq_of_lt (by omega) (by omega)]
  simp
theorem bpos_neg (n : Nat) : bpos (-1) (n + 1) = n := by
  unfold bpos
  have : (-1 : Int) % ((n + 1 : Nat) : Int) = (n : Int) := by
    rw [show (-1 : Int) = (n : Int) + ((n + 1 : Nat) : Int) * (-1) by push_cast; omega, Int.add_mul_emod_self_left, Int.emod_eq_of_lt (by omega) (by omega)]
  rw [this]
  simp
end Go.Proofs.Ytiipfedjjhpbpaa
