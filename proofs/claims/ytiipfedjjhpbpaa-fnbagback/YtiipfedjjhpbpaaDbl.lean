/-
  A letter doubled in a network: the place, the letter put once more.
-/
import Derived.Test.YtiipfedjjhpbpaaJoinB17
namespace Go.Proofs.Ytiipfedjjhpbpaa
open Go.RowKit

/-- k modulo n, as a place. -/
def bpos (k : Int) (n : Nat) : Nat := (k % (n : Int)).toNat
theorem bpos_lt (k : Int) (n : Nat) (hn : 0 < n) : bpos k n < n := by
  unfold bpos
  have h1 := Int.emod_nonneg k (show (n : Int) ≠ 0 by omega)
  have h2 := Int.emod_lt_of_pos k (show (0 : Int) < (n : Int) by omega)
  omega
theorem tmod_bpos (k : Int) (n : Nat) (hn : 0 < n) : (if k.tmod (n : Int) < 0 then k.tmod (n : Int) + n else k.tmod (n : Int)) = (bpos k n : Int) ∧ -(n : Int) < k.tmod (n : Int) ∧ k.tmod (n : Int) < (n : Int) := by
  have h1 := Int.emod_nonneg k (show (n : Int) ≠ 0 by omega)
  have h2 := Int.emod_lt_of_pos k (show (0 : Int) < (n : Int) by omega)
  have e : ((bpos k n : Nat) : Int) = k % (n : Int) := by unfold bpos; omega
  have h3 := Int.tmod_lt_of_pos k (show (0 : Int) < (n : Int) by omega)
  have h4 := Int.lt_tmod_of_pos k (show (0 : Int) < (n : Int) by omega)
  refine ⟨?_, h4, h3⟩
  have h5 : k % (n : Int) = k.tmod (n : Int) % (n : Int) := by
    conv => lhs; rw [← Int.tmod_add_mul_tdiv k (n : Int)]
    rw [Int.add_mul_emod_self_left]
  rw [e, h5]
  split
  · rw [← Int.add_emod_right, Int.emod_eq_of_lt (by omega) (by omega)]
  · rw [Int.emod_eq_of_lt (by omega) (by omega)]
set_option maxRecDepth 20000 in
set_option maxHeartbeats 1000000 in
theorem place_some (N : Nat) (l m c : Int) (oa : Option Addr) (n cap : Nat) (k : Int) (w : World) (h : Nw N l m (.slice oa n cap) c w) (hn : 0 < n) (hn2 : n ≤ 1048576) :
    Calls Try.prog 61 #[.pointer (some ⟨N, 0, none⟩), .int .i64 k] w fun e w' => e = .returned (.tuple #[.int .i64 (bpos k n : Int), .bool true]) ∧ w' = w := by
  obtain ⟨-, ⟨x0, x1, x2, x3, x4⟩, -, -, -⟩ := id h
  obtain ⟨e1, e2, e3⟩ := tmod_bpos k n hn
  have hpos : (0 : Int) < (n : Int) := by omega
  have hle : (n : Int) ≤ 1048576 := by omega
  generalize hr : k.tmod (n : Int) = r at e1 e2 e3
  clear h
  go_enter Try.func61, Try.ntmps61
  go_wp2
  · have hv : r + (n : Int) = (bpos k n : Int) := by rw [← e1, if_pos (by assumption)]
    rw [hv]
    go_ret2
    exact ⟨rfl, rfl⟩
  · have hv : r = (bpos k n : Int) := by rw [← e1, if_neg (by omega)]
    rw [hv]
    go_ret2
    exact ⟨rfl, rfl⟩
theorem place_none (N : Nat) (l m c : Int) (oa : Option Addr) (cap : Nat) (k : Int) (w : World) (h : Nw N l m (.slice oa 0 cap) c w) :
    Calls Try.prog 61 #[.pointer (some ⟨N, 0, none⟩), .int .i64 k] w fun e w' => e = .returned (.tuple #[.int .i64 0, .bool false]) ∧ w' = w := by
  obtain ⟨-, ⟨x0, x1, x2, x3, x4⟩, -, -, -⟩ := id h
  clear h
  go_enter Try.func61, Try.ntmps61
  go_wp2
  go_ret2
  exact ⟨rfl, rfl⟩
/-- l6Mod of the document. -/
theorem l6mod_is (k : Int) (n : Nat) (hn : 0 < n) (hn2 : n ≤ 1048576) (w : World) :
    Calls Try.prog 44 #[.int .i64 k, .int .i64 (n : Int)] w fun e w' => e = .returned (.int .i64 (bpos k n : Int)) ∧ w' = w := by
  obtain ⟨e1, e2, e3⟩ := tmod_bpos k n hn
  have hpos : (0 : Int) < (n : Int) := by omega
  have hle : (n : Int) ≤ 1048576 := by omega
  have hb := bpos_lt k n hn
  have e4 : (k.tmod (n : Int) + (n : Int)).tmod (n : Int) = (bpos k n : Int) := by
    rw [Int.tmod_eq_emod_of_nonneg (by omega), Int.add_emod_right]
    rw [← e1]
    split
    · rw [← Int.add_emod_right, Int.emod_eq_of_lt (by omega) (by omega)]
    · rw [Int.emod_eq_of_lt (by omega) (by omega)]
  generalize hr : k.tmod (n : Int) = r at e1 e2 e3 e4
  go_enter Try.func44, Try.ntmps44
  go_wp2
  go_ret
  exact ⟨rfl, rfl⟩
theorem LAt.far {W : World} {p : Addr} {l : Lt} (h : LAt W p l) (N o : Nat) (x : Value) (hN : p.block ≠ N) : LAt (W.setCell ⟨N, o, none⟩ x) p l :=
  ⟨c_set h.1 (fun e => hN e.symm), c_set h.2.1 (fun e => hN e.symm), c_set h.2.2 (fun e => hN e.symm)⟩
set_option maxRecDepth 20000 in
set_option maxHeartbeats 2000000 in
/-- A letter of a network is doubled, there is room. -/
theorem dbl_room (N : Nat) (m c : Int) (oa : Option Addr) (cap : Nat) (L : List Lt) (k : Int) (w : World) (h : Nw N 0 m (.slice oa L.length cap) c w) (hr : Rows3 w oa L) (hap : ∀ b, oa = some b → b.block ≠ N) (hcap : L.length ≤ cap) (hcm : cap ≤ maxLen) (hno : oa = none → cap = 0) (hp : 0 < L.length) (hn : L.length ≤ 1048576) (hm : (L.length : Int) < m) (hs : ∀ l ∈ L, l.s.size ≤ 1048576) (ht : Lts w (.slice oa L.length cap) L) :
    Calls Try.prog 42 #[.pointer (some ⟨N, 0, none⟩), .int .i64 k] w fun e w' => e = .returned (.bool true) ∧ ∃ u, Nw N 0 m u c w' ∧ u.ownBlock ≠ some N ∧ w'.ownsRow w.heap.size 27 3 u (L.length + 1) (lcs (L ++ [L[bpos k L.length]'(bpos_lt k _ hp)])) ∧ w.grownBy w' (some N) := by
  have h0 := h.word 1
  have r0 : Rows3 (w.setCell ⟨N, 0, none⟩ (.int .i32 1)) oa L := fun b e => ⟨by simp only [World.size_setCell]; exact (hr b e).1, fun j u hu => c_set ((hr b e).2 j u hu) (by show N ≠ (b.add j).block; rw [add_block]; exact (hap b e).symm)⟩
  have cl := lock_is N m c (.slice oa L.length cap) _ h
  have hlt := bpos_lt k L.length hp
  have hsl := hs _ (List.getElem_mem hlt)
  obtain ⟨b, hb, -, hat⟩ := ht.cells _ hp
  have hrow := (hat _ hlt).far N 0 (.int .i32 1) (by rw [add_block]; exact hap b hb)
  have cp := put_room N 1 m c oa cap L (L[bpos k L.length]'hlt).f (L[bpos k L.length]'hlt).t (L[bpos k L.length]'hlt).s _ h0 r0 hcap hcm hno hn hm hsl
  have cq := place_some N 1 m c oa L.length cap k _ h0 hp hn
  have hNw : N < w.heap.size := h.1
  have gA := grown_set w N 0 (.int .i32 1)
  obtain ⟨x, hx⟩ : ∃ x, x = L[bpos k L.length]'hlt := ⟨_, rfl⟩
  rw [← hx] at cp ⊢
  subst hb
  obtain ⟨hc0, hc1, hc2⟩ := hrow
  rw [← hx] at hc0 hc1 hc2
  generalize bpos k L.length = p at hlt cq hc0 hc1 hc2
  generalize hW : w.setCell ⟨N, 0, none⟩ (.int .i32 1) = W at h0 cl cp cq gA hc0 hc1 hc2
  obtain ⟨-, ⟨x0, x1, x2, x3, x4⟩, -, -, -⟩ := id h0
  have hlt' : (p : Int) < (L.length : Int) := by omega
  clear hx hsl h hr ht hat hap hcap hno hcm hm r0 hs hlt hp
  go_enter_defers Try.func42, Try.ntmps42
  go_wp2_with (first
    | (go_at_call 56; refine cl.mono ?_; rintro e w1 ⟨rfl, hw⟩; subst hw; subst hW)
    | (go_at_call 61; refine cq.mono ?_; rintro e w1 ⟨rfl, hw⟩; replace hw := hw.symm; subst hw)
    | (go_at_call 58; refine cp.mono ?_; rintro e w2 ⟨rfl, u, h3, ne3, o3, g3⟩))
  have hs3 := g3.size
  refine leaves_cons (f := 57) (args := #[.pointer (some ⟨N, 0, none⟩)]) (by simp) (by simp [go_sem]) ?_
  refine (unlock_is N m c u .returning _ h3).mono ?_
  rintro e u' w'' ⟨rfl, rfl, rfl⟩
  refine ⟨_, results_tmp rfl _ _ _, rfl, u, h3.word 0, ne3, ?_, (gA.trans2 g3).trans2 (grown_set w2 N 0 _)⟩
  exact (own_down (b := w.heap.size) o3 (by simp only [World.size_setCell]; omega)).kept (grown_set w2 N 0 _) (.inr ne3)
set_option maxRecDepth 20000 in
set_option maxHeartbeats 2000000 in
/-- A letter of a network is doubled, the bag is full. -/
theorem dbl_full (N : Nat) (m c : Int) (oa : Option Addr) (cap : Nat) (L : List Lt) (k : Int) (w : World) (h : Nw N 0 m (.slice oa L.length cap) c w) (hap : ∀ b, oa = some b → b.block ≠ N) (hp : 0 < L.length) (hn : L.length ≤ 1048576) (hm : m ≤ (L.length : Int)) (hc : 0 ≤ c ∧ c ≤ 1000) (ht : Lts w (.slice oa L.length cap) L) :
    Calls Try.prog 42 #[.pointer (some ⟨N, 0, none⟩), .int .i64 k] w fun e w' => e = .returned (.bool true) ∧ Nw N 0 m (.slice oa L.length cap) (c + 1) w' ∧ w.grownBy w' (some N) := by
  have h0 := h.word 1
  have cl := lock_is N m c (.slice oa L.length cap) _ h
  have hlt := bpos_lt k L.length hp
  obtain ⟨b, hb, -, hat⟩ := ht.cells _ hp
  have hrow := (hat _ hlt).far N 0 (.int .i32 1) (by rw [add_block]; exact hap b hb)
  have cp := put_full N 1 m c oa L.length cap (L[bpos k L.length]'hlt).f (L[bpos k L.length]'hlt).t (L[bpos k L.length]'hlt).s _ h0 hn hm hc
  have cq := place_some N 1 m c oa L.length cap k _ h0 hp hn
  have gA := grown_set w N 0 (.int .i32 1)
  obtain ⟨x, hx⟩ : ∃ x, x = L[bpos k L.length]'hlt := ⟨_, rfl⟩
  rw [← hx] at cp
  subst hb
  obtain ⟨hc0, hc1, hc2⟩ := hrow
  rw [← hx] at hc0 hc1 hc2
  generalize bpos k L.length = p at hlt cq hc0 hc1 hc2
  generalize hW : w.setCell ⟨N, 0, none⟩ (.int .i32 1) = W at h0 cl cp cq gA hc0 hc1 hc2
  obtain ⟨-, ⟨x0, x1, x2, x3, x4⟩, -, -, -⟩ := id h0
  have hlt' : (p : Int) < (L.length : Int) := by omega
  clear hx h ht hat hap hm hlt hp hc
  go_enter_defers Try.func42, Try.ntmps42
  go_wp2_with (first
    | (go_at_call 56; refine cl.mono ?_; rintro e w1 ⟨rfl, hw⟩; subst hw; subst hW)
    | (go_at_call 61; refine cq.mono ?_; rintro e w1 ⟨rfl, hw⟩; replace hw := hw.symm; subst hw)
    | (go_at_call 58; refine cp.mono ?_; rintro e w2 ⟨rfl, h3, g3⟩))
  refine leaves_cons (f := 57) (args := #[.pointer (some ⟨N, 0, none⟩)]) (by simp) (by simp [go_sem]) ?_
  refine (unlock_is N m (c + 1) _ .returning _ h3).mono ?_
  rintro e u' w'' ⟨rfl, rfl, rfl⟩
  exact ⟨_, results_tmp rfl _ _ _, rfl, h3.word 0, (gA.trans2 g3).trans2 (grown_set w2 N 0 _)⟩
set_option maxRecDepth 20000 in
set_option maxHeartbeats 2000000 in
/-- Nothing to be doubled. -/
theorem dbl_none (N : Nat) (m c : Int) (oa : Option Addr) (cap : Nat) (k : Int) (w : World) (h : Nw N 0 m (.slice oa 0 cap) c w) :
    Calls Try.prog 42 #[.pointer (some ⟨N, 0, none⟩), .int .i64 k] w fun e w' => e = .returned (.bool false) ∧ Nw N 0 m (.slice oa 0 cap) c w' ∧ w.grownBy w' (some N) := by
  have h0 := h.word 1
  have cl := lock_is N m c (.slice oa 0 cap) _ h
  have cq := place_none N 1 m c oa cap k _ h0
  have gA := grown_set w N 0 (.int .i32 1)
  generalize hW : w.setCell ⟨N, 0, none⟩ (.int .i32 1) = W at h0 cl cq gA
  clear h
  go_enter_defers Try.func42, Try.ntmps42
  go_wp2_with (first
    | (go_at_call 56; refine cl.mono ?_; rintro e w1 ⟨rfl, hw⟩; subst hw; subst hW)
    | (go_at_call 61; refine cq.mono ?_; rintro e w1 ⟨rfl, hw⟩; replace hw := hw.symm; subst hw))
  refine leaves_cons (f := 57) (args := #[.pointer (some ⟨N, 0, none⟩)]) (by simp) (by simp [go_sem]) ?_
  refine (unlock_is N m c _ .returning _ h0).mono ?_
  rintro e u' w'' ⟨rfl, rfl, rfl⟩
  exact ⟨_, results_tmp rfl _ _ _, rfl, h0.word 0, gA.trans2 (grown_set _ N 0 _)⟩
end Go.Proofs.Ytiipfedjjhpbpaa
