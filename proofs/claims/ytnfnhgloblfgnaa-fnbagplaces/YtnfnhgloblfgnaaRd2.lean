/-
  The reader of a code: opened; texts, words and digests that it draws: walked.
-/
import Derived.Test.YtnfnhgloblfgnaaRd
import Derived.Test.YtnfnhgloblfgnaaJoinB13
import Derived.Test.YtnfnhgloblfgnaaJoinB34
import Derived.Deep.RegionLaw
import Derived.Maps.Range
namespace Go.Proofs.Ytnfnhgloblfgnaa
open Go.RowKit

/-- The slice v holds the bytes L. -/
def Byt (W : World) (v : Value) (L : List UInt8) : Prop :=
  (v = .slice none 0 0 ∧ L = []) ∨ ∃ (a : Addr) (cap : Nat), v = .slice (some a) L.length cap ∧ L.length ≤ cap ∧ cap ≤ maxLen ∧ (0 < L.length → a.block < W.heap.size) ∧ ∀ (i : Nat) (h : i < L.length), W.cell? (a.add i) = some (.int .u8 (L[i].toNat : Int))
theorem Byt.call {W W' : World} {v : Value} {L : List UInt8} (h : Byt W v L) (hb : Below W.heap.size W W') : Byt W' v L := by
  rcases h with h | ⟨a, cap, hv, hl, hm, hbl, hc⟩
  · exact .inl h
  · refine .inr ⟨a, cap, hv, hl, hm, fun h0 => Nat.lt_of_lt_of_le (hbl h0) hb.size, fun i hi => ?_⟩
    rw [hb.cell (p := a.add i) (by rw [add_block']; exact hbl (by omega))]
    exact hc i hi
theorem rd_new (W : World) (v : Value) (L : List UInt8) (h2 : L.length ≤ 2000) (h : Byt W v L) : RdAt W.heap.size v L 0 (W.alloc (.cells #[v, .int .i64 0] 63)) := by
  refine ⟨by simp, by simp [go_sem], by simp [go_sem], by simp [go_sem], h2, ?_⟩
  rcases h with ⟨rfl, rfl⟩ | ⟨a, cap, rfl, hl, hm, hbl, hc⟩
  · exact .inl ⟨none, 0, rfl, rfl⟩
  · by_cases h0 : L.length = 0
    · exact .inl ⟨some a, cap, by rw [h0], List.length_eq_zero_iff.1 h0⟩
    · exact .inr ⟨a, cap, rfl, by omega, hbl (by omega), fun i hi => c_alloc (hc i hi)⟩

set_option maxRecDepth 20000 in
set_option maxHeartbeats 1000000 in
theorem open_is (W : World) (v : Value) (L : List UInt8) (h : Byt W v L) :
    Calls Try.prog 18 #[v] W fun e w' => ∃ (v' : Value) (L' : List UInt8), e = .returned (.pointer (some ⟨W.heap.size, 0, none⟩)) ∧ RdAt W.heap.size v' L' 0 w' ∧ Below W.heap.size W w' := by
  by_cases hbig : 2000 < L.length
  · rcases h with ⟨_, rfl⟩ | ⟨a, cap, rfl, hl, hm, hbl, hc⟩
    · simp at hbig
    have hbI : (2000 : Int) < (L.length : Int) := by omega
    have hcI : (2000 : Int) ≤ (cap : Int) := by omega
    have e : (L.take 2000).length = 2000 := by rw [List.length_take]; omega
    have HR : Hid (RdAt W.heap.size (.slice (some a) 2000 cap) (L.take 2000) 0 (W.alloc (.cells #[.slice (some a) 2000 cap, .int .i64 0] 63))) := rd_new W _ (L.take 2000) (by omega) (.inr ⟨a, cap, by rw [e], by omega, hm, fun _ => hbl (by omega), fun i hi => by rw [hc i (by omega)]; simp⟩)
    clear hc hbl e
    go_enter Try.func18, Try.ntmps18
    go_wp2_with fail
    go_ret
    exact ⟨_, _, rfl, HR.out, (Below.refl _ _).alloc (Nat.le_refl _) _⟩
  · have HR : Hid (RdAt W.heap.size v L 0 (W.alloc (.cells #[v, .int .i64 0] 63))) := rd_new W v L (by omega) h
    obtain ⟨a, cap, rfl⟩ : ∃ a cap, v = .slice a L.length cap := by
      rcases h with ⟨rfl, rfl⟩ | ⟨a, cap, rfl, _⟩
      · exact ⟨none, 0, rfl⟩
      · exact ⟨some a, cap, rfl⟩
    have hbI : ¬ (2000 : Int) < (L.length : Int) := by omega
    clear h
    go_enter Try.func18, Try.ntmps18
    go_wp2_with fail
    go_ret
    first
      | exact ⟨_, _, rfl, HR.out, (Below.refl _ _).alloc (Nat.le_refl _) _⟩
      | exact ⟨rfl, ⟨_, _, HR.out⟩, (Below.refl _ _).alloc (Nat.le_refl _) _⟩

theorem own_far {w w' : World} {base e size n B : Nat} {v : Value} {xs : List Value} (h : w.ownsRow base e size v n xs) (g : w.grownBy w' (some B)) (hB : B < base) : w'.ownsRow base e size v n xs := by
  obtain ⟨h0, h⟩ := h
  refine ⟨h0, ?_⟩
  rcases h with h | ⟨k, cap, cur, hv, hb, hg, hn, hc, hs, ht⟩
  · exact .inl h
  · exact .inr ⟨k, cap, cur, hv, hb, (g.block k (Array.getElem?_eq_some_iff.1 hg).1 (fun e => by have e2 : k = B := (by simpa using e); omega)).trans hg, hn, hc, hs, ht⟩

theorem RdAt.far {B : Nat} {v : Value} {L : List UInt8} {p : Nat} {W W' : World} {row : Option Nat} (h : RdAt B v L p W) (g : W.grownBy W' row) (hr : ∀ k, row = some k → B < k) : RdAt B v L p W' := by
  have ne : ∀ b, b ≤ B → some b ≠ row := fun b hb e => by have := hr b e.symm; omega
  obtain ⟨h0, h1, h2, h3, h4, h5⟩ := h
  refine ⟨Nat.lt_of_lt_of_le h0 g.size, g.cell h1 (ne B (Nat.le_refl _)), g.cell h2 (ne B (Nat.le_refl _)), (g.frozen_far _ h0 (ne B (Nat.le_refl _))).trans h3, h4, ?_⟩
  rcases h5 with h5 | ⟨a, cap, hv, hl, hb, hc⟩
  · exact .inl h5
  · exact .inr ⟨a, cap, hv, hl, hb, fun i hi => g.cell (hc i hi) (by rw [add_block']; exact ne a.block (by omega))⟩

set_option maxRecDepth 20000 in
set_option maxHeartbeats 1000000 in
theorem text_is (B : Nat) (v : Value) (L : List UInt8) (p : Nat) (W : World) (h : RdAt B v L p W) (hp8 : p ≤ 900000) (n : Nat) (hn : n ≤ 1000) :
    Calls Try.prog 43 #[.pointer (some ⟨B, 0, none⟩), .int .i64 (n : Int)] W fun e w' => ∃ (s : List UInt8) (p' : Nat), s.length ≤ n ∧ p' ≤ p + n + 1 ∧ e = .returned (.string (str s)) ∧ RdAt B v L p' w' ∧ W.grownBy w' (some B) := by
  have hB := h.1
  have hw1 : IntKind.i64.wrap ((n : Int) + 1) = (n : Int) + 1 := IntWalk.i64_in _ (by omega)
  have h0 : RdAt B v L p (W.alloc (.cells #[] 5)) := h.grown (World.grownBy_alloc W _ none)
  have c1 := pick_is B v L p _ h0 (by omega) ((n : Int) + 1) (by omega) (by omega)
  have cp := fun (W' : World) (q : Nat) (hr : RdAt B v L q W') (hq : q ≤ 1000000) => pick_is B v L q W' hr hq 256 (by omega) (by omega)
  clear h h0
  go_enter Try.func43, Try.ntmps43
  go_wp2_with (go_at_call 31; refine c1.mono ?_; rintro e w1 ⟨r, hr, rfl, hR1, hg1⟩)
  have hG1 : W.grownBy w1 (some B) := (World.grownBy_alloc W _ _).trans hg1
  have hO1 : w1.ownsRow W.heap.size 5 1 (.slice (some ⟨W.heap.size, 0, none⟩) 0 0) 0 [] := own_far (World.ownsRow_lit W _ 0 (Nat.le_refl _) (by unfold maxLen; omega) rfl) hg1 hB
  clear hg1 c1
  go_loopw [5, 6] (fun b k wr => ∃ (l : List UInt8) (j q : Nat), k = .int .i64 (j : Int) ∧ l.length + j ≤ n ∧ q + j ≤ p + n + 1 ∧ wr.ownsRow W.heap.size 5 1 b l.length (bv l) ∧ Hid (RdAt B v L q wr) ∧ Hid (W.grownBy wr (some B))) (fun _ k _ => (intOf k).toNat)
  case atStart => exact ⟨[], r, p + 1, rfl, by simp; omega, by omega, hO1, hR1, hG1⟩
  case round =>
    obtain ⟨l, j, q, rfl, hlj, hqj, hown, HR, HG⟩ := hrel
    by_cases hj : 0 < j
    · have hjI : (0 : Int) < (j : Int) := by omega
      have c2 := cp wr q HR.out (by omega)
      have hsz := HG.out.size
      clear cp
      go_wp2_with (first
        | (go_at_call 31; refine c2.mono ?_; rintro e w2 ⟨x, hx, rfl, hR2, hg2⟩; have hown2 := own_far hown hg2 hB; have hz2 := hg2.size; have hxv : ((UInt8.ofNat x).toNat : Int) = (x : Int) := (by rw [UInt8.toNat_ofNat']; omega); have hwx : IntKind.u8.wrap (x : Int) = (x : Int) := (by rw [IntKind.wrap_u8]; omega))
        | (at_builtin; refine wpList_append_byte rfl _ _ rfl W.heap.size _ l (UInt8.ofNat x) rfl (hown2.alloc _) ⟨w2.heap.size, 0, none⟩ rfl ?c1 ?c2 ?c3 ?_))
      case c1 => rw [hxv]; simp [go_sem]
      case c2 => omega
      case c3 => simp; omega
      intro v' w3 hown' hgrow
      have hlt : ∀ k, Value.ownBlock _ = some k → W.heap.size ≤ k := fun k hk => (hown.lt k hk).1
      have hG3 : Hid (W.grownBy w3 (some B)) := ((HG.out.trans hg2).trans (World.grownBy_alloc w2 _ _)).andThen hgrow (fun k hk => .inl (hlt k hk))
      have hR3 : Hid (RdAt B v L (q + 1) w3) := (hR2.grown (World.grownBy_alloc w2 _ none)).far hgrow (fun k hk => by have := hlt k hk; omega)
      go_wp2_with fail
      go_roundw
      case rel => exact ⟨l ++ [UInt8.ofNat x], j - 1, q + 1, congrArg (Value.int IntKind.i64) (by omega), by simp; omega, by omega, by rw [List.length_append, List.length_singleton]; exact hown', hR3, hG3⟩
      case measure => simp [intOf]; omega
    · have hcv := run_str_own (P := Try.prog) wr W.heap.size _ l hown Try.underlying22 Try.underlying5 Try.underlying9
      go_wp2
      go_ret
      exact ⟨l, q, by omega, by omega, rfl, HR.out, HG.out⟩

theorem u64_of_nat (r : Nat) (h : r < 18446744073709551616) : Ending.returned (Value.int IntKind.u64 (r : Int)) = Ending.returned (Value.int IntKind.u64 ((UInt64.ofNat r).toNat : Int)) := by
  rw [UInt64.toNat_ofNat', Nat.mod_eq_of_lt h]
theorem xor_max (r : Nat) (h : r < 18446744073709551616) : bits .xor .u64 IntKind.u64.max (r : Int) = ((18446744073709551615 ^^^ r : Nat) : Int) ∧ (18446744073709551615 ^^^ r) < 18446744073709551616 := by
  have e : IntKind.u64.max = ((18446744073709551615 : Nat) : Int) := by decide
  rw [e]
  exact ⟨u64_xor_nat _ _ (by omega) h, Nat.xor_lt_two_pow (n := 64) (by omega) (by omega)⟩

theorem Box.far {b B : Nat} {W W' : World} (h : Box b W) (g : W.grownBy W' (some B)) (hne : b ≠ B) : Box b W' :=
  ⟨Nat.lt_of_lt_of_le h.1 g.size, fun j hj => ⟨g.cell (h.2 j hj).1 (fun e => hne (by simpa using e)), (g.frozen_far _ h.1 (fun e => hne (by simpa using e))).trans (h.2 j hj).2⟩⟩
/-- Four stores into a box of one's own. -/
theorem RdAt.four {B b : Nat} {v : Value} {L : List UInt8} {p : Nat} {W : World} {x0 x1 x2 x3 : Value} (h : RdAt B v L p W) (hb : B < b) : RdAt B v L p ((((W.setCell ⟨b, 0, none⟩ x0).setCell ⟨b, 1, none⟩ x1).setCell ⟨b, 2, none⟩ x2).setCell ⟨b, 3, none⟩ x3) := by
  have hr : ∀ k, some b = some k → B < k := fun k e => by have e2 : b = k := (by simpa using e); omega
  exact (((h.far (grownR_set W b 0 x0) hr).far (grownR_set _ b 1 x1) hr).far (grownR_set _ b 2 x2) hr).far (grownR_set _ b 3 x3) hr
theorem grown_four {W0 W : World} {B b : Nat} {x0 x1 x2 x3 : Value} (h : W0.grownBy W (some B)) (hb : W0.heap.size ≤ b) : W0.grownBy ((((W.setCell ⟨b, 0, none⟩ x0).setCell ⟨b, 1, none⟩ x1).setCell ⟨b, 2, none⟩ x2).setCell ⟨b, 3, none⟩ x3) (some B) := by
  have hr : ∀ j, some b = some j → W0.heap.size ≤ j ∨ (some B) = some j := fun k e => .inl (by have e2 : b = k := (by simpa using e); omega)
  exact (((h.andThen (grownR_set W b 0 x0) hr).andThen (grownR_set _ b 1 x1) hr).andThen (grownR_set _ b 2 x2) hr).andThen (grownR_set _ b 3 x3) hr

end Go.Proofs.Ytnfnhgloblfgnaa
