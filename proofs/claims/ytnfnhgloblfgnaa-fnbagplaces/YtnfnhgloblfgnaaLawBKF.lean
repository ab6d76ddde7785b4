/-
  The law of bags that stay within their room, walked.
-/
import Derived.Test.YtnfnhgloblfgnaaDBag3
import Derived.Test.YtnfnhgloblfgnaaJoinB47
namespace Go.Proofs.Ytnfnhgloblfgnaa
open Go.RowKit

theorem ifint_is (b : Bool) (w : World) : Calls Try.prog 9 #[.bool b, .int .i64 1] w fun e w' => e = .returned (.int .i64 (if b then 1 else 0)) ∧ w' = w := by
  cases b
  · go_enter Try.func9, Try.ntmps9
    go_wp2
    go_ret
    exact ⟨rfl, rfl⟩
  · go_enter Try.func9, Try.ntmps9
    go_wp2
    go_ret
    exact ⟨rfl, rfl⟩
theorem ifint_no (w : World) : Calls Try.prog 9 #[.bool false, .int .i64 1] w fun e w' => e = .returned (.int .i64 0) ∧ w' = w := ifint_is false w
theorem ifint_yes (w : World) : Calls Try.prog 9 #[.bool true, .int .i64 1] w fun e w' => e = .returned (.int .i64 1) ∧ w' = w := ifint_is true w
theorem bagOk_iff {m : Int} {L : List Lt} : bagOk m L = true ↔ (1 ≤ m ∧ m ≤ 64 ∧ (L.length : Int) ≤ m) ∧ ∀ l ∈ L, letOk l.f l.t l.s.size = true := by
  unfold bagOk
  rw [Bool.and_eq_true, decide_eq_true_iff, List.all_eq_true]
theorem bagOk_more {m : Int} {L : List Lt} {x : Lt} (h : bagOk m L = true) (hm : (L.length : Int) < m) (hx : letOk x.f x.t x.s.size = true) : bagOk m (L ++ [x]) = true := by
  obtain ⟨⟨h1, h2, h3⟩, h4⟩ := bagOk_iff.1 h
  refine bagOk_iff.2 ⟨⟨h1, h2, by rw [List.length_append]; simp; omega⟩, fun l hl => ?_⟩
  rcases List.mem_append.1 hl with hl | hl
  · exact h4 l hl
  · rw [List.mem_singleton] at hl; subst hl; exact hx
theorem bagOk_less {m : Int} {L : List Lt} {p : Nat} (h : bagOk m L = true) (hp : p < L.length) : bagOk m (less L p) = true := by
  obtain ⟨⟨h1, h2, h3⟩, h4⟩ := bagOk_iff.1 h
  have hl := less_len L p hp
  refine bagOk_iff.2 ⟨⟨h1, h2, by omega⟩, fun l hl => ?_⟩
  unfold less at hl
  rcases List.mem_append.1 hl with hl | hl
  · exact h4 l (List.mem_of_mem_take hl)
  · exact h4 l (List.mem_of_mem_drop hl)
/-- What comes of a bag that is ok when a letter is doubled. -/
theorem dbl_facts (m : Int) (Y : List Lt) (k : Int) (h : bagOk m Y = true) :
    bagOk (bdbl m Y k).1 (bdbl m Y k).2.1 = true ∧ (bdbl m Y k).2.2 = (decide (0 < Y.length) && decide ((Y.length : Int) < m)) ∧ (bdbl m Y k).2.1.length = Y.length + (if (bdbl m Y k).2.2 then 1 else 0) := by
  unfold bdbl
  rw [if_pos h]
  obtain ⟨⟨h1, h2, h3⟩, h4⟩ := bagOk_iff.1 h
  by_cases hp : 0 < Y.length
  · rw [dif_pos hp]
    by_cases hm : (Y.length : Int) < m
    · rw [if_pos hm]
      exact ⟨bagOk_more h hm (h4 _ (List.getElem_mem _)), by simp [hp, hm], by simp⟩
    · rw [if_neg hm]
      exact ⟨h, by simp [hm], by simp⟩
  · rw [dif_neg hp]
    exact ⟨h, by simp [hp], by simp⟩
theorem take_facts (m : Int) (Y : List Lt) (k : Int) (h : bagOk m Y = true) :
    bagOk (btake m Y k).1 (btake m Y k).2.1 = true ∧ (btake m Y k).2.2.2 = decide (0 < Y.length) ∧ (btake m Y k).2.1.length + (if (btake m Y k).2.2.2 then 1 else 0) = Y.length := by
  unfold btake
  rw [if_pos h]
  unfold tk
  by_cases hp : 0 < Y.length
  · rw [dif_pos hp]
    have hl := less_len Y (bpos k Y.length) (bpos_lt k _ hp)
    have hb := bpos_lt k Y.length hp
    exact ⟨bagOk_less h hb, by simp [hp], by simp only [if_true]; omega⟩
  · rw [dif_neg hp]
    have hY : Y = [] := List.length_eq_zero_iff.1 (by omega)
    subst hY
    exact ⟨h, by simp, by simp⟩
theorem send_facts (m : Int) (Y : List Lt) (x : Lt) (h : bagOk m Y = true) (hx : letOk x.f x.t x.s.size = true) :
    bagOk (bsend m Y x).1 (bsend m Y x).2.1 = true ∧ (bsend m Y x).2.1.length = Y.length + (if (bsend m Y x).2.2 then 1 else 0) := by
  unfold bsend
  rw [if_pos ⟨h, hx⟩]
  by_cases hm : (Y.length : Int) < m
  · rw [if_pos hm]; exact ⟨bagOk_more h hm hx, by simp⟩
  · rw [if_neg hm]; exact ⟨h, by simp⟩
theorem send_sizes (m : Int) (Y : List Lt) (x : Lt) : (bsend m Y x).2.1.length ≤ Y.length + 1 ∧ ((∀ l ∈ Y, l.s.size ≤ 100000) → x.s.size ≤ 100000 → ∀ l ∈ (bsend m Y x).2.1, l.s.size ≤ 100000) := by
  unfold bsend
  split
  · split
    · refine ⟨by simp, fun hY hx l hl => ?_⟩
      rcases List.mem_append.1 hl with hl | hl
      · exact hY l hl
      · rw [List.mem_singleton] at hl; subst hl; exact hx
    · exact ⟨by simp, fun hY _ l hl => hY l hl⟩
  · exact ⟨by simp, fun _ _ l hl => by simp at hl⟩
/-- A bag in a box, its letters anywhere. -/
def BX (b : Nat) (m : Int) (u : Value) (Y : List Lt) (W : World) : Prop := C2 b (.int .i64 m) u W ∧ Lts W u Y
theorem BX.call {b : Nat} {m : Int} {u : Value} {Y : List Lt} {W W' : World} (h : BX b m u Y W) (hb : Below W.heap.size W W') : BX b m u Y W' := ⟨h.1.call hb, h.2.call hb⟩
theorem BX.new {W : World} {m : Int} {u : Value} {Y : List Lt} (h : Lts W u Y) (t : TypeId) : BX W.heap.size m u Y (W.alloc (.cells #[.int .i64 m, u] t)) := ⟨C2.new W _ _ t, h.call ((Below.refl _ _).alloc (Nat.le_refl _) _)⟩
/-- All that stands ahead of the law's last two questions. -/
def AllK (w : World) (bl : Nat) (x : Lt) (bs : Nat) (ms : Int) (us : Value) (Ys : List Lt) (bd : Nat) (md : Int) (ud : Value) (Yd : List Lt) (bt : Nat) (mt : Int) (ut : Value) (Yt : List Lt) (W : World) : Prop :=
  L3 bl x.f x.t x.s W ∧ BX bs ms us Ys W ∧ BX bd md ud Yd W ∧ BX bt mt ut Yt W ∧ Below w.heap.size w W
theorem AllK.call {w : World} {bl : Nat} {x : Lt} {bs : Nat} {ms : Int} {us : Value} {Ys : List Lt} {bd : Nat} {md : Int} {ud : Value} {Yd : List Lt} {bt : Nat} {mt : Int} {ut : Value} {Yt : List Lt} {W W' : World} (h : AllK w bl x bs ms us Ys bd md ud Yd bt mt ut Yt W) (hb : Below W.heap.size W W') : AllK w bl x bs ms us Ys bd md ud Yd bt mt ut Yt W' :=
  ⟨h.1.call hb, h.2.1.call hb, h.2.2.1.call hb, h.2.2.2.1.call hb, below_after h.2.2.2.2 hb h.2.2.2.2.size⟩
theorem below_one {W : World} {o : Obj} : Below W.heap.size W (W.alloc o) := (Below.refl _ _).alloc (Nat.le_refl _) o
theorem below_pair {W : World} {o o' : Obj} : Below W.heap.size W ((W.alloc o).alloc o') := ((Below.refl _ _).alloc (Nat.le_refl _) o).alloc (by simp only [World.size_alloc]; omega) o'
end Go.Proofs.Ytnfnhgloblfgnaa
