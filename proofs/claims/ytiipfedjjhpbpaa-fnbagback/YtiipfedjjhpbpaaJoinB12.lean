/-
  A list of texts is marked.
-/
import Derived.Test.YtiipfedjjhpbpaaJoinB3
import Derived.Test.YtiipfedjjhpbpaaJoinB10
import Derived.Test.YtiipfedjjhpbpaaJoinB11
import Derived.Laws.OwnMore
import Derived.Deep.RegionHeld3
import Derived.Test.YtiipfedjjhpbpaaJoinB7
namespace Go.Proofs.Ytiipfedjjhpbpaa
open Go.RowKit

/-- The block B has n places that may be written. -/
def SR (B n : Nat) (W : World) : Prop := B < W.heap.size ∧ ∀ i, i < n → (W.cell? ⟨B, i, none⟩).isSome = true ∧ W.frozen? ⟨B, i, none⟩ = false
theorem SR.call {B n : Nat} {W W' : World} (h : SR B n W) (hb : Below W.heap.size W W') : SR B n W' :=
  ⟨Nat.lt_of_lt_of_le h.1 hb.size, fun i hi => ⟨by rw [hb.cell (p := ⟨B, i, none⟩) h.1]; exact (h.2 i hi).1, (hb.frozen (p := ⟨B, i, none⟩) h.1).trans (h.2 i hi).2⟩⟩
theorem SR.set {B n : Nat} {W : World} (h : SR B n W) (j : Nat) (x : Value) : SR B n (W.setCell ⟨B, j, none⟩ x) := by
  refine ⟨by simp only [World.size_setCell]; exact h.1, fun i hi => ⟨?_, by rw [World.frozen?_setCell]; exact (h.2 i hi).2⟩⟩
  by_cases e : j = i
  · subst e; rw [set_same (h.2 j hi).1]; rfl
  · rw [set_off e]; exact (h.2 i hi).1
set_option maxRecDepth 20000 in
set_option maxHeartbeats 1000000 in
theorem markText_is (k : Nat) (hk : k ≤ 16777216) (W : World) : Calls Try.prog 62 #[.int .i64 (k : Int)] W fun e w' => ∃ s, e = .returned (.string s) ∧ Below W.heap.size W w' := by
  by_cases h0 : k = 0
  · subst h0
    go_enter Try.func62, Try.ntmps62
    go_wp2
    go_ret
    exact ⟨_, rfl, Below.refl _ _⟩
  have hkI : ¬ (k : Int) ≤ 0 := by omega
  go_enter Try.func62, Try.ntmps62
  go_wp2
  go_loopw [0, 3] (fun r o wr => ∃ (m : Nat) (s : ByteArray), r = .int .i64 (m : Int) ∧ o = .string s ∧ m + s.size ≤ 16777216 ∧ Hid (Below W.heap.size W wr)) (fun r _ _ => (intOf r).toNat)
  case atStart => exact ⟨k, ByteArray.empty, rfl, rfl, by show k + 0 ≤ _; omega, Below.refl _ _⟩
  case round =>
    obtain ⟨m, s, rfl, rfl, hm, HB⟩ := hrel
    have lw : W.heap.size ≤ wr.heap.size := HB.out.size
    by_cases hp : m = 0
    · subst hp
      have ha : ∀ V : World, (Op.stringOp .add (ByteArray.mk #[109]) s).run Try.prog V = .ok (.string (ByteArray.mk #[109] ++ s)) V := fun V => run_string_add_sum V _ _ (by show 1 + s.size ≤ _; omega)
      go_wp2
      go_ret
      exact ⟨_, rfl, HB.out⟩
    · have hpI : 0 < (m : Int) := by omega
      obtain ⟨d, hd⟩ : ∃ d, d = m % 10 := ⟨_, rfl⟩
      have hd9 : d ≤ 9 := by omega
      have hmod : (m : Int).tmod 10 = (d : Int) := by rw [Int.tmod_eq_emod_of_nonneg (by omega)]; omega
      have hdiv : (m : Int).tdiv 10 = ((m / 10 : Nat) : Int) := by rw [Int.tdiv_eq_ediv_of_nonneg (by omega)]; omega
      have hw : IntKind.i64.wrap (48 + (d : Int)) = 48 + (d : Int) := IntWalk.i64_in _ (by omega)
      obtain ⟨x, hx⟩ : ∃ x : UInt8, (x.toNat : Int) = 48 + (d : Int) := ⟨UInt8.ofNat (48 + d), by rw [UInt8.toNat_ofNat', Nat.mod_eq_of_lt (by omega)]; omega⟩
      have hu : IntKind.u8.wrap (48 + (d : Int)) = (x.toNat : Int) := by rw [hx]; exact IntWalk.u8_in _ (by omega)
      have hcv : ∀ (V : World) (b : Nat), V.cell? ⟨b, 0, none⟩ = some (.int .u8 (x.toNat : Int)) → (convert 22 9 (.slice (some ⟨b, 0, none⟩) 1 1)).run Try.prog V = .ok (.string (str [x])) V := fun V b h => run_str_one V b x h
      have ha : ∀ V : World, (Op.stringOp .add (str [x]) s).run Try.prog V = .ok (.string (str [x] ++ s)) V := fun V => run_string_add_sum V _ _ (by show 1 + s.size ≤ _; omega)
      obtain ⟨y, hy⟩ : ∃ y, y = str [x] ++ s := ⟨_, rfl⟩
      rw [← hy] at ha
      have hys : y.size = 1 + s.size := by rw [hy]; show (str [x] ++ s).size = _; rw [ByteArray.size_append]; rfl
      have HQ : Hid (m / 10 + y.size ≤ 16777216 ∧ m / 10 < m) := ⟨by omega, by omega⟩
      clear hy hys hx hd
      go_wp2
      refine ⟨⟨m / 10, y, ?_, rfl, HQ.out.1, HB.out.alloc lw _⟩, ?_⟩
      · first | rfl | rw [hdiv]
      · have := HQ.out.2
        simp only [intOf]; first | omega | (rw [hdiv]; omega)
end Go.Proofs.Ytiipfedjjhpbpaa

/-
  Lists of numbers: one more, compared, marked, looked at again.
-/
namespace Go.Proofs.Ytiipfedjjhpbpaa
open Go.RowKit

def ics (X : List Int) : List Value := X.map (Value.int .i64)
theorem ics_len (X : List Int) : (ics X).length = X.length * 1 := by simp [ics]
theorem ics_append (X : List Int) (x : Int) : ics (X ++ [x]) = ics X ++ [.int .i64 x] := by simp [ics]
theorem infoI : (Try.prog.info? 3).map (fun i => (i.zero, i.size, i.bytes)) = some (some (.int .i64 0), 1, 8) := by kernel_rfl
/-- The slice v holds the numbers X. -/
def Its (W : World) (v : Value) (X : List Int) : Prop :=
  (v = .slice none 0 0 ∧ X = []) ∨ ∃ (a : Addr) (cap : Nat), v = .slice (some a) X.length cap ∧ X.length ≤ cap ∧ cap ≤ maxLen ∧ (0 < X.length → a.block < W.heap.size) ∧ ∀ (i : Nat) (h : i < X.length), W.cell? (a.add i) = some (.int .i64 X[i])
theorem Its.call {W W' : World} {v : Value} {X : List Int} (h : Its W v X) (hb : Below W.heap.size W W') : Its W' v X := by
  rcases h with h | ⟨a, cap, hv, hl, hm, hbl, hc⟩
  · exact .inl h
  · refine .inr ⟨a, cap, hv, hl, hm, fun h0 => Nat.lt_of_lt_of_le (hbl h0) hb.size, fun i hi => ?_⟩
    rw [hb.cell (p := a.add i) (by rw [add_block]; exact hbl (by omega))]
    exact hc i hi
theorem Its.len {W : World} {v : Value} {X : List Int} (h : Its W v X) : ∃ a cap, v = .slice a X.length cap ∧ X.length ≤ 9223372036854775807 := by
  rcases h with ⟨rfl, rfl⟩ | ⟨a, cap, rfl, hl, hm, _⟩
  · exact ⟨none, 0, rfl, by simp⟩
  · exact ⟨some a, cap, rfl, by unfold maxLen at hm; omega⟩
theorem owi_len {W : World} {base n : Nat} {v : Value} {xs : List Value} (h : W.ownsRow base 3 1 v n xs) : ∃ a cap, v = .slice a n cap := by
  rcases h.2 with ⟨rfl, rfl⟩ | ⟨g, cap, cur, rfl, _⟩
  · exact ⟨none, 0, rfl⟩
  · exact ⟨_, cap, rfl⟩
theorem own_its {W : World} {base : Nat} {v : Value} {X : List Int} (h : W.ownsRow base 3 1 v X.length (ics X)) : Its W v X := by
  rcases id h.2 with ⟨rfl, h0⟩ | ⟨g, cap, cur, rfl, hg, hh, hn, hm, hs, ht⟩
  · exact .inl ⟨rfl, List.length_eq_zero_iff.1 h0⟩
  · refine .inr ⟨⟨g, 0, none⟩, cap, rfl, hn, hm, fun _ => (h.lt g rfl).2, fun i hi => ?_⟩
    rw [Addr.add_mid, Nat.zero_add, h.cellAt i (by omega)]
    simp [ics]
theorem own_callI {W W' : World} {base n : Nat} {v : Value} {xs : List Value} (h : W.ownsRow base 3 1 v n xs) (hb : Below W.heap.size W W') : W'.ownsRow base 3 1 v n xs :=
  h.kept (w' := W') (row := none) ⟨hb.os, hb.tape, hb.output, hb.size, fun k hk _ => hb.block k hk⟩ (by
    cases hv : v.ownBlock with
    | none => exact .inl rfl
    | some k => exact .inr (fun e => by cases e))
/-- append(b, x), b a row of numbers of the call's own, x one number. -/
theorem wpList_append_int {w : World} {ops : Array Oper} {rest : List Oper} {o : Oper} {a : Act} {Q : Exit → Act → World → Prop} (hgd : o.guard = none) (s x : Operand)
    (ho : o.op = .call { callee := .builtin .append, args := #[s, x], argTypes := #[43, 43] })
    (base : Nat) (v : Value) (X : List Int) (q : Int) (hs : a.eval s = v) (hown : w.ownsRow base 3 1 v X.length (ics X))
    (B : Nat) (hx : a.eval x = .slice (some ⟨B, 0, none⟩) 1 1) (hc : w.cell? ⟨B, 0, none⟩ = some (.int .i64 q))
    (hlen : X.length ≤ 1048576) (hbase : base ≤ w.heap.size)
    (h : ∀ v' w', w'.ownsRow base 3 1 v' (X ++ [q]).length (ics (X ++ [q])) → w.grownBy w' v.ownBlock → wpList Try.prog ops Q rest (a.put o.dst v') w') : wpList Try.prog ops Q (o :: rest) a w := by
  obtain ⟨i0, hi, hz0, hz1, hz2⟩ := info_parts infoI
  refine wpList_append_own w hgd s x 43 ho base 3 i0 _ 1 8 Try.underlying43 hi hz0 hz1 hz2 rfl (by decide) v X.length (ics X) hs hown ⟨B, 0, none⟩ 1 1 [.int .i64 q] hx rfl ?_ ?_ (by unfold maxLen; omega) (by omega) hbase ?_
  · intro j u hj
    match j, hj with
    | 0, hj => simp at hj; subst hj; simpa [Addr.add] using hc
  · intro u hu; simp at hu; subst hu; rfl
  · intro v' w' h1 h2 _
    refine h v' w' ?_ h2
    rw [ics_append, List.length_append]
    exact h1
/-- The marks from k on lie in the list u of n numbers, and end at r. -/
def HeldI (W : World) (u : Value) (n k r : Nat) : Prop := r = k + n ∧ ((n = 0 ∧ ∃ oa cap, u = .slice oa 0 cap) ∨ ∃ g cap, u = .slice (some ⟨g, 0, none⟩) n cap ∧ g < W.heap.size ∧ ∀ i, i < n → W.cell? ⟨g, i, none⟩ = some (.int .i64 ((k + i : Nat) : Int)))
theorem HeldI.call {W W' : World} {u : Value} {n k r : Nat} (h : HeldI W u n k r) (hb : Below W.heap.size W W') : HeldI W' u n k r := by
  obtain ⟨hr, h0 | ⟨g, cap, e, hg, hd⟩⟩ := h
  · exact ⟨hr, .inl h0⟩
  · exact ⟨hr, .inr ⟨g, cap, e, Nat.lt_of_lt_of_le hg hb.size, fun i hi => (hb.cell (p := ⟨g, i, none⟩) hg).trans (hd i hi)⟩⟩
end Go.Proofs.Ytiipfedjjhpbpaa

/-
  The places of the letters to a node, by both.
-/
namespace Go.Proofs.Ytiipfedjjhpbpaa
open Go.RowKit

theorem own_down {W : World} {b base e size n : Nat} {v : Value} {xs : List Value} (h : W.ownsRow base e size v n xs) (hb : b ≤ base) : W.ownsRow b e size v n xs := by
  obtain ⟨h1, h2 | ⟨g, cap, cur, h3, h4, h5⟩⟩ := h
  · exact ⟨h1, .inl h2⟩
  · exact ⟨h1, .inr ⟨g, cap, cur, h3, Nat.le_trans hb h4, h5⟩⟩
theorem C2.grown {B : Nat} {x y : Value} {W W' : World} {row : Option Nat} (h : C2 B x y W) (hg : W.grownBy W' row) (hr : row ≠ some B) : C2 B x y W' := by
  obtain ⟨h0, h1, h2, h3, h4⟩ := h
  have hb : W'.heap[B]? = W.heap[B]? := hg.block B h0 (fun e => hr e.symm)
  exact ⟨Nat.lt_of_lt_of_le h0 hg.size, (World.cell?_of_block (w := W) (a := ⟨B, 0, none⟩) hb).trans h1, (World.cell?_of_block (w := W) (a := ⟨B, 1, none⟩) hb).trans h2, (World.frozen?_of_block (w := W) (a := ⟨B, 0, none⟩) hb).trans h3, (World.frozen?_of_block (w := W) (a := ⟨B, 1, none⟩) hb).trans h4⟩
/-- The places of the letters to a node among the first k. -/
def posn (node : Int) (L : List Lt) : Nat → List Int
  | 0 => []
  | k + 1 => if (L.getD k ⟨0, 0, ByteArray.empty⟩).t = node then posn node L k ++ [(k : Int)] else posn node L k
theorem posn_len (node : Int) (L : List Lt) : ∀ k, (posn node L k).length ≤ k
  | 0 => Nat.le_refl _
  | k + 1 => by
    have := posn_len node L k
    unfold posn
    split
    · simp; omega
    · omega
/-- What BagFor tells. -/
def bagFor (m : Int) (L : List Lt) (node : Int) : List Int := if bagOk m L = true then posn node L L.length else []
theorem bagOk_len {m : Int} {L : List Lt} (h : bagOk m L = true) : L.length ≤ 64 := by
  unfold bagOk at h
  rw [Bool.and_eq_true, decide_eq_true_iff] at h
  omega
theorem bagFor_len (m : Int) (L : List Lt) (node : Int) : (bagFor m L node).length ≤ 64 := by
  unfold bagFor
  split
  · rename_i h
    exact Nat.le_trans (posn_len node L _) (bagOk_len h)
  · simp

end Go.Proofs.Ytiipfedjjhpbpaa
