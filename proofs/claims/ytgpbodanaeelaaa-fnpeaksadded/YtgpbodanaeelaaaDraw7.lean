/-
  Drawn leaves.
-/
import Derived.Test.YtgpbodanaeelaaaTxt
import Derived.Test.YtgpbodanaeelaaaMany
import Derived.Laws.OwnMore
namespace Go.Proofs.Ytgpbodanaeelaaa
open Go.RowKit

/-- Texts as values. -/
def tcs (S : List ByteArray) : List Value := S.map Value.string
theorem tcs_len (S : List ByteArray) : (tcs S).length = S.length * 1 := by simp [tcs]
theorem tcs_append (S : List ByteArray) (s : ByteArray) : tcs (S ++ [s]) = tcs S ++ [.string s] := by simp [tcs]
theorem owt_len {W : World} {base n : Nat} {v : Value} {xs : List Value} (h : W.ownsRow base 9 1 v n xs) : ∃ a cap, v = .slice a n cap := by
  rcases h.2 with ⟨rfl, rfl⟩ | ⟨g, cap, cur, rfl, _⟩
  · exact ⟨none, 0, rfl⟩
  · exact ⟨_, cap, rfl⟩
theorem own_txt {W : World} {base : Nat} {v : Value} {S : List ByteArray} (h : W.ownsRow base 9 1 v S.length (tcs S)) : Txt W v S := by
  rcases id h.2 with ⟨rfl, h0⟩ | ⟨g, cap, cur, rfl, hg, hh, hn, hm, hs, ht⟩
  · exact .inl ⟨rfl, List.length_eq_zero_iff.1 h0⟩
  · refine .inr ⟨⟨g, 0, none⟩, cap, rfl, hn, hm, fun _ => (h.lt g rfl).2, fun i hi => ?_⟩
    rw [Addr.add_mid, Nat.zero_add, h.cellAt i (by omega)]
    simp [tcs]
theorem own_call9 {W W' : World} {base n : Nat} {v : Value} {xs : List Value} (h : W.ownsRow base 9 1 v n xs) (hb : Below W.heap.size W W') : W'.ownsRow base 9 1 v n xs :=
  h.kept (w' := W') (row := none) ⟨hb.os, hb.tape, hb.output, hb.size, fun k hk _ => hb.block k hk⟩ (by
    cases hv : v.ownBlock with
    | none => exact .inl rfl
    | some k => exact .inr (fun e => by cases e))
/-- append(b, s), b a row of texts of the call's own, s one text. -/
theorem wpList_append_txt {w : World} {ops : Array Oper} {rest : List Oper} {o : Oper} {a : Act} {Q : Exit → Act → World → Prop} (hgd : o.guard = none) (s x : Operand)
    (ho : o.op = .call { callee := .builtin .append, args := #[s, x], argTypes := #[23, 23] })
    (base : Nat) (v : Value) (S : List ByteArray) (q : ByteArray) (hs : a.eval s = v) (hown : w.ownsRow base 9 1 v S.length (tcs S))
    (B : Nat) (hx : a.eval x = .slice (some ⟨B, 0, none⟩) 1 1) (hc : w.cell? ⟨B, 0, none⟩ = some (.string q))
    (hlen : S.length ≤ 1048576) (hbase : base ≤ w.heap.size)
    (h : ∀ v' w', w'.ownsRow base 9 1 v' (S ++ [q]).length (tcs (S ++ [q])) → w.grownBy w' v.ownBlock → wpList Try.prog ops Q rest (a.put o.dst v') w') : wpList Try.prog ops Q (o :: rest) a w := by
  obtain ⟨i0, hi, hz0, hz1, hz2⟩ := info_parts info9
  refine wpList_append_own w hgd s x 23 ho base 9 i0 _ 1 16 Try.underlying23 hi hz0 hz1 hz2 rfl (by decide) v S.length (tcs S) hs hown ⟨B, 0, none⟩ 1 1 [.string q] hx rfl ?_ ?_ (by unfold maxLen; omega) (by omega) hbase ?_
  · intro j u hj
    match j, hj with
    | 0, hj => simp at hj; subst hj; simpa [Addr.add] using hc
  · intro u hu; simp at hu; subst hu; rfl
  · intro v' w' h1 h2 _
    refine h v' w' ?_ h2
    rw [tcs_append, List.length_append]
    exact h1
/-- A reader of leaves in the block X, over a reader in the block B. -/
def LRd (X B : Nat) (v : Value) (L : List UInt8) (p : Nat) (W : World) : Prop := RdAt B v L p W ∧ B < X ∧ X < W.heap.size ∧ W.cell? ⟨X, 0, none⟩ = some (.pointer (some ⟨B, 0, none⟩))
theorem LRd.next {X B p p' : Nat} {v : Value} {L : List UInt8} {W W' : World} (h : LRd X B v L p W) (h' : RdAt B v L p' W') (hg : W.grownBy W' (some B)) : LRd X B v L p' W' :=
  ⟨h', h.2.1, Nat.lt_of_lt_of_le h.2.2.1 hg.size, hg.cell h.2.2.2 (fun e => by have e' : X = B := (by injection e); have := h.2.1; omega)⟩
set_option maxRecDepth 20000 in
set_option maxHeartbeats 1000000 in
theorem leaf_is (X B : Nat) (v : Value) (L : List UInt8) (p : Nat) (W : World) (h : LRd X B v L p W) (hp : p ≤ 800000) :
    Calls Try.prog 59 #[.pointer (some ⟨X, 0, none⟩)] W fun e w' => ∃ (s : ByteArray) (p' : Nat), s.size ≤ 100000 ∧ p' ≤ p + 8 ∧ e = .returned (.string s) ∧ LRd X B v L p' w' ∧ W.grownBy w' (some B) := by
  have c1 := fun (V : World) (h : RdAt B v L p V) => pick_is B v L p V h (by omega) 10 (by omega) (by omega)
  have c2 := fun (V : World) (h : RdAt B v L (p + 1) V) => text_is B v L (p + 1) V h (by omega) 5 (by omega)
  have c3 := fun V : World => many_is (ByteArray.mk #[109]) rfl 40 (by omega) V
  obtain ⟨h1, h2, h3, h4⟩ := id h
  have HL : Hid (LRd X B v L p W) := h
  clear h
  go_enter Try.func59, Try.ntmps59
  go_wp2_with (first
    | (go_at_call 41; refine (c1 _ h1).mono ?_; rintro e w1 ⟨r, hr, rfl, R1, g1⟩; have L1 := HL.out.next R1 g1; have x1 := L1.2.2.2; clear c1)
    | (go_at_call 45; refine (c3 _).mono ?_; rintro e w2 ⟨s, hs, rfl, hw2⟩; replace hw2 := hw2.symm; subst hw2; clear c3)
    | (go_at_call 71; refine (c2 _ R1).mono ?_; rintro e w2 ⟨s, p2, hs, hp2, rfl, R2, g2⟩; clear c2))
  · go_ret
    exact ⟨s, p + 1, hs, by omega, rfl, L1, g1⟩
  · go_ret
    exact ⟨str s, p2, (by show s.toArray.size ≤ _; simp; omega), by omega, rfl, L1.next R2 g2, ⟨g2.os.trans g1.os, g2.tape.trans g1.tape, g2.output.trans g1.output, Nat.le_trans g1.size g2.size, fun k hk hne => (g2.block k (Nat.lt_of_lt_of_le hk g1.size) hne).trans (g1.block k hk hne)⟩⟩
theorem grown_two {W W1 W2 : World} {r : Option Nat} (h : W.grownBy W1 r) (h' : W1.grownBy W2 r) : W.grownBy W2 r :=
  ⟨h'.os.trans h.os, h'.tape.trans h.tape, h'.output.trans h.output, Nat.le_trans h.size h'.size, fun k hk hne => (h'.block k (Nat.lt_of_lt_of_le hk h.size) hne).trans (h.block k hk hne)⟩
/-- What was handed in stands, but for the block B; what is new lies behind. -/
theorem grown_row {W W1 W2 : World} {B : Nat} {r : Option Nat} (h : W.grownBy W1 (some B)) (h' : W1.grownBy W2 r) (hr : ∀ k, r = some k → W.heap.size ≤ k) : W.grownBy W2 (some B) :=
  ⟨h'.os.trans h.os, h'.tape.trans h.tape, h'.output.trans h.output, Nat.le_trans h.size h'.size, fun k hk hne => (h'.block k (Nat.lt_of_lt_of_le hk h.size) (fun e => by have := hr k e.symm; omega)).trans (h.block k hk hne)⟩
theorem RdAt.row {B : Nat} {v : Value} {L : List UInt8} {p : Nat} {W W' : World} {r : Option Nat} (h : RdAt B v L p W) (g : W.grownBy W' r) (hr : ∀ k, r = some k → B < k) : RdAt B v L p W' := by
  obtain ⟨h0, h1, h2, h3, h4, h5⟩ := h
  have nB : some B ≠ r := fun e => by have := hr B e.symm; omega
  refine ⟨Nat.lt_of_lt_of_le h0 g.size, g.cell h1 nB, g.cell h2 nB, (World.frozen?_of_block (a := ⟨B, 1, none⟩) (g.block B h0 nB)).trans h3, h4, ?_⟩
  rcases h5 with h5 | ⟨a, cap, hv, hl, hb, hc⟩
  · exact .inl h5
  · exact .inr ⟨a, cap, hv, hl, hb, fun i hi => g.cell (hc i hi) (fun e => by
      have e2 : (a.add i).block = a.block := add_block a i
      have := hr _ e.symm
      omega)⟩
theorem LRd.row {X B p : Nat} {v : Value} {L : List UInt8} {W W' : World} {r : Option Nat} (h : LRd X B v L p W) (g : W.grownBy W' r) (hr : ∀ k, r = some k → X < k) : LRd X B v L p W' :=
  ⟨h.1.row g (fun k e => Nat.lt_trans h.2.1 (hr k e)), h.2.1, Nat.lt_of_lt_of_le h.2.2.1 g.size, g.cell h.2.2.2 (fun e => by have := hr X e.symm; omega)⟩
set_option maxRecDepth 20000 in
set_option maxHeartbeats 1000000 in
theorem lsize_is (X B : Nat) (v : Value) (L : List UInt8) (p : Nat) (W : World) (h : LRd X B v L p W) (hp : p ≤ 800000) :
    Calls Try.prog 44 #[.pointer (some ⟨X, 0, none⟩)] W fun e w' => ∃ n : Nat, n ≤ 70 ∧ e = .returned (.int .i64 (n : Int)) ∧ LRd X B v L (p + 2) w' ∧ W.grownBy w' (some B) := by
  have c1 := fun (V : World) (h : RdAt B v L p V) => pick_is B v L p V h (by omega) 9 (by omega) (by omega)
  have c2 := fun (V : World) (h : RdAt B v L (p + 1) V) => pick_is B v L (p + 1) V h (by omega) 70 (by omega) (by omega)
  have c3 := fun (V : World) (h : RdAt B v L (p + 1) V) => pick_is B v L (p + 1) V h (by omega) 20 (by omega) (by omega)
  obtain ⟨h1, h2, h3, h4⟩ := id h
  have HL : Hid (LRd X B v L p W) := h
  clear h
  go_enter Try.func44, Try.ntmps44
  go_wp2_with (first
    | (go_at_call_of 41 (Value.int IntKind.i64 9); refine (c1 _ h1).mono ?_; rintro e w1 ⟨r, hr, rfl, R1, g1⟩; have L1 := HL.out.next R1 g1; have x1 := L1.2.2.2; clear c1)
    | (go_at_call_of 41 (Value.int IntKind.i64 70); refine (c2 _ R1).mono ?_; rintro e w2 ⟨r2, hr2, rfl, R2, g2⟩; clear c2)
    | (go_at_call_of 41 (Value.int IntKind.i64 20); refine (c3 _ R1).mono ?_; rintro e w2 ⟨r2, hr2, rfl, R2, g2⟩; clear c3))
  all_goals
    go_ret
    exact ⟨r2, by omega, rfl, L1.next R2 g2, grown_two g1 g2⟩
/-- What stands ahead of each round of leaves. -/
def LV (W : World) (X B : Nat) (v : Value) (L : List UInt8) (p : Nat) (u : Value) (S : List ByteArray) (wr : World) : Prop :=
  wr.ownsRow W.heap.size 9 1 u S.length (tcs S) ∧ LRd X B v L p wr ∧ W.grownBy wr (some B) ∧ ∀ s ∈ S, s.size ≤ 100000
set_option maxRecDepth 20000 in
set_option maxHeartbeats 1000000 in
theorem leaves_is (X B : Nat) (v : Value) (L : List UInt8) (p : Nat) (W : World) (h : LRd X B v L p W) (n : Nat) (hn : n ≤ 300) (hp : p ≤ 700000) :
    Calls Try.prog 43 #[.pointer (some ⟨X, 0, none⟩), .int .i64 (n : Int)] W fun e w' => ∃ (u : Value) (S : List ByteArray) (p' : Nat), e = .returned u ∧ S.length = n ∧ p' ≤ p + 8 * n ∧ LV W X B v L p' u S w' := by
  have hXW := h.2.2.1
  have hBX := h.2.1
  have HS : Hid (LV W X B v L p (.slice (some ⟨W.heap.size, 0, none⟩) 0 0) [] (W.alloc (.cells #[] 9))) := ⟨World.ownsRow_lit W #[] 0 (Nat.le_refl _) (by unfold maxLen; omega) rfl, h.row (World.grownBy_alloc W _ none) (fun k e => by cases e), World.grownBy_alloc W _ _, fun s hs => by cases hs⟩
  clear h
  go_enter Try.func43, Try.ntmps43
  go_wp2_with fail
  go_loopw [5, 6] (fun u i wr => ∃ (k : Nat) (S : List ByteArray) (ob : Option Addr) (cb p' : Nat), k ≤ n ∧ S.length = k ∧ i = .int .i64 (k : Int) ∧ u = .slice ob k cb ∧ p' ≤ p + 8 * k ∧ Hid (LV W X B v L p' (.slice ob k cb) S wr)) (fun _ i _ => n - (intOf i).toNat)
  case atStart => exact ⟨0, [], _, _, p, by omega, rfl, rfl, rfl, by omega, HS⟩
  case round =>
    obtain ⟨k, S, ob, cb, p', hk, hSk, rfl, rfl, hp', HV⟩ := hrel
    by_cases hlt : k < n
    · obtain ⟨o1, l1, g1, z1⟩ := HV.out
      have cl := fun (V : World) (h : LRd X B v L p' V) => leaf_is X B v L p' V h (by omega)
      have HZ : Hid ((∀ s ∈ S, s.size ≤ 100000) ∧ S.length = k ∧ p' ≤ p + 8 * k) := ⟨z1, hSk, hp'⟩
      have hb1 : IntKind.i64.wrap ((k : Int) + 1) = (k : Int) + 1 := IntWalk.i64_in _ (by omega)
      have hkI : (k : Int) < (n : Int) := by omega
      clear HS HV z1 hSk hp'
      go_wp2_with (first
        | (go_at_call 59; refine (cl _ l1).mono ?_; rintro e w1 ⟨s, p1, hs, hp1, rfl, l2, g2⟩; have hs2 := g2.size; have hs1 := g1.size; have o2 := o1.kept g2 (.inr (fun e => absurd (o1.lt _ e).1 (by omega))); have g3 := grown_two g1 g2; clear cl l1 g1 g2 o1)
        | (at_builtin; refine wpList_append_txt rfl _ _ rfl W.heap.size _ S s rfl (o2.alloc _) w1.heap.size rfl (by simp [go_sem]) (by have := HZ.out.2.1; omega) (by simp only [World.size_alloc]; omega) ?_; intro v' w3 ho3 hg3; obtain ⟨oc, cq, hv3⟩ := owt_len ho3; rw [List.length_append, HZ.out.2.1] at hv3; subst hv3))
      have hz := HZ.out
      have nn := World.grownBy_alloc w1 (.cells #[.string s] 9) none
      refine ⟨⟨k + 1, S ++ [s], oc, cq, p1, by omega, by rw [List.length_append, hz.2.1]; rfl, rfl, rfl, by omega, ho3, (l2.row nn (fun k e => by cases e)).row hg3 (fun j e => Nat.lt_of_lt_of_le hXW (o2.lt j e).1), grown_row (grown_row g3 nn (fun k e => by cases e)) hg3 (fun j e => (o2.lt j e).1), fun q hq => ?_⟩, by simp only [intOf]; omega⟩
      rcases List.mem_append.1 hq with hq | hq
      · exact hz.1 q hq
      · simp at hq; subst hq; exact hs
    · have hkk : k = n := by omega
      subst hkk
      clear HS
      go_wp2_with fail
      go_ret
      exact ⟨_, S, p', rfl, hSk, hp', HV.out⟩
set_option maxRecDepth 20000 in
set_option maxHeartbeats 1000000 in
theorem full_is (n : Nat) (hn : n ≤ 300) (W : World) :
    Calls Try.prog 42 #[.int .i64 (n : Int)] W fun e w' => ∃ (u : Value) (S : List ByteArray), e = .returned u ∧ S.length = n ∧ w'.ownsRow W.heap.size 9 1 u S.length (tcs S) ∧ Below W.heap.size W w' ∧ ∀ s ∈ S, s.size ≤ 100000 := by
  have HS : Hid ((W.alloc (.cells #[] 9)).ownsRow W.heap.size 9 1 (.slice (some ⟨W.heap.size, 0, none⟩) 0 0) ([] : List ByteArray).length (tcs []) ∧ Below W.heap.size W (W.alloc (.cells #[] 9)) ∧ ∀ s ∈ ([] : List ByteArray), s.size ≤ 100000) := ⟨World.ownsRow_lit W #[] 0 (Nat.le_refl _) (by unfold maxLen; omega) rfl, (by repeat' (first | (with_reducible exact Below.refl _ _) | (with_reducible assumption) | (with_reducible refine below_drewN ?_ _) | (with_reducible refine Below.setCell ?_ ?_ _) | (with_reducible refine Below.alloc ?_ ?_ _) | (with_reducible refine Below.drew ?_) | go_size)), fun s hs => by cases hs⟩
  go_enter Try.func42, Try.ntmps42
  go_wp2_with fail
  go_loopw [3, 4] (fun u i wr => ∃ (k : Nat) (S : List ByteArray) (ob : Option Addr) (cb : Nat), k ≤ n ∧ S.length = k ∧ i = .int .i64 (k : Int) ∧ u = .slice ob k cb ∧ Hid (wr.ownsRow W.heap.size 9 1 (.slice ob k cb) S.length (tcs S) ∧ Below W.heap.size W wr ∧ ∀ s ∈ S, s.size ≤ 100000)) (fun _ i _ => n - (intOf i).toNat)
  case atStart => exact ⟨0, [], _, _, by omega, rfl, rfl, rfl, HS⟩
  case round =>
    obtain ⟨k, S, ob, cb, hk, hSk, rfl, rfl, HV⟩ := hrel
    by_cases hlt : k < n
    · obtain ⟨o1, b1, z1⟩ := HV.out
      have lw := b1.size
      have HZ : Hid ((∀ s ∈ S, s.size ≤ 100000) ∧ S.length = k) := ⟨z1, hSk⟩
      have hb1 : IntKind.i64.wrap ((k : Int) + 1) = (k : Int) + 1 := IntWalk.i64_in _ (by omega)
      have hkI : (k : Int) < (n : Int) := by omega
      clear HS HV z1 hSk
      go_wp2_with (at_builtin; refine wpList_append_txt rfl _ _ rfl W.heap.size _ S ByteArray.empty rfl (o1.alloc _) wr.heap.size rfl (by simp [go_sem]; rfl) (by have := HZ.out.2; omega) (by simp only [World.size_alloc]; omega) ?_; intro v' w3 ho3 hg3; obtain ⟨oc, cq, hv3⟩ := owt_len ho3; rw [List.length_append, HZ.out.2] at hv3; subst hv3)
      have hz := HZ.out
      refine ⟨⟨k + 1, S ++ [ByteArray.empty], oc, cq, by omega, by rw [List.length_append, hz.2]; rfl, rfl, rfl, ho3, (b1.alloc lw _).grown hg3 (by simp only [World.size_alloc]; omega) (fun j e => (o1.lt j e).1), fun q hq => ?_⟩, by simp only [intOf]; omega⟩
      rcases List.mem_append.1 hq with hq | hq
      · exact hz.1 q hq
      · simp at hq; subst hq; exact Nat.zero_le _
    · have hkk : k = n := by omega
      subst hkk
      clear HS
      go_wp2_with fail
      go_ret
      exact ⟨_, S, rfl, hSk, HV.out⟩
end Go.Proofs.Ytgpbodanaeelaaa
