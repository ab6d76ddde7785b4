/-
  Lists of numbers: one more, compared, marked, looked at again.
-/
import Derived.Test.YtdpbgcilkidbaaaDoorMarkS
import Derived.Laws.OwnMore
import Derived.Deep.RegionHeld3
namespace Go.Proofs.YtdpbgcilkidbaaaDoor
open Go.RowKit

def ics (X : List Int) : List Value := X.map (Value.int .i64)
theorem ics_len (X : List Int) : (ics X).length = X.length * 1 := by simp [ics]
theorem ics_append (X : List Int) (x : Int) : ics (X ++ [x]) = ics X ++ [.int .i64 x] := by simp [ics]
theorem infoI : (Tryd.prog.info? 3).map (fun i => (i.zero, i.size, i.bytes)) = some (some (.int .i64 0), 1, 8) := by kernel_rfl
/-- The slice v holds the numbers X. -/
def Its (W : World) (v : Value) (X : List Int) : Prop :=
  (v = .slice none 0 0 ∧ X = []) ∨ ∃ (a : Addr) (cap : Nat), v = .slice (some a) X.length cap ∧ X.length ≤ cap ∧ cap ≤ maxLen ∧ (0 < X.length → a.block < W.heap.size) ∧ ∀ (i : Nat) (h : i < X.length), W.cell? (a.add i) = some (.int .i64 X[i])
theorem Its.call {W W' : World} {v : Value} {X : List Int} (h : Its W v X) (hb : Below W.heap.size W W') : Its W' v X := by
  rcases h with h | ⟨a, cap, hv, hl, hm, hbl, hc⟩
  · exact .inl h
  · refine .inr ⟨a, cap, hv, hl, hm, fun h0 => Nat.lt_of_lt_of_le (hbl h0) hb.size, fun i hi => ?_⟩
    rw [hb.cell (p := a.add i) (by rw [add_block]; exact hbl (by omega))]
    exact hc i hi
theorem Its.len {W : World} {v : Value} {X : List Int} (h : Its W v X) : ∃ a cap, v = .slice a X.length cap ∧ X.length ≤ 9223372036854775807 := by
  rcases h with ⟨rfl, rfl⟩ | ⟨a, cap, rfl, hl, hm, _⟩
  · exact ⟨none, 0, rfl, by simp⟩
  · exact ⟨some a, cap, rfl, by unfold maxLen at hm; omega⟩
theorem owi_len {W : World} {base n : Nat} {v : Value} {xs : List Value} (h : W.ownsRow base 3 1 v n xs) : ∃ a cap, v = .slice a n cap := by
  rcases h.2 with ⟨rfl, rfl⟩ | ⟨g, cap, cur, rfl, _⟩
  · exact ⟨none, 0, rfl⟩
  · exact ⟨_, cap, rfl⟩
theorem own_its {W : World} {base : Nat} {v : Value} {X : List Int} (h : W.ownsRow base 3 1 v X.length (ics X)) : Its W v X := by
  rcases id h.2 with ⟨rfl, h0⟩ | ⟨g, cap, cur, rfl, hg, hh, hn, hm, hs, ht⟩
  · exact .inl ⟨rfl, List.length_eq_zero_iff.1 h0⟩
  · refine .inr ⟨⟨g, 0, none⟩, cap, rfl, hn, hm, fun _ => (h.lt g rfl).2, fun i hi => ?_⟩
    rw [Addr.add_mid, Nat.zero_add, h.cellAt i (by omega)]
    simp [ics]
theorem own_callI {W W' : World} {base n : Nat} {v : Value} {xs : List Value} (h : W.ownsRow base 3 1 v n xs) (hb : Below W.heap.size W W') : W'.ownsRow base 3 1 v n xs :=
  h.kept (w' := W') (row := none) ⟨hb.os, hb.tape, hb.output, hb.size, fun k hk _ => hb.block k hk⟩ (by
    cases hv : v.ownBlock with
    | none => exact .inl rfl
    | some k => exact .inr (fun e => by cases e))
/-- append(b, x), b a row of numbers of the call's own, x one number. -/
theorem wpList_append_int {w : World} {ops : Array Oper} {rest : List Oper} {o : Oper} {a : Act} {Q : Exit → Act → World → Prop} (hgd : o.guard = none) (s x : Operand)
    (ho : o.op = .call { callee := .builtin .append, args := #[s, x], argTypes := #[27, 27] })
    (base : Nat) (v : Value) (X : List Int) (q : Int) (hs : a.eval s = v) (hown : w.ownsRow base 3 1 v X.length (ics X))
    (B : Nat) (hx : a.eval x = .slice (some ⟨B, 0, none⟩) 1 1) (hc : w.cell? ⟨B, 0, none⟩ = some (.int .i64 q))
    (hlen : X.length ≤ 1048576) (hbase : base ≤ w.heap.size)
    (h : ∀ v' w', w'.ownsRow base 3 1 v' (X ++ [q]).length (ics (X ++ [q])) → w.grownBy w' v.ownBlock → wpList Tryd.prog ops Q rest (a.put o.dst v') w') : wpList Tryd.prog ops Q (o :: rest) a w := by
  obtain ⟨i0, hi, hz0, hz1, hz2⟩ := info_parts infoI
  refine wpList_append_own w hgd s x 27 ho base 3 i0 _ 1 8 Tryd.underlying27 hi hz0 hz1 hz2 rfl (by decide) v X.length (ics X) hs hown ⟨B, 0, none⟩ 1 1 [.int .i64 q] hx rfl ?_ ?_ (by unfold maxLen; omega) (by omega) hbase ?_
  · intro j u hj
    match j, hj with
    | 0, hj => simp at hj; subst hj; simpa [Addr.add] using hc
  · intro u hu; simp at hu; subst hu; rfl
  · intro v' w' h1 h2 _
    refine h v' w' ?_ h2
    rw [ics_append, List.length_append]
    exact h1
set_option maxRecDepth 20000 in
set_option maxHeartbeats 1000000 in
theorem eqis_is (W : World) (u v : Value) (X : List Int) (h : Its W u X) (h' : Its W v X) :
    Calls Tryd.prog 21 #[u, v] W fun e w' => e = .returned (.bool true) ∧ Below W.heap.size W w' := by
  by_cases hS : X = []
  · obtain ⟨a, c, rfl, _⟩ := h.len
    obtain ⟨a', c', rfl, _⟩ := h'.len
    subst hS
    clear h h'
    go_enter Tryd.func21, Tryd.ntmps21
    go_wp2_with fail
    refine wp_loop_rounds 1 ?_
    rw [rounds_succ]
    go_wp2
    go_ret
    exact ⟨rfl, Below.refl _ _⟩
  · rcases h with ⟨_, h0⟩ | ⟨a, cap, rfl, hl, hm, hbl, hc⟩
    · exact absurd h0 hS
    rcases h' with ⟨_, h0⟩ | ⟨a', cap', rfl, hl', hm', hbl', hc'⟩
    · exact absurd h0 hS
    have hcl : X.length ≤ 9223372036854775807 := by unfold maxLen at hm; omega
    go_enter Tryd.func21, Tryd.ntmps21
    go_wp2_with fail
    go_loopw [5] (fun i wr => ∃ k : Nat, k ≤ X.length ∧ i = .int .i64 (k : Int) ∧ Hid (Below W.heap.size W wr)) (fun i _ => X.length - (intOf i).toNat)
    case atStart => exact ⟨0, by omega, rfl, Below.refl _ _⟩
    case round =>
      obtain ⟨k, hk, rfl, HB⟩ := hrel
      by_cases hlt : k < X.length
      · have hd : wr.cell? (a.add k) = some (.int .i64 X[k]) := by rw [HB.out.cell (p := a.add k) (by rw [add_block]; exact hbl (by omega))]; exact hc k hlt
        have hd' : wr.cell? (a'.add k) = some (.int .i64 X[k]) := by rw [HB.out.cell (p := a'.add k) (by rw [add_block]; exact hbl' (by omega))]; exact hc' k hlt
        obtain ⟨q, hq⟩ : ∃ q, q = X[k] := ⟨_, rfl⟩
        rw [← hq] at hd hd'
        have hk0 : (0 : Int) ≤ (k : Int) := by omega
        have hkI : (k : Int) < (X.length : Int) := by omega
        clear hq hc hc'
        go_wp2_with fail
        go_region_held3 (fun w' => w'.cell? (a.add k) = some (Value.int .i64 q) ∧ w'.cell? (a'.add k) = some (Value.int .i64 q)) ((refine ⟨?_, ?_⟩ <;> assumption)) (fail)
        go_wp2_with fail
        exact ⟨⟨k + 1, by omega, by go_num, HB.out.drew⟩, by simp [intOf]; omega⟩
      · go_wp2
        go_ret
        exact ⟨rfl, HB.out⟩
/-- The marks from k on lie in the list u of n numbers, and end at r. -/
def HeldI (W : World) (u : Value) (n k r : Nat) : Prop := r = k + n ∧ ((n = 0 ∧ ∃ oa cap, u = .slice oa 0 cap) ∨ ∃ g cap, u = .slice (some ⟨g, 0, none⟩) n cap ∧ g < W.heap.size ∧ ∀ i, i < n → W.cell? ⟨g, i, none⟩ = some (.int .i64 ((k + i : Nat) : Int)))
theorem HeldI.call {W W' : World} {u : Value} {n k r : Nat} (h : HeldI W u n k r) (hb : Below W.heap.size W W') : HeldI W' u n k r := by
  obtain ⟨hr, h0 | ⟨g, cap, e, hg, hd⟩⟩ := h
  · exact ⟨hr, .inl h0⟩
  · exact ⟨hr, .inr ⟨g, cap, e, Nat.lt_of_lt_of_le hg hb.size, fun i hi => (hb.cell (p := ⟨g, i, none⟩) hg).trans (hd i hi)⟩⟩
set_option maxRecDepth 20000 in
set_option maxHeartbeats 1000000 in
theorem marki_is (W : World) (g n cap k : Nat) (h : SR g n W) (hn : n ≤ 1048576) (hk : k ≤ 1048576) :
    Calls Tryd.prog 22 #[.slice (some ⟨g, 0, none⟩) n cap, .int .i64 (k : Int)] W fun e w' => e = .returned (.int .i64 ((k + n : Nat) : Int)) ∧ W.grownBy w' (some g) ∧ ∀ i, i < n → w'.cell? ⟨g, i, none⟩ = some (.int .i64 ((k + i : Nat) : Int)) := by
  have HS : Hid (W.grownBy W (some g) ∧ SR g n W ∧ ∀ i, i < 0 → W.cell? ⟨g, i, none⟩ = some (.int .i64 ((k + i : Nat) : Int))) := ⟨⟨rfl, rfl, rfl, Nat.le_refl _, fun _ _ _ => rfl⟩, h, fun i hi => by omega⟩
  clear h
  go_enter Tryd.func22, Tryd.ntmps22
  go_wp2_with fail
  go_loopw [1, 5] (fun m i wr => ∃ j : Nat, j ≤ n ∧ m = .int .i64 ((k + j : Nat) : Int) ∧ i = .int .i64 (j : Int) ∧ Hid (W.grownBy wr (some g) ∧ SR g n wr ∧ ∀ i, i < j → wr.cell? ⟨g, i, none⟩ = some (.int .i64 ((k + i : Nat) : Int)))) (fun _ i _ => n - (intOf i).toNat)
  case atStart => exact ⟨0, by omega, rfl, rfl, HS⟩
  case round =>
    obtain ⟨j, hj, rfl, rfl, HR⟩ := hrel
    by_cases hlt : j < n
    · obtain ⟨r1, r2, r3⟩ := HR.out
      obtain ⟨u0, c0⟩ := Option.isSome_iff_exists.1 (r2.2 j hlt).1
      have f0 := (r2.2 j hlt).2
      obtain ⟨m, hm⟩ : ∃ m, m = k + j := ⟨_, rfl⟩
      have HM : Hid (m = k + j) := hm
      have HN : Hid (W.grownBy (wr.setCell ⟨g, j, none⟩ (.int .i64 (m : Int))) (some g) ∧ SR g n (wr.setCell ⟨g, j, none⟩ (.int .i64 (m : Int))) ∧ ∀ i, i < j + 1 → (wr.setCell ⟨g, j, none⟩ (.int .i64 (m : Int))).cell? ⟨g, i, none⟩ = some (.int .i64 ((k + i : Nat) : Int))) := by
        refine ⟨grown_trans r1 (grown_set _ _ _ _), r2.set j _, fun i hi => ?_⟩
        by_cases e : j = i
        · subst e; rw [set_same (by rw [c0]; rfl), hm]
        · rw [set_off e]; exact r3 i (by omega)
      rw [← hm]
      have hmI : (m : Int) ≤ 1099511627776 := by omega
      have hm0 : 0 ≤ (m : Int) := by omega
      have a1 : IntKind.i64.wrap ((m : Int) + 1) = (m : Int) + 1 := IntWalk.i64_in _ (by omega)
      have b1 : IntKind.i64.wrap ((j : Int) + 1) = (j : Int) + 1 := IntWalk.i64_in _ (by omega)
      have hj0 : (0 : Int) ≤ (j : Int) := by omega
      have hjI : (j : Int) < (n : Int) := by omega
      clear HR HS r1 r2 r3 hm
      go_wp2_with fail
      exact ⟨⟨j + 1, by omega, congrArg (Value.int IntKind.i64) (by have := HM.out; omega), rfl, HN.out⟩, by simp only [intOf]; omega⟩
    · have hkk : j = n := by omega
      subst hkk
      clear HS
      go_wp2_with fail
      go_ret
      exact ⟨rfl, HR.out.1, HR.out.2.2⟩
set_option maxRecDepth 20000 in
set_option maxHeartbeats 1000000 in
theorem marki_nil (W : World) (oa : Option Addr) (cap k : Nat) :
    Calls Tryd.prog 22 #[.slice oa 0 cap, .int .i64 (k : Int)] W fun e w' => e = .returned (.int .i64 (k : Int)) ∧ w' = W := by
  go_enter Tryd.func22, Tryd.ntmps22
  go_wp2
  go_loopw [1, 5] (fun m i wr => m = .int .i64 (k : Int) ∧ i = .int .i64 0 ∧ wr = W) (fun _ _ _ => 0)
  case atStart => exact ⟨rfl, rfl, rfl⟩
  case round =>
    obtain ⟨rfl, rfl, rfl⟩ := hrel
    go_wp2
    go_ret
    exact ⟨rfl, rfl⟩
theorem markGI (W : World) (u : Value) (X : List Int) (base k : Nat) (h : W.ownsRow base 3 1 u X.length (ics X)) (hl : X.length ≤ 1048576) (hk : k ≤ 1048576) :
    Calls Tryd.prog 22 #[u, .int .i64 (k : Int)] W fun e w' => ∃ r : Nat, e = .returned (.int .i64 (r : Int)) ∧ Below base W w' ∧ HeldI w' u X.length k r := by
  rcases id h.2 with ⟨rfl, h0⟩ | ⟨g, cap, cur, rfl, _⟩
  · rw [h0]
    refine (marki_nil W none 0 k).mono ?_
    rintro e w' ⟨rfl, rfl⟩
    exact ⟨k, rfl, Below.refl _ _, rfl, .inl ⟨rfl, _, _, rfl⟩⟩
  · obtain ⟨g1, g2⟩ := h.lt g rfl
    refine (marki_is W g X.length cap k ⟨g2, fun i hi => ⟨?_, h.frozenAt i⟩⟩ hl hk).mono ?_
    · rw [h.cellAt i (by omega), List.getElem?_eq_getElem (by rw [ics_len]; omega)]
      rfl
    · rintro e w' ⟨rfl, hg, hd⟩
      exact ⟨_, rfl, (Below.refl base W).grown hg (by omega) (fun k e => by injection e with e; omega), rfl, .inr ⟨g, cap, rfl, Nat.lt_of_lt_of_le g2 hg.size, hd⟩⟩
set_option maxRecDepth 20000 in
set_option maxHeartbeats 1000000 in
theorem heldI (W : World) (u : Value) (n k r : Nat) (h : HeldI W u n k r) (hn : n ≤ 1048576) (hk : k ≤ 1048576) :
    Calls Tryd.prog 23 #[u, .int .i64 (k : Int)] W fun e w' => e = .returned (.int .i64 (r : Int)) ∧ W = w' := by
  obtain ⟨rfl, ⟨rfl, oa, cap, rfl⟩ | ⟨g, cap, rfl, hg, hd⟩⟩ := h
  · go_enter Tryd.func23, Tryd.ntmps23
    go_wp2
    go_loopw [1, 5] (fun m i wr => m = .int .i64 (k : Int) ∧ i = .int .i64 0 ∧ W = wr) (fun _ _ _ => 0)
    case atStart => exact ⟨rfl, rfl, rfl⟩
    case round =>
      obtain ⟨rfl, rfl, rfl⟩ := hrel
      go_wp2
      go_ret
      exact ⟨rfl, rfl⟩
  · have HS : Hid (∀ i, i < n → W.cell? ⟨g, i, none⟩ = some (.int .i64 ((k + i : Nat) : Int))) := hd
    clear hd
    go_enter Tryd.func23, Tryd.ntmps23
    go_wp2_with fail
    go_loopw [1, 5] (fun m i wr => ∃ j : Nat, j ≤ n ∧ m = .int .i64 ((k + j : Nat) : Int) ∧ i = .int .i64 (j : Int) ∧ wr = W) (fun _ i _ => n - (intOf i).toNat)
    case atStart => exact ⟨0, by omega, rfl, rfl, rfl⟩
    case round =>
      obtain ⟨j, hj, rfl, rfl, rfl⟩ := hrel
      by_cases hlt : j < n
      · have c0 := HS.out j hlt
        obtain ⟨m, hm⟩ : ∃ m, m = k + j := ⟨_, rfl⟩
        have HM : Hid (m = k + j) := hm
        rw [← hm] at c0 ⊢
        have hmI : (m : Int) ≤ 1099511627776 := by omega
        have hm0 : 0 ≤ (m : Int) := by omega
        have a1 : IntKind.i64.wrap ((m : Int) + 1) = (m : Int) + 1 := IntWalk.i64_in _ (by omega)
        have b1 : IntKind.i64.wrap ((j : Int) + 1) = (j : Int) + 1 := IntWalk.i64_in _ (by omega)
        have hj0 : (0 : Int) ≤ (j : Int) := by omega
        have hjI : (j : Int) < (n : Int) := by omega
        clear HS hm
        go_wp2_with fail
        exact ⟨⟨j + 1, by omega, congrArg (Value.int IntKind.i64) (by have := HM.out; omega), rfl, by first | rfl | trivial⟩, by simp only [intOf]; omega⟩
      · have hkk : j = n := by omega
        subst hkk
        clear HS
        go_wp2_with fail
        go_ret
        exact ⟨rfl, rfl⟩
end Go.Proofs.YtdpbgcilkidbaaaDoor
