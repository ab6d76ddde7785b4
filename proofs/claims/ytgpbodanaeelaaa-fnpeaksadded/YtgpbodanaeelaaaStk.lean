/-
  A stack of digests: made, popped.
-/
import Derived.Test.YtgpbodanaeelaaaDgs
import Derived.Laws.AppendOwn
import Derived.WalkSmall
namespace Go.Proofs.Ytgpbodanaeelaaa
open Go.RowKit

/-- The cells of digests. -/
def qc (q : Qd) : List Value := [Value.int IntKind.u64 ((q.a).toNat : Int), Value.int IntKind.u64 ((q.b).toNat : Int), Value.int IntKind.u64 ((q.c).toNat : Int), Value.int IntKind.u64 ((q.d).toNat : Int)]
def qcs : List Qd → List Value
  | [] => []
  | q :: r => qc q ++ qcs r
theorem qcs_append : ∀ a b : List Qd, qcs (a ++ b) = qcs a ++ qcs b
  | [], b => rfl
  | q :: a, b => by simp [qcs, qcs_append a b]
theorem qcs_len : ∀ a : List Qd, (qcs a).length = a.length * 4
  | [] => rfl
  | q :: a => by simp only [qcs, List.length_append, qcs_len a, qc, List.length_cons, List.length_nil]; omega
theorem qcs_get : ∀ (L : List Qd) (i t : Nat) (h : i < L.length), t < 4 → (qcs L)[i * 4 + t]? = (qc L[i])[t]?
  | [], _, _, h, _ => by simp at h
  | q :: L, 0, t, _, ht => by
    simp only [qcs, Nat.zero_mul, Nat.zero_add, List.getElem_cons_zero]
    rw [List.getElem?_append_left (by simp [qc]; omega)]
  | q :: L, i + 1, t, h, ht => by
    simp only [qcs, List.getElem_cons_succ]
    rw [List.getElem?_append_right (by simp [qc]; omega)]
    have e : (i + 1) * 4 + t - (qc q).length = i * 4 + t := by simp only [qc, List.length_cons, List.length_nil]; omega
    rw [e]
    exact qcs_get L i t (by simpa using h) ht
theorem qcs_one {u : Value} : ∀ {L : List Qd}, u ∈ qcs L → u.oneCell' = true
  | [], h => by simp [qcs] at h
  | q :: L, h => by
    rcases List.mem_append.1 h with h | h
    · simp only [qc, List.mem_cons, List.not_mem_nil, or_false] at h
      rcases h with rfl | rfl | rfl | rfl <;> rfl
    · exact qcs_one h
/-- A slice that the call owns holds its digests. -/
theorem own_dat {W : World} {base g cap : Nat} {L : List Qd} (h : W.ownsRow base 31 4 (.slice (some ⟨g, 0, none⟩) L.length cap) L.length (qcs L)) (i : Nat) (hi : i < L.length) : DAt W ⟨g, i * 4, none⟩ L[i] := by
  have hc : ∀ t, t < 4 → ∀ u, (qc L[i])[t]? = some u → W.cell? ⟨g, i * 4 + t, none⟩ = some u := fun t ht u hu => by
    have := h.cells (g := g) rfl (i * 4 + t) u (by rw [qcs_get L i t hi ht]; exact hu)
    rwa [Addr.add_mid, Nat.zero_add] at this
  exact ⟨hc 0 (by omega) _ rfl, hc 1 (by omega) _ rfl, hc 2 (by omega) _ rfl, hc 3 (by omega) _ rfl⟩
theorem own_cap {W : World} {base g cap n : Nat} {xs : List Value} (h : W.ownsRow base 31 4 (.slice (some ⟨g, 0, none⟩) n cap) n xs) : n ≤ cap ∧ cap ≤ maxLen := by
  rcases h.2 with ⟨h0, _⟩ | ⟨g', cap', cur, hv, _, _, hn, hm, _⟩
  · cases h0
  · cases hv; exact ⟨hn, hm⟩
theorem own_slice {W : World} {base n : Nat} {v : Value} {xs : List Value} (h : W.ownsRow base 31 4 v n xs) (hn : 0 < n) : ∃ g cap, v = .slice (some ⟨g, 0, none⟩) n cap := by
  rcases h.2 with ⟨_, h0⟩ | ⟨g, cap, cur, hv, _⟩
  · omega
  · exact ⟨g, cap, hv⟩
theorem own_len {W : World} {base n : Nat} {v : Value} {xs : List Value} (h : W.ownsRow base 31 4 v n xs) : ∃ a cap, v = .slice a n cap := by
  rcases h.2 with ⟨hv, h0⟩ | ⟨g, cap, cur, hv, _⟩
  · exact ⟨none, 0, by rw [hv, h0]⟩
  · exact ⟨_, cap, hv⟩
theorem own_dgs {W : World} {base : Nat} {v : Value} {L : List Qd} (h : W.ownsRow base 31 4 v L.length (qcs L)) : Dgs W v L := by
  have h' := h
  rcases h.2 with ⟨rfl, h0⟩ | ⟨g, cap, cur, rfl, _, hh, hn, hm, _⟩
  · exact .inl ⟨rfl, List.length_eq_zero_iff.1 h0⟩
  · refine .inr ⟨⟨g, 0, none⟩, cap, rfl, hn, hm, fun _ => (Array.getElem?_eq_some_iff.1 hh).1, fun i hi => ?_⟩
    rw [Addr.add_mid, Nat.zero_add]
    exact own_dat h' i hi

/-- The block Bs is a stack of the digests L; what it has lies from the block base on, and in no block of av. -/
def Stk (base Bs : Nat) (av : Nat → Prop) (L : List Qd) (W : World) : Prop :=
  base ≤ Bs ∧ Bs < W.heap.size ∧ W.frozen? ⟨Bs, 0, none⟩ = false ∧ ∃ v, W.cell? ⟨Bs, 0, none⟩ = some v ∧ (∀ k, v.ownBlock = some k → k ≠ Bs ∧ ¬ av k) ∧ W.ownsRow base 31 4 v L.length (qcs L)
theorem Stk.grown {base Bs : Nat} {av : Nat → Prop} {L : List Qd} {W W' : World} (h : Stk base Bs av L W) (hb : Below W.heap.size W W') : Stk base Bs av L W' := by
  obtain ⟨h0, h1, h2, v, h3, h4, h5⟩ := h
  refine ⟨h0, Nat.lt_of_lt_of_le h1 hb.size, (hb.frozen (p := ⟨Bs, 0, none⟩) h1).trans h2, v, (hb.cell (p := ⟨Bs, 0, none⟩) h1).trans h3, h4, ?_⟩
  refine h5.kept (w' := W') (row := none) ⟨hb.os, hb.tape, hb.output, hb.size, fun k hk _ => hb.block k hk⟩ ?_
  cases hv : v.ownBlock with
  | none => exact .inl rfl
  | some k => exact .inr (by simp)

theorem grown_set (W : World) (B o : Nat) (v : Value) : W.grownBy (W.setCell ⟨B, o, none⟩ v) (some B) :=
  ⟨rfl, rfl, rfl, by simp only [World.size_setCell]; exact Nat.le_refl _, fun k _ hne => Below.heap_setCell _ _ _ _ (fun e => hne (by rw [e]))⟩
theorem grown_below {W W1 W2 : World} {row : Option Nat} (h : W.grownBy W1 row) (hb : Below W1.heap.size W1 W2) : W.grownBy W2 row :=
  ⟨hb.os.trans h.os, hb.tape.trans h.tape, hb.output.trans h.output, Nat.le_trans h.size hb.size, fun k hk hne => (hb.block k (Nat.lt_of_lt_of_le hk h.size)).trans (h.block k hk hne)⟩

theorem Stk.set {base Bs : Nat} {av : Nat → Prop} {L : List Qd} {W : World} (h : Stk base Bs av L W) (X o : Nat) (x : Value) (hX : X ≠ Bs) (ha : av X) : Stk base Bs av L (W.setCell ⟨X, o, none⟩ x) := by
  obtain ⟨h0, h1, h2, v, h3, h4, h5⟩ := h
  refine ⟨h0, by simp only [World.size_setCell]; exact h1, by rw [World.frozen?_setCell]; exact h2, v, c_set h3 hX, h4, h5.kept (grown_set W X o x) (.inr (fun e => (h4 X e).2 ha))⟩
set_option maxRecDepth 20000 in
set_option maxHeartbeats 1000000 in
theorem pop_none (base Bs : Nat) (av : Nat → Prop) (W : World) (h : Stk base Bs av [] W) :
    Calls Try.prog 33 #[.pointer (some ⟨Bs, 0, none⟩)] W fun e w' => e = .returned (.tuple #[.agg #[.int .u64 (((⟨0, 0, 0, 0⟩ : Qd)).a.toNat : Int), .int .u64 (((⟨0, 0, 0, 0⟩ : Qd)).b.toNat : Int), .int .u64 (((⟨0, 0, 0, 0⟩ : Qd)).c.toNat : Int), .int .u64 (((⟨0, 0, 0, 0⟩ : Qd)).d.toNat : Int)], .bool false]) ∧ Below W.heap.size W w' := by
  obtain ⟨h0, h1, h2, v, h3, h4, h5⟩ := h
  obtain ⟨a, cap, rfl⟩ := own_len h5
  clear h5 h4
  simp only [List.length_nil] at h3
  go_enter Try.func33, Try.ntmps33
  go_wp2
  exact bodyPost_ret (v := .tuple #[.agg #[.int .u64 0, .int .u64 0, .int .u64 0, .int .u64 0], .bool false]) (by simp [results, Try.results33, go_sem]) rfl ⟨rfl, (by repeat' (first | (with_reducible exact Below.refl _ _) | (with_reducible assumption) | (with_reducible refine below_drewN ?_ _) | (with_reducible refine Below.setCell ?_ ?_ _) | (with_reducible refine Below.alloc ?_ ?_ _) | (with_reducible refine Below.drew ?_) | go_size))⟩
set_option maxRecDepth 20000 in
set_option maxHeartbeats 1000000 in
theorem pop_one (base Bs : Nat) (av : Nat → Prop) (L : List Qd) (q : Qd) (W : World) (h : Stk base Bs av (L ++ [q]) W) :
    Calls Try.prog 33 #[.pointer (some ⟨Bs, 0, none⟩)] W fun e w' => e = .returned (.tuple #[.agg #[.int .u64 ((q).a.toNat : Int), .int .u64 ((q).b.toNat : Int), .int .u64 ((q).c.toNat : Int), .int .u64 ((q).d.toNat : Int)], .bool true]) ∧ Stk base Bs av L w' ∧ W.grownBy w' (some Bs) := by
  obtain ⟨h0, h1, h2, v, h3, h4, h5⟩ := h
  obtain ⟨g, cap, rfl⟩ := own_slice h5 (by simp)
  have hcap := own_cap h5
  have hd := own_dat h5 L.length (by simp)
  simp only [List.length_append, List.length_cons, List.length_nil, Nat.zero_add, List.getElem_concat_length] at h3 h5 hcap hd
  rw [qcs_append] at h5
  have hg : g ≠ Bs := (h4 g rfl).1
  have hav : ¬ av g := (h4 g rfl).2
  have h6 := ownsRow_pop (qcs_len L) h5
  have H6 : Hid (W.ownsRow base 31 4 (.slice (some ⟨g, 0, none⟩) L.length cap) L.length (qcs L)) := h6
  have hgl : g < W.heap.size := (h6.lt g rfl).2
  clear h5 h4 h6
  obtain ⟨d0, d1, d2, d3⟩ := hd
  obtain ⟨n, hn⟩ : ∃ n, n = L.length := ⟨_, rfl⟩
  rw [← hn] at h3 H6 hcap d0 d1 d2 d3
  have HN : Hid (n = L.length) := hn
  clear hn
  have hnl : n < 9223372036854775807 := by have := hcap; unfold maxLen at this; omega
  have hnc : n ≤ cap := by omega
  have hnc2 : n < cap := by omega
  clear hcap
  go_enter Try.func33, Try.ntmps33
  go_wp2
  have hn := HN.out
  subst hn
  have hg1 : W.grownBy (W.setCell ⟨Bs, 0, none⟩ (.slice (some ⟨g, 0, none⟩) L.length cap)) (some Bs) := grown_set W Bs 0 _
  have hs1 : Stk base Bs av L (W.setCell ⟨Bs, 0, none⟩ (.slice (some ⟨g, 0, none⟩) L.length cap)) :=
    ⟨h0, by simp only [World.size_setCell]; exact h1, by rw [World.frozen?_setCell]; exact h2, _, set_same (by rw [h3]; rfl), fun k e => (by injection e with e; subst e; exact ⟨hg, hav⟩), H6.out.kept hg1 (.inr (fun e => hg (by injection e)))⟩
  have hb2 : Below (W.setCell ⟨Bs, 0, none⟩ (.slice (some ⟨g, 0, none⟩) L.length cap)).heap.size (W.setCell ⟨Bs, 0, none⟩ (.slice (some ⟨g, 0, none⟩) L.length cap)) (((W.setCell ⟨Bs, 0, none⟩ (.slice (some ⟨g, 0, none⟩) L.length cap)).alloc (.cells #[Value.int IntKind.u64 ((q).a.toNat : Int), Value.int IntKind.u64 ((q).b.toNat : Int), Value.int IntKind.u64 ((q).c.toNat : Int), Value.int IntKind.u64 ((q).d.toNat : Int)] 31)).alloc (.cells #[Value.int IntKind.u64 ((q).a.toNat : Int), Value.int IntKind.u64 ((q).b.toNat : Int), Value.int IntKind.u64 ((q).c.toNat : Int), Value.int IntKind.u64 ((q).d.toNat : Int)] 31)) :=
    ((Below.refl _ _).alloc (Nat.le_refl _) _).alloc (by simp) _
  exact bodyPost_ret (v := .tuple #[.agg #[.int .u64 ((q).a.toNat : Int), .int .u64 ((q).b.toNat : Int), .int .u64 ((q).c.toNat : Int), .int .u64 ((q).d.toNat : Int)], .bool true]) (by simp [results, Try.results33, go_sem]) rfl ⟨rfl, hs1.grown hb2, grown_below hg1 hb2⟩

set_option maxRecDepth 20000 in
set_option maxHeartbeats 1000000 in
/-- A stack of its own is made of a list. -/
theorem stackOf_is (W : World) (v : Value) (L : List Qd) (h : Dgs W v L) (hl : L.length ≤ 1048576) :
    Calls Try.prog 32 #[v] W fun e w' => ∃ u, e = .returned (.agg #[u]) ∧ w'.ownsRow (W.heap.size + 1) 31 4 u L.length (qcs L) ∧ Below W.heap.size W w' := by
  obtain ⟨i0, hi, hz0, hz1, hz2⟩ := info_parts infoD
  rcases h with ⟨rfl, rfl⟩ | ⟨a, cap, rfl, hlc, hm, hbl, hc⟩
  · go_enter Try.func32, Try.ntmps32
    go_wp2
    exact bodyPost_ret (v := .agg #[.slice none 0 0]) (by simp [results, Try.results32, go_sem]) rfl ⟨_, rfl, World.ownsRow_nil _ _ _ _, (Below.refl _ _).alloc (Nat.le_refl _) _⟩
  · have hcells : ∀ j u, (qcs L)[j]? = some u → (W.alloc (.cells #[.slice none 0 0] 46)).cell? (a.add j) = some u := by
      intro j u hu
      have hj : j < L.length * 4 := by rw [← qcs_len]; exact (List.getElem?_eq_some_iff.1 hu).1
      obtain ⟨i, t, rfl, ht, hi⟩ : ∃ i t, j = i * 4 + t ∧ t < 4 ∧ i < L.length := ⟨j / 4, j % 4, by omega, by omega, by omega⟩
      rw [qcs_get L i t hi ht] at hu
      obtain ⟨d0, d1, d2, d3⟩ := hc i hi
      have ha : ∀ t, (a.add (i * 4)).add t = a.add (i * 4 + t) := fun t => Addr.add_add a (i * 4) t
      rcases (by omega : t = 0 ∨ t = 1 ∨ t = 2 ∨ t = 3) with rfl | rfl | rfl | rfl
      · simp only [qc, List.getElem?_cons_zero, Option.some.injEq] at hu
        subst hu
        exact c_alloc d0
      · simp only [qc, List.getElem?_cons_succ, List.getElem?_cons_zero, Option.some.injEq] at hu
        subst hu
        rw [← ha]
        exact c_alloc d1
      · simp only [qc, List.getElem?_cons_succ, List.getElem?_cons_zero, Option.some.injEq] at hu
        subst hu
        rw [← ha]
        exact c_alloc d2
      · simp only [qc, List.getElem?_cons_succ, List.getElem?_cons_zero, Option.some.injEq] at hu
        subst hu
        rw [← ha]
        exact c_alloc d3
    have HC : Hid (∀ j u, (qcs L)[j]? = some u → (W.alloc (.cells #[.slice none 0 0] 46)).cell? (a.add j) = some u) := hcells
    clear hcells hc
    go_enter Try.func32, Try.ntmps32
    go_wp2_with (at_builtin; refine wpList_append_own _ rfl _ _ 25 rfl (W.heap.size + 1) 31 i0 _ 4 32 Try.underlying25 hi hz0 hz1 hz2 rfl (by decide) (.slice none 0 0) 0 [] rfl (World.ownsRow_nil _ _ _ _) a L.length cap (qcs L) rfl (qcs_len L) HC.out (fun u hu => qcs_one hu) (by unfold maxLen at *; omega) (by omega) (by simp) ?_; intro v' w1 hown hgr hnil; obtain ⟨oa, cp, rfl⟩ := own_len hown; rw [Nat.zero_add, List.nil_append] at hown; have hn0 : (some W.heap.size : Option Nat) ≠ (Value.slice none 0 0).ownBlock := (by simp [Value.ownBlock]); have hcw : (W.alloc (.cells #[.slice none 0 0] 46)).cell? ⟨W.heap.size, 0, none⟩ = some (.slice none 0 0) := (by simp [go_sem]); have hfw : (W.alloc (.cells #[.slice none 0 0] 46)).frozen? ⟨W.heap.size, 0, none⟩ = false := (by simp [go_sem]); have cc := hgr.cell hcw hn0; have ff : w1.frozen? ⟨W.heap.size, 0, none⟩ = false := (World.frozen?_of_block (a := ⟨W.heap.size, 0, none⟩) (hgr.block W.heap.size (by simp) hn0)).trans hfw)
    have hB1 : Below W.heap.size W w1 := ((Below.refl _ W).alloc (Nat.le_refl _) _).grown hgr (by simp) (fun k e => by cases e)
    have hne : ∀ k, (Value.slice oa L.length cp).ownBlock = some k → W.heap.size + 1 ≤ k := fun k e => (hown.lt k e).1
    refine bodyPost_ret (v := .agg #[.slice oa L.length cp]) (by simp [results, Try.results32, go_sem, cc]) rfl ⟨_, rfl, hown.kept (grown_set w1 W.heap.size 0 _) (.inr (fun e => by have := hne _ e; omega)), hB1.setCell (p := ⟨W.heap.size, 0, none⟩) (Nat.le_refl _) _⟩
theorem own_base {W : World} {base base' n : Nat} {v : Value} {xs : List Value} (h : W.ownsRow base 31 4 v n xs) (hb : base' ≤ base) : W.ownsRow base' 31 4 v n xs := by
  refine ⟨h.1, ?_⟩
  rcases h.2 with h0 | ⟨g, cap, cur, hv, hg, r⟩
  · exact .inl h0
  · exact .inr ⟨g, cap, cur, hv, Nat.le_trans hb hg, r⟩
/-- A stack in a new block. -/
theorem Stk.new {W : World} {base base' : Nat} {u : Value} {L : List Qd} (t : TypeId) (h : W.ownsRow base' 31 4 u L.length (qcs L)) (hb : base ≤ base') (hW : base ≤ W.heap.size) :
    Stk base W.heap.size (fun k => W.heap.size ≤ k) L (W.alloc (.cells #[u] t)) := by
  refine ⟨hW, by simp, by simp [go_sem], u, by simp [go_sem], fun k e => ?_, (own_base h hb).alloc _⟩
  have := (h.lt k e).2
  exact ⟨by omega, by omega⟩
/-- The last digest, or noughts. -/
def lastD : List Qd → Qd
  | [] => ⟨0, 0, 0, 0⟩
  | [q] => q
  | _ :: q :: r => lastD (q :: r)
theorem lastD_snoc : ∀ (L : List Qd) (q : Qd), lastD (L ++ [q]) = q
  | [], _ => rfl
  | [_], _ => rfl
  | _ :: b :: r, q => lastD_snoc (b :: r) q
theorem pop_is (base Bs : Nat) (av : Nat → Prop) (L : List Qd) (W : World) (h : Stk base Bs av L W) :
    Calls Try.prog 33 #[.pointer (some ⟨Bs, 0, none⟩)] W fun e w' => e = .returned (.tuple #[.agg #[.int .u64 ((lastD L).a.toNat : Int), .int .u64 ((lastD L).b.toNat : Int), .int .u64 ((lastD L).c.toNat : Int), .int .u64 ((lastD L).d.toNat : Int)], .bool (decide (0 < L.length))]) ∧ Stk base Bs av L.dropLast w' ∧ W.grownBy w' (some Bs) := by
  by_cases hL : L = []
  · subst hL
    refine (pop_none base Bs av W h).mono ?_
    rintro e w' ⟨rfl, hb⟩
    exact ⟨rfl, h.grown hb, ⟨hb.os, hb.tape, hb.output, hb.size, fun k hk _ => hb.block k hk⟩⟩
  · have e : L = L.dropLast ++ [L.getLast hL] := (List.dropLast_concat_getLast hL).symm
    have hl : lastD L = L.getLast hL := by have h1 := lastD_snoc L.dropLast (L.getLast hL); rwa [List.dropLast_concat_getLast] at h1
    have hp : decide (0 < L.length) = true := by simpa using List.length_pos_iff.2 hL
    rw [hl, hp]
    exact pop_one base Bs av _ _ W (by rw [← e]; exact h)
end Go.Proofs.Ytgpbodanaeelaaa
