/-
  What an iterator tells, collected.
-/
import Derived.Test.YtegihccdpohnnaaLg0
namespace Go.Proofs.Ytegihccdpohnnaa
open Go.RowKit Go.Shelf
attribute [local go_sem] Oper.semAt_some

def scs (S : List ByteArray) : List Value := S.map Value.string
theorem scs_app (S : List ByteArray) (x : ByteArray) : scs (S ++ [x]) = scs S ++ [.string x] := by simp [scs]
theorem info9L : (Try.prog.info? 9).map (fun i => (i.zero, i.size, i.bytes)) = some (some (.string ByteArray.empty), 1, 16) := by kernel_rfl
/-- What stands between two rounds: the box B holds a slice that owns the texts that have come. -/
def ApL (B : Nat) (S : List ByteArray) (W : World) : Prop := ∃ u, W.cell? ⟨B, 0, none⟩ = some u ∧ W.frozen? ⟨B, 0, none⟩ = false ∧ W.ownsRow (B + 1) 9 1 u S.length (scs S)
theorem own_not {W W' : World} {base n : Nat} {u : Value} {xs : List Value} {row : Option Nat} (h : W.ownsRow base 9 1 u n xs) (hg : W.grownBy W' row) (hr : ∀ r, row = some r → ∃ o : Obj, W.heap[r]? = some o ∧ o.isCells = false) : W'.ownsRow base 9 1 u n xs := by
  refine h.kept hg ?_
  rcases h.2 with ⟨rfl, _⟩ | ⟨g, cap, cur, rfl, _, hgb, _⟩
  · exact .inl rfl
  · refine .inr fun e => ?_
    obtain ⟨o, ho, hc⟩ := hr g e.symm
    rw [hgb] at ho
    cases ho
    cases hc
theorem ApL.own (B : Nat) : Own (ApL B) := fun S W W' row h hg hr => by
  obtain ⟨u, h1, h2, h3⟩ := h
  exact ⟨u, cell_kept h1 hg hr, (frozen_kept h1 hg hr).trans h2, own_not h3 hg hr⟩
theorem ApL.grown {B : Nat} {S : List ByteArray} {W W' : World} (h : ApL B S W) (hb : Below W.heap.size W W') : ApL B S W' := by
  obtain ⟨u, h1, h2, h3⟩ := h
  have hB := World.block_lt_of_cell? _ _ h1
  exact ⟨u, (hb.cell (p := ⟨B, 0, none⟩) hB).trans h1, (hb.frozen (p := ⟨B, 0, none⟩) hB).trans h2, h3.kept (w' := W') (row := none) ⟨hb.os, hb.tape, hb.output, hb.size, fun k hk _ => hb.block k hk⟩ (by
    cases hv : u.ownBlock with
    | none => exact .inl rfl
    | some k => exact .inr (fun e => by cases e))⟩
theorem ows_len {W : World} {base n : Nat} {v : Value} {xs : List Value} (h : W.ownsRow base 9 1 v n xs) : ∃ a cap, v = .slice a n cap := by
  rcases h.2 with ⟨rfl, rfl⟩ | ⟨g, cap, cur, rfl, _⟩
  · exact ⟨none, 0, rfl⟩
  · exact ⟨_, cap, rfl⟩
theorem one_cell (W : World) (x : ByteArray) : ∀ j u, ([.string x] : List Value)[j]? = some u → (W.alloc (.cells #[.string x] 9)).cell? ((⟨W.heap.size, 0, none⟩ : Addr).add j) = some u := by
  intro j u hj
  match j, hj with
  | 0, hj => simp at hj; subst hj; simp [Addr.add, go_sem]
theorem one_ok (x : ByteArray) : ∀ u ∈ ([.string x] : List Value), u.oneCell' = true := by
  intro u hu; simp at hu; subst hu; rfl
theorem cell_al1 {W : World} {a : Addr} {v : Value} (o : Obj) (h : W.cell? a = some v) : (W.alloc o).cell? a = some v := cell_kept h (World.grownBy_alloc W o none) (fun r e => by cases e)
theorem frozen_al1 {W : World} {a : Addr} {v : Value} (o : Obj) (h : W.cell? a = some v) (hf : W.frozen? a = false) : (W.alloc o).frozen? a = false := (frozen_kept h (World.grownBy_alloc W o none) (fun r e => by cases e)).trans hf
set_option maxRecDepth 100000 in
set_option maxHeartbeats 4000000 in
theorem aps_is (S : List ByteArray) (v : Value) (hsz : ∀ s ∈ S, s.size ≤ 1048576) (hlen : S.length ≤ 1048576) (Bf Bl : Nat) (w : World) (hBf : Bf < w.heap.size) (hBl : Bl < w.heap.size)
    (c1 : w.cell? ⟨Bf, 0, none⟩ = some (.int .i64 0)) (c2 : w.cell? ⟨Bl, 0, none⟩ = some v) (hT : Txt w v S) :
    Calls Try.prog 22 #[.slice none 0 0, .func (.func 23) #[] #[.pointer (some ⟨Bf, 0, none⟩), .pointer (some ⟨Bl, 0, none⟩)]] w fun e w' =>
      ∃ u, e = .returned u ∧ w'.ownsRow (w.heap.size + 1) 9 1 u S.length (scs S) ∧ Below w.heap.size w w' := by
  have hv : ∀ a n c, v = .slice (some a) n c → 0 < n → a.block < w.heap.size := by
    rintro a n c rfl hn
    rcases hT with ⟨h, _⟩ | ⟨a', cap, h, _, _, hb, _⟩
    · cases h
    · injection h with e1 e2
      injection e1 with e1
      subst e1
      exact hb (by omega)
  have b0 : Below w.heap.size w (w.alloc (.cells #[.slice none 0 0] 22)) := (Below.refl _ _).alloc (Nat.le_refl _) _
  have hst := lv_stops S v hsz hlen 8 Bf Bl w.heap.size (w.alloc (.cells #[.slice none 0 0] 22)) (by simp) (by simp; omega) hBl ((b0.cell (p := ⟨Bf, 0, none⟩) hBf).trans c1) ((b0.cell (p := ⟨Bl, 0, none⟩) hBl).trans c2) (hT.call b0) hv
  have h0 : ApL w.heap.size [] (w.alloc (.cells #[.slice none 0 0] 22)) := by
    exact ⟨.slice none 0 0, by simp [go_sem], by simp [go_sem], World.ownsRow_nil _ _ _ _⟩
  have hs0 : (w.alloc (.cells #[.slice none 0 0] 22)).heap.size = w.heap.size + 1 := by simp
  clear hT c1 c2 hBf hBl hv
  refine (callsIn_wide (n := 9)).1 ?_
  refine callsIn_of_wp_marks Try.func22 rfl trivial ?_ rfl
  simp only [Try.ntmps22, List.size_toArray, List.length_cons, List.length_nil, Nat.reduceAdd, Nat.reduceSub, Array.replicate_succ, Array.replicate_zero, List.push_toArray, List.append_toArray, List.nil_append, List.cons_append]
  gi_wp2_with fail
  generalize w.alloc (.cells #[.slice none 0 0] 22) = W0 at b0 hst h0 hs0 ⊢
  generalize hsv : Value.func (Fn.func 23) #[] #[Value.pointer (some ⟨Bf, 0, none⟩), Value.pointer (some ⟨Bl, 0, none⟩)] = sv
  refine wpIn_rangeFunc_ownH rfl (by omega) (gf := 23) (lb := #[.pointer (some ⟨Bf, 0, none⟩), .pointer (some ⟨Bl, 0, none⟩)]) hsv.symm trivial (enters_of Try.func23 (by kernel_rfl) rfl)
    hst KpL.trans (fun W l o o' _ h hc _ => kpl_b W l o o' h hc) (Below.refl _ _) (fun _ => rfl)
    (fun pre W => ApL w.heap.size pre W ∧ Below w.heap.size w W)
    (fun _ _ _ => False)
    (OwnFrom.and (Own.from (ApL.own w.heap.size) _) (ownFrom_below (Nat.le_refl _) (by omega)))
    (fun _ _ _ _ _ hs _ _ => hs)
    ⟨h0, b0⟩
    (fun x a' W => a' = { tmps := #[.slice none 0 0, sv, .pointer (some ⟨w.heap.size, 0, none⟩), undef, .slice none 0 0, .string x, sv, .string x, undef, undef, undef, undef, undef], defers := [] })
    (fun x a' s A B row hs hg hr => hs)
    ?assign ?body ?done ?stop
  case assign =>
    rintro l pre x W K ⟨hA, hB⟩ hK
    gi_wp2
    exact hK _ _ (KeepsFrom.refl _ _) (KpL.refl _ _) ⟨hA, hB⟩ rfl
  case body =>
    rintro l pre x a' W hl ⟨r, hr⟩ ⟨hA, hB⟩ rfl hlt
    obtain ⟨u, h1, h2, h3⟩ := hA
    obtain ⟨i0, hi, hz0, hz1, hz2⟩ := info_parts info9L
    have hBW : w.heap.size < W.heap.size := World.block_lt_of_cell? _ _ h1
    have hne : some w.heap.size ≠ u.ownBlock := fun e => by have := (h3.lt _ e.symm).1; omega
    gi_wp2_with (gi_at_builtin; refine wpListIn_append_own _ rfl _ _ 22 rfl (w.heap.size + 1) 9 i0 (.string ByteArray.empty) 1 16 Try.underlying22 hi hz0 hz1 hz2 rfl (by decide) u pre.length (scs pre) rfl (h3.alloc _) ⟨W.heap.size, 0, none⟩ 1 1 [.string x] rfl rfl (one_cell W x) (one_ok x) (by unfold maxLen; omega) (by omega) (by simp; omega) ?_; intro v' w3 hown' hg3 hnil3; obtain ⟨o3, cp3, rfl⟩ := ows_len hown'; have k1 := (World.cell?_of_block (w := W.alloc (.cells #[.string x] 9)) (a := ⟨w.heap.size, 0, none⟩) (hg3.block w.heap.size (by simp; omega) hne)).trans (cell_al1 _ h1); have k2 := (World.frozen?_of_block (w := W.alloc (.cells #[.string x] 9)) (a := ⟨w.heap.size, 0, none⟩) (hg3.block w.heap.size (by simp; omega) hne)).trans (frozen_al1 _ h1 h2))
    have hlt3 : w.heap.size < w3.heap.size := by have := hg3.size; simp at this; omega
    have hown3 : ∀ j o, u.ownBlock = some j → (W.alloc (.cells #[.string x] 9)).heap[j]? = some o → o.isCells = true := by
      intro j o hj ho
      rcases (h3.alloc (.cells #[.string x] 9)).2 with ⟨rfl, _⟩ | ⟨g, cap, cur, rfl, _, hgb, _⟩
      · simp [Value.ownBlock] at hj
      · have e : g = j := by simpa [Value.ownBlock] using hj
        subst e
        rw [hgb] at ho
        cases ho
        rfl
    have hbase : ∀ j, u.ownBlock = some j → w.heap.size + 1 ≤ j := fun j e => (h3.lt j e).1
    have gs : w3.grownBy (w3.setCell ⟨w.heap.size, 0, none⟩ (.slice o3 (pre.length + 1) cp3)) (some w.heap.size) := ⟨rfl, rfl, rfl, by simp only [World.size_setCell]; exact Nat.le_refl _, fun k _ hne => Below.heap_setCell _ _ _ _ (fun e => hne (by rw [e]))⟩
    refine ⟨?_, ?_, ⟨.slice o3 (pre.length + 1) cp3, ?_, ?_, ?_⟩, ?_⟩
    · exact (((KeepsOthers.alloc W _).trans (KeepsOthers.of_grownBy hg3 hown3)).trans (KeepsOthers.setCell _ _ _)).from _
    · exact ((KpL.of_below ((Below.refl _ W).alloc (Nat.le_refl _) _)).trans (KpL.grown hg3 (fun r e => by have := hbase r e; omega))).trans (KpL.grown gs (fun r e => by injection e with e; omega))
    · exact set_same (by rw [k1]; rfl)
    · rw [World.frozen?_setCell]; exact k2
    · have := hown'.kept gs (by
        rcases hown'.2 with ⟨h0, _⟩ | ⟨g, cap, cur, h0, hg0, _⟩
        · rw [h0]; exact .inl rfl
        · rw [h0]
          refine .inr fun e => ?_
          have e' : g = w.heap.size := by simpa [Value.ownBlock] using e
          omega)
      rw [scs_app, List.length_append]
      exact this
    · exact ((hB.alloc hB.size _).grown hg3 (by have := hB.size; simp; omega) (fun k e => by have := hbase k e; omega)).setCell (p := ⟨w.heap.size, 0, none⟩) (Nat.le_refl _) _
  case done =>
    rintro D ys W hD' rfl ⟨hA, hB⟩ hK
    obtain ⟨u, h1, h2, h3⟩ := hA
    gi_wp2
    refine ⟨by simp, .inl ⟨_, _, rfl, run_takeDeferred hK, ?_⟩⟩
    refine ⟨u, by simp [results, Try.results22, go_sem], u, rfl, own_not h3 (grownBy_putObj' W D (.deferred none)) (fun r e => by cases e; exact ⟨_, hK, rfl⟩), hB.trans (belowK_b (w := w) (Nat.le_refl _) _ D _ _ (by omega) hK rfl rfl)⟩
  case stop =>
    rintro D c pre W _ _ h _
    exact h.elim
end Go.Proofs.Ytegihccdpohnnaa
