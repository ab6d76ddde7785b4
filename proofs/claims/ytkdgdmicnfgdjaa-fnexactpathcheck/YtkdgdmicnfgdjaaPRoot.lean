/-
  PathRoot of the program, walked.
-/
import Derived.Test.YtkdgdmicnfgdjaaUp
namespace Go.Proofs.Ytkdgdmicnfgdjaa
open Go.RowKit Go.Shelf
attribute [local go_sem] Oper.semAt_some

/-- One node of the way up: what came out, and what is left of the path. -/
def stepR {n i : Nat} (s : Qd × List Qd) (x : Nd n i) : Qd × List Qd :=
  (if i < x.1.1 + sp (x.1.2 - x.1.1) then pairD s.1 (headD s.2) else pairD (headD s.2) s.1, s.2.tail)
def foldR {n i : Nat} (s : Qd × List Qd) (l : List (Nd n i)) : Qd × List Qd := l.foldl stepR s
theorem foldR_snoc {n i : Nat} (s : Qd × List Qd) (l : List (Nd n i)) (x : Nd n i) : foldR s (l ++ [x]) = stepR (foldR s l) x := by simp [foldR]
theorem foldR_cl (n i : Nat) : ∀ (f lo hi : Nat) (h1 : lo ≤ i) (h2 : i < hi) (h3 : hi ≤ n) (d : Qd) (P R : List Qd), hi - lo ≤ f + 1 → P.length = dp f (hi - lo) (i - lo) →
    foldR (d, P ++ R) (cl n i f lo hi h1 h2 h3) = (up f (hi - lo) (i - lo) d P, R) := by
  intro f
  induction f with
  | zero =>
    intro lo hi h1 h2 h3 d P R _ hP
    have : P = [] := List.length_eq_zero_iff.1 (by simpa [dp] using hP)
    subst this
    simp [cl, foldR, up]
  | succ f ih =>
    intro lo hi h1 h2 h3 d P R hf hP
    by_cases h : hi - lo < 2
    · have : P = [] := List.length_eq_zero_iff.1 (by rw [hP, dp, if_pos h])
      subst this
      simp [cl, h, foldR, up]
    have hs := sp_lt0 (n := hi - lo) (by omega)
    rw [dp, if_neg h] at hP
    obtain ⟨L, l, rfl⟩ : ∃ L l, P = L ++ [l] := by
      have hne : P ≠ [] := fun e => by rw [e] at hP; simp at hP; split at hP <;> omega
      exact ⟨P.dropLast, P.getLast hne, (List.dropLast_concat_getLast hne).symm⟩
    simp only [List.length_append, List.length_cons, List.length_nil] at hP
    have eu : up (f + 1) (hi - lo) (i - lo) d (L ++ [l]) = if i - lo < sp (hi - lo) then pairD (up f (sp (hi - lo)) (i - lo) d L) l else pairD l (up f (hi - lo - sp (hi - lo)) (i - lo - sp (hi - lo)) d L) := by rw [up, if_neg h]; simp [lastD_snoc]
    rw [eu]
    unfold cl
    rw [dif_neg h]
    by_cases hk : i < lo + sp (hi - lo)
    · have hk' : i - lo < sp (hi - lo) := by omega
      rw [if_pos hk'] at hP ⊢
      have := ih lo (lo + sp (hi - lo)) h1 hk (by omega) d L ([l] ++ R) (by omega) (by rw [show lo + sp (hi - lo) - lo = sp (hi - lo) by omega]; omega)
      rw [dif_pos hk, foldR_snoc, List.append_assoc, this]
      simp only [stepR, headD, List.cons_append, List.nil_append, List.tail_cons]
      rw [if_pos hk, show lo + sp (hi - lo) - lo = sp (hi - lo) by omega]
    · have hk' : ¬ i - lo < sp (hi - lo) := by omega
      rw [if_neg hk'] at hP ⊢
      have := ih (lo + sp (hi - lo)) hi (by omega) h2 h3 d L ([l] ++ R) (by omega) (by rw [show hi - (lo + sp (hi - lo)) = hi - lo - sp (hi - lo) by omega, show i - (lo + sp (hi - lo)) = i - lo - sp (hi - lo) by omega]; omega)
      rw [dif_neg hk, foldR_snoc, List.append_assoc, this]
      simp only [stepR, headD, List.cons_append, List.nil_append, List.tail_cons]
      rw [if_neg hk, show hi - (lo + sp (hi - lo)) = hi - lo - sp (hi - lo) by omega, show i - (lo + sp (hi - lo)) = i - lo - sp (hi - lo) by omega]

theorem cells_same {A B : World} {row : Option Nat} (hg : A.grownBy B row) (hr : ∀ r, row = some r → ∃ o : Obj, A.heap[r]? = some o ∧ o.isCells = false) {a : Addr} {v : Value} (h : A.cell? a = some v) : B.heap[a.block]? = A.heap[a.block]? := by
  obtain ⟨o, ho, hc⟩ := cells_of_cell h
  exact grownBy_keeps_cells hg hr ho hc
theorem Rt.own (B : Nat) {A C : World} {q : Qd} {row : Option Nat} (h : Rt B q A) (hg : A.grownBy C row) (hr : ∀ r, row = some r → ∃ o : Obj, A.heap[r]? = some o ∧ o.isCells = false) : Rt B q C := by
  obtain ⟨h0, ⟨h1, h2, h3, h4⟩, h5, h6, h7, h8⟩ := h
  exact ⟨Nat.lt_of_lt_of_le h0 hg.size, ⟨cell_kept h1 hg hr, cell_kept h2 hg hr, cell_kept h3 hg hr, cell_kept h4 hg hr⟩, (frozen_kept h1 hg hr).trans h5, (frozen_kept h2 hg hr).trans h6, (frozen_kept h3 hg hr).trans h7, (frozen_kept h4 hg hr).trans h8⟩
theorem Rdr.own {B : Nat} {A C : World} {M : List Qd} {row : Option Nat} (h : Rdr B M A) (hg : A.grownBy C row) (hr : ∀ r, row = some r → ∃ o : Obj, A.heap[r]? = some o ∧ o.isCells = false) : Rdr B M C := by
  obtain ⟨h0, h1, v, h2, h3⟩ := h
  refine ⟨Nat.lt_of_lt_of_le h0 hg.size, (frozen_kept h2 hg hr).trans h1, v, cell_kept h2 hg hr, ?_⟩
  rcases h3 with h3 | ⟨g, o, cap, hv, hl, hm, hgB, hgl, hc⟩
  · exact .inl h3
  · exact .inr ⟨g, o, cap, hv, hl, hm, hgB, Nat.lt_of_lt_of_le hgl hg.size, fun i hi => ⟨cell_kept (hc i hi).1 hg hr, cell_kept (hc i hi).2.1 hg hr, cell_kept (hc i hi).2.2.1 hg hr, cell_kept (hc i hi).2.2.2 hg hr⟩⟩
theorem Keep.grown {n₁ X : Nat} {A C : World} (h : A.grownBy C (some X)) (hX : X < n₁) : Keep n₁ A C :=
  ⟨h.size, fun k _ hk ho _ => (h.block k (Array.getElem?_eq_some_iff.1 ho).1 (fun e => by injection e with e; omega)).trans ho⟩
theorem Two.grown {B X : Nat} {x y : Int} {W W' : World} (h : Two B x y W) (hg : W.grownBy W' (some X)) (hX : X ≠ B) : Two B x y W' := by
  obtain ⟨h0, h1, h2, h3, h4⟩ := h
  have hb : W'.heap[B]? = W.heap[B]? := hg.block B h0 (fun e => hX (by injection e with e; exact e.symm))
  exact ⟨Nat.lt_of_lt_of_le h0 hg.size, (World.cell?_of_block (w := W) (a := ⟨B, 0, none⟩) hb).trans h1, (World.cell?_of_block (w := W) (a := ⟨B, 1, none⟩) hb).trans h2, (World.frozen?_of_block (w := W) (a := ⟨B, 0, none⟩) hb).trans h3, (World.frozen?_of_block (w := W) (a := ⟨B, 1, none⟩) hb).trans h4⟩
theorem DAt.grown {W W' : World} {p : Addr} {q : Qd} {X : Nat} (h : DAt W p q) (hg : W.grownBy W' (some X)) (hX : X ≠ p.block) (hp : p.block < W.heap.size) : DAt W' p q := by
  obtain ⟨h0, h1, h2, h3⟩ := h
  have hb : W'.heap[p.block]? = W.heap[p.block]? := hg.block _ hp (fun e => hX (by injection e with e; exact e.symm))
  exact ⟨(World.cell?_of_block (w := W) (a := p) hb).trans h0, (World.cell?_of_block (w := W) (a := ⟨p.block, _, none⟩) hb).trans h1, (World.cell?_of_block (w := W) (a := ⟨p.block, _, none⟩) hb).trans h2, (World.cell?_of_block (w := W) (a := ⟨p.block, _, none⟩) hb).trans h3⟩
end Go.Proofs.Ytkdgdmicnfgdjaa
