/-
  PeaksRoot of both, walked.
-/
import Derived.Test.YtgpbodanaeelaaaStk
import Derived.Test.YtgpbodanaeelaaaTree2
namespace Go.Proofs.Ytgpbodanaeelaaa
open Go.RowKit

/-- The block B holds the digest q, and may be written. -/
def Rt (B : Nat) (q : Qd) (W : World) : Prop := B < W.heap.size ∧ (W.cell? ⟨B, 0, none⟩ = some (Value.int IntKind.u64 ((q.a).toNat : Int)) ∧ W.cell? ⟨B, 1, none⟩ = some (Value.int IntKind.u64 ((q.b).toNat : Int)) ∧ W.cell? ⟨B, 2, none⟩ = some (Value.int IntKind.u64 ((q.c).toNat : Int)) ∧ W.cell? ⟨B, 3, none⟩ = some (Value.int IntKind.u64 ((q.d).toNat : Int))) ∧
  W.frozen? ⟨B, 0, none⟩ = false ∧ W.frozen? ⟨B, 1, none⟩ = false ∧ W.frozen? ⟨B, 2, none⟩ = false ∧ W.frozen? ⟨B, 3, none⟩ = false
theorem Rt.new (w : World) (q : Qd) (t : TypeId) : Rt w.heap.size q (w.alloc (.cells #[Value.int IntKind.u64 ((q).a.toNat : Int), Value.int IntKind.u64 ((q).b.toNat : Int), Value.int IntKind.u64 ((q).c.toNat : Int), Value.int IntKind.u64 ((q).d.toNat : Int)] t)) := by
  refine ⟨by simp, ⟨?_, ?_, ?_, ?_⟩, ?_, ?_, ?_, ?_⟩ <;> simp [go_sem]
theorem Rt.behind {B : Nat} {q : Qd} {W W' : World} (h : Rt B q W) (hb : Below W.heap.size W W') : Rt B q W' := by
  obtain ⟨h0, ⟨h1, h2, h3, h4⟩, h5, h6, h7, h8⟩ := h
  exact ⟨Nat.lt_of_lt_of_le h0 hb.size, ⟨(hb.cell (p := ⟨B, 0, none⟩) h0).trans h1, (hb.cell (p := ⟨B, 1, none⟩) h0).trans h2, (hb.cell (p := ⟨B, 2, none⟩) h0).trans h3, (hb.cell (p := ⟨B, 3, none⟩) h0).trans h4⟩,
    (hb.frozen (p := ⟨B, 0, none⟩) h0).trans h5, (hb.frozen (p := ⟨B, 1, none⟩) h0).trans h6, (hb.frozen (p := ⟨B, 2, none⟩) h0).trans h7, (hb.frozen (p := ⟨B, 3, none⟩) h0).trans h8⟩
theorem Rt.drew {B : Nat} {q : Qd} {W : World} (h : Rt B q W) : Rt B q W.drew := h
theorem Rt.alloc {B : Nat} {q : Qd} {W : World} (h : Rt B q W) (o : Obj) : Rt B q (W.alloc o) := h.behind ((Below.refl _ _).alloc (Nat.le_refl _) _)
theorem Rt.set {B : Nat} {q : Qd} {W : World} (h : Rt B q W) (X o : Nat) (x : Value) (hX : X ≠ B) : Rt B q (W.setCell ⟨X, o, none⟩ x) := by
  obtain ⟨h0, ⟨h1, h2, h3, h4⟩, h5, h6, h7, h8⟩ := h
  exact ⟨by simp only [World.size_setCell]; exact h0, ⟨c_set h1 hX, c_set h2 hX, c_set h3 hX, c_set h4 hX⟩, by rw [World.frozen?_setCell]; exact h5, by rw [World.frozen?_setCell]; exact h6, by rw [World.frozen?_setCell]; exact h7, by rw [World.frozen?_setCell]; exact h8⟩
theorem Rt.grown {B X : Nat} {q : Qd} {W W' : World} (h : Rt B q W) (hg : W.grownBy W' (some X)) (hX : X ≠ B) : Rt B q W' := by
  obtain ⟨h0, ⟨h1, h2, h3, h4⟩, h5, h6, h7, h8⟩ := h
  have hb : W'.heap[B]? = W.heap[B]? := hg.block B h0 (fun e => hX (by injection e with e; exact e.symm))
  exact ⟨Nat.lt_of_lt_of_le h0 hg.size, ⟨(World.cell?_of_block (w := W) (a := ⟨B, 0, none⟩) hb).trans h1, (World.cell?_of_block (w := W) (a := ⟨B, 1, none⟩) hb).trans h2, (World.cell?_of_block (w := W) (a := ⟨B, 2, none⟩) hb).trans h3, (World.cell?_of_block (w := W) (a := ⟨B, 3, none⟩) hb).trans h4⟩,
    (World.frozen?_of_block (w := W) (a := ⟨B, 0, none⟩) hb).trans h5, (World.frozen?_of_block (w := W) (a := ⟨B, 1, none⟩) hb).trans h6, (World.frozen?_of_block (w := W) (a := ⟨B, 2, none⟩) hb).trans h7, (World.frozen?_of_block (w := W) (a := ⟨B, 3, none⟩) hb).trans h8⟩
/-- A digest stored over another. -/
theorem Rt.put {B : Nat} {q : Qd} {W : World} (h : Rt B q W) (r : Qd) :
    Rt B r ((((W.setCell ⟨B, 0, none⟩ (Value.int IntKind.u64 ((r.a).toNat : Int))).setCell ⟨B, 1, none⟩ (Value.int IntKind.u64 ((r.b).toNat : Int))).setCell ⟨B, 2, none⟩ (Value.int IntKind.u64 ((r.c).toNat : Int))).setCell ⟨B, 3, none⟩ (Value.int IntKind.u64 ((r.d).toNat : Int))) := by
  obtain ⟨h0, ⟨h1, h2, h3, h4⟩, h5, h6, h7, h8⟩ := h
  have hc := four_set (w := W) (b := B) (x0 := Value.int IntKind.u64 ((r.a).toNat : Int)) (x1 := Value.int IntKind.u64 ((r.b).toNat : Int)) (x2 := Value.int IntKind.u64 ((r.c).toNat : Int)) (x3 := Value.int IntKind.u64 ((r.d).toNat : Int)) (fun i hi => by
    rcases (by omega : i = 0 ∨ i = 1 ∨ i = 2 ∨ i = 3) with rfl | rfl | rfl | rfl
    · rw [h1]; rfl
    · rw [h2]; rfl
    · rw [h3]; rfl
    · rw [h4]; rfl)
  exact ⟨by simp only [World.size_setCell]; exact h0, hc, by simp only [World.frozen?_setCell]; exact h5, by simp only [World.frozen?_setCell]; exact h6, by simp only [World.frozen?_setCell]; exact h7, by simp only [World.frozen?_setCell]; exact h8⟩

/-- The root that peaks make. -/
def pkN : List Qd → Qd
  | [] => dg ByteArray.empty
  | [q] => q
  | q :: r :: s => pairD q (pkN (r :: s))
def pkr (L : List Qd) : Qd := if 8 < L.length then ⟨0, 0, 0, 0⟩ else pkN L
theorem pkN_last (L : List Qd) (h : 0 < L.length) : pkN (L.drop (L.length - 1)) = L[L.length - 1] := by
  rw [List.drop_eq_getElem_cons (by omega), List.drop_eq_nil_of_le (by omega)]
  rfl
theorem pkN_step (L : List Qd) (k : Nat) (h : k + 1 < L.length) : pkN (L.drop k) = pairD L[k] (pkN (L.drop (k + 1))) := by
  rw [List.drop_eq_getElem_cons (by omega)]
  rw [List.drop_eq_getElem_cons h]
  rfl

end Go.Proofs.Ytgpbodanaeelaaa
