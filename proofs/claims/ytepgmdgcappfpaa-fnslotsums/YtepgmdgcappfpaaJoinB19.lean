/-
  Raw writes done to a disk, by the document.
-/
import Derived.Test.YtepgmdgcappfpaaPut
namespace Go.Proofs.Ytepgmdgcappfpaa
open Go.RowKit

/-- One raw write done to the slots of a disk. -/
def dput (d : Sl × Sl) (l : Rw) : Sl × Sl :=
  if l.f = 1 then (sput d.1 l.t l.s, d.2) else if l.f = 2 then (d.1, sput d.2 l.t l.s) else d
def dws (d : Sl × Sl) (L : List Rw) : Sl × Sl := L.foldl dput d
theorem dws_step (d : Sl × Sl) (L : List Rw) (k : Nat) (h : k < L.length) : dws d (L.take (k + 1)) = dput (dws d (L.take k)) L[k] := by
  unfold dws
  rw [List.take_succ_eq_append_getElem h, List.foldl_append]
  rfl
/-- The block B has a disk that may be written. -/
def DK (B : Nat) (d : Sl × Sl) (W : World) : Prop :=
  SB B d.1 W ∧ (W.cell? ⟨B, 7, none⟩ = some (.int .u64 ((d.2.m).toNat : Int)) ∧ W.cell? ⟨B, 8, none⟩ = some (.int .u64 ((d.2.q).toNat : Int)) ∧ W.cell? ⟨B, 9, none⟩ = some (.int .u64 ((d.2.z).toNat : Int)) ∧ W.cell? ⟨B, 10, none⟩ = some (.int .u64 ((d.2.r.a).toNat : Int)) ∧ W.cell? ⟨B, 11, none⟩ = some (.int .u64 ((d.2.r.b).toNat : Int)) ∧ W.cell? ⟨B, 12, none⟩ = some (.int .u64 ((d.2.r.c).toNat : Int)) ∧ W.cell? ⟨B, 13, none⟩ = some (.int .u64 ((d.2.r.d).toNat : Int))) ∧ ∀ i, i < 14 → W.frozen? ⟨B, i, none⟩ = false
theorem DK.call {B : Nat} {d : Sl × Sl} {W W' : World} (h : DK B d W) (hb : Below W.heap.size W W') : DK B d W' := by
  have hB := h.1.1
  obtain ⟨h0, ⟨h7, h8, h9, h10, h11, h12, h13⟩, hf⟩ := h
  exact ⟨h0.call hb, ⟨(hb.cell hB).trans h7, (hb.cell hB).trans h8, (hb.cell hB).trans h9, (hb.cell hB).trans h10, (hb.cell hB).trans h11, (hb.cell hB).trans h12, (hb.cell hB).trans h13⟩, fun i hi => (hb.frozen (p := ⟨B, i, none⟩) hB).trans (hf i hi)⟩
theorem DK.new (W : World) (d : Sl × Sl) (ty : TypeId) : DK W.heap.size d (W.alloc (.cells #[.int .u64 ((d.1).m.toNat : Int), .int .u64 ((d.1).q.toNat : Int), .int .u64 ((d.1).z.toNat : Int), .int .u64 ((d.1).r.a.toNat : Int), .int .u64 ((d.1).r.b.toNat : Int), .int .u64 ((d.1).r.c.toNat : Int), .int .u64 ((d.1).r.d.toNat : Int), .int .u64 ((d.2).m.toNat : Int), .int .u64 ((d.2).q.toNat : Int), .int .u64 ((d.2).z.toNat : Int), .int .u64 ((d.2).r.a.toNat : Int), .int .u64 ((d.2).r.b.toNat : Int), .int .u64 ((d.2).r.c.toNat : Int), .int .u64 ((d.2).r.d.toNat : Int)] ty)) := by
  refine ⟨⟨by simp, ?_, ?_, ?_, ?_, ?_, ?_, ?_⟩, ⟨?_, ?_, ?_, ?_, ?_, ?_, ?_⟩, fun i hi => ?_⟩ <;> simp [go_sem]
/-- Seven cells of a disk written, from the place o on (0 or 7). -/
theorem seven_at {W : World} {B o : Nat} {x0 x1 x2 x3 x4 x5 x6 : Value} (h : ∀ i, i < 7 → (W.cell? ⟨B, o + i, none⟩).isSome = true) :
    let V := ((((((W.setCell ⟨B, o, none⟩ x0).setCell ⟨B, o + 1, none⟩ x1).setCell ⟨B, o + 2, none⟩ x2).setCell ⟨B, o + 3, none⟩ x3).setCell ⟨B, o + 4, none⟩ x4).setCell ⟨B, o + 5, none⟩ x5).setCell ⟨B, o + 6, none⟩ x6
    (V.cell? ⟨B, o, none⟩ = some x0 ∧ V.cell? ⟨B, o + 1, none⟩ = some x1 ∧ V.cell? ⟨B, o + 2, none⟩ = some x2 ∧ V.cell? ⟨B, o + 3, none⟩ = some x3 ∧ V.cell? ⟨B, o + 4, none⟩ = some x4 ∧ V.cell? ⟨B, o + 5, none⟩ = some x5 ∧ V.cell? ⟨B, o + 6, none⟩ = some x6) ∧ ∀ j, (j < o ∨ o + 7 ≤ j) → V.cell? ⟨B, j, none⟩ = W.cell? ⟨B, j, none⟩ := by
  intro V
  have hs := fun i hi => Option.isSome_iff_exists.1 (h i hi)
  refine ⟨⟨?_, ?_, ?_, ?_, ?_, ?_, ?_⟩, fun j hj => ?_⟩
  · show World.cell? (World.setCell _ _ _) _ = _
    rw [set_off (by omega), set_off (by omega), set_off (by omega), set_off (by omega), set_off (by omega), set_off (by omega)]; exact set_same (h 0 (by omega))
  · show World.cell? (World.setCell _ _ _) _ = _
    rw [set_off (by omega), set_off (by omega), set_off (by omega), set_off (by omega), set_off (by omega)]; exact set_same (by rw [set_off (by omega)]; exact h 1 (by omega))
  · show World.cell? (World.setCell _ _ _) _ = _
    rw [set_off (by omega), set_off (by omega), set_off (by omega), set_off (by omega)]; exact set_same (by rw [set_off (by omega), set_off (by omega)]; exact h 2 (by omega))
  · show World.cell? (World.setCell _ _ _) _ = _
    rw [set_off (by omega), set_off (by omega), set_off (by omega)]; exact set_same (by rw [set_off (by omega), set_off (by omega), set_off (by omega)]; exact h 3 (by omega))
  · show World.cell? (World.setCell _ _ _) _ = _
    rw [set_off (by omega), set_off (by omega)]; exact set_same (by rw [set_off (by omega), set_off (by omega), set_off (by omega), set_off (by omega)]; exact h 4 (by omega))
  · show World.cell? (World.setCell _ _ _) _ = _
    rw [set_off (by omega)]; exact set_same (by rw [set_off (by omega), set_off (by omega), set_off (by omega), set_off (by omega), set_off (by omega)]; exact h 5 (by omega))
  · exact set_same (by rw [set_off (by omega), set_off (by omega), set_off (by omega), set_off (by omega), set_off (by omega), set_off (by omega)]; exact h 6 (by omega))
  · show World.cell? (World.setCell _ _ _) _ = _
    rw [set_off (by omega), set_off (by omega), set_off (by omega), set_off (by omega), set_off (by omega), set_off (by omega), set_off (by omega)]
end Go.Proofs.Ytepgmdgcappfpaa

/-
  DiskWrite of the document.
-/
namespace Go.Proofs.Ytepgmdgcappfpaa
open Go.RowKit

theorem DK.one {B : Nat} {d : Sl × Sl} {W : World} (h : DK B d W) (y : Sl) : DK B (y, d.2) (((((((W.setCell ⟨B, 0, none⟩ (.int .u64 ((y.m).toNat : Int))).setCell ⟨B, 1, none⟩ (.int .u64 ((y.q).toNat : Int))).setCell ⟨B, 2, none⟩ (.int .u64 ((y.z).toNat : Int))).setCell ⟨B, 3, none⟩ (.int .u64 ((y.r.a).toNat : Int))).setCell ⟨B, 4, none⟩ (.int .u64 ((y.r.b).toNat : Int))).setCell ⟨B, 5, none⟩ (.int .u64 ((y.r.c).toNat : Int))).setCell ⟨B, 6, none⟩ (.int .u64 ((y.r.d).toNat : Int))) := by
  obtain ⟨⟨hB, a0, a1, a2, a3, a4, a5, a6⟩, ⟨b0, b1, b2, b3, b4, b5, b6⟩, hf⟩ := h
  obtain ⟨⟨c0, c1, c2, c3, c4, c5, c6⟩, hj⟩ := seven_at (W := W) (B := B) (o := 0) (x0 := .int .u64 ((y.m).toNat : Int)) (x1 := .int .u64 ((y.q).toNat : Int)) (x2 := .int .u64 ((y.z).toNat : Int)) (x3 := .int .u64 ((y.r.a).toNat : Int)) (x4 := .int .u64 ((y.r.b).toNat : Int)) (x5 := .int .u64 ((y.r.c).toNat : Int)) (x6 := .int .u64 ((y.r.d).toNat : Int)) (fun i hi => by
    obtain rfl | rfl | rfl | rfl | rfl | rfl | rfl : i = 0 ∨ i = 1 ∨ i = 2 ∨ i = 3 ∨ i = 4 ∨ i = 5 ∨ i = 6 := by omega
    all_goals (simp only [Nat.zero_add]; first | (rw [a0]; rfl) | (rw [a1]; rfl) | (rw [a2]; rfl) | (rw [a3]; rfl) | (rw [a4]; rfl) | (rw [a5]; rfl) | (rw [a6]; rfl)))
  exact ⟨⟨by simp only [World.size_setCell]; exact hB, c0, c1, c2, c3, c4, c5, c6⟩, ⟨(hj 7 (by omega)).trans b0, (hj 8 (by omega)).trans b1, (hj 9 (by omega)).trans b2, (hj 10 (by omega)).trans b3, (hj 11 (by omega)).trans b4, (hj 12 (by omega)).trans b5, (hj 13 (by omega)).trans b6⟩, fun i hi => by simp only [World.frozen?_setCell]; exact hf i hi⟩
theorem DK.two {B : Nat} {d : Sl × Sl} {W : World} (h : DK B d W) (y : Sl) : DK B (d.1, y) (((((((W.setCell ⟨B, 7, none⟩ (.int .u64 ((y.m).toNat : Int))).setCell ⟨B, 8, none⟩ (.int .u64 ((y.q).toNat : Int))).setCell ⟨B, 9, none⟩ (.int .u64 ((y.z).toNat : Int))).setCell ⟨B, 10, none⟩ (.int .u64 ((y.r.a).toNat : Int))).setCell ⟨B, 11, none⟩ (.int .u64 ((y.r.b).toNat : Int))).setCell ⟨B, 12, none⟩ (.int .u64 ((y.r.c).toNat : Int))).setCell ⟨B, 13, none⟩ (.int .u64 ((y.r.d).toNat : Int))) := by
  obtain ⟨⟨hB, a0, a1, a2, a3, a4, a5, a6⟩, ⟨b0, b1, b2, b3, b4, b5, b6⟩, hf⟩ := h
  obtain ⟨⟨c0, c1, c2, c3, c4, c5, c6⟩, hj⟩ := seven_at (W := W) (B := B) (o := 7) (x0 := .int .u64 ((y.m).toNat : Int)) (x1 := .int .u64 ((y.q).toNat : Int)) (x2 := .int .u64 ((y.z).toNat : Int)) (x3 := .int .u64 ((y.r.a).toNat : Int)) (x4 := .int .u64 ((y.r.b).toNat : Int)) (x5 := .int .u64 ((y.r.c).toNat : Int)) (x6 := .int .u64 ((y.r.d).toNat : Int)) (fun i hi => by
    obtain rfl | rfl | rfl | rfl | rfl | rfl | rfl : i = 0 ∨ i = 1 ∨ i = 2 ∨ i = 3 ∨ i = 4 ∨ i = 5 ∨ i = 6 := by omega
    all_goals (first | (rw [b0]; rfl) | (rw [b1]; rfl) | (rw [b2]; rfl) | (rw [b3]; rfl) | (rw [b4]; rfl) | (rw [b5]; rfl) | (rw [b6]; rfl)))
  exact ⟨⟨by simp only [World.size_setCell]; exact hB, (hj 0 (by omega)).trans a0, (hj 1 (by omega)).trans a1, (hj 2 (by omega)).trans a2, (hj 3 (by omega)).trans a3, (hj 4 (by omega)).trans a4, (hj 5 (by omega)).trans a5, (hj 6 (by omega)).trans a6⟩, ⟨c0, c1, c2, c3, c4, c5, c6⟩, fun i hi => by simp only [World.frozen?_setCell]; exact hf i hi⟩
end Go.Proofs.Ytepgmdgcappfpaa
