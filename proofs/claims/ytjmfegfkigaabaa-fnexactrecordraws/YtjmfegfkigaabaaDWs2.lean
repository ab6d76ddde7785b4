/-
  DiskWrite of the document.
-/
import Derived.Test.YtjmfegfkigaabaaDWs
namespace Go.Proofs.Ytjmfegfkigaabaa
open Go.RowKit

theorem DK.one {B : Nat} {d : Sl × Sl} {W : World} (h : DK B d W) (y : Sl) : DK B (y, d.2) (((((((W.setCell ⟨B, 0, none⟩ (.int .u64 ((y.m).toNat : Int))).setCell ⟨B, 1, none⟩ (.int .u64 ((y.q).toNat : Int))).setCell ⟨B, 2, none⟩ (.int .u64 ((y.z).toNat : Int))).setCell ⟨B, 3, none⟩ (.int .u64 ((y.r.a).toNat : Int))).setCell ⟨B, 4, none⟩ (.int .u64 ((y.r.b).toNat : Int))).setCell ⟨B, 5, none⟩ (.int .u64 ((y.r.c).toNat : Int))).setCell ⟨B, 6, none⟩ (.int .u64 ((y.r.d).toNat : Int))) := by
  obtain ⟨⟨hB, a0, a1, a2, a3, a4, a5, a6⟩, ⟨b0, b1, b2, b3, b4, b5, b6⟩, hf⟩ := h
  obtain ⟨⟨c0, c1, c2, c3, c4, c5, c6⟩, hj⟩ := seven_at (W := W) (B := B) (o := 0) (x0 := .int .u64 ((y.m).toNat : Int)) (x1 := .int .u64 ((y.q).toNat : Int)) (x2 := .int .u64 ((y.z).toNat : Int)) (x3 := .int .u64 ((y.r.a).toNat : Int)) (x4 := .int .u64 ((y.r.b).toNat : Int)) (x5 := .int .u64 ((y.r.c).toNat : Int)) (x6 := .int .u64 ((y.r.d).toNat : Int)) (fun i hi => by
    obtain rfl | rfl | rfl | rfl | rfl | rfl | rfl : i = 0 ∨ i = 1 ∨ i = 2 ∨ i = 3 ∨ i = 4 ∨ i = 5 ∨ i = 6 := by omega
    all_goals (simp only [Nat.zero_add]; first | (rw [a0]; rfl) | (rw [a1]; rfl) | (rw [a2]; rfl) | (rw [a3]; rfl) | (rw [a4]; rfl) | (rw [a5]; rfl) | (rw [a6]; rfl)))
  exact ⟨⟨by simp only [World.size_setCell]; exact hB, c0, c1, c2, c3, c4, c5, c6⟩, ⟨(hj 7 (by omega)).trans b0, (hj 8 (by omega)).trans b1, (hj 9 (by omega)).trans b2, (hj 10 (by omega)).trans b3, (hj 11 (by omega)).trans b4, (hj 12 (by omega)).trans b5, (hj 13 (by omega)).trans b6⟩, fun i hi => by simp only [World.frozen?_setCell]; exact hf i hi⟩
theorem DK.two {B : Nat} {d : Sl × Sl} {W : World} (h : DK B d W) (y : Sl) : DK B (d.1, y) (((((((W.setCell ⟨B, 7, none⟩ (.int .u64 ((y.m).toNat : Int))).setCell ⟨B, 8, none⟩ (.int .u64 ((y.q).toNat : Int))).setCell ⟨B, 9, none⟩ (.int .u64 ((y.z).toNat : Int))).setCell ⟨B, 10, none⟩ (.int .u64 ((y.r.a).toNat : Int))).setCell ⟨B, 11, none⟩ (.int .u64 ((y.r.b).toNat : Int))).setCell ⟨B, 12, none⟩ (.int .u64 ((y.r.c).toNat : Int))).setCell ⟨B, 13, none⟩ (.int .u64 ((y.r.d).toNat : Int))) := by
  obtain ⟨⟨hB, a0, a1, a2, a3, a4, a5, a6⟩, ⟨b0, b1, b2, b3, b4, b5, b6⟩, hf⟩ := h
  obtain ⟨⟨c0, c1, c2, c3, c4, c5, c6⟩, hj⟩ := seven_at (W := W) (B := B) (o := 7) (x0 := .int .u64 ((y.m).toNat : Int)) (x1 := .int .u64 ((y.q).toNat : Int)) (x2 := .int .u64 ((y.z).toNat : Int)) (x3 := .int .u64 ((y.r.a).toNat : Int)) (x4 := .int .u64 ((y.r.b).toNat : Int)) (x5 := .int .u64 ((y.r.c).toNat : Int)) (x6 := .int .u64 ((y.r.d).toNat : Int)) (fun i hi => by
    obtain rfl | rfl | rfl | rfl | rfl | rfl | rfl : i = 0 ∨ i = 1 ∨ i = 2 ∨ i = 3 ∨ i = 4 ∨ i = 5 ∨ i = 6 := by omega
    all_goals (first | (rw [b0]; rfl) | (rw [b1]; rfl) | (rw [b2]; rfl) | (rw [b3]; rfl) | (rw [b4]; rfl) | (rw [b5]; rfl) | (rw [b6]; rfl)))
  exact ⟨⟨by simp only [World.size_setCell]; exact hB, (hj 0 (by omega)).trans a0, (hj 1 (by omega)).trans a1, (hj 2 (by omega)).trans a2, (hj 3 (by omega)).trans a3, (hj 4 (by omega)).trans a4, (hj 5 (by omega)).trans a5, (hj 6 (by omega)).trans a6⟩, ⟨c0, c1, c2, c3, c4, c5, c6⟩, fun i hi => by simp only [World.frozen?_setCell]; exact hf i hi⟩
end Go.Proofs.Ytjmfegfkigaabaa
