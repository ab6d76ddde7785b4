/-
  Slices of digests: measured, copied, compared.
-/
import Derived.Test.YtegihccdpohnnaaWalks1
import Derived.Test.YtegihccdpohnnaaWalks2
import Derived.Test.YtegihccdpohnnaaTxt
import Derived.Deep.RegionHeld
namespace Go.Proofs.Ytegihccdpohnnaa
open Go.RowKit

/-- The digest q lies at p. -/
def DAt (W : World) (p : Addr) (q : Qd) : Prop := W.cell? p = some (Value.int IntKind.u64 ((q.a).toNat : Int)) ∧ W.cell? ⟨p.block, p.off + 1, none⟩ = some (Value.int IntKind.u64 ((q.b).toNat : Int)) ∧ W.cell? ⟨p.block, p.off + 2, none⟩ = some (Value.int IntKind.u64 ((q.c).toNat : Int)) ∧ W.cell? ⟨p.block, p.off + 3, none⟩ = some (Value.int IntKind.u64 ((q.d).toNat : Int))
theorem DAt.below {W W' : World} {p : Addr} {q : Qd} {B : Nat} (h : DAt W p q) (hb : Below B W W') (hp : p.block < B) : DAt W' p q :=
  ⟨(hb.cell hp).trans h.1, (hb.cell (p := ⟨p.block, p.off + 1, none⟩) hp).trans h.2.1, (hb.cell (p := ⟨p.block, p.off + 2, none⟩) hp).trans h.2.2.1, (hb.cell (p := ⟨p.block, p.off + 3, none⟩) hp).trans h.2.2.2⟩
/-- The slice v holds the digests L. -/
def Dgs (W : World) (v : Value) (L : List Qd) : Prop :=
  (v = .slice none 0 0 ∧ L = []) ∨ ∃ (a : Addr) (cap : Nat), v = .slice (some a) L.length cap ∧ L.length ≤ cap ∧ cap ≤ maxLen ∧ (0 < L.length → a.block < W.heap.size) ∧ ∀ (i : Nat) (h : i < L.length), DAt W (a.add (i * 4)) L[i]
theorem Dgs.below {W W' : World} {v : Value} {L : List Qd} {B : Nat} (h : Dgs W v L) (hb : Below B W W') (hB : W.heap.size ≤ B) : Dgs W' v L := by
  rcases h with h | ⟨a, cap, hv, hl, hm, hbl, hc⟩
  · exact .inl h
  · exact .inr ⟨a, cap, hv, hl, hm, fun h0 => Nat.lt_of_lt_of_le (hbl h0) hb.size, fun i hi => (hc i hi).below hb (by rw [add_block]; have := hbl (by omega); omega)⟩
theorem Dgs.call {W W' : World} {v : Value} {L : List Qd} (h : Dgs W v L) (hb : Below W.heap.size W W') : Dgs W' v L := h.below hb (Nat.le_refl _)
theorem Dgs.len {W : World} {v : Value} {L : List Qd} (h : Dgs W v L) : ∃ a cap, v = .slice a L.length cap ∧ L.length ≤ 9223372036854775807 := by
  rcases h with ⟨rfl, rfl⟩ | ⟨a, cap, rfl, hl, hm, _⟩
  · exact ⟨none, 0, rfl, by simp⟩
  · exact ⟨some a, cap, rfl, by unfold maxLen at hm; omega⟩

/-- A digest is stored at an offset of a block: what lies there. -/
theorem four_at {w : World} {B o : Nat} {q : Qd} (h : ∀ t, t < 4 → (w.cell? ⟨B, o + t, none⟩).isSome = true) :
    DAt ((((w.setCell ⟨B, o, none⟩ (Value.int IntKind.u64 ((q.a).toNat : Int))).setCell ⟨B, o + 1, none⟩ (Value.int IntKind.u64 ((q.b).toNat : Int))).setCell ⟨B, o + 2, none⟩ (Value.int IntKind.u64 ((q.c).toNat : Int))).setCell ⟨B, o + 3, none⟩ (Value.int IntKind.u64 ((q.d).toNat : Int))) ⟨B, o, none⟩ q := by
  refine ⟨?_, ?_, ?_, ?_⟩
  · rw [set_off (by omega), set_off (by omega), set_off (by omega)]; exact set_same (h 0 (by omega))
  · show World.cell? _ ⟨B, o + 1, none⟩ = _
    rw [set_off (by omega), set_off (by omega)]; exact set_same (by rw [set_off (by omega)]; exact h 1 (by omega))
  · show World.cell? _ ⟨B, o + 2, none⟩ = _
    rw [set_off (by omega)]; exact set_same (by rw [set_off (by omega), set_off (by omega)]; exact h 2 (by omega))
  · exact set_same (by rw [set_off (by omega), set_off (by omega), set_off (by omega)]; exact h 3 (by omega))
theorem four_off {w : World} {B o j : Nat} {x0 x1 x2 x3 : Value} (h : j < o ∨ o + 4 ≤ j) :
    ((((w.setCell ⟨B, o, none⟩ x0).setCell ⟨B, o + 1, none⟩ x1).setCell ⟨B, o + 2, none⟩ x2).setCell ⟨B, o + 3, none⟩ x3).cell? ⟨B, j, none⟩ = w.cell? ⟨B, j, none⟩ := by
  rw [set_off (by omega), set_off (by omega), set_off (by omega), set_off (by omega)]
theorem four_is {w : World} {B o j : Nat} {x0 x1 x2 x3 : Value} (h : (w.cell? ⟨B, j, none⟩).isSome = true) :
    (((((w.setCell ⟨B, o, none⟩ x0).setCell ⟨B, o + 1, none⟩ x1).setCell ⟨B, o + 2, none⟩ x2).setCell ⟨B, o + 3, none⟩ x3).cell? ⟨B, j, none⟩).isSome = true := by
  have one : ∀ (w : World) (o : Nat) (x : Value), (w.cell? ⟨B, j, none⟩).isSome = true → ((w.setCell ⟨B, o, none⟩ x).cell? ⟨B, j, none⟩).isSome = true := fun w o x h => by
    by_cases e : o = j
    · subst e; rw [set_same h]; rfl
    · rw [set_off e]; exact h
  exact one _ _ _ (one _ _ _ (one _ _ _ (one _ _ _ h)))
/-- The block B has n places for digests, the first k of which are those of L. -/
def DR (B n : Nat) (L : List Qd) (k : Nat) (wr : World) : Prop :=
  B < wr.heap.size ∧ (∀ i, i < n * 4 → (wr.cell? ⟨B, i, none⟩).isSome = true ∧ wr.frozen? ⟨B, i, none⟩ = false) ∧ ∀ (i : Nat) (h : i < L.length), i < k → DAt wr ⟨B, i * 4, none⟩ L[i]
theorem DR.call {B n k : Nat} {L : List Qd} {W W' : World} (h : DR B n L k W) (hb : Below W.heap.size W W') : DR B n L k W' :=
  ⟨Nat.lt_of_lt_of_le h.1 hb.size, fun i hi => ⟨by rw [hb.cell (p := ⟨B, i, none⟩) h.1]; exact (h.2.1 i hi).1, (hb.frozen (p := ⟨B, i, none⟩) h.1).trans (h.2.1 i hi).2⟩, fun i hi hk => (h.2.2 i hi hk).below hb h.1⟩
theorem DR.step {B n k : Nat} {L : List Qd} {W : World} (h : DR B n L k W) (hk : k < L.length) (hn : k < n) :
    DR B n L (k + 1) ((((W.setCell ⟨B, k * 4, none⟩ (Value.int IntKind.u64 (((L[k]).a).toNat : Int))).setCell ⟨B, k * 4 + 1, none⟩ (Value.int IntKind.u64 (((L[k]).b).toNat : Int))).setCell ⟨B, k * 4 + 2, none⟩ (Value.int IntKind.u64 (((L[k]).c).toNat : Int))).setCell ⟨B, k * 4 + 3, none⟩ (Value.int IntKind.u64 (((L[k]).d).toNat : Int))) := by
  refine ⟨by simp only [World.size_setCell]; exact h.1, fun i hi => ⟨four_is (h.2.1 i hi).1, by simp only [World.frozen?_setCell]; exact (h.2.1 i hi).2⟩, fun i hi hik => ?_⟩
  by_cases e : i = k
  · subst e
    exact four_at (fun t ht => (h.2.1 (i * 4 + t) (by omega)).1)
  · obtain ⟨d0, d1, d2, d3⟩ := h.2.2 i hi (by omega)
    refine ⟨(four_off (by omega)).trans d0, ?_, ?_, ?_⟩
    · exact (four_off (j := i * 4 + 1) (by omega)).trans d1
    · exact (four_off (j := i * 4 + 2) (by omega)).trans d2
    · exact (four_off (j := i * 4 + 3) (by omega)).trans d3
theorem DR.facts {B n k : Nat} {L : List Qd} {W : World} (h : DR B n L k W) (hn : k < n) : ∃ u0 u1 u2 u3 : Value, (W.cell? ⟨B, k * 4, none⟩ = some u0 ∧ W.cell? ⟨B, k * 4 + 1, none⟩ = some u1 ∧ W.cell? ⟨B, k * 4 + 2, none⟩ = some u2 ∧ W.cell? ⟨B, k * 4 + 3, none⟩ = some u3) ∧
    W.frozen? ⟨B, k * 4, none⟩ = false ∧ W.frozen? ⟨B, k * 4 + 1, none⟩ = false ∧ W.frozen? ⟨B, k * 4 + 2, none⟩ = false ∧ W.frozen? ⟨B, k * 4 + 3, none⟩ = false := by
  obtain ⟨u0, h0⟩ := Option.isSome_iff_exists.1 (h.2.1 (k * 4) (by omega)).1
  obtain ⟨u1, h1⟩ := Option.isSome_iff_exists.1 (h.2.1 (k * 4 + 1) (by omega)).1
  obtain ⟨u2, h2⟩ := Option.isSome_iff_exists.1 (h.2.1 (k * 4 + 2) (by omega)).1
  obtain ⟨u3, h3⟩ := Option.isSome_iff_exists.1 (h.2.1 (k * 4 + 3) (by omega)).1
  exact ⟨u0, u1, u2, u3, ⟨h0, h1, h2, h3⟩, (h.2.1 _ (by omega)).2, (h.2.1 _ (by omega)).2, (h.2.1 _ (by omega)).2, (h.2.1 _ (by omega)).2⟩
/-- What a made block holds, as a slice. -/
theorem DR.dgs {B : Nat} {L : List Qd} {W : World} (h : DR B L.length L L.length W) (hl : L.length ≤ 1048576) : Dgs W (.slice (some ⟨B, 0, none⟩) L.length L.length) L := by
  refine .inr ⟨⟨B, 0, none⟩, L.length, rfl, Nat.le_refl _, by unfold maxLen; omega, fun _ => h.1, fun i hi => ?_⟩
  rw [Addr.add_mid, Nat.zero_add]
  exact h.2.2 i hi hi
end Go.Proofs.Ytegihccdpohnnaa
