/-
  Raw writes: a row of three numbers each, copied and compared.
-/
import Derived.Test.YtepgmdgcappfpaaJoinB16
import Derived.Test.YtepgmdgcappfpaaJoinB2
import Derived.Deep.RegionHeld
namespace Go.Proofs.Ytepgmdgcappfpaa
open Go.RowKit

structure Rw where
  f : Int
  t : Int
  s : UInt64

abbrev RAG (l : Rw) : Value := .agg #[.int .i64 l.f, .int .i64 l.t, .int .u64 (l.s.toNat : Int)]
/-- The raw write l lies at p. -/
def RAt (W : World) (p : Addr) (l : Rw) : Prop := W.cell? p = some (.int .i64 l.f) ∧ W.cell? ⟨p.block, p.off + 1, none⟩ = some (.int .i64 l.t) ∧ W.cell? ⟨p.block, p.off + 2, none⟩ = some (.int .u64 ((l.s).toNat : Int))
theorem RAt.below {W W' : World} {p : Addr} {l : Rw} {B : Nat} (h : RAt W p l) (hb : Below B W W') (hp : p.block < B) : RAt W' p l :=
  ⟨(hb.cell hp).trans h.1, (hb.cell (p := ⟨p.block, p.off + 1, none⟩) hp).trans h.2.1, (hb.cell (p := ⟨p.block, p.off + 2, none⟩) hp).trans h.2.2⟩
/-- The slice v holds the raw writes L. -/
def Rws (W : World) (v : Value) (L : List Rw) : Prop :=
  (v = .slice none 0 0 ∧ L = []) ∨ ∃ (a : Addr) (cap : Nat), v = .slice (some a) L.length cap ∧ L.length ≤ cap ∧ cap ≤ maxLen ∧ (0 < L.length → a.block < W.heap.size) ∧ ∀ (i : Nat) (h : i < L.length), RAt W (a.add (i * 3)) L[i]
theorem Rws.below {W W' : World} {v : Value} {L : List Rw} {B : Nat} (h : Rws W v L) (hb : Below B W W') (hB : W.heap.size ≤ B) : Rws W' v L := by
  rcases h with h | ⟨a, cap, hv, hl, hm, hbl, hc⟩
  · exact .inl h
  · exact .inr ⟨a, cap, hv, hl, hm, fun h0 => Nat.lt_of_lt_of_le (hbl h0) hb.size, fun i hi => (hc i hi).below hb (by rw [add_block]; have := hbl (by omega); omega)⟩
theorem Rws.call {W W' : World} {v : Value} {L : List Rw} (h : Rws W v L) (hb : Below W.heap.size W W') : Rws W' v L := h.below hb (Nat.le_refl _)
theorem Rws.len {W : World} {v : Value} {L : List Rw} (h : Rws W v L) : ∃ a cap, v = .slice a L.length cap ∧ L.length ≤ 9223372036854775807 := by
  rcases h with ⟨rfl, rfl⟩ | ⟨a, cap, rfl, hl, hm, _⟩
  · exact ⟨none, 0, rfl, by simp⟩
  · exact ⟨some a, cap, rfl, by unfold maxLen at hm; omega⟩
theorem Rws.cells {W : World} {oa : Option Addr} {n cap : Nat} {L : List Rw} (h : Rws W (.slice oa n cap) L) : ∀ k, k < L.length → ∃ a, oa = some a ∧ a.block < W.heap.size ∧ ∀ (i : Nat) (h : i < L.length), RAt W (a.add (i * 3)) L[i] := by
  intro k hk
  rcases h with ⟨_, rfl⟩ | ⟨a, cap', hv, _, _, hb, hc⟩
  · simp at hk
  · injection hv with e1 _ _
    exact ⟨a, e1, hb (by omega), hc⟩

theorem threeR_at {w : World} {B o : Nat} {l : Rw} (h : ∀ t, t < 3 → (w.cell? ⟨B, o + t, none⟩).isSome = true) :
    RAt (((w.setCell ⟨B, o, none⟩ (.int .i64 l.f)).setCell ⟨B, o + 1, none⟩ (.int .i64 l.t)).setCell ⟨B, o + 2, none⟩ (.int .u64 ((l.s).toNat : Int))) ⟨B, o, none⟩ l := by
  refine ⟨?_, ?_, ?_⟩
  · rw [set_off (by omega), set_off (by omega)]; exact set_same (h 0 (by omega))
  · show World.cell? _ ⟨B, o + 1, none⟩ = _
    rw [set_off (by omega)]; exact set_same (by rw [set_off (by omega)]; exact h 1 (by omega))
  · exact set_same (by rw [set_off (by omega), set_off (by omega)]; exact h 2 (by omega))
theorem threeR_off {w : World} {B o j : Nat} {x0 x1 x2 : Value} (h : j < o ∨ o + 3 ≤ j) :
    (((w.setCell ⟨B, o, none⟩ x0).setCell ⟨B, o + 1, none⟩ x1).setCell ⟨B, o + 2, none⟩ x2).cell? ⟨B, j, none⟩ = w.cell? ⟨B, j, none⟩ := by
  rw [set_off (by omega), set_off (by omega), set_off (by omega)]
theorem threeR_is {w : World} {B o j : Nat} {x0 x1 x2 : Value} (h : (w.cell? ⟨B, j, none⟩).isSome = true) :
    ((((w.setCell ⟨B, o, none⟩ x0).setCell ⟨B, o + 1, none⟩ x1).setCell ⟨B, o + 2, none⟩ x2).cell? ⟨B, j, none⟩).isSome = true := by
  have one : ∀ (w : World) (o : Nat) (x : Value), (w.cell? ⟨B, j, none⟩).isSome = true → ((w.setCell ⟨B, o, none⟩ x).cell? ⟨B, j, none⟩).isSome = true := fun w o x h => by
    by_cases e : o = j
    · subst e; rw [set_same h]; rfl
    · rw [set_off e]; exact h
  exact one _ _ _ (one _ _ _ (one _ _ _ h))
/-- The block B has n places for raw writes, the first k of which are those of L. -/
def RR (B n : Nat) (L : List Rw) (k : Nat) (wr : World) : Prop :=
  B < wr.heap.size ∧ (∀ i, i < n * 3 → (wr.cell? ⟨B, i, none⟩).isSome = true ∧ wr.frozen? ⟨B, i, none⟩ = false) ∧ ∀ (i : Nat) (h : i < L.length), i < k → RAt wr ⟨B, i * 3, none⟩ L[i]
theorem RR.call {B n k : Nat} {L : List Rw} {W W' : World} (h : RR B n L k W) (hb : Below W.heap.size W W') : RR B n L k W' :=
  ⟨Nat.lt_of_lt_of_le h.1 hb.size, fun i hi => ⟨by rw [hb.cell (p := ⟨B, i, none⟩) h.1]; exact (h.2.1 i hi).1, (hb.frozen (p := ⟨B, i, none⟩) h.1).trans (h.2.1 i hi).2⟩, fun i hi hk => (h.2.2 i hi hk).below hb h.1⟩
theorem RR.step {B n k : Nat} {L : List Rw} {W : World} (h : RR B n L k W) (hk : k < L.length) (hn : k < n) :
    RR B n L (k + 1) (((W.setCell ⟨B, k * 3, none⟩ (.int .i64 (L[k]).f)).setCell ⟨B, k * 3 + 1, none⟩ (.int .i64 (L[k]).t)).setCell ⟨B, k * 3 + 2, none⟩ (.int .u64 (((L[k]).s).toNat : Int))) := by
  refine ⟨by simp only [World.size_setCell]; exact h.1, fun i hi => ⟨threeR_is (h.2.1 i hi).1, by simp only [World.frozen?_setCell]; exact (h.2.1 i hi).2⟩, fun i hi hik => ?_⟩
  by_cases e : i = k
  · subst e
    exact threeR_at (fun t ht => (h.2.1 (i * 3 + t) (by omega)).1)
  · obtain ⟨d0, d1, d2⟩ := h.2.2 i hi (by omega)
    refine ⟨(threeR_off (by omega)).trans d0, ?_, ?_⟩
    · exact (threeR_off (j := i * 3 + 1) (by omega)).trans d1
    · exact (threeR_off (j := i * 3 + 2) (by omega)).trans d2
theorem RR.facts {B n k : Nat} {L : List Rw} {W : World} (h : RR B n L k W) (hn : k < n) : ∃ u0 u1 u2 : Value, (W.cell? ⟨B, k * 3, none⟩ = some u0 ∧ W.cell? ⟨B, k * 3 + 1, none⟩ = some u1 ∧ W.cell? ⟨B, k * 3 + 2, none⟩ = some u2) ∧
    W.frozen? ⟨B, k * 3, none⟩ = false ∧ W.frozen? ⟨B, k * 3 + 1, none⟩ = false ∧ W.frozen? ⟨B, k * 3 + 2, none⟩ = false := by
  obtain ⟨u0, h0⟩ := Option.isSome_iff_exists.1 (h.2.1 (k * 3) (by omega)).1
  obtain ⟨u1, h1⟩ := Option.isSome_iff_exists.1 (h.2.1 (k * 3 + 1) (by omega)).1
  obtain ⟨u2, h2⟩ := Option.isSome_iff_exists.1 (h.2.1 (k * 3 + 2) (by omega)).1
  exact ⟨u0, u1, u2, ⟨h0, h1, h2⟩, (h.2.1 _ (by omega)).2, (h.2.1 _ (by omega)).2, (h.2.1 _ (by omega)).2⟩
theorem infoRw : (Try.prog.info? 56).map (fun i => (i.zero, i.size, i.bytes)) = some (some (.agg #[.int .i64 0, .int .i64 0, .int .u64 0]), 3, 24) := by kernel_rfl

/-- What a made block holds, as a slice. -/
theorem RR.rws {B : Nat} {L : List Rw} {W : World} (h : RR B L.length L L.length W) (hl : L.length ≤ 1048576) : Rws W (.slice (some ⟨B, 0, none⟩) L.length L.length) L := by
  refine .inr ⟨⟨B, 0, none⟩, L.length, rfl, Nat.le_refl _, by unfold maxLen; omega, fun _ => h.1, fun i hi => ?_⟩
  rw [Addr.add_mid, Nat.zero_add]
  exact h.2.2 i hi hi
end Go.Proofs.Ytepgmdgcappfpaa
