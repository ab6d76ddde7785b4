/-
  The reader of a proof: its next digest, walked.
-/
import Derived.Test.YtkdgdmicnfgdjaaPkRoot
namespace Go.Proofs.Ytkdgdmicnfgdjaa
open Go.RowKit

def headD : List Qd → Qd
  | [] => ⟨0, 0, 0, 0⟩
  | q :: _ => q
/-- The slice v holds the digests M, in a block ahead of B. -/
def Dgo (B : Nat) (W : World) (v : Value) (M : List Qd) : Prop :=
  (M = [] ∧ ∃ a cap, v = .slice a 0 cap) ∨ ∃ (g o cap : Nat), v = .slice (some ⟨g, o, none⟩) M.length cap ∧ M.length ≤ cap ∧ cap ≤ maxLen ∧ g < B ∧ g < W.heap.size ∧ ∀ (i : Nat) (h : i < M.length), DAt W ⟨g, o + i * 4, none⟩ M[i]
/-- The block B begins with a slice of the digests M. -/
def Rdr (B : Nat) (M : List Qd) (W : World) : Prop :=
  B < W.heap.size ∧ W.frozen? ⟨B, 0, none⟩ = false ∧ ∃ v, W.cell? ⟨B, 0, none⟩ = some v ∧ Dgo B W v M
theorem Rdr.behind {B : Nat} {M : List Qd} {W W' : World} (h : Rdr B M W) (hb : Below W.heap.size W W') : Rdr B M W' := by
  obtain ⟨h0, h1, v, h2, h3⟩ := h
  refine ⟨Nat.lt_of_lt_of_le h0 hb.size, (hb.frozen (p := ⟨B, 0, none⟩) h0).trans h1, v, (hb.cell (p := ⟨B, 0, none⟩) h0).trans h2, ?_⟩
  rcases h3 with h3 | ⟨g, o, cap, hv, hl, hm, hg, hgl, hc⟩
  · exact .inl h3
  · exact .inr ⟨g, o, cap, hv, hl, hm, hg, Nat.lt_of_lt_of_le hgl hb.size, fun i hi => (hc i hi).below hb hgl⟩
theorem DAt.set {W : World} {p : Addr} {q : Qd} (h : DAt W p q) (X o : Nat) (x : Value) (hX : X ≠ p.block) : DAt (W.setCell ⟨X, o, none⟩ x) p q := by
  obtain ⟨h0, h1, h2, h3⟩ := h
  exact ⟨c_set h0 hX, c_set h1 hX, c_set h2 hX, c_set h3 hX⟩
theorem next_end {W : World} {M : List Qd} {v u : Value} (B : Nat) (h0 : B < W.heap.size) (h1 : W.frozen? ⟨B, 0, none⟩ = false) (h2 : W.cell? ⟨B, 0, none⟩ = some u) (h3 : Dgo B (W.setCell ⟨B, 0, none⟩ v) v M) (q : Qd) {a : Act}
    (hr : (results Try.f48 a.tmps).run Try.prog (((W.setCell ⟨B, 0, none⟩ v).alloc (.cells #[Value.int IntKind.u64 ((q).a.toNat : Int), Value.int IntKind.u64 ((q).b.toNat : Int), Value.int IntKind.u64 ((q).c.toNat : Int), Value.int IntKind.u64 ((q).d.toNat : Int)] 36)).alloc (.cells #[Value.int IntKind.u64 ((q).a.toNat : Int), Value.int IntKind.u64 ((q).b.toNat : Int), Value.int IntKind.u64 ((q).c.toNat : Int), Value.int IntKind.u64 ((q).d.toNat : Int)] 36)) = .ok (.agg #[.int .u64 ((q).a.toNat : Int), .int .u64 ((q).b.toNat : Int), .int .u64 ((q).c.toNat : Int), .int .u64 ((q).d.toNat : Int)]) (((W.setCell ⟨B, 0, none⟩ v).alloc (.cells #[Value.int IntKind.u64 ((q).a.toNat : Int), Value.int IntKind.u64 ((q).b.toNat : Int), Value.int IntKind.u64 ((q).c.toNat : Int), Value.int IntKind.u64 ((q).d.toNat : Int)] 36)).alloc (.cells #[Value.int IntKind.u64 ((q).a.toNat : Int), Value.int IntKind.u64 ((q).b.toNat : Int), Value.int IntKind.u64 ((q).c.toNat : Int), Value.int IntKind.u64 ((q).d.toNat : Int)] 36))) (hd : a.defers = [] := by rfl) :
    bodyPost Try.prog Try.f48 (fun e w' => e = .returned (.agg #[.int .u64 ((q).a.toNat : Int), .int .u64 ((q).b.toNat : Int), .int .u64 ((q).c.toNat : Int), .int .u64 ((q).d.toNat : Int)]) ∧ Rdr B M w' ∧ W.grownBy w' (some B)) .ret a (((W.setCell ⟨B, 0, none⟩ v).alloc (.cells #[Value.int IntKind.u64 ((q).a.toNat : Int), Value.int IntKind.u64 ((q).b.toNat : Int), Value.int IntKind.u64 ((q).c.toNat : Int), Value.int IntKind.u64 ((q).d.toNat : Int)] 36)).alloc (.cells #[Value.int IntKind.u64 ((q).a.toNat : Int), Value.int IntKind.u64 ((q).b.toNat : Int), Value.int IntKind.u64 ((q).c.toNat : Int), Value.int IntKind.u64 ((q).d.toNat : Int)] 36)) := by
  have hs1 : Rdr B M (W.setCell ⟨B, 0, none⟩ v) := ⟨by simp only [World.size_setCell]; exact h0, by rw [World.frozen?_setCell]; exact h1, v, set_same (by rw [h2]; rfl), h3⟩
  have hb2 : Below (W.setCell ⟨B, 0, none⟩ v).heap.size (W.setCell ⟨B, 0, none⟩ v) (((W.setCell ⟨B, 0, none⟩ v).alloc (.cells #[Value.int IntKind.u64 ((q).a.toNat : Int), Value.int IntKind.u64 ((q).b.toNat : Int), Value.int IntKind.u64 ((q).c.toNat : Int), Value.int IntKind.u64 ((q).d.toNat : Int)] 36)).alloc (.cells #[Value.int IntKind.u64 ((q).a.toNat : Int), Value.int IntKind.u64 ((q).b.toNat : Int), Value.int IntKind.u64 ((q).c.toNat : Int), Value.int IntKind.u64 ((q).d.toNat : Int)] 36)) :=
    ((Below.refl _ _).alloc (Nat.le_refl _) _).alloc (by simp) _
  exact bodyPost_ret hr hd ⟨rfl, hs1.behind hb2, grown_below (grown_set W B 0 v) hb2⟩
set_option maxRecDepth 20000 in
set_option maxHeartbeats 1000000 in
theorem next_is (B : Nat) (M : List Qd) (W : World) (h : Rdr B M W) :
    Calls Try.prog 48 #[.pointer (some ⟨B, 0, none⟩)] W fun e w' => e = .returned (.agg #[.int .u64 ((headD M).a.toNat : Int), .int .u64 ((headD M).b.toNat : Int), .int .u64 ((headD M).c.toNat : Int), .int .u64 ((headD M).d.toNat : Int)]) ∧ Rdr B M.tail w' ∧ W.grownBy w' (some B) := by
  obtain ⟨h0, h1, v, h2, h3⟩ := h
  rcases h3 with ⟨rfl, a, cap, rfl⟩ | ⟨g, o, cap, rfl, hl, hm, hg, hgl, hc⟩
  · go_enter Try.func48, Try.ntmps48
    go_wp2
    have hb : Below W.heap.size W (W.alloc (.cells #[Value.int IntKind.u64 0, Value.int IntKind.u64 0, Value.int IntKind.u64 0, Value.int IntKind.u64 0] 36)) := (Below.refl _ _).alloc (Nat.le_refl _) _
    exact bodyPost_ret (v := .agg #[.int .u64 0, .int .u64 0, .int .u64 0, .int .u64 0]) (by simp [results, Try.results48, go_sem]) rfl ⟨rfl, Rdr.behind ⟨h0, h1, _, h2, .inl ⟨rfl, _, _, rfl⟩⟩ hb, ⟨hb.os, hb.tape, hb.output, hb.size, fun k hk _ => hb.block k hk⟩⟩
  · cases M with
    | nil =>
      simp only [List.length_nil] at h2
      go_enter Try.func48, Try.ntmps48
      go_wp2
      have hb : Below W.heap.size W (W.alloc (.cells #[Value.int IntKind.u64 0, Value.int IntKind.u64 0, Value.int IntKind.u64 0, Value.int IntKind.u64 0] 36)) := (Below.refl _ _).alloc (Nat.le_refl _) _
      exact bodyPost_ret (v := .agg #[.int .u64 0, .int .u64 0, .int .u64 0, .int .u64 0]) (by simp [results, Try.results48, go_sem]) rfl ⟨rfl, Rdr.behind ⟨h0, h1, _, h2, .inl ⟨rfl, _, _, rfl⟩⟩ hb, ⟨hb.os, hb.tape, hb.output, hb.size, fun k hk _ => hb.block k hk⟩⟩
    | cons q M =>
      simp only [List.length_cons, headD, List.tail_cons] at h2 hl ⊢
      have hd : DAt W ⟨g, o, none⟩ q := by have := hc 0 (by simp); simpa using this
      have hm1 : M.length < 9223372036854775807 := by unfold maxLen at hm; omega
      have HC : Hid (∀ (i : Nat) (h : i < M.length), DAt W ⟨g, o + 4 + i * 4, none⟩ M[i]) := fun i hi => by
        have := hc (i + 1) (by simp; omega)
        rw [show o + (i + 1) * 4 = o + 4 + i * 4 by omega] at this
        exact this
      clear hc
      obtain ⟨n, hn⟩ : ∃ n, n = M.length := ⟨_, rfl⟩
      have HN : Hid (n = M.length) := hn
      rw [← hn] at h2 hl hm1
      clear hn
      obtain ⟨d0, d1, d2, d3⟩ := hd
      have hne : ((n : Int) + 1 == 0) = false := by simp; omega
      have hcp : 1 ≤ cap := by omega
      have hcI : (n : Int) + 1 ≤ (cap : Int) := by omega
      go_enter Try.func48, Try.ntmps48
      go_wp2
      all_goals
        have hn := HN.out
        subst hn
      · exact next_end B h0 h1 h2 (.inl ⟨List.length_eq_zero_iff.1 (by omega), _, _, by rw [show M.length = 0 by omega]⟩) q (by simp [results, Try.results48, go_sem])
      · exact next_end B h0 h1 h2 (.inr ⟨g, o + 4, cap - 1, rfl, by omega, by omega, hg, by simp only [World.size_setCell]; exact hgl, fun i hi => (HC.out i hi).set B 0 _ (by show B ≠ g; omega)⟩) q (by simp [results, Try.results48, go_sem])
theorem Rdr.set {B : Nat} {M : List Qd} {W : World} (h : Rdr B M W) (X o : Nat) (x : Value) (hX : B < X) : Rdr B M (W.setCell ⟨X, o, none⟩ x) := by
  obtain ⟨h0, h1, v, h2, h3⟩ := h
  refine ⟨by simp only [World.size_setCell]; exact h0, by rw [World.frozen?_setCell]; exact h1, v, c_set h2 (by show X ≠ B; omega), ?_⟩
  rcases h3 with h3 | ⟨g, o', cap, hv, hl, hm, hg, hgl, hc⟩
  · exact .inl h3
  · exact .inr ⟨g, o', cap, hv, hl, hm, hg, by simp only [World.size_setCell]; exact hgl, fun i hi => (hc i hi).set X o x (by show X ≠ g; omega)⟩
end Go.Proofs.Ytkdgdmicnfgdjaa
