/-
  A stack of digests: made, popped.
-/
import Derived.Test.YtepgmdgcappfpaaDgs
import Derived.Laws.AppendOwn
import Derived.WalkSmall
import Derived.Test.YtepgmdgcappfpaaDMend
import Derived.Test.YtepgmdgcappfpaaJoinB34
namespace Go.Proofs.Ytepgmdgcappfpaa
open Go.RowKit

/-- The cells of digests. -/
def qc (q : Qd) : List Value := [Value.int IntKind.u64 ((q.a).toNat : Int), Value.int IntKind.u64 ((q.b).toNat : Int), Value.int IntKind.u64 ((q.c).toNat : Int), Value.int IntKind.u64 ((q.d).toNat : Int)]
def qcs : List Qd → List Value
  | [] => []
  | q :: r => qc q ++ qcs r
theorem qcs_append : ∀ a b : List Qd, qcs (a ++ b) = qcs a ++ qcs b
  | [], b => rfl
  | q :: a, b => by simp [qcs, qcs_append a b]
theorem qcs_len : ∀ a : List Qd, (qcs a).length = a.length * 4
  | [] => rfl
  | q :: a => by simp only [qcs, List.length_append, qcs_len a, qc, List.length_cons, List.length_nil]; omega
theorem qcs_get : ∀ (L : List Qd) (i t : Nat) (h : i < L.length), t < 4 → (qcs L)[i * 4 + t]? = (qc L[i])[t]?
  | [], _, _, h, _ => by simp at h
  | q :: L, 0, t, _, ht => by
    simp only [qcs, Nat.zero_mul, Nat.zero_add, List.getElem_cons_zero]
    rw [List.getElem?_append_left (by simp [qc]; omega)]
  | q :: L, i + 1, t, h, ht => by
    simp only [qcs, List.getElem_cons_succ]
    rw [List.getElem?_append_right (by simp [qc]; omega)]
    have e : (i + 1) * 4 + t - (qc q).length = i * 4 + t := by simp only [qc, List.length_cons, List.length_nil]; omega
    rw [e]
    exact qcs_get L i t (by simpa using h) ht
theorem qcs_one {u : Value} : ∀ {L : List Qd}, u ∈ qcs L → u.oneCell' = true
  | [], h => by simp [qcs] at h
  | q :: L, h => by
    rcases List.mem_append.1 h with h | h
    · simp only [qc, List.mem_cons, List.not_mem_nil, or_false] at h
      rcases h with rfl | rfl | rfl | rfl <;> rfl
    · exact qcs_one h
/-- A slice that the call owns holds its digests. -/
theorem own_dat {W : World} {base g cap : Nat} {L : List Qd} (h : W.ownsRow base 25 4 (.slice (some ⟨g, 0, none⟩) L.length cap) L.length (qcs L)) (i : Nat) (hi : i < L.length) : DAt W ⟨g, i * 4, none⟩ L[i] := by
  have hc : ∀ t, t < 4 → ∀ u, (qc L[i])[t]? = some u → W.cell? ⟨g, i * 4 + t, none⟩ = some u := fun t ht u hu => by
    have := h.cells (g := g) rfl (i * 4 + t) u (by rw [qcs_get L i t hi ht]; exact hu)
    rwa [Addr.add_mid, Nat.zero_add] at this
  exact ⟨hc 0 (by omega) _ rfl, hc 1 (by omega) _ rfl, hc 2 (by omega) _ rfl, hc 3 (by omega) _ rfl⟩
theorem own_cap {W : World} {base g cap n : Nat} {xs : List Value} (h : W.ownsRow base 25 4 (.slice (some ⟨g, 0, none⟩) n cap) n xs) : n ≤ cap ∧ cap ≤ maxLen := by
  rcases h.2 with ⟨h0, _⟩ | ⟨g', cap', cur, hv, _, _, hn, hm, _⟩
  · cases h0
  · cases hv; exact ⟨hn, hm⟩
theorem own_slice {W : World} {base n : Nat} {v : Value} {xs : List Value} (h : W.ownsRow base 25 4 v n xs) (hn : 0 < n) : ∃ g cap, v = .slice (some ⟨g, 0, none⟩) n cap := by
  rcases h.2 with ⟨_, h0⟩ | ⟨g, cap, cur, hv, _⟩
  · omega
  · exact ⟨g, cap, hv⟩
theorem own_len {W : World} {base n : Nat} {v : Value} {xs : List Value} (h : W.ownsRow base 25 4 v n xs) : ∃ a cap, v = .slice a n cap := by
  rcases h.2 with ⟨hv, h0⟩ | ⟨g, cap, cur, hv, _⟩
  · exact ⟨none, 0, by rw [hv, h0]⟩
  · exact ⟨_, cap, hv⟩
theorem own_dgs {W : World} {base : Nat} {v : Value} {L : List Qd} (h : W.ownsRow base 25 4 v L.length (qcs L)) : Dgs W v L := by
  have h' := h
  rcases h.2 with ⟨rfl, h0⟩ | ⟨g, cap, cur, rfl, _, hh, hn, hm, _⟩
  · exact .inl ⟨rfl, List.length_eq_zero_iff.1 h0⟩
  · refine .inr ⟨⟨g, 0, none⟩, cap, rfl, hn, hm, fun _ => (Array.getElem?_eq_some_iff.1 hh).1, fun i hi => ?_⟩
    rw [Addr.add_mid, Nat.zero_add]
    exact own_dat h' i hi

/-- The block Bs is a stack of the digests L; what it has lies from the block base on, and in no block of av. -/
def Stk (base Bs : Nat) (av : Nat → Prop) (L : List Qd) (W : World) : Prop :=
  base ≤ Bs ∧ Bs < W.heap.size ∧ W.frozen? ⟨Bs, 0, none⟩ = false ∧ ∃ v, W.cell? ⟨Bs, 0, none⟩ = some v ∧ (∀ k, v.ownBlock = some k → k ≠ Bs ∧ ¬ av k) ∧ W.ownsRow base 25 4 v L.length (qcs L)
theorem Stk.grown {base Bs : Nat} {av : Nat → Prop} {L : List Qd} {W W' : World} (h : Stk base Bs av L W) (hb : Below W.heap.size W W') : Stk base Bs av L W' := by
  obtain ⟨h0, h1, h2, v, h3, h4, h5⟩ := h
  refine ⟨h0, Nat.lt_of_lt_of_le h1 hb.size, (hb.frozen (p := ⟨Bs, 0, none⟩) h1).trans h2, v, (hb.cell (p := ⟨Bs, 0, none⟩) h1).trans h3, h4, ?_⟩
  refine h5.kept (w' := W') (row := none) ⟨hb.os, hb.tape, hb.output, hb.size, fun k hk _ => hb.block k hk⟩ ?_
  cases hv : v.ownBlock with
  | none => exact .inl rfl
  | some k => exact .inr (by simp)

theorem grown_set (W : World) (B o : Nat) (v : Value) : W.grownBy (W.setCell ⟨B, o, none⟩ v) (some B) :=
  ⟨rfl, rfl, rfl, by simp only [World.size_setCell]; exact Nat.le_refl _, fun k _ hne => Below.heap_setCell _ _ _ _ (fun e => hne (by rw [e]))⟩
theorem grown_below {W W1 W2 : World} {row : Option Nat} (h : W.grownBy W1 row) (hb : Below W1.heap.size W1 W2) : W.grownBy W2 row :=
  ⟨hb.os.trans h.os, hb.tape.trans h.tape, hb.output.trans h.output, Nat.le_trans h.size hb.size, fun k hk hne => (hb.block k (Nat.lt_of_lt_of_le hk h.size)).trans (h.block k hk hne)⟩

theorem Stk.set {base Bs : Nat} {av : Nat → Prop} {L : List Qd} {W : World} (h : Stk base Bs av L W) (X o : Nat) (x : Value) (hX : X ≠ Bs) (ha : av X) : Stk base Bs av L (W.setCell ⟨X, o, none⟩ x) := by
  obtain ⟨h0, h1, h2, v, h3, h4, h5⟩ := h
  refine ⟨h0, by simp only [World.size_setCell]; exact h1, by rw [World.frozen?_setCell]; exact h2, v, c_set h3 hX, h4, h5.kept (grown_set W X o x) (.inr (fun e => (h4 X e).2 ha))⟩
theorem own_base {W : World} {base base' n : Nat} {v : Value} {xs : List Value} (h : W.ownsRow base 25 4 v n xs) (hb : base' ≤ base) : W.ownsRow base' 25 4 v n xs := by
  refine ⟨h.1, ?_⟩
  rcases h.2 with h0 | ⟨g, cap, cur, hv, hg, r⟩
  · exact .inl h0
  · exact .inr ⟨g, cap, cur, hv, Nat.le_trans hb hg, r⟩
/-- A stack in a new block. -/
theorem Stk.new {W : World} {base base' : Nat} {u : Value} {L : List Qd} (t : TypeId) (h : W.ownsRow base' 25 4 u L.length (qcs L)) (hb : base ≤ base') (hW : base ≤ W.heap.size) :
    Stk base W.heap.size (fun k => W.heap.size ≤ k) L (W.alloc (.cells #[u] t)) := by
  refine ⟨hW, by simp, by simp [go_sem], u, by simp [go_sem], fun k e => ?_, (own_base h hb).alloc _⟩
  have := (h.lt k e).2
  exact ⟨by omega, by omega⟩
/-- The last digest, or noughts. -/
def lastD : List Qd → Qd
  | [] => ⟨0, 0, 0, 0⟩
  | [q] => q
  | _ :: q :: r => lastD (q :: r)
theorem lastD_snoc : ∀ (L : List Qd) (q : Qd), lastD (L ++ [q]) = q
  | [], _ => rfl
  | [_], _ => rfl
  | _ :: b :: r, q => lastD_snoc (b :: r) q
end Go.Proofs.Ytepgmdgcappfpaa

/-
  A slot in a box of its own.
-/
namespace Go.Proofs.Ytepgmdgcappfpaa
open Go.RowKit Go.MuLone

/-- A slot in the box b, which may be written. -/
def SX (b : Nat) (x : Sl) (W : World) : Prop := Lies b 0 [.int .u64 ((x).m.toNat : Int), .int .u64 ((x).q.toNat : Int), .int .u64 ((x).z.toNat : Int), .int .u64 ((x).r.a.toNat : Int), .int .u64 ((x).r.b.toNat : Int), .int .u64 ((x).r.c.toNat : Int), .int .u64 ((x).r.d.toNat : Int)] W ∧ Room b 0 7 W ∧ b < W.heap.size
theorem SX.call {b : Nat} {x : Sl} {W W' : World} (h : SX b x W) (hb : Below W.heap.size W W') : SX b x W' :=
  ⟨h.1.call hb h.2.2, h.2.1.call hb h.2.2, Nat.lt_of_lt_of_le h.2.2 hb.size⟩
theorem SX.new (W : World) (x : Sl) : SX W.heap.size x (W.alloc (.cells #[.int .u64 ((x).m.toNat : Int), .int .u64 ((x).q.toNat : Int), .int .u64 ((x).z.toNat : Int), .int .u64 ((x).r.a.toNat : Int), .int .u64 ((x).r.b.toNat : Int), .int .u64 ((x).r.c.toNat : Int), .int .u64 ((x).r.d.toNat : Int)] 27)) :=
  ⟨Lies.new W [.int .u64 ((x).m.toNat : Int), .int .u64 ((x).q.toNat : Int), .int .u64 ((x).z.toNat : Int), .int .u64 ((x).r.a.toNat : Int), .int .u64 ((x).r.b.toNat : Int), .int .u64 ((x).r.c.toNat : Int), .int .u64 ((x).r.d.toNat : Int)] 27, Room.new W #[.int .u64 ((x).m.toNat : Int), .int .u64 ((x).q.toNat : Int), .int .u64 ((x).z.toNat : Int), .int .u64 ((x).r.a.toNat : Int), .int .u64 ((x).r.b.toNat : Int), .int .u64 ((x).r.c.toNat : Int), .int .u64 ((x).r.d.toNat : Int)] 27 7 rfl, by simp⟩
theorem SX.cells {b : Nat} {x : Sl} {W : World} (h : SX b x W) : W.cell? ⟨b, 0, none⟩ = some (.int .u64 ((x.m).toNat : Int)) ∧ W.cell? ⟨b, 1, none⟩ = some (.int .u64 ((x.q).toNat : Int)) ∧ W.cell? ⟨b, 2, none⟩ = some (.int .u64 ((x.z).toNat : Int)) ∧ W.cell? ⟨b, 3, none⟩ = some (.int .u64 ((x.r.a).toNat : Int)) ∧ W.cell? ⟨b, 4, none⟩ = some (.int .u64 ((x.r.b).toNat : Int)) ∧ W.cell? ⟨b, 5, none⟩ = some (.int .u64 ((x.r.c).toNat : Int)) ∧ W.cell? ⟨b, 6, none⟩ = some (.int .u64 ((x.r.d).toNat : Int)) ∧ W.frozen? ⟨b, 0, none⟩ = false := by
  obtain ⟨h1, h2, -⟩ := h
  have hc := fun j v (hj : ([.int .u64 ((x).m.toNat : Int), .int .u64 ((x).q.toNat : Int), .int .u64 ((x).z.toNat : Int), .int .u64 ((x).r.a.toNat : Int), .int .u64 ((x).r.b.toNat : Int), .int .u64 ((x).r.c.toNat : Int), .int .u64 ((x).r.d.toNat : Int)] : List Value)[j]? = some v) => by
    have := h1 j v hj
    rwa [Nat.zero_add] at this
  exact ⟨hc 0 _ rfl, hc 1 _ rfl, hc 2 _ rfl, hc 3 _ rfl, hc 4 _ rfl, hc 5 _ rfl, hc 6 _ rfl, h2.2 0 (by omega)⟩
theorem SX.setm {b : Nat} {x : Sl} {W : World} (h : SX b x W) (y : UInt64) : SX b { x with m := y } (W.setCell ⟨b, 0, none⟩ (.int .u64 ((y).toNat : Int))) :=
  ⟨h.1.set 0 (by simp) (.int .u64 ((y).toNat : Int)), h.2.1.set b 0 _, by rw [World.size_setCell]; exact h.2.2⟩
theorem SX.far {b c : Nat} {x : Sl} {W : World} (h : SX b x W) (o : Nat) (v : Value) (hc : c ≠ b) : SX b x (W.setCell ⟨c, o, none⟩ v) := by
  have g : W.grownBy (W.setCell ⟨c, o, none⟩ v) (some c) := ⟨rfl, rfl, rfl, by simp only [World.size_setCell]; exact Nat.le_refl _, fun k _ hne => Below.heap_setCell _ _ _ _ (fun e => hne (by rw [e]))⟩
  exact ⟨h.1.grown g h.2.2 (fun e => by injection e with e; omega), h.2.1.grown g h.2.2 (fun e => by injection e with e; omega), Nat.lt_of_lt_of_le h.2.2 g.size⟩
theorem sumOf_m (s : Sl) (y : UInt64) : sumOf { s with m := y } = sumOf s := rfl
theorem slok_sum (s : Sl) : slok { s with m := sumOf s } = (bnd s.q 1000000000 && bnd s.z 256) := by
  have h : decide (({ s with m := sumOf s } : Sl).m = sumOf { s with m := sumOf s }) = true := decide_eq_true rfl
  unfold slok
  rw [h, Bool.true_and]
theorem slok_off (s : Sl) (y : UInt64) (h : y ≠ sumOf s) : slok { s with m := y } = false := by
  have h' : decide (({ s with m := y } : Sl).m = sumOf { s with m := y }) = false := decide_eq_false h
  unfold slok
  rw [h', Bool.false_and]
theorem sum_two (y : UInt64) : y + 2 ≠ y := by
  intro h
  have := congrArg UInt64.toNat h
  rw [UInt64.toNat_add] at this
  have h2 : (2 : UInt64).toNat = 2 := rfl
  have := y.toNat_lt
  omega
theorem sum_wrap (y : UInt64) : IntKind.u64.wrap ((y.toNat : Int) + 2) = (((y + 2 : UInt64)).toNat : Int) := by
  rw [UInt64.toNat_add]
  have h2 : (2 : UInt64).toNat = 2 := rfl
  rw [h2]
  have := y.toNat_lt
  simp [IntKind.wrap, IntKind.bits, IntKind.signed]
theorem sum_wrap2 (y : UInt64) : ((y.toNat : Int) + 2) % 18446744073709551616 = (((y + 2 : UInt64)).toNat : Int) := by
  rw [UInt64.toNat_add]
  have h2 : (2 : UInt64).toNat = 2 := rfl
  rw [h2]
  have := y.toNat_lt
  omega
theorem cells7 {E : Nat} {W : World} {a0 a1 a2 a3 a4 a5 a6 : Value} (h : Lies E 0 [a0, a1, a2, a3, a4, a5, a6] W) : W.cell? ⟨E, 0, none⟩ = some a0 ∧ W.cell? ⟨E, 1, none⟩ = some a1 ∧ W.cell? ⟨E, 2, none⟩ = some a2 ∧ W.cell? ⟨E, 3, none⟩ = some a3 ∧ W.cell? ⟨E, 4, none⟩ = some a4 ∧ W.cell? ⟨E, 5, none⟩ = some a5 ∧ W.cell? ⟨E, 6, none⟩ = some a6 := by
  have hc := fun j v (hj : ([a0, a1, a2, a3, a4, a5, a6] : List Value)[j]? = some v) => by
    have := h j v hj
    rwa [Nat.zero_add] at this
  exact ⟨hc 0 _ rfl, hc 1 _ rfl, hc 2 _ rfl, hc 3 _ rfl, hc 4 _ rfl, hc 5 _ rfl, hc 6 _ rfl⟩
end Go.Proofs.Ytepgmdgcappfpaa
