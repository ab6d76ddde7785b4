/-
  Raw writes: a row of three numbers each, copied and compared.
-/
import Derived.Test.YtepgmdgcappfpaaJoinB14
import Derived.Test.YtepgmdgcappfpaaJoinB1
import Derived.Deep.RegionHeld
import Derived.Test.YtepgmdgcappfpaaJoinB13
namespace Go.Proofs.Ytepgmdgcappfpaa
open Go.RowKit

structure Rw where
  f : Int
  t : Int
  s : UInt64

abbrev RAG (l : Rw) : Value := .agg #[.int .i64 l.f, .int .i64 l.t, .int .u64 (l.s.toNat : Int)]
/-- The raw write l lies at p. -/
def RAt (W : World) (p : Addr) (l : Rw) : Prop := W.cell? p = some (.int .i64 l.f) ∧ W.cell? ⟨p.block, p.off + 1, none⟩ = some (.int .i64 l.t) ∧ W.cell? ⟨p.block, p.off + 2, none⟩ = some (.int .u64 ((l.s).toNat : Int))
theorem RAt.below {W W' : World} {p : Addr} {l : Rw} {B : Nat} (h : RAt W p l) (hb : Below B W W') (hp : p.block < B) : RAt W' p l :=
  ⟨(hb.cell hp).trans h.1, (hb.cell (p := ⟨p.block, p.off + 1, none⟩) hp).trans h.2.1, (hb.cell (p := ⟨p.block, p.off + 2, none⟩) hp).trans h.2.2⟩
/-- The slice v holds the raw writes L. -/
def Rws (W : World) (v : Value) (L : List Rw) : Prop :=
  (v = .slice none 0 0 ∧ L = []) ∨ ∃ (a : Addr) (cap : Nat), v = .slice (some a) L.length cap ∧ L.length ≤ cap ∧ cap ≤ maxLen ∧ (0 < L.length → a.block < W.heap.size) ∧ ∀ (i : Nat) (h : i < L.length), RAt W (a.add (i * 3)) L[i]
theorem Rws.below {W W' : World} {v : Value} {L : List Rw} {B : Nat} (h : Rws W v L) (hb : Below B W W') (hB : W.heap.size ≤ B) : Rws W' v L := by
  rcases h with h | ⟨a, cap, hv, hl, hm, hbl, hc⟩
  · exact .inl h
  · exact .inr ⟨a, cap, hv, hl, hm, fun h0 => Nat.lt_of_lt_of_le (hbl h0) hb.size, fun i hi => (hc i hi).below hb (by rw [add_block]; have := hbl (by omega); omega)⟩
theorem Rws.call {W W' : World} {v : Value} {L : List Rw} (h : Rws W v L) (hb : Below W.heap.size W W') : Rws W' v L := h.below hb (Nat.le_refl _)
theorem Rws.len {W : World} {v : Value} {L : List Rw} (h : Rws W v L) : ∃ a cap, v = .slice a L.length cap ∧ L.length ≤ 9223372036854775807 := by
  rcases h with ⟨rfl, rfl⟩ | ⟨a, cap, rfl, hl, hm, _⟩
  · exact ⟨none, 0, rfl, by simp⟩
  · exact ⟨some a, cap, rfl, by unfold maxLen at hm; omega⟩
theorem Rws.cells {W : World} {oa : Option Addr} {n cap : Nat} {L : List Rw} (h : Rws W (.slice oa n cap) L) : ∀ k, k < L.length → ∃ a, oa = some a ∧ a.block < W.heap.size ∧ ∀ (i : Nat) (h : i < L.length), RAt W (a.add (i * 3)) L[i] := by
  intro k hk
  rcases h with ⟨_, rfl⟩ | ⟨a, cap', hv, _, _, hb, hc⟩
  · simp at hk
  · injection hv with e1 _ _
    exact ⟨a, e1, hb (by omega), hc⟩

theorem threeR_at {w : World} {B o : Nat} {l : Rw} (h : ∀ t, t < 3 → (w.cell? ⟨B, o + t, none⟩).isSome = true) :
    RAt (((w.setCell ⟨B, o, none⟩ (.int .i64 l.f)).setCell ⟨B, o + 1, none⟩ (.int .i64 l.t)).setCell ⟨B, o + 2, none⟩ (.int .u64 ((l.s).toNat : Int))) ⟨B, o, none⟩ l := by
  refine ⟨?_, ?_, ?_⟩
  · rw [set_off (by omega), set_off (by omega)]; exact set_same (h 0 (by omega))
  · show World.cell? _ ⟨B, o + 1, none⟩ = _
    rw [set_off (by omega)]; exact set_same (by rw [set_off (by omega)]; exact h 1 (by omega))
  · exact set_same (by rw [set_off (by omega), set_off (by omega)]; exact h 2 (by omega))
theorem threeR_off {w : World} {B o j : Nat} {x0 x1 x2 : Value} (h : j < o ∨ o + 3 ≤ j) :
    (((w.setCell ⟨B, o, none⟩ x0).setCell ⟨B, o + 1, none⟩ x1).setCell ⟨B, o + 2, none⟩ x2).cell? ⟨B, j, none⟩ = w.cell? ⟨B, j, none⟩ := by
  rw [set_off (by omega), set_off (by omega), set_off (by omega)]
theorem threeR_is {w : World} {B o j : Nat} {x0 x1 x2 : Value} (h : (w.cell? ⟨B, j, none⟩).isSome = true) :
    ((((w.setCell ⟨B, o, none⟩ x0).setCell ⟨B, o + 1, none⟩ x1).setCell ⟨B, o + 2, none⟩ x2).cell? ⟨B, j, none⟩).isSome = true := by
  have one : ∀ (w : World) (o : Nat) (x : Value), (w.cell? ⟨B, j, none⟩).isSome = true → ((w.setCell ⟨B, o, none⟩ x).cell? ⟨B, j, none⟩).isSome = true := fun w o x h => by
    by_cases e : o = j
    · subst e; rw [set_same h]; rfl
    · rw [set_off e]; exact h
  exact one _ _ _ (one _ _ _ (one _ _ _ h))
/-- The block B has n places for raw writes, the first k of which are those of L. -/
def RR (B n : Nat) (L : List Rw) (k : Nat) (wr : World) : Prop :=
  B < wr.heap.size ∧ (∀ i, i < n * 3 → (wr.cell? ⟨B, i, none⟩).isSome = true ∧ wr.frozen? ⟨B, i, none⟩ = false) ∧ ∀ (i : Nat) (h : i < L.length), i < k → RAt wr ⟨B, i * 3, none⟩ L[i]
theorem RR.call {B n k : Nat} {L : List Rw} {W W' : World} (h : RR B n L k W) (hb : Below W.heap.size W W') : RR B n L k W' :=
  ⟨Nat.lt_of_lt_of_le h.1 hb.size, fun i hi => ⟨by rw [hb.cell (p := ⟨B, i, none⟩) h.1]; exact (h.2.1 i hi).1, (hb.frozen (p := ⟨B, i, none⟩) h.1).trans (h.2.1 i hi).2⟩, fun i hi hk => (h.2.2 i hi hk).below hb h.1⟩
theorem RR.step {B n k : Nat} {L : List Rw} {W : World} (h : RR B n L k W) (hk : k < L.length) (hn : k < n) :
    RR B n L (k + 1) (((W.setCell ⟨B, k * 3, none⟩ (.int .i64 (L[k]).f)).setCell ⟨B, k * 3 + 1, none⟩ (.int .i64 (L[k]).t)).setCell ⟨B, k * 3 + 2, none⟩ (.int .u64 (((L[k]).s).toNat : Int))) := by
  refine ⟨by simp only [World.size_setCell]; exact h.1, fun i hi => ⟨threeR_is (h.2.1 i hi).1, by simp only [World.frozen?_setCell]; exact (h.2.1 i hi).2⟩, fun i hi hik => ?_⟩
  by_cases e : i = k
  · subst e
    exact threeR_at (fun t ht => (h.2.1 (i * 3 + t) (by omega)).1)
  · obtain ⟨d0, d1, d2⟩ := h.2.2 i hi (by omega)
    refine ⟨(threeR_off (by omega)).trans d0, ?_, ?_⟩
    · exact (threeR_off (j := i * 3 + 1) (by omega)).trans d1
    · exact (threeR_off (j := i * 3 + 2) (by omega)).trans d2
theorem RR.facts {B n k : Nat} {L : List Rw} {W : World} (h : RR B n L k W) (hn : k < n) : ∃ u0 u1 u2 : Value, (W.cell? ⟨B, k * 3, none⟩ = some u0 ∧ W.cell? ⟨B, k * 3 + 1, none⟩ = some u1 ∧ W.cell? ⟨B, k * 3 + 2, none⟩ = some u2) ∧
    W.frozen? ⟨B, k * 3, none⟩ = false ∧ W.frozen? ⟨B, k * 3 + 1, none⟩ = false ∧ W.frozen? ⟨B, k * 3 + 2, none⟩ = false := by
  obtain ⟨u0, h0⟩ := Option.isSome_iff_exists.1 (h.2.1 (k * 3) (by omega)).1
  obtain ⟨u1, h1⟩ := Option.isSome_iff_exists.1 (h.2.1 (k * 3 + 1) (by omega)).1
  obtain ⟨u2, h2⟩ := Option.isSome_iff_exists.1 (h.2.1 (k * 3 + 2) (by omega)).1
  exact ⟨u0, u1, u2, ⟨h0, h1, h2⟩, (h.2.1 _ (by omega)).2, (h.2.1 _ (by omega)).2, (h.2.1 _ (by omega)).2⟩
theorem infoRw : (Try.prog.info? 56).map (fun i => (i.zero, i.size, i.bytes)) = some (some (.agg #[.int .i64 0, .int .i64 0, .int .u64 0]), 3, 24) := by kernel_rfl

/-- What a made block holds, as a slice. -/
theorem RR.rws {B : Nat} {L : List Rw} {W : World} (h : RR B L.length L L.length W) (hl : L.length ≤ 1048576) : Rws W (.slice (some ⟨B, 0, none⟩) L.length L.length) L := by
  refine .inr ⟨⟨B, 0, none⟩, L.length, rfl, Nat.le_refl _, by unfold maxLen; omega, fun _ => h.1, fun i hi => ?_⟩
  rw [Addr.add_mid, Nat.zero_add]
  exact h.2.2 i hi hi
end Go.Proofs.Ytepgmdgcappfpaa

/-
  A word of a slot written, by the document.
-/
namespace Go.Proofs.Ytepgmdgcappfpaa
open Go.RowKit

/-- A slot with one word written. -/
def sput (s : Sl) (o : Int) (x : UInt64) : Sl :=
  if o = 0 then { s with m := x } else if o = 1 then { s with q := x } else if o = 2 then { s with z := x } else if o = 3 then { s with r := { s.r with a := x } } else if o = 4 then { s with r := { s.r with b := x } } else if o = 5 then { s with r := { s.r with c := x } } else if o = 6 then { s with r := { s.r with d := x } } else s
set_option maxRecDepth 20000 in
set_option maxHeartbeats 2000000 in
theorem put_spec (s : Sl) (o : Int) (x : UInt64) (w : World) :
    Calls Try.prog 61 #[.agg #[.int .u64 ((s).m.toNat : Int), .int .u64 ((s).q.toNat : Int), .int .u64 ((s).z.toNat : Int), .int .u64 ((s).r.a.toNat : Int), .int .u64 ((s).r.b.toNat : Int), .int .u64 ((s).r.c.toNat : Int), .int .u64 ((s).r.d.toNat : Int)], .int .i64 o, .int .u64 ((x).toNat : Int)] w fun e w' => e = .returned (.agg #[.int .u64 (((sput s o x)).m.toNat : Int), .int .u64 (((sput s o x)).q.toNat : Int), .int .u64 (((sput s o x)).z.toNat : Int), .int .u64 (((sput s o x)).r.a.toNat : Int), .int .u64 (((sput s o x)).r.b.toNat : Int), .int .u64 (((sput s o x)).r.c.toNat : Int), .int .u64 (((sput s o x)).r.d.toNat : Int)]) ∧ Below w.heap.size w w' := by
  by_cases h0 : o = 0
  · have e : sput s o x = { s with m := x } := by unfold sput; rw [if_pos h0]
    rw [e]
    subst h0
    go_enter Try.func61, Try.ntmps61
    go_wp2
    exact bodyPost_ret (v := .agg #[.int .u64 ((({ s with m := x } : Sl)).m.toNat : Int), .int .u64 ((({ s with m := x } : Sl)).q.toNat : Int), .int .u64 ((({ s with m := x } : Sl)).z.toNat : Int), .int .u64 ((({ s with m := x } : Sl)).r.a.toNat : Int), .int .u64 ((({ s with m := x } : Sl)).r.b.toNat : Int), .int .u64 ((({ s with m := x } : Sl)).r.c.toNat : Int), .int .u64 ((({ s with m := x } : Sl)).r.d.toNat : Int)]) (by simp [results, Try.results61, go_sem]) rfl ⟨rfl, (by repeat' (first | (with_reducible exact Below.refl _ _) | (with_reducible assumption) | (with_reducible refine below_drewN ?_ _) | (with_reducible refine Below.setCell ?_ ?_ _) | (with_reducible refine Below.alloc ?_ ?_ _) | (with_reducible refine Below.drew ?_) | go_size))⟩
  by_cases h1 : o = 1
  · have e : sput s o x = { s with q := x } := by unfold sput; rw [if_neg h0, if_pos h1]
    rw [e]
    subst h1
    go_enter Try.func61, Try.ntmps61
    go_wp2
    exact bodyPost_ret (v := .agg #[.int .u64 ((({ s with q := x } : Sl)).m.toNat : Int), .int .u64 ((({ s with q := x } : Sl)).q.toNat : Int), .int .u64 ((({ s with q := x } : Sl)).z.toNat : Int), .int .u64 ((({ s with q := x } : Sl)).r.a.toNat : Int), .int .u64 ((({ s with q := x } : Sl)).r.b.toNat : Int), .int .u64 ((({ s with q := x } : Sl)).r.c.toNat : Int), .int .u64 ((({ s with q := x } : Sl)).r.d.toNat : Int)]) (by simp [results, Try.results61, go_sem]) rfl ⟨rfl, (by repeat' (first | (with_reducible exact Below.refl _ _) | (with_reducible assumption) | (with_reducible refine below_drewN ?_ _) | (with_reducible refine Below.setCell ?_ ?_ _) | (with_reducible refine Below.alloc ?_ ?_ _) | (with_reducible refine Below.drew ?_) | go_size))⟩
  by_cases h2 : o = 2
  · have e : sput s o x = { s with z := x } := by unfold sput; rw [if_neg h0, if_neg h1, if_pos h2]
    rw [e]
    subst h2
    go_enter Try.func61, Try.ntmps61
    go_wp2
    exact bodyPost_ret (v := .agg #[.int .u64 ((({ s with z := x } : Sl)).m.toNat : Int), .int .u64 ((({ s with z := x } : Sl)).q.toNat : Int), .int .u64 ((({ s with z := x } : Sl)).z.toNat : Int), .int .u64 ((({ s with z := x } : Sl)).r.a.toNat : Int), .int .u64 ((({ s with z := x } : Sl)).r.b.toNat : Int), .int .u64 ((({ s with z := x } : Sl)).r.c.toNat : Int), .int .u64 ((({ s with z := x } : Sl)).r.d.toNat : Int)]) (by simp [results, Try.results61, go_sem]) rfl ⟨rfl, (by repeat' (first | (with_reducible exact Below.refl _ _) | (with_reducible assumption) | (with_reducible refine below_drewN ?_ _) | (with_reducible refine Below.setCell ?_ ?_ _) | (with_reducible refine Below.alloc ?_ ?_ _) | (with_reducible refine Below.drew ?_) | go_size))⟩
  by_cases h3 : o = 3
  · have e : sput s o x = { s with r := { s.r with a := x } } := by unfold sput; rw [if_neg h0, if_neg h1, if_neg h2, if_pos h3]
    rw [e]
    subst h3
    go_enter Try.func61, Try.ntmps61
    go_wp2
    exact bodyPost_ret (v := .agg #[.int .u64 ((({ s with r := { s.r with a := x } } : Sl)).m.toNat : Int), .int .u64 ((({ s with r := { s.r with a := x } } : Sl)).q.toNat : Int), .int .u64 ((({ s with r := { s.r with a := x } } : Sl)).z.toNat : Int), .int .u64 ((({ s with r := { s.r with a := x } } : Sl)).r.a.toNat : Int), .int .u64 ((({ s with r := { s.r with a := x } } : Sl)).r.b.toNat : Int), .int .u64 ((({ s with r := { s.r with a := x } } : Sl)).r.c.toNat : Int), .int .u64 ((({ s with r := { s.r with a := x } } : Sl)).r.d.toNat : Int)]) (by simp [results, Try.results61, go_sem]) rfl ⟨rfl, (by repeat' (first | (with_reducible exact Below.refl _ _) | (with_reducible assumption) | (with_reducible refine below_drewN ?_ _) | (with_reducible refine Below.setCell ?_ ?_ _) | (with_reducible refine Below.alloc ?_ ?_ _) | (with_reducible refine Below.drew ?_) | go_size))⟩
  by_cases h4 : o = 4
  · have e : sput s o x = { s with r := { s.r with b := x } } := by unfold sput; rw [if_neg h0, if_neg h1, if_neg h2, if_neg h3, if_pos h4]
    rw [e]
    subst h4
    go_enter Try.func61, Try.ntmps61
    go_wp2
    exact bodyPost_ret (v := .agg #[.int .u64 ((({ s with r := { s.r with b := x } } : Sl)).m.toNat : Int), .int .u64 ((({ s with r := { s.r with b := x } } : Sl)).q.toNat : Int), .int .u64 ((({ s with r := { s.r with b := x } } : Sl)).z.toNat : Int), .int .u64 ((({ s with r := { s.r with b := x } } : Sl)).r.a.toNat : Int), .int .u64 ((({ s with r := { s.r with b := x } } : Sl)).r.b.toNat : Int), .int .u64 ((({ s with r := { s.r with b := x } } : Sl)).r.c.toNat : Int), .int .u64 ((({ s with r := { s.r with b := x } } : Sl)).r.d.toNat : Int)]) (by simp [results, Try.results61, go_sem]) rfl ⟨rfl, (by repeat' (first | (with_reducible exact Below.refl _ _) | (with_reducible assumption) | (with_reducible refine below_drewN ?_ _) | (with_reducible refine Below.setCell ?_ ?_ _) | (with_reducible refine Below.alloc ?_ ?_ _) | (with_reducible refine Below.drew ?_) | go_size))⟩
  by_cases h5 : o = 5
  · have e : sput s o x = { s with r := { s.r with c := x } } := by unfold sput; rw [if_neg h0, if_neg h1, if_neg h2, if_neg h3, if_neg h4, if_pos h5]
    rw [e]
    subst h5
    go_enter Try.func61, Try.ntmps61
    go_wp2
    exact bodyPost_ret (v := .agg #[.int .u64 ((({ s with r := { s.r with c := x } } : Sl)).m.toNat : Int), .int .u64 ((({ s with r := { s.r with c := x } } : Sl)).q.toNat : Int), .int .u64 ((({ s with r := { s.r with c := x } } : Sl)).z.toNat : Int), .int .u64 ((({ s with r := { s.r with c := x } } : Sl)).r.a.toNat : Int), .int .u64 ((({ s with r := { s.r with c := x } } : Sl)).r.b.toNat : Int), .int .u64 ((({ s with r := { s.r with c := x } } : Sl)).r.c.toNat : Int), .int .u64 ((({ s with r := { s.r with c := x } } : Sl)).r.d.toNat : Int)]) (by simp [results, Try.results61, go_sem]) rfl ⟨rfl, (by repeat' (first | (with_reducible exact Below.refl _ _) | (with_reducible assumption) | (with_reducible refine below_drewN ?_ _) | (with_reducible refine Below.setCell ?_ ?_ _) | (with_reducible refine Below.alloc ?_ ?_ _) | (with_reducible refine Below.drew ?_) | go_size))⟩
  by_cases h6 : o = 6
  · have e : sput s o x = { s with r := { s.r with d := x } } := by unfold sput; rw [if_neg h0, if_neg h1, if_neg h2, if_neg h3, if_neg h4, if_neg h5, if_pos h6]
    rw [e]
    subst h6
    go_enter Try.func61, Try.ntmps61
    go_wp2
    exact bodyPost_ret (v := .agg #[.int .u64 ((({ s with r := { s.r with d := x } } : Sl)).m.toNat : Int), .int .u64 ((({ s with r := { s.r with d := x } } : Sl)).q.toNat : Int), .int .u64 ((({ s with r := { s.r with d := x } } : Sl)).z.toNat : Int), .int .u64 ((({ s with r := { s.r with d := x } } : Sl)).r.a.toNat : Int), .int .u64 ((({ s with r := { s.r with d := x } } : Sl)).r.b.toNat : Int), .int .u64 ((({ s with r := { s.r with d := x } } : Sl)).r.c.toNat : Int), .int .u64 ((({ s with r := { s.r with d := x } } : Sl)).r.d.toNat : Int)]) (by simp [results, Try.results61, go_sem]) rfl ⟨rfl, (by repeat' (first | (with_reducible exact Below.refl _ _) | (with_reducible assumption) | (with_reducible refine below_drewN ?_ _) | (with_reducible refine Below.setCell ?_ ?_ _) | (with_reducible refine Below.alloc ?_ ?_ _) | (with_reducible refine Below.drew ?_) | go_size))⟩
  · have e : sput s o x = s := by unfold sput; rw [if_neg h0, if_neg h1, if_neg h2, if_neg h3, if_neg h4, if_neg h5, if_neg h6]
    rw [e]
    have g0 : (o == 0) = false := beq_eq_false_iff_ne.2 h0
    have g1 : (o == 1) = false := beq_eq_false_iff_ne.2 h1
    have g2 : (o == 2) = false := beq_eq_false_iff_ne.2 h2
    have g3 : (o == 3) = false := beq_eq_false_iff_ne.2 h3
    have g4 : (o == 4) = false := beq_eq_false_iff_ne.2 h4
    have g5 : (o == 5) = false := beq_eq_false_iff_ne.2 h5
    have g6 : (o == 6) = false := beq_eq_false_iff_ne.2 h6
    clear h0 h1 h2 h3 h4 h5 h6 e
    go_enter Try.func61, Try.ntmps61
    go_wp2
    exact bodyPost_ret (v := .agg #[.int .u64 ((s).m.toNat : Int), .int .u64 ((s).q.toNat : Int), .int .u64 ((s).z.toNat : Int), .int .u64 ((s).r.a.toNat : Int), .int .u64 ((s).r.b.toNat : Int), .int .u64 ((s).r.c.toNat : Int), .int .u64 ((s).r.d.toNat : Int)]) (by simp [results, Try.results61, go_sem]) rfl ⟨rfl, (by repeat' (first | (with_reducible exact Below.refl _ _) | (with_reducible assumption) | (with_reducible refine below_drewN ?_ _) | (with_reducible refine Below.setCell ?_ ?_ _) | (with_reducible refine Below.alloc ?_ ?_ _) | (with_reducible refine Below.drew ?_) | go_size))⟩
end Go.Proofs.Ytepgmdgcappfpaa
