/-
  Each of these writes one word of a slot.
-/
import Derived.Test.YtepgmdgcappfpaaDWs3
import Derived.Test.YtepgmdgcappfpaaCopy57
import Derived.Deep.RegionWith
import Derived.Deep.RegionHeld3
import Derived.Deep.AppendLies
namespace Go.Proofs.Ytepgmdgcappfpaa
open Go.RowKit

set_option maxRecDepth 20000 in
set_option maxHeartbeats 1000000 in
theorem lay0_is (B o : Nat) (x : UInt64) (W : World) (u : Value) (hc : W.cell? ⟨B, o + 0, none⟩ = some u) (hf : W.frozen? ⟨B, o + 0, none⟩ = false) :
    Calls Try.prog 47 #[.pointer (some ⟨B, o, none⟩), .int .u64 ((x).toNat : Int)] W fun e w' => e = .returned (.tuple #[]) ∧ W.setCell ⟨B, o + 0, none⟩ (.int .u64 ((x).toNat : Int)) = w' := by
  simp only [Nat.add_zero] at hc hf ⊢
  go_enter Try.func47, Try.ntmps47
  go_wp2
  go_end0
  exact ⟨rfl, rfl⟩
set_option maxRecDepth 20000 in
set_option maxHeartbeats 1000000 in
theorem lay1_is (B o : Nat) (x : UInt64) (W : World) (u : Value) (hc : W.cell? ⟨B, o + 1, none⟩ = some u) (hf : W.frozen? ⟨B, o + 1, none⟩ = false) :
    Calls Try.prog 48 #[.pointer (some ⟨B, o, none⟩), .int .u64 ((x).toNat : Int)] W fun e w' => e = .returned (.tuple #[]) ∧ W.setCell ⟨B, o + 1, none⟩ (.int .u64 ((x).toNat : Int)) = w' := by
  skip
  go_enter Try.func48, Try.ntmps48
  go_wp2
  go_end0
  exact ⟨rfl, rfl⟩
set_option maxRecDepth 20000 in
set_option maxHeartbeats 1000000 in
theorem lay2_is (B o : Nat) (x : UInt64) (W : World) (u : Value) (hc : W.cell? ⟨B, o + 2, none⟩ = some u) (hf : W.frozen? ⟨B, o + 2, none⟩ = false) :
    Calls Try.prog 49 #[.pointer (some ⟨B, o, none⟩), .int .u64 ((x).toNat : Int)] W fun e w' => e = .returned (.tuple #[]) ∧ W.setCell ⟨B, o + 2, none⟩ (.int .u64 ((x).toNat : Int)) = w' := by
  skip
  go_enter Try.func49, Try.ntmps49
  go_wp2
  go_end0
  exact ⟨rfl, rfl⟩
set_option maxRecDepth 20000 in
set_option maxHeartbeats 1000000 in
theorem lay3_is (B o : Nat) (x : UInt64) (W : World) (u : Value) (hc : W.cell? ⟨B, o + 3, none⟩ = some u) (hf : W.frozen? ⟨B, o + 3, none⟩ = false) :
    Calls Try.prog 50 #[.pointer (some ⟨B, o, none⟩), .int .u64 ((x).toNat : Int)] W fun e w' => e = .returned (.tuple #[]) ∧ W.setCell ⟨B, o + 3, none⟩ (.int .u64 ((x).toNat : Int)) = w' := by
  skip
  go_enter Try.func50, Try.ntmps50
  go_wp2
  go_end0
  exact ⟨rfl, rfl⟩
set_option maxRecDepth 20000 in
set_option maxHeartbeats 1000000 in
theorem lay4_is (B o : Nat) (x : UInt64) (W : World) (u : Value) (hc : W.cell? ⟨B, o + 4, none⟩ = some u) (hf : W.frozen? ⟨B, o + 4, none⟩ = false) :
    Calls Try.prog 51 #[.pointer (some ⟨B, o, none⟩), .int .u64 ((x).toNat : Int)] W fun e w' => e = .returned (.tuple #[]) ∧ W.setCell ⟨B, o + 4, none⟩ (.int .u64 ((x).toNat : Int)) = w' := by
  skip
  go_enter Try.func51, Try.ntmps51
  go_wp2
  go_end0
  exact ⟨rfl, rfl⟩
set_option maxRecDepth 20000 in
set_option maxHeartbeats 1000000 in
theorem lay5_is (B o : Nat) (x : UInt64) (W : World) (u : Value) (hc : W.cell? ⟨B, o + 5, none⟩ = some u) (hf : W.frozen? ⟨B, o + 5, none⟩ = false) :
    Calls Try.prog 52 #[.pointer (some ⟨B, o, none⟩), .int .u64 ((x).toNat : Int)] W fun e w' => e = .returned (.tuple #[]) ∧ W.setCell ⟨B, o + 5, none⟩ (.int .u64 ((x).toNat : Int)) = w' := by
  skip
  go_enter Try.func52, Try.ntmps52
  go_wp2
  go_end0
  exact ⟨rfl, rfl⟩
set_option maxRecDepth 20000 in
set_option maxHeartbeats 1000000 in
theorem lay6_is (B o : Nat) (x : UInt64) (W : World) (u : Value) (hc : W.cell? ⟨B, o + 6, none⟩ = some u) (hf : W.frozen? ⟨B, o + 6, none⟩ = false) :
    Calls Try.prog 53 #[.pointer (some ⟨B, o, none⟩), .int .u64 ((x).toNat : Int)] W fun e w' => e = .returned (.tuple #[]) ∧ W.setCell ⟨B, o + 6, none⟩ (.int .u64 ((x).toNat : Int)) = w' := by
  skip
  go_enter Try.func53, Try.ntmps53
  go_wp2
  go_end0
  exact ⟨rfl, rfl⟩
set_option maxRecDepth 20000 in
set_option maxHeartbeats 1000000 in
theorem pslot_is (B : Nat) (n : Int) (W : World) :
    Calls Try.prog 35 #[.pointer (some ⟨B, 0, none⟩), .int .i64 n] W fun e w' => e = .returned (.pointer (if n = 1 then some ⟨B, 0, none⟩ else if n = 2 then some ⟨B, 7, none⟩ else none)) ∧ W = w' := by
  by_cases h1 : n = 1
  · rw [if_pos h1]
    subst h1
    go_enter Try.func35, Try.ntmps35
    go_wp2
    go_ret
    exact ⟨rfl, rfl⟩
  rw [if_neg h1]
  have g1 : (n == 1) = false := beq_eq_false_iff_ne.2 h1
  by_cases h2 : n = 2
  · rw [if_pos h2]
    subst h2
    go_enter Try.func35, Try.ntmps35
    go_wp2
    go_ret
    exact ⟨rfl, rfl⟩
  rw [if_neg h2]
  have g2 : (n == 2) = false := beq_eq_false_iff_ne.2 h2
  go_enter Try.func35, Try.ntmps35
  go_wp2
  go_ret
  exact ⟨rfl, rfl⟩
set_option maxRecDepth 20000 in
theorem agg_lays : AggTy 51 7 := ⟨⟨_, Try.underlying51, rfl⟩, by kernel_rfl⟩
set_option maxRecDepth 20000 in
set_option maxHeartbeats 1000000 in
theorem layers_is (W : World) :
    Calls Try.prog 34 #[] W fun e w' => e = .returned (.agg #[Value.func (.func 47) #[] #[], Value.func (.func 48) #[] #[], Value.func (.func 49) #[] #[], Value.func (.func 50) #[] #[], Value.func (.func 51) #[] #[], Value.func (.func 52) #[] #[], Value.func (.func 53) #[] #[]]) ∧ Below W.heap.size W w' := by
  go_enter Try.func34, Try.ntmps34
  have HR := Room.new W #[Value.nilFunc, Value.nilFunc, Value.nilFunc, Value.nilFunc, Value.nilFunc, Value.nilFunc, Value.nilFunc] 51 7 rfl
  go_wp2_with (first
    | (with_reducible refine wpl_build #[Value.func (.func 47) #[] #[], Value.func (.func 48) #[] #[], Value.func (.func 49) #[] #[], Value.func (.func 50) #[] #[], Value.func (.func 51) #[] #[], Value.func (.func 52) #[] #[], Value.func (.func 53) #[] #[]] (by kernel_rfl) ?_)
    | (with_reducible refine wpl_store agg_lays W.heap.size 0 [Value.func (.func 47) #[] #[], Value.func (.func 48) #[] #[], Value.func (.func 49) #[] #[], Value.func (.func 50) #[] #[], Value.func (.func 51) #[] #[], Value.func (.func 52) #[] #[], Value.func (.func 53) #[] #[]] (by kernel_rfl) (by kernel_rfl) (by kernel_rfl) (by kernel_rfl) HR ?_; have HL := Lies.sc (vs := [Value.func (.func 47) #[] #[], Value.func (.func 48) #[] #[], Value.func (.func 49) #[] #[], Value.func (.func 50) #[] #[], Value.func (.func 51) #[] #[], Value.func (.func 52) #[] #[], Value.func (.func 53) #[] #[]]) (by kernel_rfl) HR; have HB := Below.sc (B := W.heap.size) (a := W) W.heap.size (Nat.le_refl _) [Value.func (.func 47) #[] #[], Value.func (.func 48) #[] #[], Value.func (.func 49) #[] #[], Value.func (.func 50) #[] #[], Value.func (.func 51) #[] #[], Value.func (.func 52) #[] #[], Value.func (.func 53) #[] #[]] 0 _ ((Below.refl _ W).alloc (Nat.le_refl _) (.cells #[Value.nilFunc, Value.nilFunc, Value.nilFunc, Value.nilFunc, Value.nilFunc, Value.nilFunc, Value.nilFunc] 51)); generalize (W.alloc (.cells #[Value.nilFunc, Value.nilFunc, Value.nilFunc, Value.nilFunc, Value.nilFunc, Value.nilFunc, Value.nilFunc] 51)).setCells W.heap.size 0 [Value.func (.func 47) #[] #[], Value.func (.func 48) #[] #[], Value.func (.func 49) #[] #[], Value.func (.func 50) #[] #[], Value.func (.func 51) #[] #[], Value.func (.func 52) #[] #[], Value.func (.func 53) #[] #[]] = wz at HL HB ⊢))
  exact bodyPost_ret (v := .agg #[Value.func (.func 47) #[] #[], Value.func (.func 48) #[] #[], Value.func (.func 49) #[] #[], Value.func (.func 50) #[] #[], Value.func (.func 51) #[] #[], Value.func (.func 52) #[] #[], Value.func (.func 53) #[] #[]]) (res_cells agg_lays Try.results34 _ _ W.heap.size 0 [Value.func (.func 47) #[] #[], Value.func (.func 48) #[] #[], Value.func (.func 49) #[] #[], Value.func (.func 50) #[] #[], Value.func (.func 51) #[] #[], Value.func (.func 52) #[] #[], Value.func (.func 53) #[] #[]] (by kernel_rfl) (by kernel_rfl) HL) rfl ⟨rfl, HB⟩
end Go.Proofs.Ytepgmdgcappfpaa

/-
  A play: a disk that raw writes are done to, its table of writers, and what was done.
-/
namespace Go.Proofs.Ytepgmdgcappfpaa
open Go.RowKit

def rc (l : Rw) : List Value := [.int .i64 l.f, .int .i64 l.t, .int .u64 (l.s.toNat : Int)]
def rcs (L : List Rw) : List Value := L.flatMap rc
theorem rcs_append (L M : List Rw) : rcs (L ++ M) = rcs L ++ rcs M := by unfold rcs; rw [List.flatMap_append]
theorem rcs_len (L : List Rw) : (rcs L).length = L.length * 3 := by
  induction L with
  | nil => rfl
  | cons l r ih =>
    have e : rcs (l :: r) = rc l ++ rcs r := rfl
    rw [e, List.length_append, ih]
    simp [rc]
    omega
/-- The cells of a play. -/
def pcs (d : Sl × Sl) (v : Value) : List Value := [.int .u64 ((d.1).m.toNat : Int), .int .u64 ((d.1).q.toNat : Int), .int .u64 ((d.1).z.toNat : Int), .int .u64 ((d.1).r.a.toNat : Int), .int .u64 ((d.1).r.b.toNat : Int), .int .u64 ((d.1).r.c.toNat : Int), .int .u64 ((d.1).r.d.toNat : Int), .int .u64 ((d.2).m.toNat : Int), .int .u64 ((d.2).q.toNat : Int), .int .u64 ((d.2).z.toNat : Int), .int .u64 ((d.2).r.a.toNat : Int), .int .u64 ((d.2).r.b.toNat : Int), .int .u64 ((d.2).r.c.toNat : Int), .int .u64 ((d.2).r.d.toNat : Int), Value.func (.func 47) #[] #[], Value.func (.func 48) #[] #[], Value.func (.func 49) #[] #[], Value.func (.func 50) #[] #[], Value.func (.func 51) #[] #[], Value.func (.func 52) #[] #[], Value.func (.func 53) #[] #[], v]
/-- The block B is a play on the disk d; what was done is the slice v. -/
def PK (B : Nat) (d : Sl × Sl) (v : Value) (W : World) : Prop := B < W.heap.size ∧ Lies B 0 (pcs d v) W ∧ Room B 0 22 W
theorem PK.call {B : Nat} {d : Sl × Sl} {v : Value} {W W' : World} (h : PK B d v W) (hb : Below W.heap.size W W') : PK B d v W' :=
  ⟨Nat.lt_of_lt_of_le h.1 hb.size, h.2.1.call hb h.1, h.2.2.call hb h.1⟩
theorem PK.grown {B : Nat} {d : Sl × Sl} {v : Value} {W W' : World} {row : Option Nat} (h : PK B d v W) (hg : W.grownBy W' row) (hr : row ≠ some B) : PK B d v W' :=
  ⟨Nat.lt_of_lt_of_le h.1 hg.size, h.2.1.grown hg h.1 hr, h.2.2.grown hg h.1 hr⟩
theorem PK.done {B : Nat} {d : Sl × Sl} {v : Value} {W : World} (h : PK B d v W) (u : Value) : PK B d u (W.setCell ⟨B, 21, none⟩ u) :=
  ⟨by simp only [World.size_setCell]; exact h.1, by
    have := h.2.1.set 21 (by exact (by decide : 21 < 22)) u
    rwa [show (pcs d v).set 21 u = pcs d u from rfl, Nat.zero_add] at this, h.2.2.set B 21 u⟩
theorem PK.cell {B : Nat} {d : Sl × Sl} {v : Value} {W : World} (h : PK B d v W) (i : Nat) (x : Value) (hi : (pcs d v)[i]? = some x) : W.cell? ⟨B, i, none⟩ = some x := by
  have := h.2.1 i x hi
  rwa [Nat.zero_add] at this
theorem PK.free {B : Nat} {d : Sl × Sl} {v : Value} {W : World} (h : PK B d v W) (i : Nat) (hi : i < 22) : W.frozen? ⟨B, i, none⟩ = false := by
  have := h.2.2.2 i hi
  rwa [Nat.zero_add] at this
theorem PK.put1 {B : Nat} {d : Sl × Sl} {v : Value} {W : World} (h : PK B d v W) (j : Nat) (hj : j < 7) (x : UInt64) : PK B ((sput d.1 j x, d.2)) v (W.setCell ⟨B, 0 + j, none⟩ (.int .u64 ((x).toNat : Int))) := by
  refine ⟨by simp only [World.size_setCell]; exact h.1, ?_, h.2.2.set B _ _⟩
  have hz : 0 + (0 + j) = 0 + j := by omega
  have := h.2.1.set (0 + j) (by show 0 + j < 22; omega) (.int .u64 ((x).toNat : Int))
  rw [hz] at this
  have e : (pcs d v).set (0 + j) (.int .u64 ((x).toNat : Int)) = pcs ((sput d.1 j x, d.2)) v := by
    obtain rfl | rfl | rfl | rfl | rfl | rfl | rfl : j = 0 ∨ j = 1 ∨ j = 2 ∨ j = 3 ∨ j = 4 ∨ j = 5 ∨ j = 6 := by omega
    all_goals rfl
  rwa [e] at this
theorem PK.put2 {B : Nat} {d : Sl × Sl} {v : Value} {W : World} (h : PK B d v W) (j : Nat) (hj : j < 7) (x : UInt64) : PK B ((d.1, sput d.2 j x)) v (W.setCell ⟨B, 7 + j, none⟩ (.int .u64 ((x).toNat : Int))) := by
  refine ⟨by simp only [World.size_setCell]; exact h.1, ?_, h.2.2.set B _ _⟩
  have hz : 0 + (7 + j) = 7 + j := by omega
  have := h.2.1.set (7 + j) (by show 7 + j < 22; omega) (.int .u64 ((x).toNat : Int))
  rw [hz] at this
  have e : (pcs d v).set (7 + j) (.int .u64 ((x).toNat : Int)) = pcs ((d.1, sput d.2 j x)) v := by
    obtain rfl | rfl | rfl | rfl | rfl | rfl | rfl : j = 0 ∨ j = 1 ∨ j = 2 ∨ j = 3 ∨ j = 4 ∨ j = 5 ∨ j = 6 := by omega
    all_goals rfl
  rwa [e] at this
/-- The block B is a play on the disk d in which the raw writes L were done. -/
def PLY (B : Nat) (d : Sl × Sl) (L : List Rw) (W : World) : Prop := ∃ v, PK B d v W ∧ W.ownsRow (B + 1) 56 3 v L.length (rcs L)
theorem own_callR {W W' : World} {base n : Nat} {v : Value} {xs : List Value} (h : W.ownsRow base 56 3 v n xs) (hb : Below W.heap.size W W') : W'.ownsRow base 56 3 v n xs :=
  h.kept (w' := W') (row := none) ⟨hb.os, hb.tape, hb.output, hb.size, fun k hk _ => hb.block k hk⟩ (by
    cases hv : v.ownBlock with
    | none => exact .inl rfl
    | some k => exact .inr (fun e => by cases e))
theorem PLY.call {B : Nat} {d : Sl × Sl} {L : List Rw} {W W' : World} (h : PLY B d L W) (hb : Below W.heap.size W W') : PLY B d L W' := by
  obtain ⟨v, h1, h2⟩ := h
  exact ⟨v, h1.call hb, own_callR h2 hb⟩
set_option maxRecDepth 20000 in
theorem agg_play : AggTy 53 22 := ⟨⟨_, Try.underlying53, rfl⟩, by kernel_rfl⟩
set_option maxRecDepth 20000 in
set_option maxHeartbeats 2000000 in
theorem playOn_is (d : Sl × Sl) (W : World) :
    Calls Try.prog 18 #[.agg #[.int .u64 ((d.1).m.toNat : Int), .int .u64 ((d.1).q.toNat : Int), .int .u64 ((d.1).z.toNat : Int), .int .u64 ((d.1).r.a.toNat : Int), .int .u64 ((d.1).r.b.toNat : Int), .int .u64 ((d.1).r.c.toNat : Int), .int .u64 ((d.1).r.d.toNat : Int), .int .u64 ((d.2).m.toNat : Int), .int .u64 ((d.2).q.toNat : Int), .int .u64 ((d.2).z.toNat : Int), .int .u64 ((d.2).r.a.toNat : Int), .int .u64 ((d.2).r.b.toNat : Int), .int .u64 ((d.2).r.c.toNat : Int), .int .u64 ((d.2).r.d.toNat : Int)]] W fun e w' => ∃ B, e = .returned (.pointer (some ⟨B, 0, none⟩)) ∧ PLY B d [] w' ∧ Below W.heap.size W w' ∧ W.heap.size ≤ B := by
  have cl := fun V : World => layers_is V
  have hD0 := DK.new W d 29
  go_enter Try.func18, Try.ntmps18
  go_wp2_with fail
  obtain ⟨⟨l0, a0, a1, a2, a3, a4, a5, a6⟩, ⟨b0, b1, b2, b3, b4, b5, b6⟩, -⟩ := id hD0
  go_region_with (go_at_call 34; refine (cl _).mono ?_; rintro e w1 ⟨rfl, hb1⟩; have hD1 := (hD0.call ((Below.refl _ _).drew)).call hb1; obtain ⟨⟨k0, c0, c1, c2, c3, c4, c5, c6⟩, ⟨e0, e1, e2, e3, e4, e5, e6⟩, -⟩ := id hD1; clear hD1)
  all_goals (go_wp2_with fail)
  all_goals go_ret
  all_goals (refine ⟨w1.heap.size, rfl, ⟨.slice none 0 0, ⟨by simp, Lies.new w1 (pcs d (.slice none 0 0)) 53, Room.new w1 (pcs d (.slice none 0 0)).toArray 53 22 rfl⟩, World.ownsRow_nil _ _ _ _⟩, ?_, ?_⟩)
  all_goals (have hz1 := hb1.size; simp only [World.size_drew, World.size_alloc] at hz1)
  all_goals first
    | omega
    | exact Below.alloc (below_after (((Below.refl _ W).alloc (Nat.le_refl _) _).drew) hb1 (by simp)) (by omega) _
end Go.Proofs.Ytepgmdgcappfpaa
