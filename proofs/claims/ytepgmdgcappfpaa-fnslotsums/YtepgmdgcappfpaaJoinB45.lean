/-
  Raw writes marked, and held to bear their marks.
-/
import Derived.Test.YtepgmdgcappfpaaRMend
import Derived.Test.YtepgmdgcappfpaaRRead2
import Derived.Test.YtepgmdgcappfpaaKeep2
import Derived.Test.YtepgmdgcappfpaaJoinB16
namespace Go.Proofs.Ytepgmdgcappfpaa
open Go.RowKit

/-- The first n raw writes of the block B bear the marks from 1 on. -/
def RMk (B n : Nat) (W : World) : Prop := ∀ i, i < n → W.cell? ⟨B, i * 3, none⟩ = some (.int .i64 ((1 + 3 * i : Nat) : Int)) ∧ W.cell? ⟨B, i * 3 + 1, none⟩ = some (.int .i64 (((1 + 3 * i : Nat) : Int) + 1)) ∧ W.cell? ⟨B, i * 3 + 2, none⟩ = some (.int .u64 (((1 + 3 * i : Nat) : Int) + 1 + 1))
theorem RMk.call {B n : Nat} {W W' : World} (h : RMk B n W) (hB : B < W.heap.size) (hb : Below W.heap.size W W') : RMk B n W' := fun i hi => by
  obtain ⟨h1, h2, h3⟩ := h i hi
  exact ⟨(hb.cell (p := ⟨B, i * 3, none⟩) hB).trans h1, (hb.cell (p := ⟨B, i * 3 + 1, none⟩) hB).trans h2, (hb.cell (p := ⟨B, i * 3 + 2, none⟩) hB).trans h3⟩
theorem RMk.set {B n o : Nat} {W : World} (h : RMk B n W) (x : Value) (ho : n * 3 ≤ o) : RMk B n (W.setCell ⟨B, o, none⟩ x) := fun i hi => by
  obtain ⟨h1, h2, h3⟩ := h i hi
  exact ⟨(set_off (by omega)).trans h1, (set_off (by omega)).trans h2, (set_off (by omega)).trans h3⟩
/-- What stands while raw writes are marked. -/
def MS (W : World) (B n j : Nat) (wr : World) : Prop := W.grownBy wr (some B) ∧ Room B 0 (n * 3) wr ∧ RMk B j wr
theorem MS.step {W wr : World} {B n j m : Nat} (h : MS W B n j wr) (hj : j < n) (hm : m = 1 + 3 * j) :
    MS W B n (j + 1) (((wr.setCell ⟨B, j * 3, none⟩ (.int .i64 (m : Int))).setCell ⟨B, j * 3 + 1, none⟩ (.int .i64 ((m : Int) + 1))).setCell ⟨B, j * 3 + 2, none⟩ (.int .u64 ((m : Int) + 1 + 1))) := by
  obtain ⟨h1, h2, h3⟩ := h
  have is := fun (V : World) (hV : Room B 0 (n * 3) V) (i : Nat) (hi : i < n * 3) => by
    have := hV.1 i hi
    rw [Nat.zero_add] at this
    exact this
  have s1 := h2.set B (j * 3) (.int .i64 (m : Int))
  have s2 := s1.set B (j * 3 + 1) (.int .i64 ((m : Int) + 1))
  have s3 := s2.set B (j * 3 + 2) (.int .u64 ((m : Int) + 1 + 1))
  refine ⟨((h1.trans2B (sc_grown wr B (j * 3) [.int .i64 (m : Int)])).trans2B (sc_grown _ B (j * 3 + 1) [.int .i64 ((m : Int) + 1)])).trans2B (sc_grown _ B (j * 3 + 2) [.int .u64 ((m : Int) + 1 + 1)]), s3, fun i hi => ?_⟩
  by_cases e : i = j
  · subst e hm
    refine ⟨?_, ?_, set_same (is _ s2 _ (by omega))⟩
    · rw [set_off (by omega), set_off (by omega), set_same (is _ h2 _ (by omega))]
    · rw [set_off (by omega), set_same (is _ s1 _ (by omega))]
  · exact (((h3.set _ (Nat.le_refl _)).set _ (by omega)).set _ (by omega)) i (by omega)
end Go.Proofs.Ytepgmdgcappfpaa

/-
  The law of RecordRead, walked.
-/
namespace Go.Proofs.Ytepgmdgcappfpaa
open Go.RowKit Go.MuLone

theorem RB.new (W : World) (a b : Int) (q : Qd) (ty : TypeId) : RB W.heap.size a b q (W.alloc (.cells #[.int .i64 a, .int .i64 b, .int .u64 ((q.a).toNat : Int), .int .u64 ((q.b).toNat : Int), .int .u64 ((q.c).toNat : Int), .int .u64 ((q.d).toNat : Int)] ty)) := by
  refine ⟨by simp, ⟨?_, ?_, ?_, ?_, ?_, ?_⟩, fun i hi => ?_⟩ <;> simp [go_sem]
end Go.Proofs.Ytepgmdgcappfpaa

/-
  Rows of raw writes of one's own, marked and held.
-/
namespace Go.Proofs.Ytepgmdgcappfpaa
open Go.RowKit Go.MuLone

/-- The slice v has n raw writes that bear the marks from 1 on. -/
def MK (v : Value) (n : Nat) (W : World) : Prop := ∃ oa cap, v = .slice oa n cap ∧ (n = 0 ∨ ∃ g, oa = some ⟨g, 0, none⟩ ∧ g < W.heap.size ∧ RMk g n W)
theorem MK.call {v : Value} {n : Nat} {W W' : World} (h : MK v n W) (hb : Below W.heap.size W W') : MK v n W' := by
  obtain ⟨oa, cap, hv, h⟩ := h
  refine ⟨oa, cap, hv, ?_⟩
  rcases h with h | ⟨g, hg, hlt, hm⟩
  · exact .inl h
  · exact .inr ⟨g, hg, Nat.lt_of_lt_of_le hlt hb.size, hm.call hlt hb⟩
theorem own_grownR {W W' : World} {base n r : Nat} {v u : Value} {xs : List Value} (h : W.ownsRow base 56 3 v n xs) (hg : W.grownBy W' u.ownBlock) (hlt : ∀ k, v.ownBlock = some k → k < r) (hge : ∀ k, u.ownBlock = some k → r ≤ k) : W'.ownsRow base 56 3 v n xs :=
  h.kept hg (by
    cases hv : v.ownBlock with
    | none => exact .inl rfl
    | some k => exact .inr (fun e => by
        have := hlt k hv
        have := hge k e.symm
        omega))
end Go.Proofs.Ytepgmdgcappfpaa

/-
  RecordRaws on both sides.
-/
namespace Go.Proofs.Ytepgmdgcappfpaa
open Go.RowKit Go.MuLone

/-- A number as a word of 64 bits. -/
def toU (n : Int) : UInt64 := UInt64.ofNat (n % 18446744073709551616).toNat
theorem toU_nat (n : Int) : ((toU n).toNat : Int) = n % 18446744073709551616 := by
  unfold toU
  rw [UInt64.toNat_ofNat']
  have h1 := Int.emod_nonneg n (show (18446744073709551616 : Int) ≠ 0 by decide)
  have h2 := Int.emod_lt_of_pos n (show (0 : Int) < 18446744073709551616 by decide)
  rw [show (2 : Nat) ^ 64 = 18446744073709551616 from rfl, Nat.mod_eq_of_lt (by omega)]
  omega
/-- The slot that is wanted. -/
def want (x : Sl) (size : Int) (root : Qd) : Sl := ⟨0, toU ((x.q.toNat : Int) + 1), toU size, root⟩
/-- The raw writes that keep a size and a root. -/
def rraws (s t : Sl) (size : Int) (root : Qd) : List Rw := kraws (if (rread s t).2 = 1 then 2 else 1) (want (rread s t).1 size root)
theorem rread_bnd (s t : Sl) : ((rread s t).1.q.toNat : Int) ≤ 1000000000 ∧ ((rread s t).2 = 0 ∨ (rread s t).2 = 1 ∨ (rread s t).2 = 2) := by
  refine ⟨?_, ?_⟩
  · have := (rst_bnd s t 2).1
    rwa [rst_is] at this
  · unfold rread
    split
    · exact .inr (.inl rfl)
    · split
      · exact .inr (.inr rfl)
      · exact .inl rfl
set_option maxRecDepth 20000 in
set_option maxHeartbeats 2000000 in
theorem playOnN_is (d : Sl × Sl) (W : World) :
    Calls Try.prog 18 #[.agg #[.int .u64 ((d.1).m.toNat : Int), .int .u64 ((d.1).q.toNat : Int), .int .u64 ((d.1).z.toNat : Int), .int .u64 ((d.1).r.a.toNat : Int), .int .u64 ((d.1).r.b.toNat : Int), .int .u64 ((d.1).r.c.toNat : Int), .int .u64 ((d.1).r.d.toNat : Int), .int .u64 ((d.2).m.toNat : Int), .int .u64 ((d.2).q.toNat : Int), .int .u64 ((d.2).z.toNat : Int), .int .u64 ((d.2).r.a.toNat : Int), .int .u64 ((d.2).r.b.toNat : Int), .int .u64 ((d.2).r.c.toNat : Int), .int .u64 ((d.2).r.d.toNat : Int)]] W fun e w' => ∃ B, e = .returned (.pointer (some ⟨B, 0, none⟩)) ∧ PK B d (.slice none 0 0) w' ∧ Below W.heap.size W w' ∧ W.heap.size ≤ B := by
  have cl := fun V : World => layers_is V
  have hD0 := DK.new W d 29
  go_enter Try.func18, Try.ntmps18
  go_wp2_with fail
  obtain ⟨⟨l0, a0, a1, a2, a3, a4, a5, a6⟩, ⟨b0, b1, b2, b3, b4, b5, b6⟩, -⟩ := id hD0
  go_region_with (go_at_call 34; refine (cl _).mono ?_; rintro e w1 ⟨rfl, hb1⟩; have hD1 := (hD0.call ((Below.refl _ _).drew)).call hb1; obtain ⟨⟨k0, c0, c1, c2, c3, c4, c5, c6⟩, ⟨e0, e1, e2, e3, e4, e5, e6⟩, -⟩ := id hD1; clear hD1)
  all_goals (go_wp2_with fail)
  all_goals go_ret
  all_goals (refine ⟨w1.heap.size, rfl, ⟨by simp, Lies.new w1 (pcs d (.slice none 0 0)) 53, Room.new w1 (pcs d (.slice none 0 0)).toArray 53 22 rfl⟩, ?_, ?_⟩)
  all_goals (have hz1 := hb1.size; simp only [World.size_drew, World.size_alloc] at hz1)
  all_goals first
    | omega
    | exact Below.alloc (below_after (((Below.refl _ W).alloc (Nat.le_refl _) _).drew) hb1 (by simp)) (by omega) _
set_option maxRecDepth 20000 in
theorem agg_dig : AggTy 25 4 := ⟨⟨_, Try.underlying25, rfl⟩, by kernel_rfl⟩
end Go.Proofs.Ytepgmdgcappfpaa
