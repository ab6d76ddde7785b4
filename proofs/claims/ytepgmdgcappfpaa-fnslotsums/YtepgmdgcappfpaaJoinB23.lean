/-
  The box of a digest that a function answers with: four cells of nought, kept through calls.
-/
import Derived.Test.YtepgmdgcappfpaaJoinB2
import Derived.Test.YtepgmdgcappfpaaJoinB1
import Derived.Test.YtepgmdgcappfpaaWalks13
import Derived.Test.YtepgmdgcappfpaaRd
import Derived.Test.YtepgmdgcappfpaaJoinB3
import Derived.Deep.RegionLaw
import Derived.Maps.Range
namespace Go.Proofs.Ytepgmdgcappfpaa
open Go.RowKit

/-- The block B holds four noughts that may be written. -/
def Box (B : Nat) (W : World) : Prop := B < W.heap.size ∧ ∀ j, j < 4 → W.cell? ⟨B, j, none⟩ = some (.int .u64 0) ∧ W.frozen? ⟨B, j, none⟩ = false
theorem Box.start (w : World) : Box w.heap.size (w.alloc (.cells #[Value.int IntKind.u64 0, Value.int IntKind.u64 0, Value.int IntKind.u64 0, Value.int IntKind.u64 0] 25)) := by
  refine ⟨by simp, fun j hj => ?_⟩
  have hj' : j = 0 ∨ j = 1 ∨ j = 2 ∨ j = 3 := by omega
  rcases hj' with rfl | rfl | rfl | rfl <;> simp [go_sem]
theorem Box.call {B : Nat} {W W' : World} (h : Box B W) (hb : Below W.heap.size W W') : Box B W' :=
  ⟨Nat.lt_of_lt_of_le h.1 hb.size, fun j hj => ⟨(hb.cell h.1).trans (h.2 j hj).1, (hb.frozen h.1).trans (h.2 j hj).2⟩⟩
theorem Box.drew {B : Nat} {W : World} (h : Box B W) : Box B W.drew := h
theorem Box.alloc {B : Nat} {W : World} (h : Box B W) (o : Obj) : Box B (W.alloc o) := h.call ((Below.refl _ _).alloc (Nat.le_refl _) o)
theorem Box.facts {B : Nat} {W : World} (h : Box B W) : W.cell? ⟨B, 0, none⟩ = some (.int .u64 0) ∧ W.cell? ⟨B, 1, none⟩ = some (.int .u64 0) ∧ W.cell? ⟨B, 2, none⟩ = some (.int .u64 0) ∧ W.cell? ⟨B, 3, none⟩ = some (.int .u64 0) ∧
    W.frozen? ⟨B, 0, none⟩ = false ∧ W.frozen? ⟨B, 1, none⟩ = false ∧ W.frozen? ⟨B, 2, none⟩ = false ∧ W.frozen? ⟨B, 3, none⟩ = false :=
  ⟨(h.2 0 (by omega)).1, (h.2 1 (by omega)).1, (h.2 2 (by omega)).1, (h.2 3 (by omega)).1, (h.2 0 (by omega)).2, (h.2 1 (by omega)).2, (h.2 2 (by omega)).2, (h.2 3 (by omega)).2⟩
/-- The block B holds the digest q. -/
def Dig (B : Nat) (q : Qd) (W : World) : Prop := B < W.heap.size ∧ W.cell? ⟨B, 0, none⟩ = some (Value.int IntKind.u64 ((q.a).toNat : Int)) ∧ W.cell? ⟨B, 1, none⟩ = some (Value.int IntKind.u64 ((q.b).toNat : Int)) ∧ W.cell? ⟨B, 2, none⟩ = some (Value.int IntKind.u64 ((q.c).toNat : Int)) ∧ W.cell? ⟨B, 3, none⟩ = some (Value.int IntKind.u64 ((q.d).toNat : Int))
theorem Dig.new (w : World) (q : Qd) : Dig w.heap.size q (w.alloc (.cells #[Value.int IntKind.u64 ((q).a.toNat : Int), Value.int IntKind.u64 ((q).b.toNat : Int), Value.int IntKind.u64 ((q).c.toNat : Int), Value.int IntKind.u64 ((q).d.toNat : Int)] 25)) := by
  refine ⟨by simp, ?_, ?_, ?_, ?_⟩ <;> simp [go_sem]
theorem Dig.call {B : Nat} {q : Qd} {W W' : World} (h : Dig B q W) (hb : Below W.heap.size W W') : Dig B q W' := by
  obtain ⟨h0, h1, h2, h3, h4⟩ := h
  exact ⟨Nat.lt_of_lt_of_le h0 hb.size, (hb.cell h0).trans h1, (hb.cell h0).trans h2, (hb.cell h0).trans h3, (hb.cell h0).trans h4⟩
theorem Dig.alloc {B : Nat} {q : Qd} {W : World} (h : Dig B q W) (o : Obj) : Dig B q (W.alloc o) := h.call ((Below.refl _ _).alloc (Nat.le_refl _) o)
theorem Dig.drew {B : Nat} {q : Qd} {W : World} (h : Dig B q W) : Dig B q W.drew := h
end Go.Proofs.Ytepgmdgcappfpaa

/-
  The reader of a code: opened; texts, words and digests that it draws: walked.
-/
namespace Go.Proofs.Ytepgmdgcappfpaa
open Go.RowKit

/-- The slice v holds the bytes L. -/
def Byt (W : World) (v : Value) (L : List UInt8) : Prop :=
  (v = .slice none 0 0 ∧ L = []) ∨ ∃ (a : Addr) (cap : Nat), v = .slice (some a) L.length cap ∧ L.length ≤ cap ∧ cap ≤ maxLen ∧ (0 < L.length → a.block < W.heap.size) ∧ ∀ (i : Nat) (h : i < L.length), W.cell? (a.add i) = some (.int .u8 (L[i].toNat : Int))
theorem Byt.call {W W' : World} {v : Value} {L : List UInt8} (h : Byt W v L) (hb : Below W.heap.size W W') : Byt W' v L := by
  rcases h with h | ⟨a, cap, hv, hl, hm, hbl, hc⟩
  · exact .inl h
  · refine .inr ⟨a, cap, hv, hl, hm, fun h0 => Nat.lt_of_lt_of_le (hbl h0) hb.size, fun i hi => ?_⟩
    rw [hb.cell (p := a.add i) (by rw [add_block']; exact hbl (by omega))]
    exact hc i hi
theorem rd_new (W : World) (v : Value) (L : List UInt8) (h2 : L.length ≤ 2000) (h : Byt W v L) : RdAt W.heap.size v L 0 (W.alloc (.cells #[v, .int .i64 0] 68)) := by
  refine ⟨by simp, by simp [go_sem], by simp [go_sem], by simp [go_sem], h2, ?_⟩
  rcases h with ⟨rfl, rfl⟩ | ⟨a, cap, rfl, hl, hm, hbl, hc⟩
  · exact .inl ⟨none, 0, rfl, rfl⟩
  · by_cases h0 : L.length = 0
    · exact .inl ⟨some a, cap, by rw [h0], List.length_eq_zero_iff.1 h0⟩
    · exact .inr ⟨a, cap, rfl, by omega, hbl (by omega), fun i hi => c_alloc (hc i hi)⟩

set_option maxRecDepth 20000 in
set_option maxHeartbeats 1000000 in
theorem open_is (W : World) (v : Value) (L : List UInt8) (h : Byt W v L) :
    Calls Try.prog 16 #[v] W fun e w' => ∃ (v' : Value) (L' : List UInt8), e = .returned (.pointer (some ⟨W.heap.size, 0, none⟩)) ∧ RdAt W.heap.size v' L' 0 w' ∧ Below W.heap.size W w' := by
  by_cases hbig : 2000 < L.length
  · rcases h with ⟨_, rfl⟩ | ⟨a, cap, rfl, hl, hm, hbl, hc⟩
    · simp at hbig
    have hbI : (2000 : Int) < (L.length : Int) := by omega
    have hcI : (2000 : Int) ≤ (cap : Int) := by omega
    have e : (L.take 2000).length = 2000 := by rw [List.length_take]; omega
    have HR : Hid (RdAt W.heap.size (.slice (some a) 2000 cap) (L.take 2000) 0 (W.alloc (.cells #[.slice (some a) 2000 cap, .int .i64 0] 68))) := rd_new W _ (L.take 2000) (by omega) (.inr ⟨a, cap, by rw [e], by omega, hm, fun _ => hbl (by omega), fun i hi => by rw [hc i (by omega)]; simp⟩)
    clear hc hbl e
    go_enter Try.func16, Try.ntmps16
    go_wp2_with fail
    go_ret
    exact ⟨_, _, rfl, HR.out, (Below.refl _ _).alloc (Nat.le_refl _) _⟩
  · have HR : Hid (RdAt W.heap.size v L 0 (W.alloc (.cells #[v, .int .i64 0] 68))) := rd_new W v L (by omega) h
    obtain ⟨a, cap, rfl⟩ : ∃ a cap, v = .slice a L.length cap := by
      rcases h with ⟨rfl, rfl⟩ | ⟨a, cap, rfl, _⟩
      · exact ⟨none, 0, rfl⟩
      · exact ⟨some a, cap, rfl⟩
    have hbI : ¬ (2000 : Int) < (L.length : Int) := by omega
    clear h
    go_enter Try.func16, Try.ntmps16
    go_wp2_with fail
    go_ret
    first
      | exact ⟨_, _, rfl, HR.out, (Below.refl _ _).alloc (Nat.le_refl _) _⟩
      | exact ⟨rfl, ⟨_, _, HR.out⟩, (Below.refl _ _).alloc (Nat.le_refl _) _⟩

theorem own_far {w w' : World} {base e size n B : Nat} {v : Value} {xs : List Value} (h : w.ownsRow base e size v n xs) (g : w.grownBy w' (some B)) (hB : B < base) : w'.ownsRow base e size v n xs := by
  obtain ⟨h0, h⟩ := h
  refine ⟨h0, ?_⟩
  rcases h with h | ⟨k, cap, cur, hv, hb, hg, hn, hc, hs, ht⟩
  · exact .inl h
  · exact .inr ⟨k, cap, cur, hv, hb, (g.block k (Array.getElem?_eq_some_iff.1 hg).1 (fun e => by have e2 : k = B := (by simpa using e); omega)).trans hg, hn, hc, hs, ht⟩

theorem RdAt.far {B : Nat} {v : Value} {L : List UInt8} {p : Nat} {W W' : World} {row : Option Nat} (h : RdAt B v L p W) (g : W.grownBy W' row) (hr : ∀ k, row = some k → B < k) : RdAt B v L p W' := by
  have ne : ∀ b, b ≤ B → some b ≠ row := fun b hb e => by have := hr b e.symm; omega
  obtain ⟨h0, h1, h2, h3, h4, h5⟩ := h
  refine ⟨Nat.lt_of_lt_of_le h0 g.size, g.cell h1 (ne B (Nat.le_refl _)), g.cell h2 (ne B (Nat.le_refl _)), (g.frozen_far _ h0 (ne B (Nat.le_refl _))).trans h3, h4, ?_⟩
  rcases h5 with h5 | ⟨a, cap, hv, hl, hb, hc⟩
  · exact .inl h5
  · exact .inr ⟨a, cap, hv, hl, hb, fun i hi => g.cell (hc i hi) (by rw [add_block']; exact ne a.block (by omega))⟩

theorem u64_of_nat (r : Nat) (h : r < 18446744073709551616) : Ending.returned (Value.int IntKind.u64 (r : Int)) = Ending.returned (Value.int IntKind.u64 ((UInt64.ofNat r).toNat : Int)) := by
  rw [UInt64.toNat_ofNat', Nat.mod_eq_of_lt h]
theorem xor_max (r : Nat) (h : r < 18446744073709551616) : bits .xor .u64 IntKind.u64.max (r : Int) = ((18446744073709551615 ^^^ r : Nat) : Int) ∧ (18446744073709551615 ^^^ r) < 18446744073709551616 := by
  have e : IntKind.u64.max = ((18446744073709551615 : Nat) : Int) := by decide
  rw [e]
  exact ⟨u64_xor_nat _ _ (by omega) h, Nat.xor_lt_two_pow (n := 64) (by omega) (by omega)⟩

set_option maxRecDepth 20000 in
set_option maxHeartbeats 1000000 in
theorem word_is (B : Nat) (v : Value) (L : List UInt8) (p : Nat) (W : World) (h : RdAt B v L p W) (hp8 : p ≤ 900000) :
    Calls Try.prog 38 #[.pointer (some ⟨B, 0, none⟩)] W fun e w' => ∃ (x : UInt64) (p' : Nat), p' ≤ p + 9 ∧ e = .returned (.int .u64 ((x).toNat : Int)) ∧ RdAt B v L p' w' ∧ W.grownBy w' (some B) := by
  have c1 := pick_is B v L p _ h (by omega) 6 (by omega) (by omega)
  have c3 := fun (W' : World) (hr : RdAt B v L (p + 1) W') => pick_is B v L (p + 1) W' hr (by omega) 3 (by omega) (by omega)
  have cp := fun (W' : World) (q : Nat) (hr : RdAt B v L q W') (hq : q ≤ 1000000) => pick_is B v L q W' hr hq 256 (by omega) (by omega)
  clear h
  go_enter Try.func38, Try.ntmps38
  go_wp2_with (first
    | (go_at_call_of 30 (6 : Int); refine c1.mono ?_; rintro e w1 ⟨r, hr, rfl, hR1, hg1⟩; have c3' := c3 _ hR1)
    | (go_at_call_of 30 (3 : Int); refine c3'.mono ?_; rintro e w2 ⟨r2, hr2, rfl, hR2, hg2⟩))
  · have HE : Hid (Ending.returned (Value.int IntKind.u64 (r2 : Int)) = Ending.returned (Value.int IntKind.u64 ((UInt64.ofNat r2).toNat : Int))) := u64_of_nat r2 (by omega)
    go_ret
    exact ⟨UInt64.ofNat r2, p + 1 + 1, by omega, HE.out, hR2, hg1.trans hg2⟩
  · obtain ⟨e1, e2⟩ := xor_max r2 (by omega)
    have HE : Hid (Ending.returned (Value.int IntKind.u64 (bits .xor .u64 IntKind.u64.max (r2 : Int))) = Ending.returned (Value.int IntKind.u64 ((UInt64.ofNat (18446744073709551615 ^^^ r2)).toNat : Int))) := by
      show _ = _
      rw [e1]
      exact u64_of_nat _ e2
    clear e1 e2
    go_ret
    exact ⟨UInt64.ofNat (18446744073709551615 ^^^ r2), p + 1 + 1, by omega, HE.out, hR2, hg1.trans hg2⟩
  · have e0 : ((r : Int) == 0) = false := by assumption
    have e1 : ((r : Int) == 1) = false := by assumption
    rw [e0, e1]
    go_loopw [4, 5] (fun x i wr => ∃ (y : UInt64) (k : Nat), k ≤ 8 ∧ i = .int .i64 (k : Int) ∧ x = .int .u64 (y.toNat : Int) ∧ Hid (RdAt B v L (p + 1 + k) wr) ∧ Hid (W.grownBy wr (some B))) (fun _ i _ => 8 - (intOf i).toNat)
    case atStart => exact ⟨0, 0, by omega, rfl, rfl, hR1, hg1⟩
    case round =>
      obtain ⟨y, k, hk, rfl, rfl, HR, HG⟩ := hrel
      by_cases hlt : k < 8
      · have hltI : (k : Int) < 8 := by omega
        have c4 := cp wr (p + 1 + k) HR.out (by omega)
        clear cp c1 c3 c3'
        go_wp2_with (go_at_call 30; refine c4.mono ?_; rintro e w2 ⟨z, hz, rfl, hR2, hg2⟩)
        have hv : bits .or .u64 (IntKind.u64.wrap ((y.toNat : Int) * 256)) (z : Int) = ((bstep y (UInt8.ofNat z)).toNat : Int) := by
          have e := w_bstep y (UInt8.ofNat z)
          have ez : ((UInt8.ofNat z).toNat : Int) = (z : Int) := by rw [UInt8.toNat_ofNat']; omega
          have ew : IntKind.u64.wrap (z : Int) = (z : Int) := by rw [IntKind.wrap_u64]; omega
          rw [ez, ew] at e
          exact e
        go_roundw
        case rel => exact ⟨bstep y (UInt8.ofNat z), k + 1, by omega, by go_num, congrArg (Value.int IntKind.u64) hv, hR2, HG.out.trans hg2⟩
        case measure => simp [intOf]; omega
      · have hge : ¬ (k : Int) < 8 := by omega
        have HK : Hid (k = 8) := by show _ = _; omega
        go_wp2
        go_ret
        exact ⟨y, p + 1 + k, by omega, rfl, HR.out, HG.out⟩

theorem Box.far {b B : Nat} {W W' : World} (h : Box b W) (g : W.grownBy W' (some B)) (hne : b ≠ B) : Box b W' :=
  ⟨Nat.lt_of_lt_of_le h.1 g.size, fun j hj => ⟨g.cell (h.2 j hj).1 (fun e => hne (by simpa using e)), (g.frozen_far _ h.1 (fun e => hne (by simpa using e))).trans (h.2 j hj).2⟩⟩
/-- Four stores into a box of one's own. -/
theorem RdAt.four {B b : Nat} {v : Value} {L : List UInt8} {p : Nat} {W : World} {x0 x1 x2 x3 : Value} (h : RdAt B v L p W) (hb : B < b) : RdAt B v L p ((((W.setCell ⟨b, 0, none⟩ x0).setCell ⟨b, 1, none⟩ x1).setCell ⟨b, 2, none⟩ x2).setCell ⟨b, 3, none⟩ x3) := by
  have hr : ∀ k, some b = some k → B < k := fun k e => by have e2 : b = k := (by simpa using e); omega
  exact (((h.far (grownR_set W b 0 x0) hr).far (grownR_set _ b 1 x1) hr).far (grownR_set _ b 2 x2) hr).far (grownR_set _ b 3 x3) hr
theorem grown_four {W0 W : World} {B b : Nat} {x0 x1 x2 x3 : Value} (h : W0.grownBy W (some B)) (hb : W0.heap.size ≤ b) : W0.grownBy ((((W.setCell ⟨b, 0, none⟩ x0).setCell ⟨b, 1, none⟩ x1).setCell ⟨b, 2, none⟩ x2).setCell ⟨b, 3, none⟩ x3) (some B) := by
  have hr : ∀ j, some b = some j → W0.heap.size ≤ j ∨ (some B) = some j := fun k e => .inl (by have e2 : b = k := (by simpa using e); omega)
  exact (((h.andThen (grownR_set W b 0 x0) hr).andThen (grownR_set _ b 1 x1) hr).andThen (grownR_set _ b 2 x2) hr).andThen (grownR_set _ b 3 x3) hr

set_option maxRecDepth 20000 in
set_option maxHeartbeats 1000000 in
theorem digest_is (B : Nat) (v : Value) (L : List UInt8) (p : Nat) (W : World) (h : RdAt B v L p W) (hp8 : p ≤ 800000) :
    Calls Try.prog 32 #[.pointer (some ⟨B, 0, none⟩)] W fun e w' => ∃ (q : Qd) (p' : Nat), p' ≤ p + 36 ∧ e = .returned (.agg #[.int .u64 ((q).a.toNat : Int), .int .u64 ((q).b.toNat : Int), .int .u64 ((q).c.toNat : Int), .int .u64 ((q).d.toNat : Int)]) ∧ RdAt B v L p' w' ∧ W.grownBy w' (some B) := by
  have hB := h.1
  have h0 : RdAt B v L p (W.alloc (.cells #[Value.int IntKind.u64 0, Value.int IntKind.u64 0, Value.int IntKind.u64 0, Value.int IntKind.u64 0] 25)) := h.grown (World.grownBy_alloc W _ none)
  have cw := fun (W' : World) (q : Nat) (hr : RdAt B v L q W') (hq : q ≤ 900000) => word_is B v L q W' hr hq
  have c1 := cw _ p h0 (by omega)
  clear h h0
  go_enter Try.func32, Try.ntmps32
  go_wp2_with (first
    | (go_at_call 38; refine (cw w3 p3 hR3 (by omega)).mono ?_; rintro e w4 ⟨x4, p4, hp4, rfl, hR4, hg4⟩; have hX4 : Box W.heap.size w4 := (((((Box.start W).far hg1 (by omega)).far hg2 (by omega)).far hg3 (by omega)).far hg4 (by omega)); obtain ⟨s0, s1, s2, s3, t0, t1, t2, t3⟩ := hX4.facts)
    | (go_at_call 38; refine (cw w2 p2 hR2 (by omega)).mono ?_; rintro e w3 ⟨x3, p3, hp3, rfl, hR3, hg3⟩)
    | (go_at_call 38; refine (cw w1 p1 hR1 (by omega)).mono ?_; rintro e w2 ⟨x2, p2, hp2, rfl, hR2, hg2⟩)
    | (go_at_call 38; refine c1.mono ?_; rintro e w1 ⟨x1, p1, hp1, rfl, hR1, hg1⟩))
  have hG : W.grownBy w4 (some B) := ((((World.grownBy_alloc W _ _).trans hg1).trans hg2).trans hg3).trans hg4
  obtain ⟨q0, q1, q2, q3⟩ := four_set_at (w := w4) (b := W.heap.size) (q := ⟨x1, x2, x3, x4⟩) s0 s1 s2 s3
  exact bodyPost_ret (v := .agg #[.int .u64 (((⟨x1, x2, x3, x4⟩ : Qd)).a.toNat : Int), .int .u64 (((⟨x1, x2, x3, x4⟩ : Qd)).b.toNat : Int), .int .u64 (((⟨x1, x2, x3, x4⟩ : Qd)).c.toNat : Int), .int .u64 (((⟨x1, x2, x3, x4⟩ : Qd)).d.toNat : Int)]) (by simp [results, Try.results32, go_sem, q0, q1, q2, q3]) rfl ⟨⟨x1, x2, x3, x4⟩, p4, by omega, rfl, hR4.four hB, grown_four hG (Nat.le_refl _)⟩
end Go.Proofs.Ytepgmdgcappfpaa
