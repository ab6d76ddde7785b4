/-
  The root of leaves: plain; l2Root of the specification, walked.
-/
import Derived.Test.YtgpbodanaeelaaaBox
import Derived.Test.YtgpbodanaeelaaaTxt
import Derived.Test.YtgpbodanaeelaaaInts
import Derived.Test.YtgpbodanaeelaaaLawLeaf
import Derived.Test.YtgpbodanaeelaaaWalks19
import Derived.Test.YtgpbodanaeelaaaWalks20
import Derived.Deep.Slices
namespace Go.Proofs.Ytgpbodanaeelaaa
open Go.RowKit

def leafD (s : ByteArray) : Qd := dg (ByteArray.mk #[0] ++ s)
def pairD (l r : Qd) : Qd := dg (str ([1] ++ (db l ++ db r)))
/-- The root of leaves, so many levels down at most. -/
def rootN : Nat → List ByteArray → Qd
  | 0, _ => dg (ByteArray.mk #[])
  | n + 1, S => if S.length = 0 then dg (ByteArray.mk #[]) else if S.length = 1 then leafD (S.getD 0 (ByteArray.mk #[])) else pairD (rootN n (S.take (sp S.length))) (rootN n (S.drop (sp S.length)))
theorem sp_lt (n : Nat) (h : 2 ≤ n) : 1 ≤ sp n ∧ sp n < n := by
  unfold sp
  have h1 := Nat.two_pow_pos (Nat.log2 (n - 1))
  have h2 := Nat.log2_self_le (n := n - 1) (by omega)
  omega

/-- Parts of a slice of texts. -/
theorem Txt.take {W : World} {a : Addr} {cap : Nat} {S : List ByteArray} (h : Txt W (.slice (some a) S.length cap) S) (k : Nat) (hk : k ≤ S.length) : Txt W (.slice (some a) k cap) (S.take k) := by
  rcases h with ⟨h, _⟩ | ⟨a', cap', he, hl, hm, hb, hc⟩
  · simp at h
  · obtain ⟨rfl, rfl⟩ : a = a' ∧ cap = cap' := by simpa using he
    have e : (S.take k).length = k := by rw [List.length_take]; omega
    refine .inr ⟨a, cap, by rw [e], by omega, hm, fun h0 => hb (by omega), fun i hi => ?_⟩
    rw [hc i (by omega)]
    simp
theorem Txt.drop {W : World} {a : Addr} {cap : Nat} {S : List ByteArray} (h : Txt W (.slice (some a) S.length cap) S) (k : Nat) (hk : k ≤ S.length) : Txt W (.slice (some (a.add k)) (S.length - k) (cap - k)) (S.drop k) := by
  rcases h with ⟨h, _⟩ | ⟨a', cap', he, hl, hm, hb, hc⟩
  · simp at h
  · obtain ⟨rfl, rfl⟩ : a = a' ∧ cap = cap' := by simpa using he
    have e : (S.drop k).length = S.length - k := by rw [List.length_drop]
    refine .inr ⟨a.add k, cap - k, by rw [e], by omega, by unfold maxLen at *; omega, fun h0 => by rw [add_block]; exact hb (by omega), fun i hi => ?_⟩
    rw [Go.Deep.add_add, hc (k + i) (by omega)]
    simp

set_option maxRecDepth 20000 in
set_option maxHeartbeats 1000000 in
theorem l2root_is (n : Nat) : ∀ (S : List ByteArray) (v : Value) (w : World), S.length ≤ n → S.length ≤ 256 → (∀ s ∈ S, s.size ≤ 40) → Txt w v S →
    Calls Try.prog 34 #[v] w fun e w' => e = .returned (.agg #[.int .u64 ((rootN n S).a.toNat : Int), .int .u64 ((rootN n S).b.toNat : Int), .int .u64 ((rootN n S).c.toNat : Int), .int .u64 ((rootN n S).d.toNat : Int)]) ∧ Below w.heap.size w w' := by
  have zero : ∀ (v : Value) (w : World), Txt w v [] → Calls Try.prog 34 #[v] w fun e w' => e = .returned (.agg #[.int .u64 ((dg (ByteArray.mk #[])).a.toNat : Int), .int .u64 ((dg (ByteArray.mk #[])).b.toNat : Int), .int .u64 ((dg (ByteArray.mk #[])).c.toNat : Int), .int .u64 ((dg (ByteArray.mk #[])).d.toNat : Int)]) ∧ Below w.heap.size w w' := by
    intro v w hT
    obtain ⟨a, cap, rfl⟩ : ∃ a cap, v = .slice a 0 cap := by
      rcases hT with ⟨rfl, _⟩ | ⟨a, cap, rfl, _⟩
      · exact ⟨none, 0, rfl⟩
      · exact ⟨some a, cap, rfl⟩
    clear hT
    go_enter Try.func34, Try.ntmps34
    go_wp2_with (go_at_call 48; refine (ho_spec_all (ByteArray.mk #[]) _).mono ?_; rintro e w1 ⟨rfl, hb1⟩; have hX : Box w.heap.size w1 := (Box.start w).call hb1; obtain ⟨s0, s1, s2, s3, t0, t1, t2, t3⟩ := hX.facts; have hB1 : Below w.heap.size w w1 := below_after ((Below.refl _ _).alloc (Nat.le_refl _) _) hb1 (by simp))
    obtain ⟨q0, q1, q2, q3⟩ := four_set_at (w := w1) (b := w.heap.size) (q := dg (ByteArray.mk #[])) s0 s1 s2 s3
    exact bodyPost_ret (v := .agg #[.int .u64 ((dg (ByteArray.mk #[])).a.toNat : Int), .int .u64 ((dg (ByteArray.mk #[])).b.toNat : Int), .int .u64 ((dg (ByteArray.mk #[])).c.toNat : Int), .int .u64 ((dg (ByteArray.mk #[])).d.toNat : Int)]) (by simp [results, Try.results34, go_sem, q0, q1, q2, q3]) rfl ⟨rfl, by repeat' (first | (with_reducible exact hB1) | (with_reducible refine Below.setCell ?_ ?_ _) | go_size)⟩
  induction n with
  | zero =>
    intro S v w hn _ _ hT
    have : S = [] := List.length_eq_zero_iff.1 (by omega)
    subst this
    exact zero v w hT
  | succ n ih =>
    intro S v w hn h256 h40 hT
    by_cases h0 : S.length = 0
    · have : S = [] := List.length_eq_zero_iff.1 h0
      subst this
      exact zero v w hT
    · by_cases h1 : S.length = 1
      · obtain ⟨s, rfl⟩ : ∃ s, S = [s] := by
          match S, h1 with
          | [s], _ => exact ⟨s, rfl⟩
        show Calls _ _ _ _ fun e w' => e = .returned (.agg #[.int .u64 ((leafD s).a.toNat : Int), .int .u64 ((leafD s).b.toNat : Int), .int .u64 ((leafD s).c.toNat : Int), .int .u64 ((leafD s).d.toNat : Int)]) ∧ Below w.heap.size w w'
        rcases hT with ⟨_, h⟩ | ⟨a, cap, rfl, _, _, hbl, hc⟩
        · cases h
        have hbl' := hbl (by simp)
        have hs := h40 s (by simp)
        have hc0 : (w.alloc (.cells #[Value.int IntKind.u64 0, Value.int IntKind.u64 0, Value.int IntKind.u64 0, Value.int IntKind.u64 0] 31)).cell? (a.add 0) = some (.string s) := c_alloc (hc 0 (by simp))
        have hcA : (w.alloc (.cells #[Value.int IntKind.u64 0, Value.int IntKind.u64 0, Value.int IntKind.u64 0, Value.int IntKind.u64 0] 31)).cell? a = some (.string s) := by simpa [Addr.add] using hc0
        have hl1 := fun W : World => hl_spec s W (by omega)
        clear hc hbl zero ih
        go_enter Try.func34, Try.ntmps34
        go_wp2_with (go_at_call 49; refine (hl1 _).mono ?_; rintro e w1 ⟨rfl, hb1⟩; have hX : Box w.heap.size w1 := (Box.start w).call hb1; obtain ⟨s0, s1, s2, s3, t0, t1, t2, t3⟩ := hX.facts; have hB1 : Below w.heap.size w w1 := below_after ((Below.refl _ _).alloc (Nat.le_refl _) _) hb1 (by simp))
        obtain ⟨q0, q1, q2, q3⟩ := four_set_at (w := w1) (b := w.heap.size) (q := dg (ByteArray.mk #[0] ++ s)) s0 s1 s2 s3
        exact bodyPost_ret (v := .agg #[.int .u64 ((leafD s).a.toNat : Int), .int .u64 ((leafD s).b.toNat : Int), .int .u64 ((leafD s).c.toNat : Int), .int .u64 ((leafD s).d.toNat : Int)]) (by simp [results, Try.results34, go_sem, q0, q1, q2, q3, leafD]) rfl ⟨rfl, by repeat' (first | (with_reducible exact hB1) | (with_reducible refine Below.setCell ?_ ?_ _) | go_size)⟩
      · have h2 : 2 ≤ S.length := by omega
        have hsp := sp_lt S.length h2
        obtain ⟨a, cap, hv, hle, hcap⟩ : ∃ a cap, v = .slice (some a) S.length cap ∧ S.length ≤ cap ∧ cap ≤ maxLen := by
          rcases hT with ⟨_, h⟩ | ⟨a, cap, rfl, hl, hm, _⟩
          · exact absurd (by rw [h]; rfl) h0
          · exact ⟨a, cap, rfl, hl, hm⟩
        subst hv
        have cs := fun W : World => sp_spec S.length h2 h256 W
        obtain ⟨k, hk⟩ : ∃ k, k = sp S.length := ⟨_, rfl⟩
        rw [← hk] at hsp cs
        have e1 : (S.take k).length = k := by rw [List.length_take]; omega
        have e2 : (S.drop k).length = S.length - k := by rw [List.length_drop]
        have c1 := fun (W' : World) (h : Below w.heap.size w W') => ih (S.take k) (.slice (some a) k cap) W' (by omega) (by omega) (fun s hs => h40 s (List.mem_of_mem_take hs)) ((hT.call h).take k (by omega))
        have c2 := fun (W' : World) (h : Below w.heap.size w W') => ih (S.drop k) (.slice (some (a.add k)) (S.length - k) (cap - k)) W' (by omega) (by omega) (fun s hs => h40 s (List.mem_of_mem_drop hs)) ((hT.call h).drop k (by omega))
        have hroot : rootN (n + 1) S = pairD (rootN n (S.take k)) (rootN n (S.drop k)) := by
          show (if S.length = 0 then _ else _) = _
          rw [if_neg h0, if_neg h1, ← hk]
        rw [hroot]
        obtain ⟨p, hp⟩ : ∃ p, p = rootN n (S.take k) := ⟨_, rfl⟩
        obtain ⟨q, hq⟩ : ∃ q, q = rootN n (S.drop k) := ⟨_, rfl⟩
        rw [← hp] at c1 ⊢
        rw [← hq] at c2 ⊢
        have c3 := fun W : World => hp_spec p q W
        obtain ⟨z, hz⟩ : ∃ z, z = pairD p q := ⟨_, rfl⟩
        have c4 : ∀ W : World, Calls Try.prog 50 #[.agg #[.int .u64 ((p).a.toNat : Int), .int .u64 ((p).b.toNat : Int), .int .u64 ((p).c.toNat : Int), .int .u64 ((p).d.toNat : Int)], .agg #[.int .u64 ((q).a.toNat : Int), .int .u64 ((q).b.toNat : Int), .int .u64 ((q).c.toNat : Int), .int .u64 ((q).d.toNat : Int)]] W fun e w' => e = .returned (.agg #[.int .u64 ((z).a.toNat : Int), .int .u64 ((z).b.toNat : Int), .int .u64 ((z).c.toNat : Int), .int .u64 ((z).d.toNat : Int)]) ∧ Below W.heap.size W w' := fun W => by rw [hz]; exact c3 W
        rw [← hz]
        obtain ⟨a2, ha2⟩ : ∃ a2, a.add k = a2 := ⟨_, rfl⟩
        rw [ha2] at c2
        obtain ⟨m2, hm2⟩ : ∃ m2, S.length - k = m2 := ⟨_, rfl⟩
        have hne0 : ((S.length : Int) == 0) = false := by rw [beq_eq_false_iff_ne]; omega
        have hne1 : ((S.length : Int) == 1) = false := by rw [beq_eq_false_iff_ne]; omega
        have hkI : (0 : Int) ≤ (k : Int) := by omega
        have hkL : (k : Int) ≤ (S.length : Int) := by omega
        have hkC : (k : Int) ≤ (cap : Int) := by omega
        have hLC : (S.length : Int) ≤ (cap : Int) := by omega
        clear zero ih hroot hp hq hz c3 hT hk e1 e2 h40 hm2 m2
        go_enter Try.func34, Try.ntmps34
        go_wp2_with (go_at_call 21; refine (cs _).mono ?_; rintro e w1 ⟨rfl, rfl⟩)
        go_region_with (first
          | (go_at_call_of 34 a2; refine (c2 _ (by repeat' (first | (with_reducible exact Below.refl _ _) | (with_reducible assumption) | (with_reducible refine Below.alloc ?_ ?_ _) | (with_reducible refine Below.drew ?_) | (with_reducible exact Nat.le_refl _) | (simp; done) | (simp; omega) | omega))).mono ?_; rintro e w2 ⟨rfl, hb2⟩; have hX2 : Box w.heap.size w2 := hX1.call hb2; have hB2 : Below w.heap.size w w2 := below_after hB1 hb2 (by have := hB1.size; omega))
          | (go_at_call 34; refine (c1 _ (by repeat' (first | (with_reducible exact Below.refl _ _) | (with_reducible assumption) | (with_reducible refine Below.alloc ?_ ?_ _) | (with_reducible refine Below.drew ?_) | (with_reducible exact Nat.le_refl _) | (simp; done) | (simp; omega) | omega))).mono ?_; rintro e w1 ⟨rfl, hb1⟩; have hX1 : Box w.heap.size w1 := ((Box.start w).drew).call hb1; have hB1 : Below w.heap.size w w1 := below_after (((Below.refl _ _).alloc (Nat.le_refl _) _).drew) hb1 (by simp))
          | (go_at_call 50; refine (c4 _).mono ?_; rintro e w3 ⟨rfl, hb3⟩; have hX3 : Box w.heap.size w3 := hX2.call hb3; obtain ⟨s0, s1, s2, s3, t0, t1, t2, t3⟩ := hX3.facts; have hB3 : Below w.heap.size w w3 := below_after hB2 hb3 (by have := hB2.size; omega)))
        all_goals (go_wp2_with fail)
        all_goals (obtain ⟨q0, q1, q2, q3⟩ := four_set_at (w := w3) (b := w.heap.size) (q := z) s0 s1 s2 s3)
        all_goals (exact bodyPost_ret (v := .agg #[.int .u64 ((z).a.toNat : Int), .int .u64 ((z).b.toNat : Int), .int .u64 ((z).c.toNat : Int), .int .u64 ((z).d.toNat : Int)]) (by simp [results, Try.results34, go_sem, q0, q1, q2, q3]) rfl ⟨rfl, by repeat' (first | (with_reducible exact hB3) | (with_reducible refine Below.setCell ?_ ?_ _) | go_size)⟩)
end Go.Proofs.Ytgpbodanaeelaaa
