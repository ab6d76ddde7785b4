/-
  The law of a tree's halves, walked.
-/
import Derived.Test.YtgpbodanaeelaaaDraw8
import Derived.Test.YtgpbodanaeelaaaPoint
import Derived.Test.YtgpbodanaeelaaaPkTk
import Derived.Deep.RegionHeld3
namespace Go.Proofs.Ytgpbodanaeelaaa
open Go.RowKit

theorem txt_slice {W : World} {v : Value} {S : List ByteArray} (h : Txt W v S) : ∃ oa cap, v = .slice oa S.length cap := by
  rcases h with ⟨rfl, rfl⟩ | ⟨a, cap, rfl, _⟩
  · exact ⟨none, 0, rfl⟩
  · exact ⟨some a, cap, rfl⟩
theorem txt_some {W : World} {v : Value} {S : List ByteArray} (h : Txt W v S) (h2 : 2 ≤ S.length) : ∃ a cap, v = .slice (some a) S.length cap ∧ S.length ≤ cap := by
  rcases h with ⟨rfl, rfl⟩ | ⟨a, cap, rfl, hl, _⟩
  · simp at h2
  · exact ⟨a, cap, rfl, hl⟩
/-- The block B holds a number and a digest. -/
def Pt5 (B : Nat) (n : Int) (z : Qd) (W : World) : Prop :=
  B < W.heap.size ∧ W.cell? ⟨B, 0, none⟩ = some (.int .i64 n) ∧ W.cell? ⟨B, 1, none⟩ = some (.int .u64 ((z.a).toNat : Int)) ∧ W.cell? ⟨B, 2, none⟩ = some (.int .u64 ((z.b).toNat : Int)) ∧ W.cell? ⟨B, 3, none⟩ = some (.int .u64 ((z.c).toNat : Int)) ∧ W.cell? ⟨B, 4, none⟩ = some (.int .u64 ((z.d).toNat : Int))
theorem Pt5.new (w : World) (n : Int) (z : Qd) : Pt5 w.heap.size n z (w.alloc (.cells #[Value.int IntKind.i64 n, Value.int IntKind.u64 ((z.a).toNat : Int), Value.int IntKind.u64 ((z.b).toNat : Int), Value.int IntKind.u64 ((z.c).toNat : Int), Value.int IntKind.u64 ((z.d).toNat : Int)] 39)) :=
  ⟨by simp, by simp [go_sem], by simp [go_sem], by simp [go_sem], by simp [go_sem], by simp [go_sem]⟩
theorem Pt5.call {B : Nat} {n : Int} {z : Qd} {W W' : World} (h : Pt5 B n z W) (hb : Below W.heap.size W W') : Pt5 B n z W' :=
  ⟨Nat.lt_of_lt_of_le h.1 hb.size, (hb.cell h.1).trans h.2.1, (hb.cell h.1).trans h.2.2.1, (hb.cell h.1).trans h.2.2.2.1, (hb.cell h.1).trans h.2.2.2.2.1, (hb.cell h.1).trans h.2.2.2.2.2⟩

set_option maxRecDepth 20000 in
set_option maxHeartbeats 4000000 in
theorem lawTH (v : Value) (L : List UInt8) (w : World) (hV : Byt w v L) :
    Calls Try.prog 5 #[v] w fun e w' => e = .returned (.bool true) ∧ Below w.heap.size w w' := by
  obtain ⟨oa, cap, hv⟩ : ∃ a cap, v = .slice a L.length cap := by
    rcases hV with ⟨rfl, rfl⟩ | ⟨a, cap, rfl, _⟩
    · exact ⟨none, 0, rfl⟩
    · exact ⟨some a, cap, rfl⟩
  by_cases hbig : 1048576 < L.length
  · have hbI : (1048576 : Int) < (L.length : Int) := by omega
    subst hv
    clear hV
    go_enter Try.func5, Try.ntmps5
    go_wp2_with fail
    go_ret
    exact ⟨rfl, Below.refl _ _⟩
  · have hbI : ¬ (1048576 : Int) < (L.length : Int) := by omega
    subst hv
    have k1 := drawRoot_is w _ L hV
    clear hV
    go_enter Try.func5, Try.ntmps5
    go_wp2_with (go_at_call 17; refine k1.mono ?_; rintro e w1 ⟨u, S, rfl, hT, hl, hz, hb1⟩; obtain ⟨ob, cb, hu⟩ := txt_slice hT; clear k1)
    have cl := lok_spec w1 u S hT
    have p1 : ∀ W : World, Below w1.heap.size w1 W → Calls Try.prog 18 #[u] W fun e w' => e = .returned (.agg #[.int .i64 (tpn S), .int .u64 (((trv S).a).toNat : Int), .int .u64 (((trv S).b).toNat : Int), .int .u64 (((trv S).c).toNat : Int), .int .u64 (((trv S).d).toNat : Int)]) ∧ Below w1.heap.size w1 w' :=
      fun W h => (tp_impl S u W (hT.call h)).mono (fun e w' ⟨he, hb⟩ => ⟨he, below_after h hb h.size⟩)
    have p2 : ∀ W : World, Below w1.heap.size w1 W → Calls Try.prog 19 #[u] W fun e w' => e = .returned (.agg #[.int .i64 (tpn S), .int .u64 (((trv S).a).toNat : Int), .int .u64 (((trv S).b).toNat : Int), .int .u64 (((trv S).c).toNat : Int), .int .u64 (((trv S).d).toNat : Int)]) ∧ Below w1.heap.size w1 w' :=
      fun W h => (tp_spec S u W (hT.call h)).mono (fun e w' ⟨he, hb⟩ => ⟨he, below_after h hb h.size⟩)
    by_cases hlk : lok S = false ∨ S.length < 2
    · obtain ⟨z, hz'⟩ : ∃ z, z = trv S := ⟨_, rfl⟩
      obtain ⟨m, hm⟩ : ∃ m, m = tpn S := ⟨_, rfl⟩
      rw [← hz', ← hm] at p1 p2
      clear hz' hm hT
      obtain ⟨o, ho⟩ : ∃ o, o = lok S := ⟨_, rfl⟩
      rw [← ho] at cl hlk
      clear ho
      subst hu
      rcases hlk with hlk | hlk
      · subst hlk
        go_wp2_with (first
          | (go_at_call 8; refine cl.mono ?_; rintro e w2 ⟨rfl, hw2⟩; replace hw2 := hw2.symm; subst hw2)
          | (go_at_call 18; refine (p1 _ (Below.refl _ _)).mono ?_; rintro e w3 ⟨rfl, hb3⟩)
          | (go_at_call 19; refine (p2 _ hb3).mono ?_; rintro e w4 ⟨rfl, hb4⟩))
        go_ret
        exact ⟨rfl, below_after hb1 hb4 hb1.size⟩
      · have hI : (S.length : Int) < 2 := by omega
        cases o with
        | false =>
          go_wp2_with (first
            | (go_at_call 8; refine cl.mono ?_; rintro e w2 ⟨rfl, hw2⟩; replace hw2 := hw2.symm; subst hw2)
            | (go_at_call 18; refine (p1 _ (Below.refl _ _)).mono ?_; rintro e w3 ⟨rfl, hb3⟩)
            | (go_at_call 19; refine (p2 _ hb3).mono ?_; rintro e w4 ⟨rfl, hb4⟩))
          go_ret
          exact ⟨rfl, below_after hb1 hb4 hb1.size⟩
        | true =>
          go_wp2_with (first
            | (go_at_call 8; refine cl.mono ?_; rintro e w2 ⟨rfl, hw2⟩; replace hw2 := hw2.symm; subst hw2)
            | (go_at_call 18; refine (p1 _ (Below.refl _ _)).mono ?_; rintro e w3 ⟨rfl, hb3⟩)
            | (go_at_call 19; refine (p2 _ hb3).mono ?_; rintro e w4 ⟨rfl, hb4⟩))
          go_ret
          exact ⟨rfl, below_after hb1 hb4 hb1.size⟩
    · have h2 : 2 ≤ S.length := by omega
      have hlk : lok S = true := by cases h : lok S with | true => rfl | false => exact absurd (Or.inl h) hlk
      clear p2
      rw [hlk] at cl
      have hn : tpn S = (S.length : Int) := by unfold tpn; rw [hlk]; rfl
      obtain ⟨a, cq, hu2, hcb⟩ := txt_some hT h2
      rw [hu] at hu2
      obtain ⟨rfl, rfl⟩ : ob = some a ∧ cb = cq := by injection hu2 with e1 e2 e3; exact ⟨e1, e3⟩
      clear hu2
      subst hu
      have n256 := (lok_yes hlk).1
      obtain ⟨j1, j2⟩ := sp_lt S.length h2
      have hsp : spI (S.length : Int) = ((sp S.length : Nat) : Int) := by unfold spI; rw [if_neg (by omega)]; simp
      have s1 := fun W : World => sp_impl_all (S.length : Int) W
      have s2 := fun W : World => sp_spec_all (S.length : Int) W
      rw [hsp] at s1 s2
      have hh := trv_halves hlk h2
      have t0 : ∀ A W : World, Below w1.heap.size w1 W → Below A.heap.size A W → Calls Try.prog 12 #[.slice (some a) S.length cb] W fun e w' => e = .returned (.agg #[.int .u64 ((trv S).a.toNat : Int), .int .u64 ((trv S).b.toNat : Int), .int .u64 ((trv S).c.toNat : Int), .int .u64 ((trv S).d.toNat : Int)]) ∧ Below w1.heap.size w1 w' ∧ Below A.heap.size A w' :=
        fun A W h h' => (tr_impl S _ W (hT.call h)).mono (fun e w' ⟨he, hb⟩ => ⟨he, below_after h hb h.size, below_after h' hb h'.size⟩)
      have t1 : ∀ W : World, Below w1.heap.size w1 W → Calls Try.prog 12 #[.slice (some a) (sp S.length) cb] W fun e w' => e = .returned (.agg #[.int .u64 ((trv (S.take (sp S.length))).a.toNat : Int), .int .u64 ((trv (S.take (sp S.length))).b.toNat : Int), .int .u64 ((trv (S.take (sp S.length))).c.toNat : Int), .int .u64 ((trv (S.take (sp S.length))).d.toNat : Int)]) ∧ Below w1.heap.size w1 w' :=
        fun W h => (tr_impl _ _ W ((hT.call h).take (sp S.length) (by omega))).mono (fun e w' ⟨he, hb⟩ => ⟨he, below_after h hb h.size⟩)
      have t2 : ∀ W : World, Below w1.heap.size w1 W → Calls Try.prog 12 #[.slice (some (a.add (sp S.length))) (S.length - sp S.length) (cb - sp S.length)] W fun e w' => e = .returned (.agg #[.int .u64 ((trv (S.drop (sp S.length))).a.toNat : Int), .int .u64 ((trv (S.drop (sp S.length))).b.toNat : Int), .int .u64 ((trv (S.drop (sp S.length))).c.toNat : Int), .int .u64 ((trv (S.drop (sp S.length))).d.toNat : Int)]) ∧ Below w1.heap.size w1 w' :=
        fun W h => (tr_impl _ _ W ((hT.call h).drop (sp S.length) (by omega))).mono (fun e w' ⟨he, hb⟩ => ⟨he, below_after h hb h.size⟩)
      rw [hh] at t0 p1
      rw [hn] at p1
      obtain ⟨x, hx⟩ : ∃ x, x = trv (S.take (sp S.length)) := ⟨_, rfl⟩
      obtain ⟨y, hy⟩ : ∃ y, y = trv (S.drop (sp S.length)) := ⟨_, rfl⟩
      rw [← hx, ← hy] at t0 p1
      rw [← hx] at t1
      rw [← hy] at t2
      obtain ⟨z, hz'⟩ : ∃ z, z = pairD x y := ⟨_, rfl⟩
      have hp : ∀ W : World, Below w1.heap.size w1 W → Calls Try.prog 22 #[.agg #[.int .u64 ((x).a.toNat : Int), .int .u64 ((x).b.toNat : Int), .int .u64 ((x).c.toNat : Int), .int .u64 ((x).d.toNat : Int)], .agg #[.int .u64 ((y).a.toNat : Int), .int .u64 ((y).b.toNat : Int), .int .u64 ((y).c.toNat : Int), .int .u64 ((y).d.toNat : Int)]] W fun e w' => e = .returned (.agg #[.int .u64 ((z).a.toNat : Int), .int .u64 ((z).b.toNat : Int), .int .u64 ((z).c.toNat : Int), .int .u64 ((z).d.toNat : Int)]) ∧ Below w1.heap.size w1 w' :=
        fun W h => by rw [hz']; exact (hp_impl x y W).mono (fun e w' ⟨he, hb⟩ => ⟨he, below_after h hb h.size⟩)
      rw [← hz'] at t0 p1
      obtain ⟨k, hk⟩ : ∃ k, k = sp S.length := ⟨_, rfl⟩
      rw [← hk] at s1 s2 t1 t2 j1 j2
      obtain ⟨n, hnn⟩ : ∃ n, n = S.length := ⟨_, rfl⟩
      rw [← hnn] at s1 s2 t0 t2 p1 cl j2 h2 hcb
      have hS : (Value.slice (some a) S.length cb) = Value.slice (some a) n cb := by rw [hnn]
      rw [hS]
      clear hh hn hsp hx hy hz' hk hnn hT hlk hS hz hl n256
      have hI : ¬ (n : Int) < 2 := by omega
      have g0 : ((k : Int) != (k : Int)) = false := by simp
      have g1 : decide ((k : Int) < 1) = false := by simp; omega
      have g3 : decide (n ≤ k) = false := by simp; omega
      have i1 : ¬ (k : Int) < 1 := by omega
      have i2 : ¬ (n : Int) ≤ (k : Int) := by omega
      have i3 : (k : Int) ≤ (n : Int) := by omega
      have i4 : k ≤ cb := by omega
      have i5 : k ≤ n := by omega
      go_wp2_with (first
        | (go_at_call 8; refine cl.mono ?_; rintro e w2 ⟨rfl, hw2⟩; replace hw2 := hw2.symm; subst hw2)
        | (go_at_call 20; refine (s1 _).mono ?_; rintro e w2 ⟨rfl, hw2⟩; replace hw2 := hw2.symm; subst hw2))
      go_region_held3 (fun _ => True) (trivial) ((first
        | (go_at_call 21; refine (s2 _).mono ?_; rintro e w2 ⟨rfl, hw2⟩; subst hw2)
        | (go_at_call_of 12 (Value.slice (some a) n cb); refine (t0 w1 _ (by repeat' (first | (with_reducible exact Below.refl _ _) | (with_reducible assumption) | (with_reducible refine below_drewN ?_ _) | (with_reducible refine Below.setCell ?_ ?_ _) | (with_reducible refine Below.alloc ?_ ?_ _) | (with_reducible refine Below.drew ?_) | go_size)) (by repeat' (first | (with_reducible exact Below.refl _ _) | (with_reducible assumption) | (with_reducible refine below_drewN ?_ _) | (with_reducible refine Below.setCell ?_ ?_ _) | (with_reducible refine Below.alloc ?_ ?_ _) | (with_reducible refine Below.drew ?_) | go_size))).mono ?_; rintro e w3 ⟨rfl, hB3, _⟩)
        | (go_at_call_of 12 (Value.slice (some a) k cb); refine (t1 _ (by repeat' (first | (with_reducible exact Below.refl _ _) | (with_reducible assumption) | (with_reducible refine below_drewN ?_ _) | (with_reducible refine Below.setCell ?_ ?_ _) | (with_reducible refine Below.alloc ?_ ?_ _) | (with_reducible refine Below.drew ?_) | go_size))).mono ?_; rintro e w4 ⟨rfl, hB4⟩)
        | (go_at_call 12; refine (t2 _ (by repeat' (first | (with_reducible exact Below.refl _ _) | (with_reducible assumption) | (with_reducible refine below_drewN ?_ _) | (with_reducible refine Below.setCell ?_ ?_ _) | (with_reducible refine Below.alloc ?_ ?_ _) | (with_reducible refine Below.drew ?_) | go_size))).mono ?_; rintro e w5 ⟨rfl, hB5⟩)
        | (go_at_call 22; refine (hp _ (by repeat' (first | (with_reducible exact Below.refl _ _) | (with_reducible assumption) | (with_reducible refine below_drewN ?_ _) | (with_reducible refine Below.setCell ?_ ?_ _) | (with_reducible refine Below.alloc ?_ ?_ _) | (with_reducible refine Below.drew ?_) | go_size))).mono ?_; rintro e w6 ⟨rfl, hB6⟩)))
      go_wp2_with ((go_at_call 18; refine (p1 _ (by repeat' (first | (with_reducible exact Below.refl _ _) | (with_reducible assumption) | (with_reducible refine below_drewN ?_ _) | (with_reducible refine Below.setCell ?_ ?_ _) | (with_reducible refine Below.alloc ?_ ?_ _) | (with_reducible refine Below.drew ?_) | go_size))).mono ?_; rintro e w7 ⟨rfl, hB7⟩))
      have hP7 := Pt5.new w7 (n : Int) z
      have hs7 : w1.heap.size ≤ w7.heap.size := hB7.size
      obtain ⟨_, d0, d1, d2, d3, d4⟩ := id hP7
      go_region_held3 (fun w' => w'.cell? ⟨w7.heap.size, 0, none⟩ = some (Value.int IntKind.i64 (n : Int)) ∧ w'.cell? ⟨w7.heap.size, 1, none⟩ = some (Value.int IntKind.u64 ((z.a).toNat : Int)) ∧ w'.cell? ⟨w7.heap.size, 2, none⟩ = some (Value.int IntKind.u64 ((z.b).toNat : Int)) ∧ w'.cell? ⟨w7.heap.size, 3, none⟩ = some (Value.int IntKind.u64 ((z.c).toNat : Int)) ∧ w'.cell? ⟨w7.heap.size, 4, none⟩ = some (Value.int IntKind.u64 ((z.d).toNat : Int))) ((refine ⟨?_, ?_, ?_, ?_, ?_⟩ <;> assumption)) ((go_at_call 12; refine (t0 (w7.alloc (.cells #[Value.int IntKind.i64 (n : Int), Value.int IntKind.u64 ((z.a).toNat : Int), Value.int IntKind.u64 ((z.b).toNat : Int), Value.int IntKind.u64 ((z.c).toNat : Int), Value.int IntKind.u64 ((z.d).toNat : Int)] 39)) _ (by repeat' (first | (with_reducible exact Below.refl _ _) | (with_reducible assumption) | (with_reducible refine below_drewN ?_ _) | (with_reducible refine Below.setCell ?_ ?_ _) | (with_reducible refine Below.alloc ?_ ?_ _) | (with_reducible refine Below.drew ?_) | go_size)) (by repeat' (first | (with_reducible exact Below.refl _ _) | (with_reducible assumption) | (with_reducible refine below_drewN ?_ _) | (with_reducible refine Below.setCell ?_ ?_ _) | (with_reducible refine Below.alloc ?_ ?_ _) | (with_reducible refine Below.drew ?_) | go_size))).mono ?_; rintro e w8 ⟨rfl, hB8, hA8⟩; obtain ⟨_, e0, e1, e2, e3, e4⟩ := hP7.call hA8))
      all_goals (go_wp2_with fail)
      all_goals go_ret
      all_goals exact ⟨rfl, below_after hb1 (by repeat' (first | (with_reducible exact Below.refl _ _) | (with_reducible assumption) | (with_reducible refine below_drewN ?_ _) | (with_reducible refine Below.setCell ?_ ?_ _) | (with_reducible refine Below.alloc ?_ ?_ _) | (with_reducible refine Below.drew ?_) | go_size)) hb1.size⟩
end Go.Proofs.Ytgpbodanaeelaaa
