/-
  RecordRaws of the document.
-/
import Derived.Test.YtepgmdgcappfpaaJoinB45
namespace Go.Proofs.Ytepgmdgcappfpaa
open Go.RowKit Go.MuLone

theorem want_ok (x : Sl) (size : Int) (root : Qd) (hq : (x.q.toNat : Int) ≤ 1000000000) (h1 : -9223372036854775808 ≤ size) (h2 : size ≤ 9223372036854775807) :
    slok (y1 (want x size root)) = (decide (1 ≤ size ∧ size ≤ 256) && decide ((x.q.toNat : Int) < 1000000000)) := by
  unfold slok
  have e1 : decide ((y1 (want x size root)).m = sumOf (y1 (want x size root))) = true := decide_eq_true rfl
  have e2 : bnd (y1 (want x size root)).q 1000000000 = decide ((x.q.toNat : Int) < 1000000000) := by
    show bnd (toU ((x.q.toNat : Int) + 1)) 1000000000 = _
    unfold bnd
    rw [toU_nat, decide_eq_decide]
    omega
  have e3 : bnd (y1 (want x size root)).z 256 = decide (1 ≤ size ∧ size ≤ 256) := by
    show bnd (toU size) 256 = _
    unfold bnd
    rw [toU_nat, decide_eq_decide]
    omega
  rw [e1, e2, e3, Bool.true_and, Bool.and_comm]
theorem raws_own (w : World) (L : List Rw) (n base : Nat) (hL : L.length = n) (hb : base ≤ w.heap.size) (hm : n ≤ maxLen) : (w.alloc (.cells (rcs L).toArray 56)).ownsRow base 56 3 (.slice (some ⟨w.heap.size, 0, none⟩) n n) L.length (rcs L) := by
  subst hL
  have := World.ownsRow_lit (base := base) (e := 56) (size := 3) w (rcs L).toArray L.length hb hm (by rw [List.size_toArray, rcs_len])
  simpa using this
set_option maxRecDepth 200000 in
set_option maxHeartbeats 8000000 in
theorem rraws_spec (s t : Sl) (size : Int) (root : Qd) (W : World) (hs1 : -9223372036854775808 ≤ size) (hs2 : size ≤ 9223372036854775807) :
    Calls Try.prog 31 #[.agg #[.int .u64 ((s).m.toNat : Int), .int .u64 ((s).q.toNat : Int), .int .u64 ((s).z.toNat : Int), .int .u64 ((s).r.a.toNat : Int), .int .u64 ((s).r.b.toNat : Int), .int .u64 ((s).r.c.toNat : Int), .int .u64 ((s).r.d.toNat : Int), .int .u64 ((t).m.toNat : Int), .int .u64 ((t).q.toNat : Int), .int .u64 ((t).z.toNat : Int), .int .u64 ((t).r.a.toNat : Int), .int .u64 ((t).r.b.toNat : Int), .int .u64 ((t).r.c.toNat : Int), .int .u64 ((t).r.d.toNat : Int)], .int .i64 size, .agg #[.int .u64 ((root.a).toNat : Int), .int .u64 ((root.b).toNat : Int), .int .u64 ((root.c).toNat : Int), .int .u64 ((root.d).toNat : Int)]] W fun e w' => ∃ v, e = .returned v ∧ w'.ownsRow W.heap.size 56 3 v (rraws s t size root).length (rcs (rraws s t size root)) ∧ Below W.heap.size W w' := by
  have c1 := fun V : World => rread_spec s t V
  obtain ⟨hq, hk⟩ := rread_bnd s t
  have hwant := want_ok (rread s t).1 size root hq hs1 hs2
  have ci := fun V : World => in_is size 1 256 V
  unfold rraws kraws
  rw [show slok (y1 (want (rread s t).1 size root)) = _ from hwant]
  clear hwant
  unfold want
  generalize rread s t = X at c1 hq hk ⊢
  obtain ⟨x, k⟩ := X
  simp only at c1 hq hk ⊢
  have z0 : Below W.heap.size W ((W.alloc (.cells #[.int .u64 ((s).m.toNat : Int), .int .u64 ((s).q.toNat : Int), .int .u64 ((s).z.toNat : Int), .int .u64 ((s).r.a.toNat : Int), .int .u64 ((s).r.b.toNat : Int), .int .u64 ((s).r.c.toNat : Int), .int .u64 ((s).r.d.toNat : Int), .int .u64 ((t).m.toNat : Int), .int .u64 ((t).q.toNat : Int), .int .u64 ((t).z.toNat : Int), .int .u64 ((t).r.a.toNat : Int), .int .u64 ((t).r.b.toNat : Int), .int .u64 ((t).r.c.toNat : Int), .int .u64 ((t).r.d.toNat : Int)] 29)).alloc (.cells #[.int .u64 ((root.a).toNat : Int), .int .u64 ((root.b).toNat : Int), .int .u64 ((root.c).toNat : Int), .int .u64 ((root.d).toNat : Int)] 25)) := (by repeat' (first | (with_reducible exact Below.refl _ _) | (with_reducible assumption) | (with_reducible refine below_drewN ?_ _) | (with_reducible refine Below.setCell ?_ ?_ _) | (with_reducible refine Below.alloc ?_ ?_ _) | (with_reducible refine Below.drew ?_) | go_size))
  have A0 : Lies W.heap.size 0 [.int .u64 ((s).m.toNat : Int), .int .u64 ((s).q.toNat : Int), .int .u64 ((s).z.toNat : Int), .int .u64 ((s).r.a.toNat : Int), .int .u64 ((s).r.b.toNat : Int), .int .u64 ((s).r.c.toNat : Int), .int .u64 ((s).r.d.toNat : Int), .int .u64 ((t).m.toNat : Int), .int .u64 ((t).q.toNat : Int), .int .u64 ((t).z.toNat : Int), .int .u64 ((t).r.a.toNat : Int), .int .u64 ((t).r.b.toNat : Int), .int .u64 ((t).r.c.toNat : Int), .int .u64 ((t).r.d.toNat : Int)] ((W.alloc (.cells #[.int .u64 ((s).m.toNat : Int), .int .u64 ((s).q.toNat : Int), .int .u64 ((s).z.toNat : Int), .int .u64 ((s).r.a.toNat : Int), .int .u64 ((s).r.b.toNat : Int), .int .u64 ((s).r.c.toNat : Int), .int .u64 ((s).r.d.toNat : Int), .int .u64 ((t).m.toNat : Int), .int .u64 ((t).q.toNat : Int), .int .u64 ((t).z.toNat : Int), .int .u64 ((t).r.a.toNat : Int), .int .u64 ((t).r.b.toNat : Int), .int .u64 ((t).r.c.toNat : Int), .int .u64 ((t).r.d.toNat : Int)] 29)).alloc (.cells #[.int .u64 ((root.a).toNat : Int), .int .u64 ((root.b).toNat : Int), .int .u64 ((root.c).toNat : Int), .int .u64 ((root.d).toNat : Int)] 25)) := (Lies.new W [.int .u64 ((s).m.toNat : Int), .int .u64 ((s).q.toNat : Int), .int .u64 ((s).z.toNat : Int), .int .u64 ((s).r.a.toNat : Int), .int .u64 ((s).r.b.toNat : Int), .int .u64 ((s).r.c.toNat : Int), .int .u64 ((s).r.d.toNat : Int), .int .u64 ((t).m.toNat : Int), .int .u64 ((t).q.toNat : Int), .int .u64 ((t).z.toNat : Int), .int .u64 ((t).r.a.toNat : Int), .int .u64 ((t).r.b.toNat : Int), .int .u64 ((t).r.c.toNat : Int), .int .u64 ((t).r.d.toNat : Int)] 29).call ((Below.refl _ _).alloc (Nat.le_refl _) _) (by simp)
  have R0 : Lies (W.heap.size + 1) 0 [.int .u64 ((root.a).toNat : Int), .int .u64 ((root.b).toNat : Int), .int .u64 ((root.c).toNat : Int), .int .u64 ((root.d).toNat : Int)] ((W.alloc (.cells #[.int .u64 ((s).m.toNat : Int), .int .u64 ((s).q.toNat : Int), .int .u64 ((s).z.toNat : Int), .int .u64 ((s).r.a.toNat : Int), .int .u64 ((s).r.b.toNat : Int), .int .u64 ((s).r.c.toNat : Int), .int .u64 ((s).r.d.toNat : Int), .int .u64 ((t).m.toNat : Int), .int .u64 ((t).q.toNat : Int), .int .u64 ((t).z.toNat : Int), .int .u64 ((t).r.a.toNat : Int), .int .u64 ((t).r.b.toNat : Int), .int .u64 ((t).r.c.toNat : Int), .int .u64 ((t).r.d.toNat : Int)] 29)).alloc (.cells #[.int .u64 ((root.a).toNat : Int), .int .u64 ((root.b).toNat : Int), .int .u64 ((root.c).toNat : Int), .int .u64 ((root.d).toNat : Int)] 25)) := by
    have := Lies.new (W.alloc (.cells #[.int .u64 ((s).m.toNat : Int), .int .u64 ((s).q.toNat : Int), .int .u64 ((s).z.toNat : Int), .int .u64 ((s).r.a.toNat : Int), .int .u64 ((s).r.b.toNat : Int), .int .u64 ((s).r.c.toNat : Int), .int .u64 ((s).r.d.toNat : Int), .int .u64 ((t).m.toNat : Int), .int .u64 ((t).q.toNat : Int), .int .u64 ((t).z.toNat : Int), .int .u64 ((t).r.a.toNat : Int), .int .u64 ((t).r.b.toNat : Int), .int .u64 ((t).r.c.toNat : Int), .int .u64 ((t).r.d.toNat : Int)] 29)) [.int .u64 ((root.a).toNat : Int), .int .u64 ((root.b).toNat : Int), .int .u64 ((root.c).toNat : Int), .int .u64 ((root.d).toNat : Int)] 25
    simp only [World.size_alloc] at this
    exact this
  have empty : ∀ V : World, Below W.heap.size W V → (V.alloc (.cells #[] 56)).ownsRow W.heap.size 56 3 (.slice (some ⟨V.heap.size, 0, none⟩) 0 0) 0 [] ∧ Below W.heap.size W (V.alloc (.cells #[] 56)) := fun V hV =>
    ⟨World.ownsRow_lit (base := W.heap.size) (e := 56) (size := 3) V #[] 0 hV.size (by unfold maxLen; omega) rfl, hV.alloc hV.size _⟩
  by_cases hin : 1 ≤ size ∧ size ≤ 256
  · have hc : (decide (1 ≤ size) && decide (size ≤ 256)) = true := by simp [hin.1, hin.2]
    rw [hc] at ci
    by_cases hq9 : (x.q.toNat : Int) < 1000000000
    · rw [show (decide (1 ≤ size ∧ size ≤ 256) && decide ((x.q.toNat : Int) < 1000000000)) = true by simp [hin.1, hin.2, hq9]]
      simp only [if_true]
      have hgn : ¬ 1000000000 ≤ x.q.toNat := by omega
      have hge : decide ((1000000000 : Int) ≤ (x.q.toNat : Int)) = false := by rw [decide_eq_false_iff_not]; omega
      have hgm : decide (1000000000 ≤ x.q.toNat) = false := by rw [decide_eq_false_iff_not]; omega
      have hw1 : IntKind.i64.wrap ((x.q.toNat : Int) + 1) = (x.q.toNat : Int) + 1 := IntWalk.i64_in _ (by omega)
      have hw2 : IntKind.u64.wrap ((x.q.toNat : Int) + 1) = ((toU ((x.q.toNat : Int) + 1)).toNat : Int) := by rw [toU_nat]; exact (IntWalk.u64_in _ (by omega)).trans (by omega)
      have hw3 : IntKind.u64.wrap size = ((toU size).toNat : Int) := by rw [toU_nat]; rfl
      generalize toU ((x.q.toNat : Int) + 1) = yq at hw2 ⊢
      generalize toU size = yz at hw3 ⊢
      have cs : ∀ V : World, Calls Try.prog 15 #[.agg #[.int .u64 0, .int .u64 ((yq).toNat : Int), .int .u64 ((yz).toNat : Int), .int .u64 ((root.a).toNat : Int), .int .u64 ((root.b).toNat : Int), .int .u64 ((root.c).toNat : Int), .int .u64 ((root.d).toNat : Int)]] V fun e w' => e = .returned (.int .u64 ((sumOf ⟨0, yq, yz, root⟩).toNat : Int)) ∧ Below V.heap.size V w' := fun V => by
        have := ssum_spec ⟨0, yq, yz, root⟩ V
        have e0 : (((0 : UInt64).toNat : Nat) : Int) = 0 := rfl
        simp only [e0] at this
        exact this
      by_cases hk1 : k = 1
      · subst hk1
        simp only [if_true]
        clear empty hin hk hq hq9
        go_enter Try.func31, Try.ntmps31
        go_wp2_with (first
          | (go_at_call 45; refine (ci _).mono ?_; rintro e w3 ⟨rfl, rfl⟩)
          | (go_at_call 8; refine (c1 _).mono ?_; rintro e w1 ⟨rfl, hb1⟩; have z1 := below_after z0 hb1 z0.size; have l1 : W.heap.size + 2 ≤ w1.heap.size := Nat.le_trans (by first | (simp; done) | (simp; omega) | omega) hb1.size; have R1 := R0.call hb1 (by first | (simp; done) | (simp; omega) | omega); have hy : Below w1.heap.size w1 (w1.alloc (.cells #[.int .i64 (x.q.toNat : Int), .int .i64 (x.z.toNat : Int), .int .u64 ((x.r.a).toNat : Int), .int .u64 ((x.r.b).toNat : Int), .int .u64 ((x.r.c).toNat : Int), .int .u64 ((x.r.d).toNat : Int)] 34)) := (Below.refl _ _).alloc (Nat.le_refl _) _; have R2 := R1.call hy (by omega))
          | (have hh := R2; with_reducible refine wpl_load agg_dig (W.heap.size + 1) 0 [.int .u64 ((root.a).toNat : Int), .int .u64 ((root.b).toNat : Int), .int .u64 ((root.c).toNat : Int), .int .u64 ((root.d).toNat : Int)] (by kernel_rfl) (by kernel_rfl) R2 ?_)
          | (with_reducible refine wpl_build #[.int .u64 0, .int .u64 ((yq).toNat : Int), .int .u64 ((yz).toNat : Int), .int .u64 ((root.a).toNat : Int), .int .u64 ((root.b).toNat : Int), .int .u64 ((root.c).toNat : Int), .int .u64 ((root.d).toNat : Int)] (by kernel_rfl) ?_)
          | (with_reducible refine wpl_load agg_disk W.heap.size 0 [.int .u64 ((s).m.toNat : Int), .int .u64 ((s).q.toNat : Int), .int .u64 ((s).z.toNat : Int), .int .u64 ((s).r.a.toNat : Int), .int .u64 ((s).r.b.toNat : Int), .int .u64 ((s).r.c.toNat : Int), .int .u64 ((s).r.d.toNat : Int), .int .u64 ((t).m.toNat : Int), .int .u64 ((t).q.toNat : Int), .int .u64 ((t).z.toNat : Int), .int .u64 ((t).r.a.toNat : Int), .int .u64 ((t).r.b.toNat : Int), .int .u64 ((t).r.c.toNat : Int), .int .u64 ((t).r.d.toNat : Int)] (by kernel_rfl) (by kernel_rfl) A0 ?_))
        have RS : Lies (W.heap.size + 1) 0 [.int .u64 ((root.a).toNat : Int), .int .u64 ((root.b).toNat : Int), .int .u64 ((root.c).toNat : Int), .int .u64 ((root.d).toNat : Int)] ((w1.alloc (.cells #[.int .i64 (x.q.toNat : Int), .int .i64 (x.z.toNat : Int), .int .u64 ((x.r.a).toNat : Int), .int .u64 ((x.r.b).toNat : Int), .int .u64 ((x.r.c).toNat : Int), .int .u64 ((x.r.d).toNat : Int)] 34)).alloc (.cells #[.int .u64 0, .int .u64 ((yq).toNat : Int), .int .u64 ((yz).toNat : Int), .int .u64 ((root.a).toNat : Int), .int .u64 ((root.b).toNat : Int), .int .u64 ((root.c).toNat : Int), .int .u64 ((root.d).toNat : Int)] 27)) := R2.call ((Below.refl _ _).alloc (Nat.le_refl _) _) (by first | (simp; done) | (simp; omega) | omega)
        have LS : Lies (w1.heap.size + 1) 0 [.int .u64 0, .int .u64 ((yq).toNat : Int), .int .u64 ((yz).toNat : Int), .int .u64 ((root.a).toNat : Int), .int .u64 ((root.b).toNat : Int), .int .u64 ((root.c).toNat : Int), .int .u64 ((root.d).toNat : Int)] ((w1.alloc (.cells #[.int .i64 (x.q.toNat : Int), .int .i64 (x.z.toNat : Int), .int .u64 ((x.r.a).toNat : Int), .int .u64 ((x.r.b).toNat : Int), .int .u64 ((x.r.c).toNat : Int), .int .u64 ((x.r.d).toNat : Int)] 34)).alloc (.cells #[.int .u64 0, .int .u64 ((yq).toNat : Int), .int .u64 ((yz).toNat : Int), .int .u64 ((root.a).toNat : Int), .int .u64 ((root.b).toNat : Int), .int .u64 ((root.c).toNat : Int), .int .u64 ((root.d).toNat : Int)] 27)).drew := by
          have := Lies.new (w1.alloc (.cells #[.int .i64 (x.q.toNat : Int), .int .i64 (x.z.toNat : Int), .int .u64 ((x.r.a).toNat : Int), .int .u64 ((x.r.b).toNat : Int), .int .u64 ((x.r.c).toNat : Int), .int .u64 ((x.r.d).toNat : Int)] 34)) [.int .u64 0, .int .u64 ((yq).toNat : Int), .int .u64 ((yz).toNat : Int), .int .u64 ((root.a).toNat : Int), .int .u64 ((root.b).toNat : Int), .int .u64 ((root.c).toNat : Int), .int .u64 ((root.d).toNat : Int)] 27
          rw [World.size_alloc] at this
          exact this
        have zS : Below W.heap.size W ((w1.alloc (.cells #[.int .i64 (x.q.toNat : Int), .int .i64 (x.z.toNat : Int), .int .u64 ((x.r.a).toNat : Int), .int .u64 ((x.r.b).toNat : Int), .int .u64 ((x.r.c).toNat : Int), .int .u64 ((x.r.d).toNat : Int)] 34)).alloc (.cells #[.int .u64 0, .int .u64 ((yq).toNat : Int), .int .u64 ((yz).toNat : Int), .int .u64 ((root.a).toNat : Int), .int .u64 ((root.b).toNat : Int), .int .u64 ((root.c).toNat : Int), .int .u64 ((root.d).toNat : Int)] 27)) := (z1.alloc z1.size _).alloc (z1.alloc z1.size _).size _
        have b1 : ((w1.alloc (.cells #[.int .i64 (x.q.toNat : Int), .int .i64 (x.z.toNat : Int), .int .u64 ((x.r.a).toNat : Int), .int .u64 ((x.r.b).toNat : Int), .int .u64 ((x.r.c).toNat : Int), .int .u64 ((x.r.d).toNat : Int)] 34)).alloc (.cells #[.int .u64 0, .int .u64 ((yq).toNat : Int), .int .u64 ((yz).toNat : Int), .int .u64 ((root.a).toNat : Int), .int .u64 ((root.b).toNat : Int), .int .u64 ((root.c).toNat : Int), .int .u64 ((root.d).toNat : Int)] 27)).cell? ⟨w1.heap.size + 1, 1, none⟩ = some (.int .u64 ((yq).toNat : Int)) := LS 1 _ rfl
        have b2 : ((w1.alloc (.cells #[.int .i64 (x.q.toNat : Int), .int .i64 (x.z.toNat : Int), .int .u64 ((x.r.a).toNat : Int), .int .u64 ((x.r.b).toNat : Int), .int .u64 ((x.r.c).toNat : Int), .int .u64 ((x.r.d).toNat : Int)] 34)).alloc (.cells #[.int .u64 0, .int .u64 ((yq).toNat : Int), .int .u64 ((yz).toNat : Int), .int .u64 ((root.a).toNat : Int), .int .u64 ((root.b).toNat : Int), .int .u64 ((root.c).toNat : Int), .int .u64 ((root.d).toNat : Int)] 27)).cell? ⟨w1.heap.size + 1, 2, none⟩ = some (.int .u64 ((yz).toNat : Int)) := LS 2 _ rfl
        have e0 : ((w1.alloc (.cells #[.int .i64 (x.q.toNat : Int), .int .i64 (x.z.toNat : Int), .int .u64 ((x.r.a).toNat : Int), .int .u64 ((x.r.b).toNat : Int), .int .u64 ((x.r.c).toNat : Int), .int .u64 ((x.r.d).toNat : Int)] 34)).alloc (.cells #[.int .u64 0, .int .u64 ((yq).toNat : Int), .int .u64 ((yz).toNat : Int), .int .u64 ((root.a).toNat : Int), .int .u64 ((root.b).toNat : Int), .int .u64 ((root.c).toNat : Int), .int .u64 ((root.d).toNat : Int)] 27)).cell? ⟨W.heap.size + 1, 0, none⟩ = some (.int .u64 ((root.a).toNat : Int)) := RS 0 _ rfl
        have e1 : ((w1.alloc (.cells #[.int .i64 (x.q.toNat : Int), .int .i64 (x.z.toNat : Int), .int .u64 ((x.r.a).toNat : Int), .int .u64 ((x.r.b).toNat : Int), .int .u64 ((x.r.c).toNat : Int), .int .u64 ((x.r.d).toNat : Int)] 34)).alloc (.cells #[.int .u64 0, .int .u64 ((yq).toNat : Int), .int .u64 ((yz).toNat : Int), .int .u64 ((root.a).toNat : Int), .int .u64 ((root.b).toNat : Int), .int .u64 ((root.c).toNat : Int), .int .u64 ((root.d).toNat : Int)] 27)).cell? ⟨W.heap.size + 1, 1, none⟩ = some (.int .u64 ((root.b).toNat : Int)) := RS 1 _ rfl
        have e2 : ((w1.alloc (.cells #[.int .i64 (x.q.toNat : Int), .int .i64 (x.z.toNat : Int), .int .u64 ((x.r.a).toNat : Int), .int .u64 ((x.r.b).toNat : Int), .int .u64 ((x.r.c).toNat : Int), .int .u64 ((x.r.d).toNat : Int)] 34)).alloc (.cells #[.int .u64 0, .int .u64 ((yq).toNat : Int), .int .u64 ((yz).toNat : Int), .int .u64 ((root.a).toNat : Int), .int .u64 ((root.b).toNat : Int), .int .u64 ((root.c).toNat : Int), .int .u64 ((root.d).toNat : Int)] 27)).cell? ⟨W.heap.size + 1, 2, none⟩ = some (.int .u64 ((root.c).toNat : Int)) := RS 2 _ rfl
        have e3 : ((w1.alloc (.cells #[.int .i64 (x.q.toNat : Int), .int .i64 (x.z.toNat : Int), .int .u64 ((x.r.a).toNat : Int), .int .u64 ((x.r.b).toNat : Int), .int .u64 ((x.r.c).toNat : Int), .int .u64 ((x.r.d).toNat : Int)] 34)).alloc (.cells #[.int .u64 0, .int .u64 ((yq).toNat : Int), .int .u64 ((yz).toNat : Int), .int .u64 ((root.a).toNat : Int), .int .u64 ((root.b).toNat : Int), .int .u64 ((root.c).toNat : Int), .int .u64 ((root.d).toNat : Int)] 27)).cell? ⟨W.heap.size + 1, 3, none⟩ = some (.int .u64 ((root.d).toNat : Int)) := RS 3 _ rfl
        refine wp_region_held_drew (S := fun w' => w'.cell? ⟨w1.heap.size + 1, 1, none⟩ = some (.int .u64 ((yq).toNat : Int)) ∧ w'.cell? ⟨w1.heap.size + 1, 2, none⟩ = some (.int .u64 ((yz).toNat : Int)) ∧ w'.cell? ⟨W.heap.size + 1, 0, none⟩ = some (.int .u64 ((root.a).toNat : Int)) ∧ w'.cell? ⟨W.heap.size + 1, 1, none⟩ = some (.int .u64 ((root.b).toNat : Int)) ∧ w'.cell? ⟨W.heap.size + 1, 2, none⟩ = some (.int .u64 ((root.c).toNat : Int)) ∧ w'.cell? ⟨W.heap.size + 1, 3, none⟩ = some (.int .u64 ((root.d).toNat : Int)) ∧ Lies (w1.heap.size + 1) 0 [.int .u64 0, .int .u64 ((yq).toNat : Int), .int .u64 ((yz).toNat : Int), .int .u64 ((root.a).toNat : Int), .int .u64 ((root.b).toNat : Int), .int .u64 ((root.c).toNat : Int), .int .u64 ((root.d).toNat : Int)] w') (by kernel_rfl) ⟨c_drew b1, c_drew b2, c_drew e0, c_drew e1, c_drew e2, c_drew e3, LS⟩ (fun hHeld => ?_)
        refine wpAnyH_take (i := 0) (oi := { dst := some 35, op := Op.move (Operand.tmp 9), type := 3, pos := "l7_record.go:75", after := #[], guard := none }) (v := .int .i64 2) rfl (by kernel_rfl) (by kernel_rfl) (by kernel_rfl) (fun _ _ _ h => h) (Or.inl ⟨by rfl, ?_⟩) (by assumption) ?_
        · (intro wq hq; obtain ⟨q0, q1, q2, q3, q4, q5, -⟩ := hq; go_simp)
        try simp only [Act.put, List.setIfInBounds_toArray, List.set_cons_zero, List.set_cons_succ]
        refine wpAnyH_take (i := 1) (oi := { dst := some 36, op := Op.build 56 #[(0, Operand.tmp 35), (1, Operand.const (Value.int IntKind.i64 0)), (2, Operand.const (Value.int IntKind.u64 0))], type := 56, pos := "l7_record.go:75", after := #[{ on := 0, ground := Ground.data }], guard := none }) (v := .agg #[.int .i64 2, .int .i64 0, .int .u64 0]) rfl (by kernel_rfl) (by kernel_rfl) (by kernel_rfl) (fun _ _ _ h => h) (Or.inl ⟨by rfl, ?_⟩) (by assumption) ?_
        · (intro wq hq; exact run_build_op _ (by kernel_rfl))
        try simp only [Act.put, List.setIfInBounds_toArray, List.set_cons_zero, List.set_cons_succ]
        refine wpAnyH_take (i := 2) (oi := { dst := some 37, op := Op.move (Operand.tmp 9), type := 3, pos := "l7_record.go:75", after := #[], guard := none }) (v := .int .i64 2) rfl (by kernel_rfl) (by kernel_rfl) (by kernel_rfl) (fun _ _ _ h => h) (Or.inl ⟨by rfl, ?_⟩) (by assumption) ?_
        · (intro wq hq; obtain ⟨q0, q1, q2, q3, q4, q5, -⟩ := hq; go_simp)
        try simp only [Act.put, List.setIfInBounds_toArray, List.set_cons_zero, List.set_cons_succ]
        refine wpAnyH_take (i := 3) (oi := { dst := some 38, op := Op.fieldAddr 27 (Operand.tmp 10) 1, type := 0, pos := "l7_record.go:75", after := #[], guard := none }) (v := .pointer (some ⟨w1.heap.size + 1, 1, none⟩)) rfl (by kernel_rfl) (by kernel_rfl) (by kernel_rfl) (fun _ _ _ h => h) (Or.inl ⟨by rfl, ?_⟩) (by assumption) ?_
        · (intro wq hq; obtain ⟨q0, q1, q2, q3, q4, q5, -⟩ := hq; go_simp)
        try simp only [Act.put, List.setIfInBounds_toArray, List.set_cons_zero, List.set_cons_succ]
        refine wpAnyH_take (i := 4) (oi := { dst := some 39, op := Op.load 23 (Operand.tmp 38), type := 23, pos := "l7_record.go:75", after := #[{ on := 3, ground := Ground.data }], guard := none }) (v := .int .u64 ((yq).toNat : Int)) rfl (by kernel_rfl) (by kernel_rfl) (by kernel_rfl) (fun _ _ _ h => h) (Or.inl ⟨by rfl, ?_⟩) (by assumption) ?_
        · (intro wq hq; obtain ⟨q0, q1, q2, q3, q4, q5, -⟩ := hq; go_simp)
        try simp only [Act.put, List.setIfInBounds_toArray, List.set_cons_zero, List.set_cons_succ]
        refine wpAnyH_take (i := 5) (oi := { dst := some 40, op := Op.build 56 #[(0, Operand.tmp 37), (1, Operand.const (Value.int IntKind.i64 1)), (2, Operand.tmp 39)], type := 56, pos := "l7_record.go:75", after := #[{ on := 2, ground := Ground.data }, { on := 4, ground := Ground.data }], guard := none }) (v := .agg #[.int .i64 2, .int .i64 1, .int .u64 ((yq).toNat : Int)]) rfl (by kernel_rfl) (by kernel_rfl) (by kernel_rfl) (fun _ _ _ h => h) (Or.inl ⟨by rfl, ?_⟩) (by assumption) ?_
        · (intro wq hq; exact run_build_op _ (by kernel_rfl))
        try simp only [Act.put, List.setIfInBounds_toArray, List.set_cons_zero, List.set_cons_succ]
        refine wpAnyH_take (i := 6) (oi := { dst := some 41, op := Op.move (Operand.tmp 9), type := 3, pos := "l7_record.go:75", after := #[], guard := none }) (v := .int .i64 2) rfl (by kernel_rfl) (by kernel_rfl) (by kernel_rfl) (fun _ _ _ h => h) (Or.inl ⟨by rfl, ?_⟩) (by assumption) ?_
        · (intro wq hq; obtain ⟨q0, q1, q2, q3, q4, q5, -⟩ := hq; go_simp)
        try simp only [Act.put, List.setIfInBounds_toArray, List.set_cons_zero, List.set_cons_succ]
        refine wpAnyH_take (i := 7) (oi := { dst := some 42, op := Op.fieldAddr 27 (Operand.tmp 10) 2, type := 0, pos := "l7_record.go:75", after := #[], guard := none }) (v := .pointer (some ⟨w1.heap.size + 1, 2, none⟩)) rfl (by kernel_rfl) (by kernel_rfl) (by kernel_rfl) (fun _ _ _ h => h) (Or.inl ⟨by rfl, ?_⟩) (by assumption) ?_
        · (intro wq hq; obtain ⟨q0, q1, q2, q3, q4, q5, -⟩ := hq; go_simp)
        try simp only [Act.put, List.setIfInBounds_toArray, List.set_cons_zero, List.set_cons_succ]
        refine wpAnyH_take (i := 8) (oi := { dst := some 43, op := Op.load 23 (Operand.tmp 42), type := 23, pos := "l7_record.go:75", after := #[{ on := 7, ground := Ground.data }], guard := none }) (v := .int .u64 ((yz).toNat : Int)) rfl (by kernel_rfl) (by kernel_rfl) (by kernel_rfl) (fun _ _ _ h => h) (Or.inl ⟨by rfl, ?_⟩) (by assumption) ?_
        · (intro wq hq; obtain ⟨q0, q1, q2, q3, q4, q5, -⟩ := hq; go_simp)
        try simp only [Act.put, List.setIfInBounds_toArray, List.set_cons_zero, List.set_cons_succ]
        refine wpAnyH_take (i := 9) (oi := { dst := some 44, op := Op.build 56 #[(0, Operand.tmp 41), (1, Operand.const (Value.int IntKind.i64 2)), (2, Operand.tmp 43)], type := 56, pos := "l7_record.go:75", after := #[{ on := 6, ground := Ground.data }, { on := 8, ground := Ground.data }], guard := none }) (v := .agg #[.int .i64 2, .int .i64 2, .int .u64 ((yz).toNat : Int)]) rfl (by kernel_rfl) (by kernel_rfl) (by kernel_rfl) (fun _ _ _ h => h) (Or.inl ⟨by rfl, ?_⟩) (by assumption) ?_
        · (intro wq hq; exact run_build_op _ (by kernel_rfl))
        try simp only [Act.put, List.setIfInBounds_toArray, List.set_cons_zero, List.set_cons_succ]
        refine wpAnyH_take (i := 10) (oi := { dst := some 45, op := Op.move (Operand.tmp 9), type := 3, pos := "l7_record.go:75", after := #[], guard := none }) (v := .int .i64 2) rfl (by kernel_rfl) (by kernel_rfl) (by kernel_rfl) (fun _ _ _ h => h) (Or.inl ⟨by rfl, ?_⟩) (by assumption) ?_
        · (intro wq hq; obtain ⟨q0, q1, q2, q3, q4, q5, -⟩ := hq; go_simp)
        try simp only [Act.put, List.setIfInBounds_toArray, List.set_cons_zero, List.set_cons_succ]
        refine wpAnyH_take (i := 11) (oi := { dst := some 46, op := Op.fieldAddr 25 (Operand.tmp 5) 0, type := 0, pos := "l7_record.go:75", after := #[], guard := none }) (v := .pointer (some ⟨W.heap.size + 1, 0, none⟩)) rfl (by kernel_rfl) (by kernel_rfl) (by kernel_rfl) (fun _ _ _ h => h) (Or.inl ⟨by rfl, ?_⟩) (by assumption) ?_
        · (intro wq hq; obtain ⟨q0, q1, q2, q3, q4, q5, -⟩ := hq; go_simp)
        try simp only [Act.put, List.setIfInBounds_toArray, List.set_cons_zero, List.set_cons_succ]
        refine wpAnyH_take (i := 12) (oi := { dst := some 47, op := Op.load 23 (Operand.tmp 46), type := 23, pos := "l7_record.go:75", after := #[{ on := 11, ground := Ground.data }], guard := none }) (v := .int .u64 ((root.a).toNat : Int)) rfl (by kernel_rfl) (by kernel_rfl) (by kernel_rfl) (fun _ _ _ h => h) (Or.inl ⟨by rfl, ?_⟩) (by assumption) ?_
        · (intro wq hq; obtain ⟨q0, q1, q2, q3, q4, q5, -⟩ := hq; go_simp)
        try simp only [Act.put, List.setIfInBounds_toArray, List.set_cons_zero, List.set_cons_succ]
        refine wpAnyH_take (i := 13) (oi := { dst := some 48, op := Op.build 56 #[(0, Operand.tmp 45), (1, Operand.const (Value.int IntKind.i64 3)), (2, Operand.tmp 47)], type := 56, pos := "l7_record.go:75", after := #[{ on := 10, ground := Ground.data }, { on := 12, ground := Ground.data }], guard := none }) (v := .agg #[.int .i64 2, .int .i64 3, .int .u64 ((root.a).toNat : Int)]) rfl (by kernel_rfl) (by kernel_rfl) (by kernel_rfl) (fun _ _ _ h => h) (Or.inl ⟨by rfl, ?_⟩) (by assumption) ?_
        · (intro wq hq; exact run_build_op _ (by kernel_rfl))
        try simp only [Act.put, List.setIfInBounds_toArray, List.set_cons_zero, List.set_cons_succ]
        refine wpAnyH_take (i := 14) (oi := { dst := some 49, op := Op.move (Operand.tmp 9), type := 3, pos := "l7_record.go:75", after := #[], guard := none }) (v := .int .i64 2) rfl (by kernel_rfl) (by kernel_rfl) (by kernel_rfl) (fun _ _ _ h => h) (Or.inl ⟨by rfl, ?_⟩) (by assumption) ?_
        · (intro wq hq; obtain ⟨q0, q1, q2, q3, q4, q5, -⟩ := hq; go_simp)
        try simp only [Act.put, List.setIfInBounds_toArray, List.set_cons_zero, List.set_cons_succ]
        refine wpAnyH_take (i := 15) (oi := { dst := some 50, op := Op.fieldAddr 25 (Operand.tmp 5) 1, type := 0, pos := "l7_record.go:75", after := #[], guard := none }) (v := .pointer (some ⟨W.heap.size + 1, 1, none⟩)) rfl (by kernel_rfl) (by kernel_rfl) (by kernel_rfl) (fun _ _ _ h => h) (Or.inl ⟨by rfl, ?_⟩) (by assumption) ?_
        · (intro wq hq; obtain ⟨q0, q1, q2, q3, q4, q5, -⟩ := hq; go_simp)
        try simp only [Act.put, List.setIfInBounds_toArray, List.set_cons_zero, List.set_cons_succ]
        refine wpAnyH_take (i := 16) (oi := { dst := some 51, op := Op.load 23 (Operand.tmp 50), type := 23, pos := "l7_record.go:75", after := #[{ on := 15, ground := Ground.data }], guard := none }) (v := .int .u64 ((root.b).toNat : Int)) rfl (by kernel_rfl) (by kernel_rfl) (by kernel_rfl) (fun _ _ _ h => h) (Or.inl ⟨by rfl, ?_⟩) (by assumption) ?_
        · (intro wq hq; obtain ⟨q0, q1, q2, q3, q4, q5, -⟩ := hq; go_simp)
        try simp only [Act.put, List.setIfInBounds_toArray, List.set_cons_zero, List.set_cons_succ]
        refine wpAnyH_take (i := 17) (oi := { dst := some 52, op := Op.build 56 #[(0, Operand.tmp 49), (1, Operand.const (Value.int IntKind.i64 4)), (2, Operand.tmp 51)], type := 56, pos := "l7_record.go:75", after := #[{ on := 14, ground := Ground.data }, { on := 16, ground := Ground.data }], guard := none }) (v := .agg #[.int .i64 2, .int .i64 4, .int .u64 ((root.b).toNat : Int)]) rfl (by kernel_rfl) (by kernel_rfl) (by kernel_rfl) (fun _ _ _ h => h) (Or.inl ⟨by rfl, ?_⟩) (by assumption) ?_
        · (intro wq hq; exact run_build_op _ (by kernel_rfl))
        try simp only [Act.put, List.setIfInBounds_toArray, List.set_cons_zero, List.set_cons_succ]
        refine wpAnyH_take (i := 18) (oi := { dst := some 53, op := Op.move (Operand.tmp 9), type := 3, pos := "l7_record.go:75", after := #[], guard := none }) (v := .int .i64 2) rfl (by kernel_rfl) (by kernel_rfl) (by kernel_rfl) (fun _ _ _ h => h) (Or.inl ⟨by rfl, ?_⟩) (by assumption) ?_
        · (intro wq hq; obtain ⟨q0, q1, q2, q3, q4, q5, -⟩ := hq; go_simp)
        try simp only [Act.put, List.setIfInBounds_toArray, List.set_cons_zero, List.set_cons_succ]
        refine wpAnyH_take (i := 19) (oi := { dst := some 54, op := Op.fieldAddr 25 (Operand.tmp 5) 2, type := 0, pos := "l7_record.go:75", after := #[], guard := none }) (v := .pointer (some ⟨W.heap.size + 1, 2, none⟩)) rfl (by kernel_rfl) (by kernel_rfl) (by kernel_rfl) (fun _ _ _ h => h) (Or.inl ⟨by rfl, ?_⟩) (by assumption) ?_
        · (intro wq hq; obtain ⟨q0, q1, q2, q3, q4, q5, -⟩ := hq; go_simp)
        try simp only [Act.put, List.setIfInBounds_toArray, List.set_cons_zero, List.set_cons_succ]
        refine wpAnyH_take (i := 20) (oi := { dst := some 55, op := Op.load 23 (Operand.tmp 54), type := 23, pos := "l7_record.go:75", after := #[{ on := 19, ground := Ground.data }], guard := none }) (v := .int .u64 ((root.c).toNat : Int)) rfl (by kernel_rfl) (by kernel_rfl) (by kernel_rfl) (fun _ _ _ h => h) (Or.inl ⟨by rfl, ?_⟩) (by assumption) ?_
        · (intro wq hq; obtain ⟨q0, q1, q2, q3, q4, q5, -⟩ := hq; go_simp)
        try simp only [Act.put, List.setIfInBounds_toArray, List.set_cons_zero, List.set_cons_succ]
        refine wpAnyH_take (i := 21) (oi := { dst := some 56, op := Op.build 56 #[(0, Operand.tmp 53), (1, Operand.const (Value.int IntKind.i64 5)), (2, Operand.tmp 55)], type := 56, pos := "l7_record.go:75", after := #[{ on := 18, ground := Ground.data }, { on := 20, ground := Ground.data }], guard := none }) (v := .agg #[.int .i64 2, .int .i64 5, .int .u64 ((root.c).toNat : Int)]) rfl (by kernel_rfl) (by kernel_rfl) (by kernel_rfl) (fun _ _ _ h => h) (Or.inl ⟨by rfl, ?_⟩) (by assumption) ?_
        · (intro wq hq; exact run_build_op _ (by kernel_rfl))
        try simp only [Act.put, List.setIfInBounds_toArray, List.set_cons_zero, List.set_cons_succ]
        refine wpAnyH_take (i := 22) (oi := { dst := some 57, op := Op.move (Operand.tmp 9), type := 3, pos := "l7_record.go:75", after := #[], guard := none }) (v := .int .i64 2) rfl (by kernel_rfl) (by kernel_rfl) (by kernel_rfl) (fun _ _ _ h => h) (Or.inl ⟨by rfl, ?_⟩) (by assumption) ?_
        · (intro wq hq; obtain ⟨q0, q1, q2, q3, q4, q5, -⟩ := hq; go_simp)
        try simp only [Act.put, List.setIfInBounds_toArray, List.set_cons_zero, List.set_cons_succ]
        refine wpAnyH_take (i := 23) (oi := { dst := some 58, op := Op.fieldAddr 25 (Operand.tmp 5) 3, type := 0, pos := "l7_record.go:75", after := #[], guard := none }) (v := .pointer (some ⟨W.heap.size + 1, 3, none⟩)) rfl (by kernel_rfl) (by kernel_rfl) (by kernel_rfl) (fun _ _ _ h => h) (Or.inl ⟨by rfl, ?_⟩) (by assumption) ?_
        · (intro wq hq; obtain ⟨q0, q1, q2, q3, q4, q5, -⟩ := hq; go_simp)
        try simp only [Act.put, List.setIfInBounds_toArray, List.set_cons_zero, List.set_cons_succ]
        refine wpAnyH_take (i := 24) (oi := { dst := some 59, op := Op.load 23 (Operand.tmp 58), type := 23, pos := "l7_record.go:75", after := #[{ on := 23, ground := Ground.data }], guard := none }) (v := .int .u64 ((root.d).toNat : Int)) rfl (by kernel_rfl) (by kernel_rfl) (by kernel_rfl) (fun _ _ _ h => h) (Or.inl ⟨by rfl, ?_⟩) (by assumption) ?_
        · (intro wq hq; obtain ⟨q0, q1, q2, q3, q4, q5, -⟩ := hq; go_simp)
        try simp only [Act.put, List.setIfInBounds_toArray, List.set_cons_zero, List.set_cons_succ]
        refine wpAnyH_take (i := 25) (oi := { dst := some 60, op := Op.build 56 #[(0, Operand.tmp 57), (1, Operand.const (Value.int IntKind.i64 6)), (2, Operand.tmp 59)], type := 56, pos := "l7_record.go:75", after := #[{ on := 22, ground := Ground.data }, { on := 24, ground := Ground.data }], guard := none }) (v := .agg #[.int .i64 2, .int .i64 6, .int .u64 ((root.d).toNat : Int)]) rfl (by kernel_rfl) (by kernel_rfl) (by kernel_rfl) (fun _ _ _ h => h) (Or.inl ⟨by rfl, ?_⟩) (by assumption) ?_
        · (intro wq hq; exact run_build_op _ (by kernel_rfl))
        try simp only [Act.put, List.setIfInBounds_toArray, List.set_cons_zero, List.set_cons_succ]
        refine wpAnyH_take (i := 26) (oi := { dst := some 61, op := Op.move (Operand.tmp 9), type := 3, pos := "l7_record.go:75", after := #[], guard := none }) (v := .int .i64 2) rfl (by kernel_rfl) (by kernel_rfl) (by kernel_rfl) (fun _ _ _ h => h) (Or.inl ⟨by rfl, ?_⟩) (by assumption) ?_
        · (intro wq hq; obtain ⟨q0, q1, q2, q3, q4, q5, -⟩ := hq; go_simp)
        try simp only [Act.put, List.setIfInBounds_toArray, List.set_cons_zero, List.set_cons_succ]
        refine wpAnyH_take (i := 27) (oi := { dst := some 62, op := Op.load 27 (Operand.tmp 10), type := 27, pos := "l7_record.go:75", after := #[], guard := none }) (v := .agg #[.int .u64 0, .int .u64 ((yq).toNat : Int), .int .u64 ((yz).toNat : Int), .int .u64 ((root.a).toNat : Int), .int .u64 ((root.b).toNat : Int), .int .u64 ((root.c).toNat : Int), .int .u64 ((root.d).toNat : Int)]) rfl (by kernel_rfl) (by kernel_rfl) (by kernel_rfl) (fun _ _ _ h => h) (Or.inl ⟨by rfl, ?_⟩) (by assumption) ?_
        · (intro wq hq; exact run_load_op agg_slot (w1.heap.size + 1) 0 [.int .u64 0, .int .u64 ((yq).toNat : Int), .int .u64 ((yz).toNat : Int), .int .u64 ((root.a).toNat : Int), .int .u64 ((root.b).toNat : Int), .int .u64 ((root.c).toNat : Int), .int .u64 ((root.d).toNat : Int)] (by kernel_rfl) (by kernel_rfl) hq.2.2.2.2.2.2)
        try simp only [Act.put, List.setIfInBounds_toArray, List.set_cons_zero, List.set_cons_succ]
        refine wpAnyH_ready (rs := [28]) (by kernel_rfl) (by simp) ?_
        refine AllReadyH.cons (o := { dst := some 63, op := Op.call { callee := Callee.value (Operand.func 15), args := #[Operand.tmp 62], argTypes := #[27] }, type := 23, pos := "l7_record.go:83", after := #[{ on := 27, ground := Ground.data }], guard := none }) rfl (fun K hK => ?_) AllReadyH.nil
        go_simp
        go_at_call 15
        refine (cs _).mono ?_
        rintro e w3 ⟨rfl, hb3⟩
        have hy3 : Below ((w1.alloc (.cells #[.int .i64 (x.q.toNat : Int), .int .i64 (x.z.toNat : Int), .int .u64 ((x.r.a).toNat : Int), .int .u64 ((x.r.b).toNat : Int), .int .u64 ((x.r.c).toNat : Int), .int .u64 ((x.r.d).toNat : Int)] 34)).alloc (.cells #[.int .u64 0, .int .u64 ((yq).toNat : Int), .int .u64 ((yz).toNat : Int), .int .u64 ((root.a).toNat : Int), .int .u64 ((root.b).toNat : Int), .int .u64 ((root.c).toNat : Int), .int .u64 ((root.d).toNat : Int)] 27)).heap.size ((w1.alloc (.cells #[.int .i64 (x.q.toNat : Int), .int .i64 (x.z.toNat : Int), .int .u64 ((x.r.a).toNat : Int), .int .u64 ((x.r.b).toNat : Int), .int .u64 ((x.r.c).toNat : Int), .int .u64 ((x.r.d).toNat : Int)] 34)).alloc (.cells #[.int .u64 0, .int .u64 ((yq).toNat : Int), .int .u64 ((yz).toNat : Int), .int .u64 ((root.a).toNat : Int), .int .u64 ((root.b).toNat : Int), .int .u64 ((root.c).toNat : Int), .int .u64 ((root.d).toNat : Int)] 27)) w3 := below_after (Below.drew (Below.refl _ _)) hb3 (by simp)
        have z3 := below_after zS hy3 zS.size
        have f1 := (hb3.cell (p := ⟨w1.heap.size + 1, 1, none⟩) (by simp)).trans b1
        have f2 := (hb3.cell (p := ⟨w1.heap.size + 1, 2, none⟩) (by simp)).trans b2
        have f3 := (hb3.cell (p := ⟨W.heap.size + 1, 0, none⟩) (by simp; omega)).trans e0
        have f4 := (hb3.cell (p := ⟨W.heap.size + 1, 1, none⟩) (by simp; omega)).trans e1
        have f5 := (hb3.cell (p := ⟨W.heap.size + 1, 2, none⟩) (by simp; omega)).trans e2
        have f6 := (hb3.cell (p := ⟨W.heap.size + 1, 3, none⟩) (by simp; omega)).trans e3
        have LS3 : Lies (w1.heap.size + 1) 0 [.int .u64 0, .int .u64 ((yq).toNat : Int), .int .u64 ((yz).toNat : Int), .int .u64 ((root.a).toNat : Int), .int .u64 ((root.b).toNat : Int), .int .u64 ((root.c).toNat : Int), .int .u64 ((root.d).toNat : Int)] w3 := LS.call hb3 (by simp)
        go_simp
        refine hK.out _ _ ⟨f1, f2, f3, f4, f5, f6, LS3⟩ (fun hHeld => ?_)
        clear hK K
        refine wpAnyH_take (i := 29) (oi := { dst := some 64, op := Op.build 56 #[(0, Operand.tmp 61), (1, Operand.const (Value.int IntKind.i64 0)), (2, Operand.tmp 63)], type := 56, pos := "l7_record.go:75", after := #[{ on := 26, ground := Ground.data }, { on := 28, ground := Ground.data }], guard := none }) (v := .agg #[.int .i64 2, .int .i64 0, .int .u64 ((sumOf ⟨0, yq, yz, root⟩).toNat : Int)]) rfl (by kernel_rfl) (by kernel_rfl) (by kernel_rfl) (fun _ _ _ h => h) (Or.inl ⟨by rfl, ?_⟩) (by assumption) ?_
        · (intro wq hq; exact run_build_op _ (by kernel_rfl))
        try simp only [Act.put, List.setIfInBounds_toArray, List.set_cons_zero, List.set_cons_succ]
        refine wpAnyH_ready (rs := [30]) (by kernel_rfl) (by simp) ?_
        refine AllReadyH.cons (o := { dst := some 65, op := Op.buildSlice 31 8 #[(0, Operand.tmp 36), (1, Operand.tmp 40), (2, Operand.tmp 44), (3, Operand.tmp 48), (4, Operand.tmp 52), (5, Operand.tmp 56), (6, Operand.tmp 60), (7, Operand.tmp 64)], type := 31, pos := "l7_record.go:75", after := #[{ on := 1, ground := Ground.data }, { on := 5, ground := Ground.data }, { on := 9, ground := Ground.data }, { on := 13, ground := Ground.data }, { on := 17, ground := Ground.data }, { on := 21, ground := Ground.data }, { on := 25, ground := Ground.data }, { on := 29, ground := Ground.data }], guard := none }) rfl (fun K hK => ?_) AllReadyH.nil
        go_simp
        refine hK.out _ _ ⟨c_alloc f1, c_alloc f2, c_alloc f3, c_alloc f4, c_alloc f5, c_alloc f6, LS3.call ((Below.refl _ _).alloc (Nat.le_refl _) _) (by have := hb3.size; simp at this; omega)⟩ (fun hHeld => ?_)
        clear hK K
        refine wpAnyH_take (i := 31) (oi := { dst := some 6, op := Op.assign (Operand.tmp 65), type := 31, pos := "l7_record.go:75", after := #[{ on := 30, ground := Ground.data }, { on := 28, ground := Ground.chain }, { on := 0, ground := Ground.phase }, { on := 1, ground := Ground.phase }, { on := 2, ground := Ground.phase }, { on := 3, ground := Ground.phase }, { on := 4, ground := Ground.phase }, { on := 5, ground := Ground.phase }, { on := 6, ground := Ground.phase }, { on := 7, ground := Ground.phase }, { on := 8, ground := Ground.phase }, { on := 9, ground := Ground.phase }, { on := 10, ground := Ground.phase }, { on := 11, ground := Ground.phase }, { on := 12, ground := Ground.phase }, { on := 13, ground := Ground.phase }, { on := 14, ground := Ground.phase }, { on := 15, ground := Ground.phase }, { on := 16, ground := Ground.phase }, { on := 17, ground := Ground.phase }, { on := 18, ground := Ground.phase }, { on := 19, ground := Ground.phase }, { on := 20, ground := Ground.phase }, { on := 21, ground := Ground.phase }, { on := 22, ground := Ground.phase }, { on := 23, ground := Ground.phase }, { on := 24, ground := Ground.phase }, { on := 25, ground := Ground.phase }, { on := 26, ground := Ground.phase }, { on := 27, ground := Ground.phase }, { on := 28, ground := Ground.phase }, { on := 29, ground := Ground.phase }, { on := 30, ground := Ground.phase }], guard := none }) (v := .slice (some ⟨w3.heap.size, 0, none⟩) 8 8) rfl (by kernel_rfl) (by kernel_rfl) (by kernel_rfl) (fun _ _ _ h => h) (Or.inl ⟨by rfl, ?_⟩) (by assumption) ?_
        · (intro wq hq; go_simp)
        try simp only [Act.put, List.setIfInBounds_toArray, List.set_cons_zero, List.set_cons_succ]
        refine wpAnyH_done (by kernel_rfl) ?_ _
        go_wp2_with fail
        go_ret
        refine ⟨_, rfl, ?_, z3.alloc z3.size _⟩
        exact raws_own w3 (k8 2 ⟨0, yq, yz, root⟩) 8 W.heap.size rfl z3.size (by unfold maxLen; omega)
      · rw [if_neg hk1]
        have hkb : ((k : Int) == 1) = false := by simpa using hk1
        clear empty hin hk hq hq9
        go_enter Try.func31, Try.ntmps31
        go_wp2_with (first
          | (go_at_call 45; refine (ci _).mono ?_; rintro e w3 ⟨rfl, rfl⟩)
          | (go_at_call 8; refine (c1 _).mono ?_; rintro e w1 ⟨rfl, hb1⟩; have z1 := below_after z0 hb1 z0.size; have l1 : W.heap.size + 2 ≤ w1.heap.size := Nat.le_trans (by first | (simp; done) | (simp; omega) | omega) hb1.size; have R1 := R0.call hb1 (by first | (simp; done) | (simp; omega) | omega); have hy : Below w1.heap.size w1 (w1.alloc (.cells #[.int .i64 (x.q.toNat : Int), .int .i64 (x.z.toNat : Int), .int .u64 ((x.r.a).toNat : Int), .int .u64 ((x.r.b).toNat : Int), .int .u64 ((x.r.c).toNat : Int), .int .u64 ((x.r.d).toNat : Int)] 34)) := (Below.refl _ _).alloc (Nat.le_refl _) _; have R2 := R1.call hy (by omega))
          | (have hh := R2; with_reducible refine wpl_load agg_dig (W.heap.size + 1) 0 [.int .u64 ((root.a).toNat : Int), .int .u64 ((root.b).toNat : Int), .int .u64 ((root.c).toNat : Int), .int .u64 ((root.d).toNat : Int)] (by kernel_rfl) (by kernel_rfl) R2 ?_)
          | (with_reducible refine wpl_build #[.int .u64 0, .int .u64 ((yq).toNat : Int), .int .u64 ((yz).toNat : Int), .int .u64 ((root.a).toNat : Int), .int .u64 ((root.b).toNat : Int), .int .u64 ((root.c).toNat : Int), .int .u64 ((root.d).toNat : Int)] (by kernel_rfl) ?_)
          | (with_reducible refine wpl_load agg_disk W.heap.size 0 [.int .u64 ((s).m.toNat : Int), .int .u64 ((s).q.toNat : Int), .int .u64 ((s).z.toNat : Int), .int .u64 ((s).r.a.toNat : Int), .int .u64 ((s).r.b.toNat : Int), .int .u64 ((s).r.c.toNat : Int), .int .u64 ((s).r.d.toNat : Int), .int .u64 ((t).m.toNat : Int), .int .u64 ((t).q.toNat : Int), .int .u64 ((t).z.toNat : Int), .int .u64 ((t).r.a.toNat : Int), .int .u64 ((t).r.b.toNat : Int), .int .u64 ((t).r.c.toNat : Int), .int .u64 ((t).r.d.toNat : Int)] (by kernel_rfl) (by kernel_rfl) A0 ?_))
        have RS : Lies (W.heap.size + 1) 0 [.int .u64 ((root.a).toNat : Int), .int .u64 ((root.b).toNat : Int), .int .u64 ((root.c).toNat : Int), .int .u64 ((root.d).toNat : Int)] ((w1.alloc (.cells #[.int .i64 (x.q.toNat : Int), .int .i64 (x.z.toNat : Int), .int .u64 ((x.r.a).toNat : Int), .int .u64 ((x.r.b).toNat : Int), .int .u64 ((x.r.c).toNat : Int), .int .u64 ((x.r.d).toNat : Int)] 34)).alloc (.cells #[.int .u64 0, .int .u64 ((yq).toNat : Int), .int .u64 ((yz).toNat : Int), .int .u64 ((root.a).toNat : Int), .int .u64 ((root.b).toNat : Int), .int .u64 ((root.c).toNat : Int), .int .u64 ((root.d).toNat : Int)] 27)) := R2.call ((Below.refl _ _).alloc (Nat.le_refl _) _) (by first | (simp; done) | (simp; omega) | omega)
        have LS : Lies (w1.heap.size + 1) 0 [.int .u64 0, .int .u64 ((yq).toNat : Int), .int .u64 ((yz).toNat : Int), .int .u64 ((root.a).toNat : Int), .int .u64 ((root.b).toNat : Int), .int .u64 ((root.c).toNat : Int), .int .u64 ((root.d).toNat : Int)] ((w1.alloc (.cells #[.int .i64 (x.q.toNat : Int), .int .i64 (x.z.toNat : Int), .int .u64 ((x.r.a).toNat : Int), .int .u64 ((x.r.b).toNat : Int), .int .u64 ((x.r.c).toNat : Int), .int .u64 ((x.r.d).toNat : Int)] 34)).alloc (.cells #[.int .u64 0, .int .u64 ((yq).toNat : Int), .int .u64 ((yz).toNat : Int), .int .u64 ((root.a).toNat : Int), .int .u64 ((root.b).toNat : Int), .int .u64 ((root.c).toNat : Int), .int .u64 ((root.d).toNat : Int)] 27)).drew := by
          have := Lies.new (w1.alloc (.cells #[.int .i64 (x.q.toNat : Int), .int .i64 (x.z.toNat : Int), .int .u64 ((x.r.a).toNat : Int), .int .u64 ((x.r.b).toNat : Int), .int .u64 ((x.r.c).toNat : Int), .int .u64 ((x.r.d).toNat : Int)] 34)) [.int .u64 0, .int .u64 ((yq).toNat : Int), .int .u64 ((yz).toNat : Int), .int .u64 ((root.a).toNat : Int), .int .u64 ((root.b).toNat : Int), .int .u64 ((root.c).toNat : Int), .int .u64 ((root.d).toNat : Int)] 27
          rw [World.size_alloc] at this
          exact this
        have zS : Below W.heap.size W ((w1.alloc (.cells #[.int .i64 (x.q.toNat : Int), .int .i64 (x.z.toNat : Int), .int .u64 ((x.r.a).toNat : Int), .int .u64 ((x.r.b).toNat : Int), .int .u64 ((x.r.c).toNat : Int), .int .u64 ((x.r.d).toNat : Int)] 34)).alloc (.cells #[.int .u64 0, .int .u64 ((yq).toNat : Int), .int .u64 ((yz).toNat : Int), .int .u64 ((root.a).toNat : Int), .int .u64 ((root.b).toNat : Int), .int .u64 ((root.c).toNat : Int), .int .u64 ((root.d).toNat : Int)] 27)) := (z1.alloc z1.size _).alloc (z1.alloc z1.size _).size _
        have b1 : ((w1.alloc (.cells #[.int .i64 (x.q.toNat : Int), .int .i64 (x.z.toNat : Int), .int .u64 ((x.r.a).toNat : Int), .int .u64 ((x.r.b).toNat : Int), .int .u64 ((x.r.c).toNat : Int), .int .u64 ((x.r.d).toNat : Int)] 34)).alloc (.cells #[.int .u64 0, .int .u64 ((yq).toNat : Int), .int .u64 ((yz).toNat : Int), .int .u64 ((root.a).toNat : Int), .int .u64 ((root.b).toNat : Int), .int .u64 ((root.c).toNat : Int), .int .u64 ((root.d).toNat : Int)] 27)).cell? ⟨w1.heap.size + 1, 1, none⟩ = some (.int .u64 ((yq).toNat : Int)) := LS 1 _ rfl
        have b2 : ((w1.alloc (.cells #[.int .i64 (x.q.toNat : Int), .int .i64 (x.z.toNat : Int), .int .u64 ((x.r.a).toNat : Int), .int .u64 ((x.r.b).toNat : Int), .int .u64 ((x.r.c).toNat : Int), .int .u64 ((x.r.d).toNat : Int)] 34)).alloc (.cells #[.int .u64 0, .int .u64 ((yq).toNat : Int), .int .u64 ((yz).toNat : Int), .int .u64 ((root.a).toNat : Int), .int .u64 ((root.b).toNat : Int), .int .u64 ((root.c).toNat : Int), .int .u64 ((root.d).toNat : Int)] 27)).cell? ⟨w1.heap.size + 1, 2, none⟩ = some (.int .u64 ((yz).toNat : Int)) := LS 2 _ rfl
        have e0 : ((w1.alloc (.cells #[.int .i64 (x.q.toNat : Int), .int .i64 (x.z.toNat : Int), .int .u64 ((x.r.a).toNat : Int), .int .u64 ((x.r.b).toNat : Int), .int .u64 ((x.r.c).toNat : Int), .int .u64 ((x.r.d).toNat : Int)] 34)).alloc (.cells #[.int .u64 0, .int .u64 ((yq).toNat : Int), .int .u64 ((yz).toNat : Int), .int .u64 ((root.a).toNat : Int), .int .u64 ((root.b).toNat : Int), .int .u64 ((root.c).toNat : Int), .int .u64 ((root.d).toNat : Int)] 27)).cell? ⟨W.heap.size + 1, 0, none⟩ = some (.int .u64 ((root.a).toNat : Int)) := RS 0 _ rfl
        have e1 : ((w1.alloc (.cells #[.int .i64 (x.q.toNat : Int), .int .i64 (x.z.toNat : Int), .int .u64 ((x.r.a).toNat : Int), .int .u64 ((x.r.b).toNat : Int), .int .u64 ((x.r.c).toNat : Int), .int .u64 ((x.r.d).toNat : Int)] 34)).alloc (.cells #[.int .u64 0, .int .u64 ((yq).toNat : Int), .int .u64 ((yz).toNat : Int), .int .u64 ((root.a).toNat : Int), .int .u64 ((root.b).toNat : Int), .int .u64 ((root.c).toNat : Int), .int .u64 ((root.d).toNat : Int)] 27)).cell? ⟨W.heap.size + 1, 1, none⟩ = some (.int .u64 ((root.b).toNat : Int)) := RS 1 _ rfl
        have e2 : ((w1.alloc (.cells #[.int .i64 (x.q.toNat : Int), .int .i64 (x.z.toNat : Int), .int .u64 ((x.r.a).toNat : Int), .int .u64 ((x.r.b).toNat : Int), .int .u64 ((x.r.c).toNat : Int), .int .u64 ((x.r.d).toNat : Int)] 34)).alloc (.cells #[.int .u64 0, .int .u64 ((yq).toNat : Int), .int .u64 ((yz).toNat : Int), .int .u64 ((root.a).toNat : Int), .int .u64 ((root.b).toNat : Int), .int .u64 ((root.c).toNat : Int), .int .u64 ((root.d).toNat : Int)] 27)).cell? ⟨W.heap.size + 1, 2, none⟩ = some (.int .u64 ((root.c).toNat : Int)) := RS 2 _ rfl
        have e3 : ((w1.alloc (.cells #[.int .i64 (x.q.toNat : Int), .int .i64 (x.z.toNat : Int), .int .u64 ((x.r.a).toNat : Int), .int .u64 ((x.r.b).toNat : Int), .int .u64 ((x.r.c).toNat : Int), .int .u64 ((x.r.d).toNat : Int)] 34)).alloc (.cells #[.int .u64 0, .int .u64 ((yq).toNat : Int), .int .u64 ((yz).toNat : Int), .int .u64 ((root.a).toNat : Int), .int .u64 ((root.b).toNat : Int), .int .u64 ((root.c).toNat : Int), .int .u64 ((root.d).toNat : Int)] 27)).cell? ⟨W.heap.size + 1, 3, none⟩ = some (.int .u64 ((root.d).toNat : Int)) := RS 3 _ rfl
        refine wp_region_held_drew (S := fun w' => w'.cell? ⟨w1.heap.size + 1, 1, none⟩ = some (.int .u64 ((yq).toNat : Int)) ∧ w'.cell? ⟨w1.heap.size + 1, 2, none⟩ = some (.int .u64 ((yz).toNat : Int)) ∧ w'.cell? ⟨W.heap.size + 1, 0, none⟩ = some (.int .u64 ((root.a).toNat : Int)) ∧ w'.cell? ⟨W.heap.size + 1, 1, none⟩ = some (.int .u64 ((root.b).toNat : Int)) ∧ w'.cell? ⟨W.heap.size + 1, 2, none⟩ = some (.int .u64 ((root.c).toNat : Int)) ∧ w'.cell? ⟨W.heap.size + 1, 3, none⟩ = some (.int .u64 ((root.d).toNat : Int)) ∧ Lies (w1.heap.size + 1) 0 [.int .u64 0, .int .u64 ((yq).toNat : Int), .int .u64 ((yz).toNat : Int), .int .u64 ((root.a).toNat : Int), .int .u64 ((root.b).toNat : Int), .int .u64 ((root.c).toNat : Int), .int .u64 ((root.d).toNat : Int)] w') (by kernel_rfl) ⟨c_drew b1, c_drew b2, c_drew e0, c_drew e1, c_drew e2, c_drew e3, LS⟩ (fun hHeld => ?_)
        refine wpAnyH_take (i := 0) (oi := { dst := some 35, op := Op.move (Operand.tmp 9), type := 3, pos := "l7_record.go:75", after := #[], guard := none }) (v := .int .i64 1) rfl (by kernel_rfl) (by kernel_rfl) (by kernel_rfl) (fun _ _ _ h => h) (Or.inl ⟨by rfl, ?_⟩) (by assumption) ?_
        · (intro wq hq; obtain ⟨q0, q1, q2, q3, q4, q5, -⟩ := hq; go_simp)
        try simp only [Act.put, List.setIfInBounds_toArray, List.set_cons_zero, List.set_cons_succ]
        refine wpAnyH_take (i := 1) (oi := { dst := some 36, op := Op.build 56 #[(0, Operand.tmp 35), (1, Operand.const (Value.int IntKind.i64 0)), (2, Operand.const (Value.int IntKind.u64 0))], type := 56, pos := "l7_record.go:75", after := #[{ on := 0, ground := Ground.data }], guard := none }) (v := .agg #[.int .i64 1, .int .i64 0, .int .u64 0]) rfl (by kernel_rfl) (by kernel_rfl) (by kernel_rfl) (fun _ _ _ h => h) (Or.inl ⟨by rfl, ?_⟩) (by assumption) ?_
        · (intro wq hq; exact run_build_op _ (by kernel_rfl))
        try simp only [Act.put, List.setIfInBounds_toArray, List.set_cons_zero, List.set_cons_succ]
        refine wpAnyH_take (i := 2) (oi := { dst := some 37, op := Op.move (Operand.tmp 9), type := 3, pos := "l7_record.go:75", after := #[], guard := none }) (v := .int .i64 1) rfl (by kernel_rfl) (by kernel_rfl) (by kernel_rfl) (fun _ _ _ h => h) (Or.inl ⟨by rfl, ?_⟩) (by assumption) ?_
        · (intro wq hq; obtain ⟨q0, q1, q2, q3, q4, q5, -⟩ := hq; go_simp)
        try simp only [Act.put, List.setIfInBounds_toArray, List.set_cons_zero, List.set_cons_succ]
        refine wpAnyH_take (i := 3) (oi := { dst := some 38, op := Op.fieldAddr 27 (Operand.tmp 10) 1, type := 0, pos := "l7_record.go:75", after := #[], guard := none }) (v := .pointer (some ⟨w1.heap.size + 1, 1, none⟩)) rfl (by kernel_rfl) (by kernel_rfl) (by kernel_rfl) (fun _ _ _ h => h) (Or.inl ⟨by rfl, ?_⟩) (by assumption) ?_
        · (intro wq hq; obtain ⟨q0, q1, q2, q3, q4, q5, -⟩ := hq; go_simp)
        try simp only [Act.put, List.setIfInBounds_toArray, List.set_cons_zero, List.set_cons_succ]
        refine wpAnyH_take (i := 4) (oi := { dst := some 39, op := Op.load 23 (Operand.tmp 38), type := 23, pos := "l7_record.go:75", after := #[{ on := 3, ground := Ground.data }], guard := none }) (v := .int .u64 ((yq).toNat : Int)) rfl (by kernel_rfl) (by kernel_rfl) (by kernel_rfl) (fun _ _ _ h => h) (Or.inl ⟨by rfl, ?_⟩) (by assumption) ?_
        · (intro wq hq; obtain ⟨q0, q1, q2, q3, q4, q5, -⟩ := hq; go_simp)
        try simp only [Act.put, List.setIfInBounds_toArray, List.set_cons_zero, List.set_cons_succ]
        refine wpAnyH_take (i := 5) (oi := { dst := some 40, op := Op.build 56 #[(0, Operand.tmp 37), (1, Operand.const (Value.int IntKind.i64 1)), (2, Operand.tmp 39)], type := 56, pos := "l7_record.go:75", after := #[{ on := 2, ground := Ground.data }, { on := 4, ground := Ground.data }], guard := none }) (v := .agg #[.int .i64 1, .int .i64 1, .int .u64 ((yq).toNat : Int)]) rfl (by kernel_rfl) (by kernel_rfl) (by kernel_rfl) (fun _ _ _ h => h) (Or.inl ⟨by rfl, ?_⟩) (by assumption) ?_
        · (intro wq hq; exact run_build_op _ (by kernel_rfl))
        try simp only [Act.put, List.setIfInBounds_toArray, List.set_cons_zero, List.set_cons_succ]
        refine wpAnyH_take (i := 6) (oi := { dst := some 41, op := Op.move (Operand.tmp 9), type := 3, pos := "l7_record.go:75", after := #[], guard := none }) (v := .int .i64 1) rfl (by kernel_rfl) (by kernel_rfl) (by kernel_rfl) (fun _ _ _ h => h) (Or.inl ⟨by rfl, ?_⟩) (by assumption) ?_
        · (intro wq hq; obtain ⟨q0, q1, q2, q3, q4, q5, -⟩ := hq; go_simp)
        try simp only [Act.put, List.setIfInBounds_toArray, List.set_cons_zero, List.set_cons_succ]
        refine wpAnyH_take (i := 7) (oi := { dst := some 42, op := Op.fieldAddr 27 (Operand.tmp 10) 2, type := 0, pos := "l7_record.go:75", after := #[], guard := none }) (v := .pointer (some ⟨w1.heap.size + 1, 2, none⟩)) rfl (by kernel_rfl) (by kernel_rfl) (by kernel_rfl) (fun _ _ _ h => h) (Or.inl ⟨by rfl, ?_⟩) (by assumption) ?_
        · (intro wq hq; obtain ⟨q0, q1, q2, q3, q4, q5, -⟩ := hq; go_simp)
        try simp only [Act.put, List.setIfInBounds_toArray, List.set_cons_zero, List.set_cons_succ]
        refine wpAnyH_take (i := 8) (oi := { dst := some 43, op := Op.load 23 (Operand.tmp 42), type := 23, pos := "l7_record.go:75", after := #[{ on := 7, ground := Ground.data }], guard := none }) (v := .int .u64 ((yz).toNat : Int)) rfl (by kernel_rfl) (by kernel_rfl) (by kernel_rfl) (fun _ _ _ h => h) (Or.inl ⟨by rfl, ?_⟩) (by assumption) ?_
        · (intro wq hq; obtain ⟨q0, q1, q2, q3, q4, q5, -⟩ := hq; go_simp)
        try simp only [Act.put, List.setIfInBounds_toArray, List.set_cons_zero, List.set_cons_succ]
        refine wpAnyH_take (i := 9) (oi := { dst := some 44, op := Op.build 56 #[(0, Operand.tmp 41), (1, Operand.const (Value.int IntKind.i64 2)), (2, Operand.tmp 43)], type := 56, pos := "l7_record.go:75", after := #[{ on := 6, ground := Ground.data }, { on := 8, ground := Ground.data }], guard := none }) (v := .agg #[.int .i64 1, .int .i64 2, .int .u64 ((yz).toNat : Int)]) rfl (by kernel_rfl) (by kernel_rfl) (by kernel_rfl) (fun _ _ _ h => h) (Or.inl ⟨by rfl, ?_⟩) (by assumption) ?_
        · (intro wq hq; exact run_build_op _ (by kernel_rfl))
        try simp only [Act.put, List.setIfInBounds_toArray, List.set_cons_zero, List.set_cons_succ]
        refine wpAnyH_take (i := 10) (oi := { dst := some 45, op := Op.move (Operand.tmp 9), type := 3, pos := "l7_record.go:75", after := #[], guard := none }) (v := .int .i64 1) rfl (by kernel_rfl) (by kernel_rfl) (by kernel_rfl) (fun _ _ _ h => h) (Or.inl ⟨by rfl, ?_⟩) (by assumption) ?_
        · (intro wq hq; obtain ⟨q0, q1, q2, q3, q4, q5, -⟩ := hq; go_simp)
        try simp only [Act.put, List.setIfInBounds_toArray, List.set_cons_zero, List.set_cons_succ]
        refine wpAnyH_take (i := 11) (oi := { dst := some 46, op := Op.fieldAddr 25 (Operand.tmp 5) 0, type := 0, pos := "l7_record.go:75", after := #[], guard := none }) (v := .pointer (some ⟨W.heap.size + 1, 0, none⟩)) rfl (by kernel_rfl) (by kernel_rfl) (by kernel_rfl) (fun _ _ _ h => h) (Or.inl ⟨by rfl, ?_⟩) (by assumption) ?_
        · (intro wq hq; obtain ⟨q0, q1, q2, q3, q4, q5, -⟩ := hq; go_simp)
        try simp only [Act.put, List.setIfInBounds_toArray, List.set_cons_zero, List.set_cons_succ]
        refine wpAnyH_take (i := 12) (oi := { dst := some 47, op := Op.load 23 (Operand.tmp 46), type := 23, pos := "l7_record.go:75", after := #[{ on := 11, ground := Ground.data }], guard := none }) (v := .int .u64 ((root.a).toNat : Int)) rfl (by kernel_rfl) (by kernel_rfl) (by kernel_rfl) (fun _ _ _ h => h) (Or.inl ⟨by rfl, ?_⟩) (by assumption) ?_
        · (intro wq hq; obtain ⟨q0, q1, q2, q3, q4, q5, -⟩ := hq; go_simp)
        try simp only [Act.put, List.setIfInBounds_toArray, List.set_cons_zero, List.set_cons_succ]
        refine wpAnyH_take (i := 13) (oi := { dst := some 48, op := Op.build 56 #[(0, Operand.tmp 45), (1, Operand.const (Value.int IntKind.i64 3)), (2, Operand.tmp 47)], type := 56, pos := "l7_record.go:75", after := #[{ on := 10, ground := Ground.data }, { on := 12, ground := Ground.data }], guard := none }) (v := .agg #[.int .i64 1, .int .i64 3, .int .u64 ((root.a).toNat : Int)]) rfl (by kernel_rfl) (by kernel_rfl) (by kernel_rfl) (fun _ _ _ h => h) (Or.inl ⟨by rfl, ?_⟩) (by assumption) ?_
        · (intro wq hq; exact run_build_op _ (by kernel_rfl))
        try simp only [Act.put, List.setIfInBounds_toArray, List.set_cons_zero, List.set_cons_succ]
        refine wpAnyH_take (i := 14) (oi := { dst := some 49, op := Op.move (Operand.tmp 9), type := 3, pos := "l7_record.go:75", after := #[], guard := none }) (v := .int .i64 1) rfl (by kernel_rfl) (by kernel_rfl) (by kernel_rfl) (fun _ _ _ h => h) (Or.inl ⟨by rfl, ?_⟩) (by assumption) ?_
        · (intro wq hq; obtain ⟨q0, q1, q2, q3, q4, q5, -⟩ := hq; go_simp)
        try simp only [Act.put, List.setIfInBounds_toArray, List.set_cons_zero, List.set_cons_succ]
        refine wpAnyH_take (i := 15) (oi := { dst := some 50, op := Op.fieldAddr 25 (Operand.tmp 5) 1, type := 0, pos := "l7_record.go:75", after := #[], guard := none }) (v := .pointer (some ⟨W.heap.size + 1, 1, none⟩)) rfl (by kernel_rfl) (by kernel_rfl) (by kernel_rfl) (fun _ _ _ h => h) (Or.inl ⟨by rfl, ?_⟩) (by assumption) ?_
        · (intro wq hq; obtain ⟨q0, q1, q2, q3, q4, q5, -⟩ := hq; go_simp)
        try simp only [Act.put, List.setIfInBounds_toArray, List.set_cons_zero, List.set_cons_succ]
        refine wpAnyH_take (i := 16) (oi := { dst := some 51, op := Op.load 23 (Operand.tmp 50), type := 23, pos := "l7_record.go:75", after := #[{ on := 15, ground := Ground.data }], guard := none }) (v := .int .u64 ((root.b).toNat : Int)) rfl (by kernel_rfl) (by kernel_rfl) (by kernel_rfl) (fun _ _ _ h => h) (Or.inl ⟨by rfl, ?_⟩) (by assumption) ?_
        · (intro wq hq; obtain ⟨q0, q1, q2, q3, q4, q5, -⟩ := hq; go_simp)
        try simp only [Act.put, List.setIfInBounds_toArray, List.set_cons_zero, List.set_cons_succ]
        refine wpAnyH_take (i := 17) (oi := { dst := some 52, op := Op.build 56 #[(0, Operand.tmp 49), (1, Operand.const (Value.int IntKind.i64 4)), (2, Operand.tmp 51)], type := 56, pos := "l7_record.go:75", after := #[{ on := 14, ground := Ground.data }, { on := 16, ground := Ground.data }], guard := none }) (v := .agg #[.int .i64 1, .int .i64 4, .int .u64 ((root.b).toNat : Int)]) rfl (by kernel_rfl) (by kernel_rfl) (by kernel_rfl) (fun _ _ _ h => h) (Or.inl ⟨by rfl, ?_⟩) (by assumption) ?_
        · (intro wq hq; exact run_build_op _ (by kernel_rfl))
        try simp only [Act.put, List.setIfInBounds_toArray, List.set_cons_zero, List.set_cons_succ]
        refine wpAnyH_take (i := 18) (oi := { dst := some 53, op := Op.move (Operand.tmp 9), type := 3, pos := "l7_record.go:75", after := #[], guard := none }) (v := .int .i64 1) rfl (by kernel_rfl) (by kernel_rfl) (by kernel_rfl) (fun _ _ _ h => h) (Or.inl ⟨by rfl, ?_⟩) (by assumption) ?_
        · (intro wq hq; obtain ⟨q0, q1, q2, q3, q4, q5, -⟩ := hq; go_simp)
        try simp only [Act.put, List.setIfInBounds_toArray, List.set_cons_zero, List.set_cons_succ]
        refine wpAnyH_take (i := 19) (oi := { dst := some 54, op := Op.fieldAddr 25 (Operand.tmp 5) 2, type := 0, pos := "l7_record.go:75", after := #[], guard := none }) (v := .pointer (some ⟨W.heap.size + 1, 2, none⟩)) rfl (by kernel_rfl) (by kernel_rfl) (by kernel_rfl) (fun _ _ _ h => h) (Or.inl ⟨by rfl, ?_⟩) (by assumption) ?_
        · (intro wq hq; obtain ⟨q0, q1, q2, q3, q4, q5, -⟩ := hq; go_simp)
        try simp only [Act.put, List.setIfInBounds_toArray, List.set_cons_zero, List.set_cons_succ]
        refine wpAnyH_take (i := 20) (oi := { dst := some 55, op := Op.load 23 (Operand.tmp 54), type := 23, pos := "l7_record.go:75", after := #[{ on := 19, ground := Ground.data }], guard := none }) (v := .int .u64 ((root.c).toNat : Int)) rfl (by kernel_rfl) (by kernel_rfl) (by kernel_rfl) (fun _ _ _ h => h) (Or.inl ⟨by rfl, ?_⟩) (by assumption) ?_
        · (intro wq hq; obtain ⟨q0, q1, q2, q3, q4, q5, -⟩ := hq; go_simp)
        try simp only [Act.put, List.setIfInBounds_toArray, List.set_cons_zero, List.set_cons_succ]
        refine wpAnyH_take (i := 21) (oi := { dst := some 56, op := Op.build 56 #[(0, Operand.tmp 53), (1, Operand.const (Value.int IntKind.i64 5)), (2, Operand.tmp 55)], type := 56, pos := "l7_record.go:75", after := #[{ on := 18, ground := Ground.data }, { on := 20, ground := Ground.data }], guard := none }) (v := .agg #[.int .i64 1, .int .i64 5, .int .u64 ((root.c).toNat : Int)]) rfl (by kernel_rfl) (by kernel_rfl) (by kernel_rfl) (fun _ _ _ h => h) (Or.inl ⟨by rfl, ?_⟩) (by assumption) ?_
        · (intro wq hq; exact run_build_op _ (by kernel_rfl))
        try simp only [Act.put, List.setIfInBounds_toArray, List.set_cons_zero, List.set_cons_succ]
        refine wpAnyH_take (i := 22) (oi := { dst := some 57, op := Op.move (Operand.tmp 9), type := 3, pos := "l7_record.go:75", after := #[], guard := none }) (v := .int .i64 1) rfl (by kernel_rfl) (by kernel_rfl) (by kernel_rfl) (fun _ _ _ h => h) (Or.inl ⟨by rfl, ?_⟩) (by assumption) ?_
        · (intro wq hq; obtain ⟨q0, q1, q2, q3, q4, q5, -⟩ := hq; go_simp)
        try simp only [Act.put, List.setIfInBounds_toArray, List.set_cons_zero, List.set_cons_succ]
        refine wpAnyH_take (i := 23) (oi := { dst := some 58, op := Op.fieldAddr 25 (Operand.tmp 5) 3, type := 0, pos := "l7_record.go:75", after := #[], guard := none }) (v := .pointer (some ⟨W.heap.size + 1, 3, none⟩)) rfl (by kernel_rfl) (by kernel_rfl) (by kernel_rfl) (fun _ _ _ h => h) (Or.inl ⟨by rfl, ?_⟩) (by assumption) ?_
        · (intro wq hq; obtain ⟨q0, q1, q2, q3, q4, q5, -⟩ := hq; go_simp)
        try simp only [Act.put, List.setIfInBounds_toArray, List.set_cons_zero, List.set_cons_succ]
        refine wpAnyH_take (i := 24) (oi := { dst := some 59, op := Op.load 23 (Operand.tmp 58), type := 23, pos := "l7_record.go:75", after := #[{ on := 23, ground := Ground.data }], guard := none }) (v := .int .u64 ((root.d).toNat : Int)) rfl (by kernel_rfl) (by kernel_rfl) (by kernel_rfl) (fun _ _ _ h => h) (Or.inl ⟨by rfl, ?_⟩) (by assumption) ?_
        · (intro wq hq; obtain ⟨q0, q1, q2, q3, q4, q5, -⟩ := hq; go_simp)
        try simp only [Act.put, List.setIfInBounds_toArray, List.set_cons_zero, List.set_cons_succ]
        refine wpAnyH_take (i := 25) (oi := { dst := some 60, op := Op.build 56 #[(0, Operand.tmp 57), (1, Operand.const (Value.int IntKind.i64 6)), (2, Operand.tmp 59)], type := 56, pos := "l7_record.go:75", after := #[{ on := 22, ground := Ground.data }, { on := 24, ground := Ground.data }], guard := none }) (v := .agg #[.int .i64 1, .int .i64 6, .int .u64 ((root.d).toNat : Int)]) rfl (by kernel_rfl) (by kernel_rfl) (by kernel_rfl) (fun _ _ _ h => h) (Or.inl ⟨by rfl, ?_⟩) (by assumption) ?_
        · (intro wq hq; exact run_build_op _ (by kernel_rfl))
        try simp only [Act.put, List.setIfInBounds_toArray, List.set_cons_zero, List.set_cons_succ]
        refine wpAnyH_take (i := 26) (oi := { dst := some 61, op := Op.move (Operand.tmp 9), type := 3, pos := "l7_record.go:75", after := #[], guard := none }) (v := .int .i64 1) rfl (by kernel_rfl) (by kernel_rfl) (by kernel_rfl) (fun _ _ _ h => h) (Or.inl ⟨by rfl, ?_⟩) (by assumption) ?_
        · (intro wq hq; obtain ⟨q0, q1, q2, q3, q4, q5, -⟩ := hq; go_simp)
        try simp only [Act.put, List.setIfInBounds_toArray, List.set_cons_zero, List.set_cons_succ]
        refine wpAnyH_take (i := 27) (oi := { dst := some 62, op := Op.load 27 (Operand.tmp 10), type := 27, pos := "l7_record.go:75", after := #[], guard := none }) (v := .agg #[.int .u64 0, .int .u64 ((yq).toNat : Int), .int .u64 ((yz).toNat : Int), .int .u64 ((root.a).toNat : Int), .int .u64 ((root.b).toNat : Int), .int .u64 ((root.c).toNat : Int), .int .u64 ((root.d).toNat : Int)]) rfl (by kernel_rfl) (by kernel_rfl) (by kernel_rfl) (fun _ _ _ h => h) (Or.inl ⟨by rfl, ?_⟩) (by assumption) ?_
        · (intro wq hq; exact run_load_op agg_slot (w1.heap.size + 1) 0 [.int .u64 0, .int .u64 ((yq).toNat : Int), .int .u64 ((yz).toNat : Int), .int .u64 ((root.a).toNat : Int), .int .u64 ((root.b).toNat : Int), .int .u64 ((root.c).toNat : Int), .int .u64 ((root.d).toNat : Int)] (by kernel_rfl) (by kernel_rfl) hq.2.2.2.2.2.2)
        try simp only [Act.put, List.setIfInBounds_toArray, List.set_cons_zero, List.set_cons_succ]
        refine wpAnyH_ready (rs := [28]) (by kernel_rfl) (by simp) ?_
        refine AllReadyH.cons (o := { dst := some 63, op := Op.call { callee := Callee.value (Operand.func 15), args := #[Operand.tmp 62], argTypes := #[27] }, type := 23, pos := "l7_record.go:83", after := #[{ on := 27, ground := Ground.data }], guard := none }) rfl (fun K hK => ?_) AllReadyH.nil
        go_simp
        go_at_call 15
        refine (cs _).mono ?_
        rintro e w3 ⟨rfl, hb3⟩
        have hy3 : Below ((w1.alloc (.cells #[.int .i64 (x.q.toNat : Int), .int .i64 (x.z.toNat : Int), .int .u64 ((x.r.a).toNat : Int), .int .u64 ((x.r.b).toNat : Int), .int .u64 ((x.r.c).toNat : Int), .int .u64 ((x.r.d).toNat : Int)] 34)).alloc (.cells #[.int .u64 0, .int .u64 ((yq).toNat : Int), .int .u64 ((yz).toNat : Int), .int .u64 ((root.a).toNat : Int), .int .u64 ((root.b).toNat : Int), .int .u64 ((root.c).toNat : Int), .int .u64 ((root.d).toNat : Int)] 27)).heap.size ((w1.alloc (.cells #[.int .i64 (x.q.toNat : Int), .int .i64 (x.z.toNat : Int), .int .u64 ((x.r.a).toNat : Int), .int .u64 ((x.r.b).toNat : Int), .int .u64 ((x.r.c).toNat : Int), .int .u64 ((x.r.d).toNat : Int)] 34)).alloc (.cells #[.int .u64 0, .int .u64 ((yq).toNat : Int), .int .u64 ((yz).toNat : Int), .int .u64 ((root.a).toNat : Int), .int .u64 ((root.b).toNat : Int), .int .u64 ((root.c).toNat : Int), .int .u64 ((root.d).toNat : Int)] 27)) w3 := below_after (Below.drew (Below.refl _ _)) hb3 (by simp)
        have z3 := below_after zS hy3 zS.size
        have f1 := (hb3.cell (p := ⟨w1.heap.size + 1, 1, none⟩) (by simp)).trans b1
        have f2 := (hb3.cell (p := ⟨w1.heap.size + 1, 2, none⟩) (by simp)).trans b2
        have f3 := (hb3.cell (p := ⟨W.heap.size + 1, 0, none⟩) (by simp; omega)).trans e0
        have f4 := (hb3.cell (p := ⟨W.heap.size + 1, 1, none⟩) (by simp; omega)).trans e1
        have f5 := (hb3.cell (p := ⟨W.heap.size + 1, 2, none⟩) (by simp; omega)).trans e2
        have f6 := (hb3.cell (p := ⟨W.heap.size + 1, 3, none⟩) (by simp; omega)).trans e3
        have LS3 : Lies (w1.heap.size + 1) 0 [.int .u64 0, .int .u64 ((yq).toNat : Int), .int .u64 ((yz).toNat : Int), .int .u64 ((root.a).toNat : Int), .int .u64 ((root.b).toNat : Int), .int .u64 ((root.c).toNat : Int), .int .u64 ((root.d).toNat : Int)] w3 := LS.call hb3 (by simp)
        go_simp
        refine hK.out _ _ ⟨f1, f2, f3, f4, f5, f6, LS3⟩ (fun hHeld => ?_)
        clear hK K
        refine wpAnyH_take (i := 29) (oi := { dst := some 64, op := Op.build 56 #[(0, Operand.tmp 61), (1, Operand.const (Value.int IntKind.i64 0)), (2, Operand.tmp 63)], type := 56, pos := "l7_record.go:75", after := #[{ on := 26, ground := Ground.data }, { on := 28, ground := Ground.data }], guard := none }) (v := .agg #[.int .i64 1, .int .i64 0, .int .u64 ((sumOf ⟨0, yq, yz, root⟩).toNat : Int)]) rfl (by kernel_rfl) (by kernel_rfl) (by kernel_rfl) (fun _ _ _ h => h) (Or.inl ⟨by rfl, ?_⟩) (by assumption) ?_
        · (intro wq hq; exact run_build_op _ (by kernel_rfl))
        try simp only [Act.put, List.setIfInBounds_toArray, List.set_cons_zero, List.set_cons_succ]
        refine wpAnyH_ready (rs := [30]) (by kernel_rfl) (by simp) ?_
        refine AllReadyH.cons (o := { dst := some 65, op := Op.buildSlice 31 8 #[(0, Operand.tmp 36), (1, Operand.tmp 40), (2, Operand.tmp 44), (3, Operand.tmp 48), (4, Operand.tmp 52), (5, Operand.tmp 56), (6, Operand.tmp 60), (7, Operand.tmp 64)], type := 31, pos := "l7_record.go:75", after := #[{ on := 1, ground := Ground.data }, { on := 5, ground := Ground.data }, { on := 9, ground := Ground.data }, { on := 13, ground := Ground.data }, { on := 17, ground := Ground.data }, { on := 21, ground := Ground.data }, { on := 25, ground := Ground.data }, { on := 29, ground := Ground.data }], guard := none }) rfl (fun K hK => ?_) AllReadyH.nil
        go_simp
        refine hK.out _ _ ⟨c_alloc f1, c_alloc f2, c_alloc f3, c_alloc f4, c_alloc f5, c_alloc f6, LS3.call ((Below.refl _ _).alloc (Nat.le_refl _) _) (by have := hb3.size; simp at this; omega)⟩ (fun hHeld => ?_)
        clear hK K
        refine wpAnyH_take (i := 31) (oi := { dst := some 6, op := Op.assign (Operand.tmp 65), type := 31, pos := "l7_record.go:75", after := #[{ on := 30, ground := Ground.data }, { on := 28, ground := Ground.chain }, { on := 0, ground := Ground.phase }, { on := 1, ground := Ground.phase }, { on := 2, ground := Ground.phase }, { on := 3, ground := Ground.phase }, { on := 4, ground := Ground.phase }, { on := 5, ground := Ground.phase }, { on := 6, ground := Ground.phase }, { on := 7, ground := Ground.phase }, { on := 8, ground := Ground.phase }, { on := 9, ground := Ground.phase }, { on := 10, ground := Ground.phase }, { on := 11, ground := Ground.phase }, { on := 12, ground := Ground.phase }, { on := 13, ground := Ground.phase }, { on := 14, ground := Ground.phase }, { on := 15, ground := Ground.phase }, { on := 16, ground := Ground.phase }, { on := 17, ground := Ground.phase }, { on := 18, ground := Ground.phase }, { on := 19, ground := Ground.phase }, { on := 20, ground := Ground.phase }, { on := 21, ground := Ground.phase }, { on := 22, ground := Ground.phase }, { on := 23, ground := Ground.phase }, { on := 24, ground := Ground.phase }, { on := 25, ground := Ground.phase }, { on := 26, ground := Ground.phase }, { on := 27, ground := Ground.phase }, { on := 28, ground := Ground.phase }, { on := 29, ground := Ground.phase }, { on := 30, ground := Ground.phase }], guard := none }) (v := .slice (some ⟨w3.heap.size, 0, none⟩) 8 8) rfl (by kernel_rfl) (by kernel_rfl) (by kernel_rfl) (fun _ _ _ h => h) (Or.inl ⟨by rfl, ?_⟩) (by assumption) ?_
        · (intro wq hq; go_simp)
        try simp only [Act.put, List.setIfInBounds_toArray, List.set_cons_zero, List.set_cons_succ]
        refine wpAnyH_done (by kernel_rfl) ?_ _
        go_wp2_with fail
        go_ret
        refine ⟨_, rfl, ?_, z3.alloc z3.size _⟩
        exact raws_own w3 (k8 1 ⟨0, yq, yz, root⟩) 8 W.heap.size rfl z3.size (by unfold maxLen; omega)
    · rw [show (decide (1 ≤ size ∧ size ≤ 256) && decide ((x.q.toNat : Int) < 1000000000)) = false by simp [hq9]]
      have hge : 1000000000 ≤ (x.q.toNat : Int) := by omega
      simp only [Bool.false_eq_true, if_false]
      clear hq9
      go_enter Try.func31, Try.ntmps31
      go_wp2_with (first
        | (go_at_call 45; refine (ci _).mono ?_; rintro e w3 ⟨rfl, rfl⟩)
        | (go_at_call 8; refine (c1 _).mono ?_; rintro e w1 ⟨rfl, hb1⟩; have z1 := below_after z0 hb1 z0.size)
        | (with_reducible refine wpl_load agg_disk W.heap.size 0 [.int .u64 ((s).m.toNat : Int), .int .u64 ((s).q.toNat : Int), .int .u64 ((s).z.toNat : Int), .int .u64 ((s).r.a.toNat : Int), .int .u64 ((s).r.b.toNat : Int), .int .u64 ((s).r.c.toNat : Int), .int .u64 ((s).r.d.toNat : Int), .int .u64 ((t).m.toNat : Int), .int .u64 ((t).q.toNat : Int), .int .u64 ((t).z.toNat : Int), .int .u64 ((t).r.a.toNat : Int), .int .u64 ((t).r.b.toNat : Int), .int .u64 ((t).r.c.toNat : Int), .int .u64 ((t).r.d.toNat : Int)] (by kernel_rfl) (by kernel_rfl) A0 ?_))
      go_ret
      obtain ⟨h1, h2⟩ := empty _ (z1.alloc z1.size (.cells #[.int .i64 (x.q.toNat : Int), .int .i64 (x.z.toNat : Int), .int .u64 ((x.r.a).toNat : Int), .int .u64 ((x.r.b).toNat : Int), .int .u64 ((x.r.c).toNat : Int), .int .u64 ((x.r.d).toNat : Int)] 34))
      rw [World.size_alloc] at h1
      exact ⟨_, rfl, h1, h2⟩
  · have hc : (decide (1 ≤ size) && decide (size ≤ 256)) = false := by
      rw [Bool.and_eq_false_iff, decide_eq_false_iff_not, decide_eq_false_iff_not]
      omega
    rw [hc] at ci
    rw [show (decide (1 ≤ size ∧ size ≤ 256) && decide ((x.q.toNat : Int) < 1000000000)) = false by simp [hin]]
    simp only [Bool.false_eq_true, if_false]
    clear hin
    go_enter Try.func31, Try.ntmps31
    go_wp2_with (first
      | (go_at_call 45; refine (ci _).mono ?_; rintro e w3 ⟨rfl, rfl⟩)
      | (go_at_call 8; refine (c1 _).mono ?_; rintro e w1 ⟨rfl, hb1⟩; have z1 := below_after z0 hb1 z0.size)
      | (with_reducible refine wpl_load agg_disk W.heap.size 0 [.int .u64 ((s).m.toNat : Int), .int .u64 ((s).q.toNat : Int), .int .u64 ((s).z.toNat : Int), .int .u64 ((s).r.a.toNat : Int), .int .u64 ((s).r.b.toNat : Int), .int .u64 ((s).r.c.toNat : Int), .int .u64 ((s).r.d.toNat : Int), .int .u64 ((t).m.toNat : Int), .int .u64 ((t).q.toNat : Int), .int .u64 ((t).z.toNat : Int), .int .u64 ((t).r.a.toNat : Int), .int .u64 ((t).r.b.toNat : Int), .int .u64 ((t).r.c.toNat : Int), .int .u64 ((t).r.d.toNat : Int)] (by kernel_rfl) (by kernel_rfl) A0 ?_))
    go_ret
    obtain ⟨h1, h2⟩ := empty _ (z1.alloc z1.size (.cells #[.int .i64 (x.q.toNat : Int), .int .i64 (x.z.toNat : Int), .int .u64 ((x.r.a).toNat : Int), .int .u64 ((x.r.b).toNat : Int), .int .u64 ((x.r.c).toNat : Int), .int .u64 ((x.r.d).toNat : Int)] 34))
    rw [World.size_alloc] at h1
    exact ⟨_, rfl, h1, h2⟩
end Go.Proofs.Ytepgmdgcappfpaa
