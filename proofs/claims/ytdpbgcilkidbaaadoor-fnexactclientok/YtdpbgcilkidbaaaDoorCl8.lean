/-
  The law of a client that is ok.
-/
import Derived.Test.YtdpbgcilkidbaaaDoorCl7
namespace Go.Proofs.YtdpbgcilkidbaaaDoor
open Go.RowKit

set_option maxRecDepth 20000 in
theorem agg_lcl : AggTy 29 15 := ⟨⟨_, Tryd.underlying29, rfl⟩, by kernel_rfl⟩
set_option maxRecDepth 20000 in
set_option maxHeartbeats 1000000 in
theorem ciok_is (W : World) (c : Cln) (v : Value) (X : List Int) (h : Its W v X) (hG : Gs W) :
    Calls Tryd.prog 8 #[.agg #[.int .i64 c.n, .int .i64 c.m, .int .i64 c.se, .int .i64 c.ph, .int .i64 c.gs, .int .u64 ((c.gr.a).toNat : Int), .int .u64 ((c.gr.b).toNat : Int), .int .u64 ((c.gr.c).toNat : Int), .int .u64 ((c.gr.d).toNat : Int), v, .int .i64 c.ps, .int .u64 ((c.pr.a).toNat : Int), .int .u64 ((c.pr.b).toNat : Int), .int .u64 ((c.pr.c).toNat : Int), .int .u64 ((c.pr.d).toNat : Int)]] W fun e w' => ∃ b, e = .returned (.bool b) ∧ Below W.heap.size W w' ∧ (b = true ↔ Cok c X) := by
  have A0 := CA.new W c v
  have b0 := (Below.refl W.heap.size W).alloc (Nat.le_refl _) (.cells #[.int .i64 c.n, .int .i64 c.m, .int .i64 c.se, .int .i64 c.ph, .int .i64 c.gs, .int .u64 ((c.gr.a).toNat : Int), .int .u64 ((c.gr.b).toNat : Int), .int .u64 ((c.gr.c).toNat : Int), .int .u64 ((c.gr.d).toNat : Int), v, .int .i64 c.ps, .int .u64 ((c.pr.a).toNat : Int), .int .u64 ((c.pr.b).toNat : Int), .int .u64 ((c.pr.c).toNat : Int), .int .u64 ((c.pr.d).toNat : Int)] 36)
  have G0 := hG.call b0
  have I0 := h.call b0
  clear hG h b0
  go_enter Tryd.func8, Tryd.ntmps8
  go_upto_region 1 with fail
  generalize W.alloc (.cells #[.int .i64 c.n, .int .i64 c.m, .int .i64 c.se, .int .i64 c.ph, .int .i64 c.gs, .int .u64 ((c.gr.a).toNat : Int), .int .u64 ((c.gr.b).toNat : Int), .int .u64 ((c.gr.c).toNat : Int), .int .u64 ((c.gr.d).toNat : Int), v, .int .i64 c.ps, .int .u64 ((c.pr.a).toNat : Int), .int .u64 ((c.pr.b).toNat : Int), .int .u64 ((c.pr.c).toNat : Int), .int .u64 ((c.pr.d).toNat : Int)] 36) = w0 at A0 G0 I0 ⊢
  have L0 := A0.1
  have z0 := A0.2.2
  have cp := phase_is w0 c v X I0 G0
  clear I0 G0 A0
  go_wp2_with (first
    | (with_reducible refine wpl_load agg_cli W.heap.size 0 [.int .i64 c.n, .int .i64 c.m, .int .i64 c.se, .int .i64 c.ph, .int .i64 c.gs, .int .u64 ((c.gr.a).toNat : Int), .int .u64 ((c.gr.b).toNat : Int), .int .u64 ((c.gr.c).toNat : Int), .int .u64 ((c.gr.d).toNat : Int), v, .int .i64 c.ps, .int .u64 ((c.pr.a).toNat : Int), .int .u64 ((c.pr.b).toNat : Int), .int .u64 ((c.pr.c).toNat : Int), .int .u64 ((c.pr.d).toNat : Int)] (by kernel_rfl) (by kernel_rfl) L0 ?_)
    | (go_at_call 19; refine cp.mono ?_; rintro e w1 ⟨i, b, rfl, b1, hb⟩; have z1 := below_after z0 b1 z0.size; clear b1 cp L0 z0))
  go_ret
  exact ⟨b, rfl, z1, hb⟩
/-- What stands while two clients are compared. -/
def EB (W : World) (c : Cln) (u v : Value) (w : World) : Prop := Lies W.heap.size 0 [.int .i64 c.n, .int .i64 c.m, .int .i64 c.se, .int .i64 c.ph, .int .i64 c.gs, .int .u64 ((c.gr.a).toNat : Int), .int .u64 ((c.gr.b).toNat : Int), .int .u64 ((c.gr.c).toNat : Int), .int .u64 ((c.gr.d).toNat : Int), u, .int .i64 c.ps, .int .u64 ((c.pr.a).toNat : Int), .int .u64 ((c.pr.b).toNat : Int), .int .u64 ((c.pr.c).toNat : Int), .int .u64 ((c.pr.d).toNat : Int)] w ∧ Lies (W.heap.size + 1) 0 [.int .i64 c.n, .int .i64 c.m, .int .i64 c.se, .int .i64 c.ph, .int .i64 c.gs, .int .u64 ((c.gr.a).toNat : Int), .int .u64 ((c.gr.b).toNat : Int), .int .u64 ((c.gr.c).toNat : Int), .int .u64 ((c.gr.d).toNat : Int), v, .int .i64 c.ps, .int .u64 ((c.pr.a).toNat : Int), .int .u64 ((c.pr.b).toNat : Int), .int .u64 ((c.pr.c).toNat : Int), .int .u64 ((c.pr.d).toNat : Int)] w ∧ Below W.heap.size W w ∧ W.heap.size + 1 < w.heap.size
theorem EB.call {W : World} {c : Cln} {u v : Value} {w w' : World} (h : EB W c u v w) (hb : Below w.heap.size w w') : EB W c u v w' := by
  obtain ⟨h1, h2, h3, h4⟩ := h
  exact ⟨h1.call hb (by omega), h2.call hb h4, below_after h3 hb h3.size, Nat.lt_of_lt_of_le h4 hb.size⟩
theorem EB.new (W : World) (c : Cln) (u v : Value) : EB W c u v ((W.alloc (.cells #[.int .i64 c.n, .int .i64 c.m, .int .i64 c.se, .int .i64 c.ph, .int .i64 c.gs, .int .u64 ((c.gr.a).toNat : Int), .int .u64 ((c.gr.b).toNat : Int), .int .u64 ((c.gr.c).toNat : Int), .int .u64 ((c.gr.d).toNat : Int), u, .int .i64 c.ps, .int .u64 ((c.pr.a).toNat : Int), .int .u64 ((c.pr.b).toNat : Int), .int .u64 ((c.pr.c).toNat : Int), .int .u64 ((c.pr.d).toNat : Int)] 36)).alloc (.cells #[.int .i64 c.n, .int .i64 c.m, .int .i64 c.se, .int .i64 c.ph, .int .i64 c.gs, .int .u64 ((c.gr.a).toNat : Int), .int .u64 ((c.gr.b).toNat : Int), .int .u64 ((c.gr.c).toNat : Int), .int .u64 ((c.gr.d).toNat : Int), v, .int .i64 c.ps, .int .u64 ((c.pr.a).toNat : Int), .int .u64 ((c.pr.b).toNat : Int), .int .u64 ((c.pr.c).toNat : Int), .int .u64 ((c.pr.d).toNat : Int)] 36)) := by
  have h2 := Lies.new (W.alloc (.cells #[.int .i64 c.n, .int .i64 c.m, .int .i64 c.se, .int .i64 c.ph, .int .i64 c.gs, .int .u64 ((c.gr.a).toNat : Int), .int .u64 ((c.gr.b).toNat : Int), .int .u64 ((c.gr.c).toNat : Int), .int .u64 ((c.gr.d).toNat : Int), u, .int .i64 c.ps, .int .u64 ((c.pr.a).toNat : Int), .int .u64 ((c.pr.b).toNat : Int), .int .u64 ((c.pr.c).toNat : Int), .int .u64 ((c.pr.d).toNat : Int)] 36)) [.int .i64 c.n, .int .i64 c.m, .int .i64 c.se, .int .i64 c.ph, .int .i64 c.gs, .int .u64 ((c.gr.a).toNat : Int), .int .u64 ((c.gr.b).toNat : Int), .int .u64 ((c.gr.c).toNat : Int), .int .u64 ((c.gr.d).toNat : Int), v, .int .i64 c.ps, .int .u64 ((c.pr.a).toNat : Int), .int .u64 ((c.pr.b).toNat : Int), .int .u64 ((c.pr.c).toNat : Int), .int .u64 ((c.pr.d).toNat : Int)] 36
  rw [World.size_alloc] at h2
  exact ⟨(Lies.new W [.int .i64 c.n, .int .i64 c.m, .int .i64 c.se, .int .i64 c.ph, .int .i64 c.gs, .int .u64 ((c.gr.a).toNat : Int), .int .u64 ((c.gr.b).toNat : Int), .int .u64 ((c.gr.c).toNat : Int), .int .u64 ((c.gr.d).toNat : Int), u, .int .i64 c.ps, .int .u64 ((c.pr.a).toNat : Int), .int .u64 ((c.pr.b).toNat : Int), .int .u64 ((c.pr.c).toNat : Int), .int .u64 ((c.pr.d).toNat : Int)] 36).call ((Below.refl _ _).alloc (Nat.le_refl _) _) (by simp), h2, ((Below.refl _ _).alloc (Nat.le_refl _) _).alloc (by simp) _, by simp⟩
set_option maxRecDepth 20000 in
set_option maxHeartbeats 2000000 in
theorem eqcl_is (W : World) (c : Cln) (u v : Value) (X : List Int) (hu : Its W u X) (hv : Its W v X) :
    Calls Tryd.prog 9 #[.agg #[.int .i64 c.n, .int .i64 c.m, .int .i64 c.se, .int .i64 c.ph, .int .i64 c.gs, .int .u64 ((c.gr.a).toNat : Int), .int .u64 ((c.gr.b).toNat : Int), .int .u64 ((c.gr.c).toNat : Int), .int .u64 ((c.gr.d).toNat : Int), u, .int .i64 c.ps, .int .u64 ((c.pr.a).toNat : Int), .int .u64 ((c.pr.b).toNat : Int), .int .u64 ((c.pr.c).toNat : Int), .int .u64 ((c.pr.d).toNat : Int)], .agg #[.int .i64 c.n, .int .i64 c.m, .int .i64 c.se, .int .i64 c.ph, .int .i64 c.gs, .int .u64 ((c.gr.a).toNat : Int), .int .u64 ((c.gr.b).toNat : Int), .int .u64 ((c.gr.c).toNat : Int), .int .u64 ((c.gr.d).toNat : Int), v, .int .i64 c.ps, .int .u64 ((c.pr.a).toNat : Int), .int .u64 ((c.pr.b).toNat : Int), .int .u64 ((c.pr.c).toNat : Int), .int .u64 ((c.pr.d).toNat : Int)]] W fun e w' => e = .returned (.bool true) ∧ Below W.heap.size W w' := by
  have cg := fun V : World => eqp_same c.gs c.gr V
  have cp := fun V : World => eqp_same c.ps c.pr V
  have ci := fun (V : World) h h' => eqis_is V u v X h h'
  have E0 := EB.new W c u v
  go_enter Tryd.func9, Tryd.ntmps9
  go_upto_region 1 with fail
  generalize (W.alloc (.cells #[.int .i64 c.n, .int .i64 c.m, .int .i64 c.se, .int .i64 c.ph, .int .i64 c.gs, .int .u64 ((c.gr.a).toNat : Int), .int .u64 ((c.gr.b).toNat : Int), .int .u64 ((c.gr.c).toNat : Int), .int .u64 ((c.gr.d).toNat : Int), u, .int .i64 c.ps, .int .u64 ((c.pr.a).toNat : Int), .int .u64 ((c.pr.b).toNat : Int), .int .u64 ((c.pr.c).toNat : Int), .int .u64 ((c.pr.d).toNat : Int)] 36)).alloc (.cells #[.int .i64 c.n, .int .i64 c.m, .int .i64 c.se, .int .i64 c.ph, .int .i64 c.gs, .int .u64 ((c.gr.a).toNat : Int), .int .u64 ((c.gr.b).toNat : Int), .int .u64 ((c.gr.c).toNat : Int), .int .u64 ((c.gr.d).toNat : Int), v, .int .i64 c.ps, .int .u64 ((c.pr.a).toNat : Int), .int .u64 ((c.pr.b).toNat : Int), .int .u64 ((c.pr.c).toNat : Int), .int .u64 ((c.pr.d).toNat : Int)] 36) = w0 at E0 ⊢
  have a0 := E0.1 0 _ rfl
  have a1 := E0.1 1 _ rfl
  have a2 := E0.1 2 _ rfl
  have a3 := E0.1 3 _ rfl
  have b0 := E0.2.1 0 _ rfl
  have b1 := E0.2.1 1 _ rfl
  have b2 := E0.2.1 2 _ rfl
  have b3 := E0.2.1 3 _ rfl
  simp only [Nat.zero_add] at a0 a1 a2 a3 b0 b1 b2 b3
  go_upto_region 9 with fail
  clear a0 a1 a2 a3 b0 b1 b2 b3
  have g1 : Lies W.heap.size 4 [.int .i64 c.gs, .int .u64 ((c.gr.a).toNat : Int), .int .u64 ((c.gr.b).toNat : Int), .int .u64 ((c.gr.c).toNat : Int), .int .u64 ((c.gr.d).toNat : Int)] w0 := E0.1.part 4 5
  have g2 : Lies (W.heap.size + 1) 4 [.int .i64 c.gs, .int .u64 ((c.gr.a).toNat : Int), .int .u64 ((c.gr.b).toNat : Int), .int .u64 ((c.gr.c).toNat : Int), .int .u64 ((c.gr.d).toNat : Int)] w0 := E0.2.1.part 4 5
  go_upto_region 11 with (first
    | (with_reducible refine wpl_load agg_pnt W.heap.size 4 [.int .i64 c.gs, .int .u64 ((c.gr.a).toNat : Int), .int .u64 ((c.gr.b).toNat : Int), .int .u64 ((c.gr.c).toNat : Int), .int .u64 ((c.gr.d).toNat : Int)] (by kernel_rfl) ?_ g1 ?_; · (simp [Act.eval]; done))
    | (with_reducible refine wpl_load agg_pnt (W.heap.size + 1) 4 [.int .i64 c.gs, .int .u64 ((c.gr.a).toNat : Int), .int .u64 ((c.gr.b).toNat : Int), .int .u64 ((c.gr.c).toNat : Int), .int .u64 ((c.gr.d).toNat : Int)] (by kernel_rfl) ?_ g2 ?_; · (simp [Act.eval]; done))
    | (go_at_call 20; refine (cg _).mono ?_; rintro e w1 ⟨rfl, b1⟩; have E1 := E0.call b1; clear E0 b1))
  have a9 := E1.1 9 _ rfl
  have b9 := E1.2.1 9 _ rfl
  simp only [Nat.zero_add] at a9 b9
  have ci1 := ci w1 (hu.call E1.2.2.1) (hv.call E1.2.2.1)
  clear g1 g2 cg ci
  go_upto_region 13 with (go_at_call 21; refine ci1.mono ?_; rintro e w2 ⟨rfl, b2⟩; have E2 := E1.call b2; clear a9 b9 b2 E1)
  have g1 : Lies W.heap.size 10 [.int .i64 c.ps, .int .u64 ((c.pr.a).toNat : Int), .int .u64 ((c.pr.b).toNat : Int), .int .u64 ((c.pr.c).toNat : Int), .int .u64 ((c.pr.d).toNat : Int)] w2 := E2.1.part 10 5
  have g2 : Lies (W.heap.size + 1) 10 [.int .i64 c.ps, .int .u64 ((c.pr.a).toNat : Int), .int .u64 ((c.pr.b).toNat : Int), .int .u64 ((c.pr.c).toNat : Int), .int .u64 ((c.pr.d).toNat : Int)] w2 := E2.2.1.part 10 5
  go_wp2_with (first
    | (with_reducible refine wpl_load agg_pnt W.heap.size 10 [.int .i64 c.ps, .int .u64 ((c.pr.a).toNat : Int), .int .u64 ((c.pr.b).toNat : Int), .int .u64 ((c.pr.c).toNat : Int), .int .u64 ((c.pr.d).toNat : Int)] (by kernel_rfl) ?_ g1 ?_; · (simp [Act.eval]; done))
    | (with_reducible refine wpl_load agg_pnt (W.heap.size + 1) 10 [.int .i64 c.ps, .int .u64 ((c.pr.a).toNat : Int), .int .u64 ((c.pr.b).toNat : Int), .int .u64 ((c.pr.c).toNat : Int), .int .u64 ((c.pr.d).toNat : Int)] (by kernel_rfl) ?_ g2 ?_; · (simp [Act.eval]; done))
    | (go_at_call 20; refine (cp _).mono ?_; rintro e w3 ⟨rfl, b3⟩; have E3 := E2.call b3; have z3 := E3.2.2.1; clear E2 E3 b3))
  go_ret
  exact ⟨rfl, z3⟩
set_option maxRecDepth 20000 in
set_option maxHeartbeats 4000000 in
theorem lawClientOk (c : Cln) (v : Value) (X : List Int) (w : World) (hT : Its w v X) (hG : Gs w) :
    Calls Tryd.prog 3 #[.agg #[.int .i64 c.n, .int .i64 c.m, .int .i64 c.se, .int .i64 c.ph, .int .i64 c.gs, .int .u64 ((c.gr.a).toNat : Int), .int .u64 ((c.gr.b).toNat : Int), .int .u64 ((c.gr.c).toNat : Int), .int .u64 ((c.gr.d).toNat : Int), v, .int .i64 c.ps, .int .u64 ((c.pr.a).toNat : Int), .int .u64 ((c.pr.b).toNat : Int), .int .u64 ((c.pr.c).toNat : Int), .int .u64 ((c.pr.d).toNat : Int)]] w fun e w' => e = .returned (.bool true) ∧ Below w.heap.size w w' := by
  have HT : Hid (Its w v X) := hT
  have HG : Hid (Gs w) := hG
  clear hT hG
  have TA0 : Lies w.heap.size 0 [.int .i64 c.n, .int .i64 c.m, .int .i64 c.se, .int .i64 c.ph, .int .i64 c.gs, .int .u64 ((c.gr.a).toNat : Int), .int .u64 ((c.gr.b).toNat : Int), .int .u64 ((c.gr.c).toNat : Int), .int .u64 ((c.gr.d).toNat : Int), v, .int .i64 c.ps, .int .u64 ((c.pr.a).toNat : Int), .int .u64 ((c.pr.b).toNat : Int), .int .u64 ((c.pr.c).toNat : Int), .int .u64 ((c.pr.d).toNat : Int)] (w.alloc (.cells #[.int .i64 c.n, .int .i64 c.m, .int .i64 c.se, .int .i64 c.ph, .int .i64 c.gs, .int .u64 ((c.gr.a).toNat : Int), .int .u64 ((c.gr.b).toNat : Int), .int .u64 ((c.gr.c).toNat : Int), .int .u64 ((c.gr.d).toNat : Int), v, .int .i64 c.ps, .int .u64 ((c.pr.a).toNat : Int), .int .u64 ((c.pr.b).toNat : Int), .int .u64 ((c.pr.c).toNat : Int), .int .u64 ((c.pr.d).toNat : Int)] 29)) := Lies.new w [.int .i64 c.n, .int .i64 c.m, .int .i64 c.se, .int .i64 c.ph, .int .i64 c.gs, .int .u64 ((c.gr.a).toNat : Int), .int .u64 ((c.gr.b).toNat : Int), .int .u64 ((c.gr.c).toNat : Int), .int .u64 ((c.gr.d).toNat : Int), v, .int .i64 c.ps, .int .u64 ((c.pr.a).toNat : Int), .int .u64 ((c.pr.b).toNat : Int), .int .u64 ((c.pr.c).toNat : Int), .int .u64 ((c.pr.d).toNat : Int)] 29
  have lA0 : w.heap.size < (w.alloc (.cells #[.int .i64 c.n, .int .i64 c.m, .int .i64 c.se, .int .i64 c.ph, .int .i64 c.gs, .int .u64 ((c.gr.a).toNat : Int), .int .u64 ((c.gr.b).toNat : Int), .int .u64 ((c.gr.c).toNat : Int), .int .u64 ((c.gr.d).toNat : Int), v, .int .i64 c.ps, .int .u64 ((c.pr.a).toNat : Int), .int .u64 ((c.pr.b).toNat : Int), .int .u64 ((c.pr.c).toNat : Int), .int .u64 ((c.pr.d).toNat : Int)] 29)).heap.size := by simp
  have z0 : Below w.heap.size w (w.alloc (.cells #[.int .i64 c.n, .int .i64 c.m, .int .i64 c.se, .int .i64 c.ph, .int .i64 c.gs, .int .u64 ((c.gr.a).toNat : Int), .int .u64 ((c.gr.b).toNat : Int), .int .u64 ((c.gr.c).toNat : Int), .int .u64 ((c.gr.d).toNat : Int), v, .int .i64 c.ps, .int .u64 ((c.pr.a).toNat : Int), .int .u64 ((c.pr.b).toNat : Int), .int .u64 ((c.pr.c).toNat : Int), .int .u64 ((c.pr.d).toNat : Int)] 29)) := (Below.refl _ _).alloc (Nat.le_refl _) _
  go_enter Tryd.func3, Tryd.ntmps3
  go_upto_region 1 with fail
  generalize w.alloc (.cells #[.int .i64 c.n, .int .i64 c.m, .int .i64 c.se, .int .i64 c.ph, .int .i64 c.gs, .int .u64 ((c.gr.a).toNat : Int), .int .u64 ((c.gr.b).toNat : Int), .int .u64 ((c.gr.c).toNat : Int), .int .u64 ((c.gr.d).toNat : Int), v, .int .i64 c.ps, .int .u64 ((c.pr.a).toNat : Int), .int .u64 ((c.pr.b).toNat : Int), .int .u64 ((c.pr.c).toNat : Int), .int .u64 ((c.pr.d).toNat : Int)] 29) = w0 at TA0 lA0 z0 ⊢
  obtain ⟨A, hA⟩ : ∃ A, A = w.heap.size := ⟨_, rfl⟩
  rw [← hA] at TA0 lA0 ⊢
  clear hA
  have cs := szc_is w0 c v X (HT.out.call z0)
  go_upto_region 3 with (first
    | (with_reducible refine wpl_load agg_lcl A 0 [.int .i64 c.n, .int .i64 c.m, .int .i64 c.se, .int .i64 c.ph, .int .i64 c.gs, .int .u64 ((c.gr.a).toNat : Int), .int .u64 ((c.gr.b).toNat : Int), .int .u64 ((c.gr.c).toNat : Int), .int .u64 ((c.gr.d).toNat : Int), v, .int .i64 c.ps, .int .u64 ((c.pr.a).toNat : Int), .int .u64 ((c.pr.b).toNat : Int), .int .u64 ((c.pr.c).toNat : Int), .int .u64 ((c.pr.d).toNat : Int)] (by kernel_rfl) (by kernel_rfl) TA0 ?_)
    | (go_at_call 5; refine cs.mono ?_; rintro e w1 ⟨r, rfl, b1, hr⟩; have TA1 := TA0.call b1 lA0; have lA1 := Nat.lt_of_lt_of_le lA0 b1.size; have z1 := below_after z0 b1 z0.size; clear TA0 lA0 z0 b1 cs))
  by_cases hneg : r < 0
  · go_wp2_with fail
    go_ret
    exact ⟨rfl, z1⟩
  · have hlen := hr (by omega)
    clear hr
    have ct := fun (V : World) (h : Its V v X) => toc_is V c v X h hlen
    go_upto_region 6 with (first
      | (with_reducible refine wpl_load agg_lcl A 0 [.int .i64 c.n, .int .i64 c.m, .int .i64 c.se, .int .i64 c.ph, .int .i64 c.gs, .int .u64 ((c.gr.a).toNat : Int), .int .u64 ((c.gr.b).toNat : Int), .int .u64 ((c.gr.c).toNat : Int), .int .u64 ((c.gr.d).toNat : Int), v, .int .i64 c.ps, .int .u64 ((c.pr.a).toNat : Int), .int .u64 ((c.pr.b).toNat : Int), .int .u64 ((c.pr.c).toNat : Int), .int .u64 ((c.pr.d).toNat : Int)] (by kernel_rfl) (by kernel_rfl) TA1 ?_)
      | (go_at_call 7; refine (ct _ (HT.out.call z1)).mono ?_; rintro e w2 ⟨u1, rfl, b2, I2⟩; have TA2 := TA1.call b2 lA1; have lA2 := Nat.lt_of_lt_of_le lA1 b2.size; have z2 := below_after z1 b2 z1.size; clear TA1 lA1 z1 b2)
      | (go_at_call 6; refine (cok_spec _ c u1 X I2).mono ?_; rintro e w3 ⟨g1, rfl, b3, hg1⟩; have TA3 := TA2.call b3 lA2; have lA3 := Nat.lt_of_lt_of_le lA2 b3.size; have z3 := below_after z2 b3 z2.size; clear TA2 lA2 z2 I2 b3))
    go_upto_region 7 with (first
      | (with_reducible refine wpl_load agg_lcl A 0 [.int .i64 c.n, .int .i64 c.m, .int .i64 c.se, .int .i64 c.ph, .int .i64 c.gs, .int .u64 ((c.gr.a).toNat : Int), .int .u64 ((c.gr.b).toNat : Int), .int .u64 ((c.gr.c).toNat : Int), .int .u64 ((c.gr.d).toNat : Int), v, .int .i64 c.ps, .int .u64 ((c.pr.a).toNat : Int), .int .u64 ((c.pr.b).toNat : Int), .int .u64 ((c.pr.c).toNat : Int), .int .u64 ((c.pr.d).toNat : Int)] (by kernel_rfl) (by kernel_rfl) TA3 ?_)
      | (go_at_call 7; refine (ct _ (HT.out.call z3)).mono ?_; rintro e w4 ⟨u2, rfl, b4, J4⟩; obtain ⟨o2, c2, rfl, -⟩ := J4.len; have TA4 := TA3.call b4 lA3; have lA4 := Nat.lt_of_lt_of_le lA3 b4.size; have z4 := below_after z3 b4 z3.size; clear TA3 lA3 z3 b4))
    have ba := (Below.refl w4.heap.size w4).alloc (Nat.le_refl _) (.cells #[.int .i64 c.n, .int .i64 c.m, .int .i64 c.se, .int .i64 c.ph, .int .i64 c.gs, .int .u64 ((c.gr.a).toNat : Int), .int .u64 ((c.gr.b).toNat : Int), .int .u64 ((c.gr.c).toNat : Int), .int .u64 ((c.gr.d).toNat : Int), (.slice o2 X.length c2), .int .i64 c.ps, .int .u64 ((c.pr.a).toNat : Int), .int .u64 ((c.pr.b).toNat : Int), .int .u64 ((c.pr.c).toNat : Int), .int .u64 ((c.pr.d).toNat : Int)] 36)
    have TA5 := TA4.call ba lA4
    have lA5 := Nat.lt_of_lt_of_le lA4 ba.size
    have J5 := J4.call ba
    have z5 := z4.alloc z4.size (.cells #[.int .i64 c.n, .int .i64 c.m, .int .i64 c.se, .int .i64 c.ph, .int .i64 c.gs, .int .u64 ((c.gr.a).toNat : Int), .int .u64 ((c.gr.b).toNat : Int), .int .u64 ((c.gr.c).toNat : Int), .int .u64 ((c.gr.d).toNat : Int), (.slice o2 X.length c2), .int .i64 c.ps, .int .u64 ((c.pr.a).toNat : Int), .int .u64 ((c.pr.b).toNat : Int), .int .u64 ((c.pr.c).toNat : Int), .int .u64 ((c.pr.d).toNat : Int)] 36)
    have TN5 : Lies w4.heap.size 0 [.int .i64 c.n, .int .i64 c.m, .int .i64 c.se, .int .i64 c.ph, .int .i64 c.gs, .int .u64 ((c.gr.a).toNat : Int), .int .u64 ((c.gr.b).toNat : Int), .int .u64 ((c.gr.c).toNat : Int), .int .u64 ((c.gr.d).toNat : Int), (.slice o2 X.length c2), .int .i64 c.ps, .int .u64 ((c.pr.a).toNat : Int), .int .u64 ((c.pr.b).toNat : Int), .int .u64 ((c.pr.c).toNat : Int), .int .u64 ((c.pr.d).toNat : Int)] (w4.alloc (.cells #[.int .i64 c.n, .int .i64 c.m, .int .i64 c.se, .int .i64 c.ph, .int .i64 c.gs, .int .u64 ((c.gr.a).toNat : Int), .int .u64 ((c.gr.b).toNat : Int), .int .u64 ((c.gr.c).toNat : Int), .int .u64 ((c.gr.d).toNat : Int), (.slice o2 X.length c2), .int .i64 c.ps, .int .u64 ((c.pr.a).toNat : Int), .int .u64 ((c.pr.b).toNat : Int), .int .u64 ((c.pr.c).toNat : Int), .int .u64 ((c.pr.d).toNat : Int)] 36)) := Lies.new w4 [.int .i64 c.n, .int .i64 c.m, .int .i64 c.se, .int .i64 c.ph, .int .i64 c.gs, .int .u64 ((c.gr.a).toNat : Int), .int .u64 ((c.gr.b).toNat : Int), .int .u64 ((c.gr.c).toNat : Int), .int .u64 ((c.gr.d).toNat : Int), (.slice o2 X.length c2), .int .i64 c.ps, .int .u64 ((c.pr.a).toNat : Int), .int .u64 ((c.pr.b).toNat : Int), .int .u64 ((c.pr.c).toNat : Int), .int .u64 ((c.pr.d).toNat : Int)] 36
    have lN5 : w4.heap.size < (w4.alloc (.cells #[.int .i64 c.n, .int .i64 c.m, .int .i64 c.se, .int .i64 c.ph, .int .i64 c.gs, .int .u64 ((c.gr.a).toNat : Int), .int .u64 ((c.gr.b).toNat : Int), .int .u64 ((c.gr.c).toNat : Int), .int .u64 ((c.gr.d).toNat : Int), (.slice o2 X.length c2), .int .i64 c.ps, .int .u64 ((c.pr.a).toNat : Int), .int .u64 ((c.pr.b).toNat : Int), .int .u64 ((c.pr.c).toNat : Int), .int .u64 ((c.pr.d).toNat : Int)] 36)).heap.size := by simp
    clear ba TA4 lA4 J4 z4
    generalize w4.alloc (.cells #[.int .i64 c.n, .int .i64 c.m, .int .i64 c.se, .int .i64 c.ph, .int .i64 c.gs, .int .u64 ((c.gr.a).toNat : Int), .int .u64 ((c.gr.b).toNat : Int), .int .u64 ((c.gr.c).toNat : Int), .int .u64 ((c.gr.d).toNat : Int), (.slice o2 X.length c2), .int .i64 c.ps, .int .u64 ((c.pr.a).toNat : Int), .int .u64 ((c.pr.b).toNat : Int), .int .u64 ((c.pr.c).toNat : Int), .int .u64 ((c.pr.d).toNat : Int)] 36) = w5 at TA5 lA5 J5 z5 TN5 lN5 ⊢
    generalize w4.heap.size = N at TN5 lN5 ⊢
    go_upto_region 8 with (first
      | (with_reducible refine wpl_load agg_cli N 0 [.int .i64 c.n, .int .i64 c.m, .int .i64 c.se, .int .i64 c.ph, .int .i64 c.gs, .int .u64 ((c.gr.a).toNat : Int), .int .u64 ((c.gr.b).toNat : Int), .int .u64 ((c.gr.c).toNat : Int), .int .u64 ((c.gr.d).toNat : Int), (.slice o2 X.length c2), .int .i64 c.ps, .int .u64 ((c.pr.a).toNat : Int), .int .u64 ((c.pr.b).toNat : Int), .int .u64 ((c.pr.c).toNat : Int), .int .u64 ((c.pr.d).toNat : Int)] (by kernel_rfl) (by kernel_rfl) TN5 ?_)
      | (go_at_call 8; refine (ciok_is _ c (.slice o2 X.length c2) X J5 (HG.out.call z5)).mono ?_; rintro e w6 ⟨g2, rfl, b6, hg2⟩; have TA6 := TA5.call b6 lA5; have lA6 := Nat.lt_of_lt_of_le lA5 b6.size; have TN6 := TN5.call b6 lN5; have lN6 := Nat.lt_of_lt_of_le lN5 b6.size; have J6 := J5.call b6; have z6 := below_after z5 b6 z5.size; clear TA5 lA5 TN5 lN5 J5 z5 b6))
    have hgg : g2 = g1 := by
      cases g1 <;> cases g2 <;> simp_all
    subst hgg
    clear hg1 hg2
    have hne : (g2 != g2) = false := by cases g2 <;> rfl
    go_upto_region 10 with fail
    have bd := (Below.refl w6.heap.size w6).drew
    have TA7 := TA6.call bd lA6
    have lA7 := Nat.lt_of_lt_of_le lA6 bd.size
    have TN7 := TN6.call bd lN6
    have lN7 := Nat.lt_of_lt_of_le lN6 bd.size
    have J7 := J6.call bd
    have z7 := below_after z6 bd z6.size
    clear TA6 lA6 TN6 lN6 J6 z6 bd
    refine wp_region_held_drew (S := fun w' => Lies A 0 [.int .i64 c.n, .int .i64 c.m, .int .i64 c.se, .int .i64 c.ph, .int .i64 c.gs, .int .u64 ((c.gr.a).toNat : Int), .int .u64 ((c.gr.b).toNat : Int), .int .u64 ((c.gr.c).toNat : Int), .int .u64 ((c.gr.d).toNat : Int), v, .int .i64 c.ps, .int .u64 ((c.pr.a).toNat : Int), .int .u64 ((c.pr.b).toNat : Int), .int .u64 ((c.pr.c).toNat : Int), .int .u64 ((c.pr.d).toNat : Int)] w' ∧ Lies N 0 [.int .i64 c.n, .int .i64 c.m, .int .i64 c.se, .int .i64 c.ph, .int .i64 c.gs, .int .u64 ((c.gr.a).toNat : Int), .int .u64 ((c.gr.b).toNat : Int), .int .u64 ((c.gr.c).toNat : Int), .int .u64 ((c.gr.d).toNat : Int), (.slice o2 X.length c2), .int .i64 c.ps, .int .u64 ((c.pr.a).toNat : Int), .int .u64 ((c.pr.b).toNat : Int), .int .u64 ((c.pr.c).toNat : Int), .int .u64 ((c.pr.d).toNat : Int)] w') (by kernel_rfl) ⟨TA7, TN7⟩ (fun hHeld => ?_)
    refine wpAnyH_take (i := 0) (oi := { dst := some 22, op := Op.load 36 (Operand.tmp 5), type := 36, pos := "exact.go:2593", after := #[], guard := none }) (v := .agg #[.int .i64 c.n, .int .i64 c.m, .int .i64 c.se, .int .i64 c.ph, .int .i64 c.gs, .int .u64 ((c.gr.a).toNat : Int), .int .u64 ((c.gr.b).toNat : Int), .int .u64 ((c.gr.c).toNat : Int), .int .u64 ((c.gr.d).toNat : Int), (.slice o2 X.length c2), .int .i64 c.ps, .int .u64 ((c.pr.a).toNat : Int), .int .u64 ((c.pr.b).toNat : Int), .int .u64 ((c.pr.c).toNat : Int), .int .u64 ((c.pr.d).toNat : Int)]) rfl (by kernel_rfl) (by kernel_rfl) (by kernel_rfl) (fun _ _ _ h => h) (Or.inl ⟨by rfl, ?_⟩) (by assumption) ?_
    · (intro wq hq; exact run_load_cl agg_cli N 0 [.int .i64 c.n, .int .i64 c.m, .int .i64 c.se, .int .i64 c.ph, .int .i64 c.gs, .int .u64 ((c.gr.a).toNat : Int), .int .u64 ((c.gr.b).toNat : Int), .int .u64 ((c.gr.c).toNat : Int), .int .u64 ((c.gr.d).toNat : Int), (.slice o2 X.length c2), .int .i64 c.ps, .int .u64 ((c.pr.a).toNat : Int), .int .u64 ((c.pr.b).toNat : Int), .int .u64 ((c.pr.c).toNat : Int), .int .u64 ((c.pr.d).toNat : Int)] (by kernel_rfl) (by kernel_rfl) hq.2)
    try simp only [Act.put, List.setIfInBounds_toArray, List.set_cons_zero, List.set_cons_succ]
    refine wpAnyH_take (i := 1) (oi := { dst := some 23, op := Op.load 29 (Operand.tmp 1), type := 29, pos := "exact.go:2593", after := #[], guard := none }) (v := .agg #[.int .i64 c.n, .int .i64 c.m, .int .i64 c.se, .int .i64 c.ph, .int .i64 c.gs, .int .u64 ((c.gr.a).toNat : Int), .int .u64 ((c.gr.b).toNat : Int), .int .u64 ((c.gr.c).toNat : Int), .int .u64 ((c.gr.d).toNat : Int), v, .int .i64 c.ps, .int .u64 ((c.pr.a).toNat : Int), .int .u64 ((c.pr.b).toNat : Int), .int .u64 ((c.pr.c).toNat : Int), .int .u64 ((c.pr.d).toNat : Int)]) rfl (by kernel_rfl) (by kernel_rfl) (by kernel_rfl) (fun _ _ _ h => h) (Or.inl ⟨by rfl, ?_⟩) (by assumption) ?_
    · (intro wq hq; exact run_load_cl agg_lcl A 0 [.int .i64 c.n, .int .i64 c.m, .int .i64 c.se, .int .i64 c.ph, .int .i64 c.gs, .int .u64 ((c.gr.a).toNat : Int), .int .u64 ((c.gr.b).toNat : Int), .int .u64 ((c.gr.c).toNat : Int), .int .u64 ((c.gr.d).toNat : Int), v, .int .i64 c.ps, .int .u64 ((c.pr.a).toNat : Int), .int .u64 ((c.pr.b).toNat : Int), .int .u64 ((c.pr.c).toNat : Int), .int .u64 ((c.pr.d).toNat : Int)] (by kernel_rfl) (by kernel_rfl) hq.1)
    try simp only [Act.put, List.setIfInBounds_toArray, List.set_cons_zero, List.set_cons_succ]
    refine wpAnyH_ready (rs := [2]) (by kernel_rfl) (by simp) ?_
    refine AllReadyH.cons (o := { dst := some 24, op := Op.call { callee := Callee.value (Operand.func 7), args := #[Operand.tmp 23], argTypes := #[29] }, type := 36, pos := "exact.go:2593", after := #[{ on := 1, ground := Ground.data }], guard := none }) rfl (fun K hK => ?_) AllReadyH.nil
    go_simp
    go_at_call 7
    refine (ct _ (HT.out.call z7)).mono ?_
    rintro e w8 ⟨u3, rfl, b8, I8⟩
    have TA8 := TA7.call b8 lA7
    have TN8 := TN7.call b8 lN7
    have J8 := J7.call b8
    have z8 := below_after z7 b8 z7.size
    have hle8 := b8.size
    clear TA7 TN7 J7 b8
    go_simp
    refine hK.out _ _ ⟨TA8, TN8⟩ (fun hHeld => ?_)
    clear hK K
    refine wpAnyH_ready (rs := [3]) (by kernel_rfl) (by simp) ?_
    refine AllReadyH.cons (o := { dst := some 25, op := Op.call { callee := Callee.value (Operand.func 9), args := #[Operand.tmp 22, Operand.tmp 24], argTypes := #[36, 36] }, type := 4, pos := "exact.go:2593", after := #[{ on := 0, ground := Ground.data }, { on := 2, ground := Ground.data }, { on := 2, ground := Ground.chain }], guard := none }) rfl (fun K hK => ?_) AllReadyH.nil
    go_simp
    go_at_call 9
    refine (eqcl_is _ c (.slice o2 X.length c2) u3 X J8 I8).mono ?_
    rintro e w9 ⟨rfl, b9⟩
    have TA9 := TA8.call b9 (Nat.lt_of_lt_of_le lA7 (Nat.le_trans (Nat.le_refl _) hle8))
    have TN9 := TN8.call b9 (Nat.lt_of_lt_of_le lN7 hle8)
    have z9 := below_after z8 b9 z8.size
    go_simp
    refine hK.out _ _ ⟨TA9, TN9⟩ (fun hHeld => ?_)
    clear hK K
    refine wpAnyH_take (i := 4) (oi := { dst := some 26, op := Op.unOp UnOp.not 4 (Operand.tmp 25), type := 4, pos := "exact.go:2593", after := #[{ on := 3, ground := Ground.data }], guard := none }) (v := .bool false) rfl (by kernel_rfl) (by kernel_rfl) (by kernel_rfl) (fun _ _ _ h => h) (Or.inl ⟨by rfl, ?_⟩) (by assumption) ?_
    · (intro wq hq; first | (go_simp; done) | (go_simp; rfl))
    try simp only [Act.put, List.setIfInBounds_toArray, List.set_cons_zero, List.set_cons_succ]
    refine wpAnyH_done (by kernel_rfl) ?_ _
    clear hHeld
    go_wp2_with fail
    go_ret
    exact ⟨rfl, z9⟩
end Go.Proofs.YtdpbgcilkidbaaaDoor
