/-
  A client that knows nothing yet: made by the program, held to be the same, marked.
-/
import Derived.Test.YtdpbgcilkidbaaaDoorCl0
import Derived.Test.YtdpbgcilkidbaaaDoorIntR
import Derived.Test.YtdpbgcilkidbaaaDoorPoint
namespace Go.Proofs.YtdpbgcilkidbaaaDoor
open Go.RowKit

theorem res2 {fn : Func} {p q : Tmp} {t : TypeId} {n : Nat} (ht : AggTy t n) (h : fn.results = #[.cell p t, .tmp q]) (tmps : Array Value) (w : World) (b : Nat) (vs : List Value) (hn : vs.length = n)
    (hp : tmps.getD p undef = .pointer (some ⟨b, 0, none⟩)) (x : Value) (hq : tmps.getD q undef = x) (hl : Lies b 0 vs w) :
    (results fn tmps).run Tryd.prog w = .ok (.tuple #[.agg vs.toArray, x]) w := by
  obtain ⟨⟨d, hu1, hd1⟩, hi1⟩ := ht
  have hp' : tmps[p]?.getD undef = .pointer (some ⟨b, 0, none⟩) := by simpa using hp
  have hq' : tmps[q]?.getD undef = x := by simpa using hq
  simp [results, h, hp', hq', asAddr, run_lv t b 0 vs w d hd1 hu1 (by rw [hn]; exact hi1) hl]
set_option maxRecDepth 20000 in
set_option maxHeartbeats 1000000 in
theorem phase_zero (n m : Int) (w : World) : Calls Tryd.prog 19 #[.agg #[.int .i64 n, .int .i64 m, .int .i64 0, .int .i64 0, .int .i64 0, .int .u64 0, .int .u64 0, .int .u64 0, .int .u64 0, .slice none 0 0, .int .i64 0, .int .u64 0, .int .u64 0, .int .u64 0, .int .u64 0]] w fun e w' => ∃ i, e = .returned (.tuple #[i, .bool (nok n m)]) ∧ Below w.heap.size w w' := by
  have c1 := fun (V : World) => needOk_is n m V
  have cp := fun V : World => pinOk_zero V
  have A0 := Lies.new w [.int .i64 n, .int .i64 m, .int .i64 0, .int .i64 0, .int .i64 0, .int .u64 0, .int .u64 0, .int .u64 0, .int .u64 0, .slice none 0 0, .int .i64 0, .int .u64 0, .int .u64 0, .int .u64 0, .int .u64 0] 36
  have z0 : Below w.heap.size w (w.alloc (.cells #[.int .i64 n, .int .i64 m, .int .i64 0, .int .i64 0, .int .i64 0, .int .u64 0, .int .u64 0, .int .u64 0, .int .u64 0, .slice none 0 0, .int .i64 0, .int .u64 0, .int .u64 0, .int .u64 0, .int .u64 0] 36)) := (by repeat' (first | (with_reducible exact Below.refl _ _) | (with_reducible assumption) | (with_reducible refine below_drewN ?_ _) | (with_reducible refine Below.setCell ?_ ?_ _) | (with_reducible refine Below.alloc ?_ ?_ _) | (with_reducible refine Below.drew ?_) | go_size))
  have hAz : w.heap.size < (w.alloc (.cells #[.int .i64 n, .int .i64 m, .int .i64 0, .int .i64 0, .int .i64 0, .int .u64 0, .int .u64 0, .int .u64 0, .int .u64 0, .slice none 0 0, .int .i64 0, .int .u64 0, .int .u64 0, .int .u64 0, .int .u64 0] 36)).heap.size := by simp
  have A0 : Lies w.heap.size 0 [.int .i64 n, .int .i64 m, .int .i64 0, .int .i64 0, .int .i64 0, .int .u64 0, .int .u64 0, .int .u64 0, .int .u64 0, .slice none 0 0, .int .i64 0, .int .u64 0, .int .u64 0, .int .u64 0, .int .u64 0] (w.alloc (.cells #[.int .i64 n, .int .i64 m, .int .i64 0, .int .i64 0, .int .i64 0, .int .u64 0, .int .u64 0, .int .u64 0, .int .u64 0, .slice none 0 0, .int .i64 0, .int .u64 0, .int .u64 0, .int .u64 0, .int .u64 0] 36)) := A0
  go_enter Tryd.func19, Tryd.ntmps19
  go_upto_region 1 with fail
  generalize w.alloc (.cells #[.int .i64 n, .int .i64 m, .int .i64 0, .int .i64 0, .int .i64 0, .int .u64 0, .int .u64 0, .int .u64 0, .int .u64 0, .slice none 0 0, .int .i64 0, .int .u64 0, .int .u64 0, .int .u64 0, .int .u64 0] 36) = W at A0 z0 hAz ⊢
  have HA : Hid (Lies w.heap.size 0 [.int .i64 n, .int .i64 m, .int .i64 0, .int .i64 0, .int .i64 0, .int .u64 0, .int .u64 0, .int .u64 0, .int .u64 0, .slice none 0 0, .int .i64 0, .int .u64 0, .int .u64 0, .int .u64 0, .int .u64 0] W) := A0
  have a0 := A0 0 _ rfl
  have a1 := A0 1 _ rfl
  have p0 := A0 10 _ rfl
  have p1 := A0 11 _ rfl
  have p2 := A0 12 _ rfl
  have p3 := A0 13 _ rfl
  have p4 := A0 14 _ rfl
  simp only [Nat.zero_add] at a0 a1 p0 p1 p2 p3 p4
  clear A0
  cases hk : nok n m with
  | false =>
    rw [hk] at c1
    go_wp2_with (go_at_call 25; refine (c1 _).mono ?_; rintro e w1 ⟨rfl, hw1⟩; subst hw1)
    go_ret2
    exact ⟨_, by rw [hk]; rfl, z0⟩
  | true =>
    rw [hk] at c1
    go_wp2_with (first
      | (with_reducible refine wpl_load agg_pnt w.heap.size 4 [.int .i64 0, .int .u64 0, .int .u64 0, .int .u64 0, .int .u64 0] (by kernel_rfl) ?_ AG1 ?_; · (first | (simp [Act.eval]; done) | (simp [Act.eval, Act.put]; done)))
      | (go_at_call 26; refine (cp _).mono ?_; rintro e w1 ⟨rfl, b1⟩; have z1 := below_after z0 b1 z0.size; have A1 := HA.out.call b1 hAz; have k2 := A1 2 _ rfl; have k3 := A1 3 _ rfl; have k9 := A1 9 _ rfl; have AG1 : Lies w.heap.size 4 [.int .i64 0, .int .u64 0, .int .u64 0, .int .u64 0, .int .u64 0] w1 := A1.part 4 5; simp only [Nat.zero_add] at k2 k3 k9; clear A1 HA a0 a1 p0 p1 p2 p3 p4)
      | (go_at_call 25; refine (c1 _).mono ?_; rintro e w1 ⟨rfl, hw1⟩; subst hw1))
    go_ret2
    exact ⟨_, by rw [hk]; rfl, z1⟩
set_option maxRecDepth 20000 in
theorem ciok_zero (n m : Int) (w : World) : Calls Tryd.prog 8 #[.agg #[.int .i64 n, .int .i64 m, .int .i64 0, .int .i64 0, .int .i64 0, .int .u64 0, .int .u64 0, .int .u64 0, .int .u64 0, .slice none 0 0, .int .i64 0, .int .u64 0, .int .u64 0, .int .u64 0, .int .u64 0]] w fun e w' => e = .returned (.bool (nok n m)) ∧ Below w.heap.size w w' := by
  have c1 := fun (V : World) => phase_zero n m V
  go_enter Tryd.func8, Tryd.ntmps8
  go_wp2_with (go_at_call 19; refine (c1 _).mono ?_; rintro e w1 ⟨i, rfl, b1⟩)
  go_ret
  exact ⟨rfl, below_after (show Below w.heap.size w (w.alloc (.cells #[.int .i64 n, .int .i64 m, .int .i64 0, .int .i64 0, .int .i64 0, .int .u64 0, .int .u64 0, .int .u64 0, .int .u64 0, .slice none 0 0, .int .i64 0, .int .u64 0, .int .u64 0, .int .u64 0, .int .u64 0] 36)) from (by repeat' (first | (with_reducible exact Below.refl _ _) | (with_reducible assumption) | (with_reducible refine below_drewN ?_ _) | (with_reducible refine Below.setCell ?_ ?_ _) | (with_reducible refine Below.alloc ?_ ?_ _) | (with_reducible refine Below.drew ?_) | go_size))) b1 (by simp)⟩
set_option maxRecDepth 20000 in
set_option maxHeartbeats 1000000 in
theorem snew_is (n m : Int) (w : World) : Calls Tryd.prog 10 #[.int .i64 n, .int .i64 m] w fun e w' => e = .returned (.tuple #[.agg #[.int .i64 (if nok n m then n else 0), .int .i64 (if nok n m then m else 0), .int .i64 0, .int .i64 0, .int .i64 0, .int .u64 0, .int .u64 0, .int .u64 0, .int .u64 0, .slice none 0 0, .int .i64 0, .int .u64 0, .int .u64 0, .int .u64 0, .int .u64 0], .bool (nok n m)]) ∧ Below w.heap.size w w' := by
  have c1 := fun (V : World) => cok_zero n m V
  have r0 := Room.new w #[.int .i64 0, .int .i64 0, .int .i64 0, .int .i64 0, .int .i64 0, .int .u64 0, .int .u64 0, .int .u64 0, .int .u64 0, .slice none 0 0, .int .i64 0, .int .u64 0, .int .u64 0, .int .u64 0, .int .u64 0] 36 15 rfl
  have z0 : Below w.heap.size w (w.alloc (.cells #[.int .i64 0, .int .i64 0, .int .i64 0, .int .i64 0, .int .i64 0, .int .u64 0, .int .u64 0, .int .u64 0, .int .u64 0, .slice none 0 0, .int .i64 0, .int .u64 0, .int .u64 0, .int .u64 0, .int .u64 0] 36)) := (by repeat' (first | (with_reducible exact Below.refl _ _) | (with_reducible assumption) | (with_reducible refine below_drewN ?_ _) | (with_reducible refine Below.setCell ?_ ?_ _) | (with_reducible refine Below.alloc ?_ ?_ _) | (with_reducible refine Below.drew ?_) | go_size))
  have s0 : w.heap.size < (w.alloc (.cells #[.int .i64 0, .int .i64 0, .int .i64 0, .int .i64 0, .int .i64 0, .int .u64 0, .int .u64 0, .int .u64 0, .int .u64 0, .slice none 0 0, .int .i64 0, .int .u64 0, .int .u64 0, .int .u64 0, .int .u64 0] 36)).heap.size := by simp
  cases hk : nok n m with
  | false =>
    rw [hk] at c1
    clear hk
    simp only [Bool.false_eq_true, if_false]
    go_enter Tryd.func10, Tryd.ntmps10
    go_upto_region 1 with fail
    generalize w.alloc (.cells #[.int .i64 0, .int .i64 0, .int .i64 0, .int .i64 0, .int .i64 0, .int .u64 0, .int .u64 0, .int .u64 0, .int .u64 0, .slice none 0 0, .int .i64 0, .int .u64 0, .int .u64 0, .int .u64 0, .int .u64 0] 36) = W at r0 z0 s0 ⊢
    have ba := (Below.refl W.heap.size W).alloc (Nat.le_refl _) (.cells #[.int .i64 n, .int .i64 m, .int .i64 0, .int .i64 0, .int .i64 0, .int .u64 0, .int .u64 0, .int .u64 0, .int .u64 0, .slice none 0 0, .int .i64 0, .int .u64 0, .int .u64 0, .int .u64 0, .int .u64 0] 36)
    have A1 : Lies W.heap.size 0 [.int .i64 n, .int .i64 m, .int .i64 0, .int .i64 0, .int .i64 0, .int .u64 0, .int .u64 0, .int .u64 0, .int .u64 0, .slice none 0 0, .int .i64 0, .int .u64 0, .int .u64 0, .int .u64 0, .int .u64 0] (W.alloc (.cells #[.int .i64 n, .int .i64 m, .int .i64 0, .int .i64 0, .int .i64 0, .int .u64 0, .int .u64 0, .int .u64 0, .int .u64 0, .slice none 0 0, .int .i64 0, .int .u64 0, .int .u64 0, .int .u64 0, .int .u64 0] 36)) := Lies.new W [.int .i64 n, .int .i64 m, .int .i64 0, .int .i64 0, .int .i64 0, .int .u64 0, .int .u64 0, .int .u64 0, .int .u64 0, .slice none 0 0, .int .i64 0, .int .u64 0, .int .u64 0, .int .u64 0, .int .u64 0] 36
    have l1 : W.heap.size < (W.alloc (.cells #[.int .i64 n, .int .i64 m, .int .i64 0, .int .i64 0, .int .i64 0, .int .u64 0, .int .u64 0, .int .u64 0, .int .u64 0, .slice none 0 0, .int .i64 0, .int .u64 0, .int .u64 0, .int .u64 0, .int .u64 0] 36)).heap.size := by simp
    have r1 := r0.call ba s0
    have z1 := below_after z0 ba z0.size
    go_upto_region 2 with fail
    generalize W.alloc (.cells #[.int .i64 n, .int .i64 m, .int .i64 0, .int .i64 0, .int .i64 0, .int .u64 0, .int .u64 0, .int .u64 0, .int .u64 0, .slice none 0 0, .int .i64 0, .int .u64 0, .int .u64 0, .int .u64 0, .int .u64 0] 36) = V at A1 l1 r1 z1 ⊢
    generalize W.heap.size = X at A1 l1 s0 ⊢
    clear r0 z0 ba
    go_wp2_with (first
      | (with_reducible refine wpl_load agg_cli X 0 [.int .i64 n, .int .i64 m, .int .i64 0, .int .i64 0, .int .i64 0, .int .u64 0, .int .u64 0, .int .u64 0, .int .u64 0, .slice none 0 0, .int .i64 0, .int .u64 0, .int .u64 0, .int .u64 0, .int .u64 0] (by kernel_rfl) ?_ A1 ?_; · (first | (simp [Act.eval]; done) | (simp [Act.eval, Act.put]; done)))
      | (with_reducible refine wpl_store agg_cli w.heap.size 0 [.int .i64 0, .int .i64 0, .int .i64 0, .int .i64 0, .int .i64 0, .int .u64 0, .int .u64 0, .int .u64 0, .int .u64 0, .slice none 0 0, .int .i64 0, .int .u64 0, .int .u64 0, .int .u64 0, .int .u64 0] (by kernel_rfl) (by kernel_rfl) (by kernel_rfl) (by kernel_rfl) r2 ?_; generalize w2.setCells w.heap.size 0 [.int .i64 0, .int .i64 0, .int .i64 0, .int .i64 0, .int .i64 0, .int .u64 0, .int .u64 0, .int .u64 0, .int .u64 0, .slice none 0 0, .int .i64 0, .int .u64 0, .int .u64 0, .int .u64 0, .int .u64 0] = w3 at z3 A3 ⊢)
      | (go_at_call 6; refine (c1 _).mono ?_; rintro e w2 ⟨rfl, b2⟩; have r2 := r1.call b2 (by omega); have z2 := below_after z1 b2 z1.size; have A3 := Lies.sc (vs := [.int .i64 0, .int .i64 0, .int .i64 0, .int .i64 0, .int .i64 0, .int .u64 0, .int .u64 0, .int .u64 0, .int .u64 0, .slice none 0 0, .int .i64 0, .int .u64 0, .int .u64 0, .int .u64 0, .int .u64 0]) rfl r2; have z3 := Below.sc w.heap.size (Nat.le_refl _) [.int .i64 0, .int .i64 0, .int .i64 0, .int .i64 0, .int .i64 0, .int .u64 0, .int .u64 0, .int .u64 0, .int .u64 0, .slice none 0 0, .int .i64 0, .int .u64 0, .int .u64 0, .int .u64 0, .int .u64 0] 0 _ z2; clear A1))
    exact bodyPost_ret (res2 agg_cli Tryd.results10 _ _ w.heap.size [.int .i64 0, .int .i64 0, .int .i64 0, .int .i64 0, .int .i64 0, .int .u64 0, .int .u64 0, .int .u64 0, .int .u64 0, .slice none 0 0, .int .i64 0, .int .u64 0, .int .u64 0, .int .u64 0, .int .u64 0] (by kernel_rfl) (by kernel_rfl) (.bool false) (by kernel_rfl) A3) rfl ⟨rfl, z3⟩
  | true =>
    rw [hk] at c1
    clear hk
    simp only [if_true]
    go_enter Tryd.func10, Tryd.ntmps10
    go_upto_region 1 with fail
    generalize w.alloc (.cells #[.int .i64 0, .int .i64 0, .int .i64 0, .int .i64 0, .int .i64 0, .int .u64 0, .int .u64 0, .int .u64 0, .int .u64 0, .slice none 0 0, .int .i64 0, .int .u64 0, .int .u64 0, .int .u64 0, .int .u64 0] 36) = W at r0 z0 s0 ⊢
    have ba := (Below.refl W.heap.size W).alloc (Nat.le_refl _) (.cells #[.int .i64 n, .int .i64 m, .int .i64 0, .int .i64 0, .int .i64 0, .int .u64 0, .int .u64 0, .int .u64 0, .int .u64 0, .slice none 0 0, .int .i64 0, .int .u64 0, .int .u64 0, .int .u64 0, .int .u64 0] 36)
    have A1 : Lies W.heap.size 0 [.int .i64 n, .int .i64 m, .int .i64 0, .int .i64 0, .int .i64 0, .int .u64 0, .int .u64 0, .int .u64 0, .int .u64 0, .slice none 0 0, .int .i64 0, .int .u64 0, .int .u64 0, .int .u64 0, .int .u64 0] (W.alloc (.cells #[.int .i64 n, .int .i64 m, .int .i64 0, .int .i64 0, .int .i64 0, .int .u64 0, .int .u64 0, .int .u64 0, .int .u64 0, .slice none 0 0, .int .i64 0, .int .u64 0, .int .u64 0, .int .u64 0, .int .u64 0] 36)) := Lies.new W [.int .i64 n, .int .i64 m, .int .i64 0, .int .i64 0, .int .i64 0, .int .u64 0, .int .u64 0, .int .u64 0, .int .u64 0, .slice none 0 0, .int .i64 0, .int .u64 0, .int .u64 0, .int .u64 0, .int .u64 0] 36
    have l1 : W.heap.size < (W.alloc (.cells #[.int .i64 n, .int .i64 m, .int .i64 0, .int .i64 0, .int .i64 0, .int .u64 0, .int .u64 0, .int .u64 0, .int .u64 0, .slice none 0 0, .int .i64 0, .int .u64 0, .int .u64 0, .int .u64 0, .int .u64 0] 36)).heap.size := by simp
    have r1 := r0.call ba s0
    have z1 := below_after z0 ba z0.size
    go_upto_region 2 with fail
    generalize W.alloc (.cells #[.int .i64 n, .int .i64 m, .int .i64 0, .int .i64 0, .int .i64 0, .int .u64 0, .int .u64 0, .int .u64 0, .int .u64 0, .slice none 0 0, .int .i64 0, .int .u64 0, .int .u64 0, .int .u64 0, .int .u64 0] 36) = V at A1 l1 r1 z1 ⊢
    generalize W.heap.size = X at A1 l1 s0 ⊢
    clear r0 z0 ba
    go_wp2_with (first
      | (with_reducible refine wpl_load agg_cli X 0 [.int .i64 n, .int .i64 m, .int .i64 0, .int .i64 0, .int .i64 0, .int .u64 0, .int .u64 0, .int .u64 0, .int .u64 0, .slice none 0 0, .int .i64 0, .int .u64 0, .int .u64 0, .int .u64 0, .int .u64 0] (by kernel_rfl) ?_ A2 ?_; · (first | (simp [Act.eval]; done) | (simp [Act.eval, Act.put]; done)))
      | (with_reducible refine wpl_load agg_cli X 0 [.int .i64 n, .int .i64 m, .int .i64 0, .int .i64 0, .int .i64 0, .int .u64 0, .int .u64 0, .int .u64 0, .int .u64 0, .slice none 0 0, .int .i64 0, .int .u64 0, .int .u64 0, .int .u64 0, .int .u64 0] (by kernel_rfl) ?_ A1 ?_; · (first | (simp [Act.eval]; done) | (simp [Act.eval, Act.put]; done)))
      | (with_reducible refine wpl_store agg_cli w.heap.size 0 [.int .i64 n, .int .i64 m, .int .i64 0, .int .i64 0, .int .i64 0, .int .u64 0, .int .u64 0, .int .u64 0, .int .u64 0, .slice none 0 0, .int .i64 0, .int .u64 0, .int .u64 0, .int .u64 0, .int .u64 0] (by kernel_rfl) (by kernel_rfl) (by kernel_rfl) (by kernel_rfl) r2 ?_; generalize w2.setCells w.heap.size 0 [.int .i64 n, .int .i64 m, .int .i64 0, .int .i64 0, .int .i64 0, .int .u64 0, .int .u64 0, .int .u64 0, .int .u64 0, .slice none 0 0, .int .i64 0, .int .u64 0, .int .u64 0, .int .u64 0, .int .u64 0] = w3 at z3 A3 ⊢)
      | (go_at_call 6; refine (c1 _).mono ?_; rintro e w2 ⟨rfl, b2⟩; have r2 := r1.call b2 (by omega); have A2 := A1.call b2 l1; have z2 := below_after z1 b2 z1.size; have A3 := Lies.sc (vs := [.int .i64 n, .int .i64 m, .int .i64 0, .int .i64 0, .int .i64 0, .int .u64 0, .int .u64 0, .int .u64 0, .int .u64 0, .slice none 0 0, .int .i64 0, .int .u64 0, .int .u64 0, .int .u64 0, .int .u64 0]) rfl r2; have z3 := Below.sc w.heap.size (Nat.le_refl _) [.int .i64 n, .int .i64 m, .int .i64 0, .int .i64 0, .int .i64 0, .int .u64 0, .int .u64 0, .int .u64 0, .int .u64 0, .slice none 0 0, .int .i64 0, .int .u64 0, .int .u64 0, .int .u64 0, .int .u64 0] 0 _ z2; clear A1))
    exact bodyPost_ret (res2 agg_cli Tryd.results10 _ _ w.heap.size [.int .i64 n, .int .i64 m, .int .i64 0, .int .i64 0, .int .i64 0, .int .u64 0, .int .u64 0, .int .u64 0, .int .u64 0, .slice none 0 0, .int .i64 0, .int .u64 0, .int .u64 0, .int .u64 0, .int .u64 0] (by kernel_rfl) (by kernel_rfl) (.bool true) (by kernel_rfl) A3) rfl ⟨rfl, z3⟩
set_option maxRecDepth 20000 in
set_option maxHeartbeats 1000000 in
theorem inew_is (n m : Int) (w : World) : Calls Tryd.prog 11 #[.int .i64 n, .int .i64 m] w fun e w' => e = .returned (.tuple #[.agg #[.int .i64 (if nok n m then n else 0), .int .i64 (if nok n m then m else 0), .int .i64 0, .int .i64 0, .int .i64 0, .int .u64 0, .int .u64 0, .int .u64 0, .int .u64 0, .slice none 0 0, .int .i64 0, .int .u64 0, .int .u64 0, .int .u64 0, .int .u64 0], .bool (nok n m)]) ∧ Below w.heap.size w w' := by
  have c1 := fun (V : World) => ciok_zero n m V
  have r0 := Room.new w #[.int .i64 0, .int .i64 0, .int .i64 0, .int .i64 0, .int .i64 0, .int .u64 0, .int .u64 0, .int .u64 0, .int .u64 0, .slice none 0 0, .int .i64 0, .int .u64 0, .int .u64 0, .int .u64 0, .int .u64 0] 36 15 rfl
  have z0 : Below w.heap.size w (w.alloc (.cells #[.int .i64 0, .int .i64 0, .int .i64 0, .int .i64 0, .int .i64 0, .int .u64 0, .int .u64 0, .int .u64 0, .int .u64 0, .slice none 0 0, .int .i64 0, .int .u64 0, .int .u64 0, .int .u64 0, .int .u64 0] 36)) := (by repeat' (first | (with_reducible exact Below.refl _ _) | (with_reducible assumption) | (with_reducible refine below_drewN ?_ _) | (with_reducible refine Below.setCell ?_ ?_ _) | (with_reducible refine Below.alloc ?_ ?_ _) | (with_reducible refine Below.drew ?_) | go_size))
  have s0 : w.heap.size < (w.alloc (.cells #[.int .i64 0, .int .i64 0, .int .i64 0, .int .i64 0, .int .i64 0, .int .u64 0, .int .u64 0, .int .u64 0, .int .u64 0, .slice none 0 0, .int .i64 0, .int .u64 0, .int .u64 0, .int .u64 0, .int .u64 0] 36)).heap.size := by simp
  cases hk : nok n m with
  | false =>
    rw [hk] at c1
    clear hk
    simp only [Bool.false_eq_true, if_false]
    go_enter Tryd.func11, Tryd.ntmps11
    go_upto_region 1 with fail
    generalize w.alloc (.cells #[.int .i64 0, .int .i64 0, .int .i64 0, .int .i64 0, .int .i64 0, .int .u64 0, .int .u64 0, .int .u64 0, .int .u64 0, .slice none 0 0, .int .i64 0, .int .u64 0, .int .u64 0, .int .u64 0, .int .u64 0] 36) = W at r0 z0 s0 ⊢
    have ba := (Below.refl W.heap.size W).alloc (Nat.le_refl _) (.cells #[.int .i64 n, .int .i64 m, .int .i64 0, .int .i64 0, .int .i64 0, .int .u64 0, .int .u64 0, .int .u64 0, .int .u64 0, .slice none 0 0, .int .i64 0, .int .u64 0, .int .u64 0, .int .u64 0, .int .u64 0] 36)
    have A1 : Lies W.heap.size 0 [.int .i64 n, .int .i64 m, .int .i64 0, .int .i64 0, .int .i64 0, .int .u64 0, .int .u64 0, .int .u64 0, .int .u64 0, .slice none 0 0, .int .i64 0, .int .u64 0, .int .u64 0, .int .u64 0, .int .u64 0] (W.alloc (.cells #[.int .i64 n, .int .i64 m, .int .i64 0, .int .i64 0, .int .i64 0, .int .u64 0, .int .u64 0, .int .u64 0, .int .u64 0, .slice none 0 0, .int .i64 0, .int .u64 0, .int .u64 0, .int .u64 0, .int .u64 0] 36)) := Lies.new W [.int .i64 n, .int .i64 m, .int .i64 0, .int .i64 0, .int .i64 0, .int .u64 0, .int .u64 0, .int .u64 0, .int .u64 0, .slice none 0 0, .int .i64 0, .int .u64 0, .int .u64 0, .int .u64 0, .int .u64 0] 36
    have l1 : W.heap.size < (W.alloc (.cells #[.int .i64 n, .int .i64 m, .int .i64 0, .int .i64 0, .int .i64 0, .int .u64 0, .int .u64 0, .int .u64 0, .int .u64 0, .slice none 0 0, .int .i64 0, .int .u64 0, .int .u64 0, .int .u64 0, .int .u64 0] 36)).heap.size := by simp
    have r1 := r0.call ba s0
    have z1 := below_after z0 ba z0.size
    go_upto_region 2 with fail
    generalize W.alloc (.cells #[.int .i64 n, .int .i64 m, .int .i64 0, .int .i64 0, .int .i64 0, .int .u64 0, .int .u64 0, .int .u64 0, .int .u64 0, .slice none 0 0, .int .i64 0, .int .u64 0, .int .u64 0, .int .u64 0, .int .u64 0] 36) = V at A1 l1 r1 z1 ⊢
    generalize W.heap.size = X at A1 l1 s0 ⊢
    clear r0 z0 ba
    go_wp2_with (first
      | (with_reducible refine wpl_load agg_cli X 0 [.int .i64 n, .int .i64 m, .int .i64 0, .int .i64 0, .int .i64 0, .int .u64 0, .int .u64 0, .int .u64 0, .int .u64 0, .slice none 0 0, .int .i64 0, .int .u64 0, .int .u64 0, .int .u64 0, .int .u64 0] (by kernel_rfl) ?_ A1 ?_; · (first | (simp [Act.eval]; done) | (simp [Act.eval, Act.put]; done)))
      | (with_reducible refine wpl_store agg_cli w.heap.size 0 [.int .i64 0, .int .i64 0, .int .i64 0, .int .i64 0, .int .i64 0, .int .u64 0, .int .u64 0, .int .u64 0, .int .u64 0, .slice none 0 0, .int .i64 0, .int .u64 0, .int .u64 0, .int .u64 0, .int .u64 0] (by kernel_rfl) (by kernel_rfl) (by kernel_rfl) (by kernel_rfl) r2 ?_; generalize w2.setCells w.heap.size 0 [.int .i64 0, .int .i64 0, .int .i64 0, .int .i64 0, .int .i64 0, .int .u64 0, .int .u64 0, .int .u64 0, .int .u64 0, .slice none 0 0, .int .i64 0, .int .u64 0, .int .u64 0, .int .u64 0, .int .u64 0] = w3 at z3 A3 ⊢)
      | (go_at_call 8; refine (c1 _).mono ?_; rintro e w2 ⟨rfl, b2⟩; have r2 := r1.call b2 (by omega); have z2 := below_after z1 b2 z1.size; have A3 := Lies.sc (vs := [.int .i64 0, .int .i64 0, .int .i64 0, .int .i64 0, .int .i64 0, .int .u64 0, .int .u64 0, .int .u64 0, .int .u64 0, .slice none 0 0, .int .i64 0, .int .u64 0, .int .u64 0, .int .u64 0, .int .u64 0]) rfl r2; have z3 := Below.sc w.heap.size (Nat.le_refl _) [.int .i64 0, .int .i64 0, .int .i64 0, .int .i64 0, .int .i64 0, .int .u64 0, .int .u64 0, .int .u64 0, .int .u64 0, .slice none 0 0, .int .i64 0, .int .u64 0, .int .u64 0, .int .u64 0, .int .u64 0] 0 _ z2; clear A1))
    exact bodyPost_ret (res2 agg_cli Tryd.results11 _ _ w.heap.size [.int .i64 0, .int .i64 0, .int .i64 0, .int .i64 0, .int .i64 0, .int .u64 0, .int .u64 0, .int .u64 0, .int .u64 0, .slice none 0 0, .int .i64 0, .int .u64 0, .int .u64 0, .int .u64 0, .int .u64 0] (by kernel_rfl) (by kernel_rfl) (.bool false) (by kernel_rfl) A3) rfl ⟨rfl, z3⟩
  | true =>
    rw [hk] at c1
    clear hk
    simp only [if_true]
    go_enter Tryd.func11, Tryd.ntmps11
    go_upto_region 1 with fail
    generalize w.alloc (.cells #[.int .i64 0, .int .i64 0, .int .i64 0, .int .i64 0, .int .i64 0, .int .u64 0, .int .u64 0, .int .u64 0, .int .u64 0, .slice none 0 0, .int .i64 0, .int .u64 0, .int .u64 0, .int .u64 0, .int .u64 0] 36) = W at r0 z0 s0 ⊢
    have ba := (Below.refl W.heap.size W).alloc (Nat.le_refl _) (.cells #[.int .i64 n, .int .i64 m, .int .i64 0, .int .i64 0, .int .i64 0, .int .u64 0, .int .u64 0, .int .u64 0, .int .u64 0, .slice none 0 0, .int .i64 0, .int .u64 0, .int .u64 0, .int .u64 0, .int .u64 0] 36)
    have A1 : Lies W.heap.size 0 [.int .i64 n, .int .i64 m, .int .i64 0, .int .i64 0, .int .i64 0, .int .u64 0, .int .u64 0, .int .u64 0, .int .u64 0, .slice none 0 0, .int .i64 0, .int .u64 0, .int .u64 0, .int .u64 0, .int .u64 0] (W.alloc (.cells #[.int .i64 n, .int .i64 m, .int .i64 0, .int .i64 0, .int .i64 0, .int .u64 0, .int .u64 0, .int .u64 0, .int .u64 0, .slice none 0 0, .int .i64 0, .int .u64 0, .int .u64 0, .int .u64 0, .int .u64 0] 36)) := Lies.new W [.int .i64 n, .int .i64 m, .int .i64 0, .int .i64 0, .int .i64 0, .int .u64 0, .int .u64 0, .int .u64 0, .int .u64 0, .slice none 0 0, .int .i64 0, .int .u64 0, .int .u64 0, .int .u64 0, .int .u64 0] 36
    have l1 : W.heap.size < (W.alloc (.cells #[.int .i64 n, .int .i64 m, .int .i64 0, .int .i64 0, .int .i64 0, .int .u64 0, .int .u64 0, .int .u64 0, .int .u64 0, .slice none 0 0, .int .i64 0, .int .u64 0, .int .u64 0, .int .u64 0, .int .u64 0] 36)).heap.size := by simp
    have r1 := r0.call ba s0
    have z1 := below_after z0 ba z0.size
    go_upto_region 2 with fail
    generalize W.alloc (.cells #[.int .i64 n, .int .i64 m, .int .i64 0, .int .i64 0, .int .i64 0, .int .u64 0, .int .u64 0, .int .u64 0, .int .u64 0, .slice none 0 0, .int .i64 0, .int .u64 0, .int .u64 0, .int .u64 0, .int .u64 0] 36) = V at A1 l1 r1 z1 ⊢
    generalize W.heap.size = X at A1 l1 s0 ⊢
    clear r0 z0 ba
    go_wp2_with (first
      | (with_reducible refine wpl_load agg_cli X 0 [.int .i64 n, .int .i64 m, .int .i64 0, .int .i64 0, .int .i64 0, .int .u64 0, .int .u64 0, .int .u64 0, .int .u64 0, .slice none 0 0, .int .i64 0, .int .u64 0, .int .u64 0, .int .u64 0, .int .u64 0] (by kernel_rfl) ?_ A2 ?_; · (first | (simp [Act.eval]; done) | (simp [Act.eval, Act.put]; done)))
      | (with_reducible refine wpl_load agg_cli X 0 [.int .i64 n, .int .i64 m, .int .i64 0, .int .i64 0, .int .i64 0, .int .u64 0, .int .u64 0, .int .u64 0, .int .u64 0, .slice none 0 0, .int .i64 0, .int .u64 0, .int .u64 0, .int .u64 0, .int .u64 0] (by kernel_rfl) ?_ A1 ?_; · (first | (simp [Act.eval]; done) | (simp [Act.eval, Act.put]; done)))
      | (with_reducible refine wpl_store agg_cli w.heap.size 0 [.int .i64 n, .int .i64 m, .int .i64 0, .int .i64 0, .int .i64 0, .int .u64 0, .int .u64 0, .int .u64 0, .int .u64 0, .slice none 0 0, .int .i64 0, .int .u64 0, .int .u64 0, .int .u64 0, .int .u64 0] (by kernel_rfl) (by kernel_rfl) (by kernel_rfl) (by kernel_rfl) r2 ?_; generalize w2.setCells w.heap.size 0 [.int .i64 n, .int .i64 m, .int .i64 0, .int .i64 0, .int .i64 0, .int .u64 0, .int .u64 0, .int .u64 0, .int .u64 0, .slice none 0 0, .int .i64 0, .int .u64 0, .int .u64 0, .int .u64 0, .int .u64 0] = w3 at z3 A3 ⊢)
      | (go_at_call 8; refine (c1 _).mono ?_; rintro e w2 ⟨rfl, b2⟩; have r2 := r1.call b2 (by omega); have A2 := A1.call b2 l1; have z2 := below_after z1 b2 z1.size; have A3 := Lies.sc (vs := [.int .i64 n, .int .i64 m, .int .i64 0, .int .i64 0, .int .i64 0, .int .u64 0, .int .u64 0, .int .u64 0, .int .u64 0, .slice none 0 0, .int .i64 0, .int .u64 0, .int .u64 0, .int .u64 0, .int .u64 0]) rfl r2; have z3 := Below.sc w.heap.size (Nat.le_refl _) [.int .i64 n, .int .i64 m, .int .i64 0, .int .i64 0, .int .i64 0, .int .u64 0, .int .u64 0, .int .u64 0, .int .u64 0, .slice none 0 0, .int .i64 0, .int .u64 0, .int .u64 0, .int .u64 0, .int .u64 0] 0 _ z2; clear A1))
    exact bodyPost_ret (res2 agg_cli Tryd.results11 _ _ w.heap.size [.int .i64 n, .int .i64 m, .int .i64 0, .int .i64 0, .int .i64 0, .int .u64 0, .int .u64 0, .int .u64 0, .int .u64 0, .slice none 0 0, .int .i64 0, .int .u64 0, .int .u64 0, .int .u64 0, .int .u64 0] (by kernel_rfl) (by kernel_rfl) (.bool true) (by kernel_rfl) A3) rfl ⟨rfl, z3⟩
end Go.Proofs.YtdpbgcilkidbaaaDoor
