/-
  PeaksAdd of the program, whatever its arguments; PeaksAdd of the model.
-/
import Derived.Test.YtgpbodanaeelaaaPAdd
import Derived.Laws.OwnMore
namespace Go.Proofs.Ytgpbodanaeelaaa
open Go.RowKit

set_option maxRecDepth 20000 in
set_option maxHeartbeats 1000000 in
theorem pad_impl_out (n : Int) (L : List Qd) (s : ByteArray) (v : Value) (w : World) (hT : Dgs w v L) (hno : ¬ paOk n L s) :
    Calls Try.prog 14 #[.int .i64 n, v, .string s] w fun e w' => e = .returned (.tuple #[.slice none 0 0, .bool false]) ∧ w' = w := by
  have cc : ∀ V : World, Calls Try.prog 9 #[.int .i64 n] V fun e w' => e = .returned (.int .i64 (pcI n)) ∧ V = w' := fun V => (pc_impl_all n V).mono (fun e w' h => ⟨h.1, h.2.symm⟩)
  obtain ⟨oa, cap, rfl, hl⟩ := hT.len
  clear hT
  by_cases h0 : n < 0
  · clear cc hno
    go_enter Try.func14, Try.ntmps14
    go_wp2_with fail
    exact bodyPost_ret (v := .tuple #[.slice none 0 0, .bool false]) (by simp [results, Try.results14, go_sem]) rfl ⟨rfl, rfl⟩
  by_cases h1 : 256 ≤ n
  · clear cc hno
    go_enter Try.func14, Try.ntmps14
    go_wp2_with fail
    exact bodyPost_ret (v := .tuple #[.slice none 0 0, .bool false]) (by simp [results, Try.results14, go_sem]) rfl ⟨rfl, rfl⟩
  by_cases h2 : (L.length : Int) = pcI n
  · have h3 : 40 < (s.size : Int) := by unfold paOk at hno; omega
    rw [← h2] at cc
    clear hno h2
    go_enter Try.func14, Try.ntmps14
    go_wp2_with (go_at_call 9; (refine (cc _).mono ?_; rintro e w0 ⟨rfl, rfl⟩; clear cc))
    exact bodyPost_ret (v := .tuple #[.slice none 0 0, .bool false]) (by simp [results, Try.results14, go_sem]) rfl ⟨rfl, rfl⟩
  · have h3 : ((L.length : Int) != pcI n) = true := by simpa using h2
    generalize pcI n = c at cc h2 h3
    clear hno
    go_enter Try.func14, Try.ntmps14
    go_wp2_with (go_at_call 9; (refine (cc _).mono ?_; rintro e w0 ⟨rfl, rfl⟩; clear cc))
    exact bodyPost_ret (v := .tuple #[.slice none 0 0, .bool false]) (by simp [results, Try.results14, go_sem]) rfl ⟨rfl, rfl⟩
theorem paOk_nat {n : Int} {L : List Qd} {s : ByteArray} (h : paOk n L s) : ∃ m : Nat, n = (m : Int) ∧ m ≤ 255 ∧ L.length = pc m ∧ s.size ≤ 40 := by
  obtain ⟨h0, h1, h2, h3⟩ := h
  refine ⟨n.toNat, by omega, by omega, ?_, h3⟩
  unfold pcI at h2
  rw [if_neg (by omega)] at h2
  omega
theorem pad_impl (n : Int) (L : List Qd) (s : ByteArray) (v : Value) (w : World) (hT : Dgs w v L) :
    Calls Try.prog 14 #[.int .i64 n, v, .string s] w fun e w' => ∃ u, e = .returned (.tuple #[u, .bool (decide (paOk n L s))]) ∧ w'.ownsRow w.heap.size 31 4 u (paL n L s).length (qcs (paL n L s)) ∧ Below w.heap.size w w' := by
  by_cases h : paOk n L s
  · obtain ⟨m, rfl, hm, hL, hs⟩ := paOk_nat h
    have := pad_impl_in m L s v w hT hm hL hs
    unfold paL
    rw [if_pos h, decide_eq_true h]
    exact this
  · refine (pad_impl_out n L s v w hT h).mono ?_
    rintro e w' ⟨rfl, rfl⟩
    unfold paL
    rw [if_neg h, decide_eq_false h]
    exact ⟨_, rfl, World.ownsRow_nil _ _ _ _, Below.refl _ _⟩
end Go.Proofs.Ytgpbodanaeelaaa

/-
  PeaksAdd of the model.
-/
namespace Go.Proofs.Ytgpbodanaeelaaa
open Go.RowKit

/-- append(b, q), b a row of digests of the call's own, q one digest. -/
theorem wpList_append_dg {w : World} {ops : Array Oper} {rest : List Oper} {o : Oper} {a : Act} {Q : Exit → Act → World → Prop} (hgd : o.guard = none) (s x : Operand)
    (ho : o.op = .call { callee := .builtin .append, args := #[s, x], argTypes := #[25, 25] })
    (base : Nat) (v : Value) (K : List Qd) (q : Qd) (hs : a.eval s = v) (hown : w.ownsRow base 31 4 v K.length (qcs K))
    (B : Nat) (hx : a.eval x = .slice (some ⟨B, 0, none⟩) 1 1) (hc : ∀ j u, (qc q)[j]? = some u → w.cell? ((⟨B, 0, none⟩ : Addr).add j) = some u)
    (hlen : K.length ≤ 1048576) (hbase : base ≤ w.heap.size)
    (h : ∀ v' w', w'.ownsRow base 31 4 v' (K ++ [q]).length (qcs (K ++ [q])) → w.grownBy w' v.ownBlock → wpList Try.prog ops Q rest (a.put o.dst v') w') : wpList Try.prog ops Q (o :: rest) a w := by
  obtain ⟨i0, hi, hz0, hz1, hz2⟩ := info_parts infoD
  refine wpList_append_own w hgd s x 25 ho base 31 i0 _ 4 32 Try.underlying25 hi hz0 hz1 hz2 rfl (by decide) v K.length (qcs K) hs hown ⟨B, 0, none⟩ 1 1 (qc q) hx rfl hc qc_one (by unfold maxLen; omega) (by omega) hbase ?_
  intro v' w' h1 h2 _
  refine h v' w' ?_ h2
  rw [qcs_append, List.length_append]
  simpa [qcs] using h1
/-- What stands ahead of each round of the model's PeaksAdd. -/
def SA (w : World) (Br : Nat) (u : Value) (K : List Qd) (t : Qd) (W : World) : Prop :=
  W.ownsRow w.heap.size 31 4 u K.length (qcs K) ∧ (∀ k, u.ownBlock = some k → k < Br) ∧ Rt Br t W ∧ Below w.heap.size w W
end Go.Proofs.Ytgpbodanaeelaaa
