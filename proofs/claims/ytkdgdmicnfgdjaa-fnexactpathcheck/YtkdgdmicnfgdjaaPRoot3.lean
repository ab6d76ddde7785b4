/-
  PathRoot of both, walked.
-/
import Derived.Test.YtkdgdmicnfgdjaaPRoot2
namespace Go.Proofs.Ytkdgdmicnfgdjaa
open Go.RowKit

/-- Where PathRoot says true. -/
def prOk (n i : Int) (s : ByteArray) (P : List Qd) : Bool := decide (1 ≤ n ∧ n ≤ 256 ∧ 0 ≤ i ∧ i < n) && decide (s.size ≤ 40) && decide (P.length = dp n.toNat n.toNat i.toNat)
/-- The root that PathRoot tells. -/
def prQ (n i : Int) (s : ByteArray) (P : List Qd) : Qd := if prOk n i s P then up n.toNat n.toNat i.toNat (leafD s) P else ⟨0, 0, 0, 0⟩
theorem plI_in {n i : Int} (h : 1 ≤ n ∧ n ≤ 256 ∧ 0 ≤ i ∧ i < n) : plI n i = (dp n.toNat n.toNat i.toNat : Int) := by unfold plI; rw [if_pos h]
theorem plI_out {n i : Int} (h : ¬ (1 ≤ n ∧ n ≤ 256 ∧ 0 ≤ i ∧ i < n)) : plI n i = -1 := by unfold plI; rw [if_neg h]

theorem zero_put {B : Nat} {q : Qd} {W : World} (h : Rt B q W) :
    ((((W.setCell ⟨B, 0, none⟩ (.int .u64 0)).setCell ⟨B, 1, none⟩ (.int .u64 0)).setCell ⟨B, 2, none⟩ (.int .u64 0)).setCell ⟨B, 3, none⟩ (.int .u64 0)).cell? ⟨B, 0, none⟩ = some (.int .u64 0) ∧
    ((((W.setCell ⟨B, 0, none⟩ (.int .u64 0)).setCell ⟨B, 1, none⟩ (.int .u64 0)).setCell ⟨B, 2, none⟩ (.int .u64 0)).setCell ⟨B, 3, none⟩ (.int .u64 0)).cell? ⟨B, 1, none⟩ = some (.int .u64 0) ∧
    ((((W.setCell ⟨B, 0, none⟩ (.int .u64 0)).setCell ⟨B, 1, none⟩ (.int .u64 0)).setCell ⟨B, 2, none⟩ (.int .u64 0)).setCell ⟨B, 3, none⟩ (.int .u64 0)).cell? ⟨B, 2, none⟩ = some (.int .u64 0) ∧
    ((((W.setCell ⟨B, 0, none⟩ (.int .u64 0)).setCell ⟨B, 1, none⟩ (.int .u64 0)).setCell ⟨B, 2, none⟩ (.int .u64 0)).setCell ⟨B, 3, none⟩ (.int .u64 0)).cell? ⟨B, 3, none⟩ = some (.int .u64 0) := by
  obtain ⟨_, ⟨h1, h2, h3, h4⟩, _⟩ := h
  exact four_set (fun i hi => by
    rcases (by omega : i = 0 ∨ i = 1 ∨ i = 2 ∨ i = 3) with rfl | rfl | rfl | rfl
    · rw [h1]; rfl
    · rw [h2]; rfl
    · rw [h3]; rfl
    · rw [h4]; rfl)
set_option maxRecDepth 20000 in
set_option maxHeartbeats 1000000 in
theorem pr_impl_out (n i : Int) (s : ByteArray) (P : List Qd) (v : Value) (w : World) (hs : s.size ≤ 1048576) (hT : Dgs w v P) (h : prOk n i s P = false) :
    Calls Try.prog 21 #[.int .i64 n, .int .i64 i, .string s, v] w fun e w' => e = .returned (.tuple #[.agg #[.int .u64 (((⟨0, 0, 0, 0⟩ : Qd)).a.toNat : Int), .int .u64 (((⟨0, 0, 0, 0⟩ : Qd)).b.toNat : Int), .int .u64 (((⟨0, 0, 0, 0⟩ : Qd)).c.toNat : Int), .int .u64 (((⟨0, 0, 0, 0⟩ : Qd)).d.toNat : Int)], .bool false]) ∧ Below w.heap.size w w' := by
  obtain ⟨oa, cap, rfl, hlen⟩ := hT.len
  have cp := fun V : World => pl_impl_all n i V
  have hss : s.size ≤ 9223372036854775807 := by omega
  have arm : ∀ w1 : World, Below ((w.alloc (.cells #[.int .i64 i] 3)).alloc (.cells #[Value.int IntKind.u64 0, Value.int IntKind.u64 0, Value.int IntKind.u64 0, Value.int IntKind.u64 0] 36)).heap.size ((w.alloc (.cells #[.int .i64 i] 3)).alloc (.cells #[Value.int IntKind.u64 0, Value.int IntKind.u64 0, Value.int IntKind.u64 0, Value.int IntKind.u64 0] 36)) w1 → Rt (w.heap.size + 1) ⟨0, 0, 0, 0⟩ w1 ∧ Below w.heap.size w w1 := fun w1 hb => by
    have h1 := (Rt.new (w.alloc (.cells #[.int .i64 i] 3)) ⟨0, 0, 0, 0⟩ 36).behind hb
    rw [World.size_alloc] at h1
    exact ⟨h1, (((Below.refl w.heap.size w).alloc (Nat.le_refl _) _).alloc (by simp) _).trans (hb.mono (by simp only [World.size_alloc]; omega))⟩
  by_cases h1 : 1 ≤ n ∧ n ≤ 256 ∧ 0 ≤ i ∧ i < n
  · have e1 := plI_in h1
    have hd := dp_le n.toNat n.toNat i.toNat
    rw [e1] at cp
    have hne : (((dp n.toNat n.toNat i.toNat : Nat) : Int) == -1) = false := by rw [beq_eq_false_iff_ne]; omega
    by_cases h2 : s.size ≤ 40
    · have h3 : ¬ P.length = dp n.toNat n.toNat i.toNat := fun e => by
        have : prOk n i s P = true := by unfold prOk; rw [decide_eq_true h1, decide_eq_true h2, decide_eq_true e]; rfl
        rw [h] at this; cases this
      have h2I : ¬ 40 < (s.size : Int) := by omega
      generalize dp n.toNat n.toNat i.toNat = D at cp hne h3 hd
      have h3I : ((P.length : Int) != (D : Int)) = true := by rw [bne_iff_ne]; omega
      clear hT h h1 e1 hd
      go_enter Try.func21, Try.ntmps21
      go_wp2_with (go_at_call 36; refine (cp _).mono ?_; rintro e w1 ⟨rfl, hb1⟩; obtain ⟨z, B⟩ := arm w1 hb1; obtain ⟨-, ⟨a0, a1, a2, a3⟩, f0, f1, f2, f3⟩ := id z)
      have hr := zero_put z
      exact bodyPost_ret (v := .tuple #[.agg #[.int .u64 0, .int .u64 0, .int .u64 0, .int .u64 0], .bool false]) (by obtain ⟨r0, r1, r2, r3⟩ := hr; simp [results, Try.results21, go_sem, r0, r1, r2, r3]) rfl ⟨rfl, (((B.setCell (p := ⟨w.heap.size + 1, 0, none⟩) (Nat.le_succ _) _).setCell (p := ⟨w.heap.size + 1, 1, none⟩) (Nat.le_succ _) _).setCell (p := ⟨w.heap.size + 1, 2, none⟩) (Nat.le_succ _) _).setCell (p := ⟨w.heap.size + 1, 3, none⟩) (Nat.le_succ _) _⟩
    · have h2I : 40 < (s.size : Int) := by omega
      generalize dp n.toNat n.toNat i.toNat = D at cp hne hd
      clear hT h h1 e1 hd
      go_enter Try.func21, Try.ntmps21
      go_wp2_with (go_at_call 36; refine (cp _).mono ?_; rintro e w1 ⟨rfl, hb1⟩; obtain ⟨z, B⟩ := arm w1 hb1; obtain ⟨-, ⟨a0, a1, a2, a3⟩, f0, f1, f2, f3⟩ := id z)
      have hr := zero_put z
      exact bodyPost_ret (v := .tuple #[.agg #[.int .u64 0, .int .u64 0, .int .u64 0, .int .u64 0], .bool false]) (by obtain ⟨r0, r1, r2, r3⟩ := hr; simp [results, Try.results21, go_sem, r0, r1, r2, r3]) rfl ⟨rfl, (((B.setCell (p := ⟨w.heap.size + 1, 0, none⟩) (Nat.le_succ _) _).setCell (p := ⟨w.heap.size + 1, 1, none⟩) (Nat.le_succ _) _).setCell (p := ⟨w.heap.size + 1, 2, none⟩) (Nat.le_succ _) _).setCell (p := ⟨w.heap.size + 1, 3, none⟩) (Nat.le_succ _) _⟩
  · have e1 := plI_out h1
    rw [e1] at cp
    clear hT h h1 e1
    go_enter Try.func21, Try.ntmps21
    go_wp2_with (go_at_call 36; refine (cp _).mono ?_; rintro e w1 ⟨rfl, hb1⟩; obtain ⟨z, B⟩ := arm w1 hb1; obtain ⟨-, ⟨a0, a1, a2, a3⟩, f0, f1, f2, f3⟩ := id z)
    have hr := zero_put z
    exact bodyPost_ret (v := .tuple #[.agg #[.int .u64 0, .int .u64 0, .int .u64 0, .int .u64 0], .bool false]) (by obtain ⟨r0, r1, r2, r3⟩ := hr; simp [results, Try.results21, go_sem, r0, r1, r2, r3]) rfl ⟨rfl, (((B.setCell (p := ⟨w.heap.size + 1, 0, none⟩) (Nat.le_succ _) _).setCell (p := ⟨w.heap.size + 1, 1, none⟩) (Nat.le_succ _) _).setCell (p := ⟨w.heap.size + 1, 2, none⟩) (Nat.le_succ _) _).setCell (p := ⟨w.heap.size + 1, 3, none⟩) (Nat.le_succ _) _⟩
end Go.Proofs.Ytkdgdmicnfgdjaa
