/-
  treeOfLeaves and rootOfNode of the program, walked.
-/
import Derived.Test.YteaaaojafipllaaDoorJoinB28
namespace Go.Proofs.YteaaaojafipllaaDoor
open Go.RowKit

/-- The tree of leaves, so many levels down at most. -/
def treeV : Nat → List ByteArray → Value
  | 0, _ => .nilIface
  | n + 1, S => if S.length = 0 then .nilIface else if S.length = 1 then .iface 119 (.agg #[.string (S.getD 0 (ByteArray.mk #[]))]) else .iface 121 (.agg #[treeV n (S.take (sp S.length)), treeV n (S.drop (sp S.length))])

theorem treeV_some (n : Nat) (S : List ByteArray) (h : 0 < S.length) (hn : S.length ≤ n) : ∃ t x, treeV n S = .iface t x := by
  cases n with
  | zero => omega
  | succ n =>
    show ∃ t x, (if S.length = 0 then _ else _) = _
    rw [if_neg (by omega)]
    split
    · exact ⟨_, _, rfl⟩
    · exact ⟨_, _, rfl⟩

set_option maxRecDepth 20000 in
set_option maxHeartbeats 1000000 in
theorem tree_is (n : Nat) : ∀ (S : List ByteArray) (v : Value) (w : World), S.length ≤ n → S.length ≤ 256 → Txt w v S →
    Calls Tryd.prog 47 #[v] w fun e w' => e = .returned (treeV n S) ∧ Below w.heap.size w w' := by
  have zero : ∀ (v : Value) (w : World), Txt w v [] → Calls Tryd.prog 47 #[v] w fun e w' => e = .returned .nilIface ∧ Below w.heap.size w w' := by
    intro v w hT
    obtain ⟨a, cap, rfl⟩ : ∃ a cap, v = .slice a 0 cap := by
      rcases hT with ⟨rfl, _⟩ | ⟨a, cap, rfl, _⟩
      · exact ⟨none, 0, rfl⟩
      · exact ⟨some a, cap, rfl⟩
    clear hT
    go_enter Tryd.func47, Tryd.ntmps47
    go_wp2
    go_ret
    exact ⟨rfl, Below.refl _ _⟩
  induction n with
  | zero =>
    intro S v w hn _ hT
    have : S = [] := List.length_eq_zero_iff.1 (by omega)
    subst this
    exact zero v w hT
  | succ n ih =>
    intro S v w hn h256 hT
    by_cases h0 : S.length = 0
    · have : S = [] := List.length_eq_zero_iff.1 h0
      subst this
      exact zero v w hT
    · obtain ⟨a, cap, hv, hle, hcap⟩ : ∃ a cap, v = .slice (some a) S.length cap ∧ S.length ≤ cap ∧ cap ≤ maxLen := by
        rcases hT with ⟨_, h⟩ | ⟨a, cap, rfl, hl, hm, _⟩
        · exact absurd (by rw [h]; rfl) h0
        · exact ⟨a, cap, rfl, hl, hm⟩
      subst hv
      have hne0 : ((S.length : Int) == 0) = false := by rw [beq_eq_false_iff_ne]; omega
      by_cases h1 : S.length = 1
      · obtain ⟨s, rfl⟩ : ∃ s, S = [s] := by
          match S, h1 with
          | [s], _ => exact ⟨s, rfl⟩
        show Calls _ _ _ _ fun e w' => e = .returned (.iface 119 (.agg #[.string s])) ∧ Below w.heap.size w w'
        rcases hT with ⟨_, h⟩ | ⟨a', cap', he, _, _, hbl, hc⟩
        · cases h
        obtain ⟨rfl, rfl⟩ : a = a' ∧ cap = cap' := by simpa using he
        have hc0 := hc 0 (by simp)
        have hcA : w.cell? a = some (.string s) := by simpa [Addr.add] using hc0
        have cs := fun W : World => sp_out_impl 1 (.inl (by omega)) W
        clear hc hbl zero ih he
        go_enter Tryd.func47, Tryd.ntmps47
        go_wp2_with (go_at_call 55; refine (cs _).mono ?_; rintro e w1 ⟨rfl, hw⟩; replace hw := hw.symm; subst hw)
        go_ret
        exact ⟨rfl, Below.refl _ _⟩
      · have h2 : 2 ≤ S.length := by omega
        have hsp := sp_lt S.length h2
        have cs := fun W : World => sp_impl S.length h2 h256 W
        obtain ⟨k, hk⟩ : ∃ k, k = sp S.length := ⟨_, rfl⟩
        rw [← hk] at hsp cs
        have e1 : (S.take k).length = k := by rw [List.length_take]; omega
        have e2 : (S.drop k).length = S.length - k := by rw [List.length_drop]
        have c1 := fun (W' : World) (h : Below w.heap.size w W') => ih (S.take k) (.slice (some a) k cap) W' (by omega) (by omega) ((hT.call h).take k (by omega))
        have c2 := fun (W' : World) (h : Below w.heap.size w W') => ih (S.drop k) (.slice (some (a.add k)) (S.length - k) (cap - k)) W' (by omega) (by omega) ((hT.call h).drop k (by omega))
        have htree : treeV (n + 1) S = .iface 121 (.agg #[treeV n (S.take k), treeV n (S.drop k)]) := by
          show (if S.length = 0 then _ else _) = _
          rw [if_neg h0, if_neg h1, ← hk]
        rw [htree]
        obtain ⟨tp, p, hp⟩ := treeV_some n (S.take k) (by omega) (by omega)
        obtain ⟨tq, q, hq⟩ := treeV_some n (S.drop k) (by omega) (by omega)
        rw [hp] at c1 ⊢
        rw [hq] at c2 ⊢
        obtain ⟨a2, ha2⟩ : ∃ a2, a.add k = a2 := ⟨_, rfl⟩
        rw [ha2] at c2
        have hk0 : ((k : Int) == 0) = false := by rw [beq_eq_false_iff_ne]; omega
        have hkI : (0 : Int) ≤ (k : Int) := by omega
        have hkL : (k : Int) ≤ (S.length : Int) := by omega
        have hkC : (k : Int) ≤ (cap : Int) := by omega
        have hLC : (S.length : Int) ≤ (cap : Int) := by omega
        clear zero ih htree hT hk e1 e2 hp hq
        go_enter Tryd.func47, Tryd.ntmps47
        go_wp2_with (go_at_call 55; refine (cs _).mono ?_; rintro e w1 ⟨rfl, hw⟩; replace hw := hw.symm; subst hw)
        go_region_with (first
          | (go_at_call_of 47 a2; refine (c2 _ (by repeat' (first | (with_reducible exact Below.refl _ _) | (with_reducible assumption) | (with_reducible refine Below.alloc ?_ ?_ _) | (with_reducible refine Below.drew ?_) | (with_reducible exact Nat.le_refl _) | (simp; done) | (simp; omega) | omega))).mono ?_; rintro e w2 ⟨rfl, hb2⟩; have hB2 : Below w.heap.size w w2 := below_after hB1 hb2 (by have := hB1.size; omega))
          | (go_at_call 47; refine (c1 _ (by repeat' (first | (with_reducible exact Below.refl _ _) | (with_reducible assumption) | (with_reducible refine Below.alloc ?_ ?_ _) | (with_reducible refine Below.drew ?_) | (with_reducible exact Nat.le_refl _) | (simp; done) | (simp; omega) | omega))).mono ?_; rintro e w1 ⟨rfl, hb1⟩; have hB1 : Below w.heap.size w w1 := below_after ((Below.refl _ _).drew) hb1 (by simp)))
        all_goals (go_wp2_with fail)
        all_goals go_ret
        all_goals (exact ⟨rfl, hB2⟩)

theorem under_leaf : ∃ fs, Tryd.prog.underlying 119 = some (.struct fs) := ⟨_, Tryd.underlying119⟩
theorem under_pair : ∃ fs, Tryd.prog.underlying 121 = some (.struct fs) := ⟨_, Tryd.underlying121⟩
theorem ta_yes {P : Program} (t xT : TypeId) (v : Value) (W : World) (h : ∃ fs, P.underlying t = some (.struct fs)) : (Instr.typeAssert (.iface t v) xT t true).run P W = .ok (.tuple #[v, .bool true]) W := by
  obtain ⟨fs, h⟩ := h
  simp [Instr.typeAssert, run_underlying h, go_sem, Result.andThen]
theorem ta_no {P : Program} (t a xT : TypeId) (v z : Value) (W : World) (h : ∃ fs, P.underlying a = some (.struct fs)) (hne : t ≠ a) (hz : (P.info? a).map (·.zero) = some (some z)) : (Instr.typeAssert (.iface t v) xT a true).run P W = .ok (.tuple #[z, .bool false]) W := by
  obtain ⟨fs, h⟩ := h
  cases hq : P.info? a with
  | none => simp [hq] at hz
  | some i =>
    simp [hq] at hz
    simp [Instr.typeAssert, run_underlying h, go_sem, Result.andThen, hne, zeroValue, typeInfo, hq, hz]
theorem ta_nil {P : Program} (a xT : TypeId) (z : Value) (W : World) (h : ∃ fs, P.underlying a = some (.struct fs)) (hz : (P.info? a).map (·.zero) = some (some z)) : (Instr.typeAssert .nilIface xT a true).run P W = .ok (.tuple #[z, .bool false]) W := by
  obtain ⟨fs, h⟩ := h
  cases hq : P.info? a with
  | none => simp [hq] at hz
  | some i =>
    simp [hq] at hz
    simp [Instr.typeAssert, run_underlying h, go_sem, Result.andThen, zeroValue, typeInfo, hq, hz]
theorem zero_leaf : (Tryd.prog.info? 119).map (·.zero) = some (some (.agg #[.string (ByteArray.mk #[])])) := by kernel_rfl
theorem zero_pair : (Tryd.prog.info? 121).map (·.zero) = some (some (.agg #[.nilIface, .nilIface])) := by kernel_rfl

set_option maxRecDepth 20000 in
set_option maxHeartbeats 1000000 in
theorem root_is (n : Nat) : ∀ (S : List ByteArray) (w : World), S.length ≤ n → S.length ≤ 256 → (∀ s ∈ S, s.size ≤ 40) →
    Calls Tryd.prog 46 #[treeV n S] w fun e w' => e = .returned (.agg #[.int .u64 ((rootN n S).a.toNat : Int), .int .u64 ((rootN n S).b.toNat : Int), .int .u64 ((rootN n S).c.toNat : Int), .int .u64 ((rootN n S).d.toNat : Int)]) ∧ Below w.heap.size w w' := by
  have zero : ∀ (w : World), Calls Tryd.prog 46 #[.nilIface] w fun e w' => e = .returned (.agg #[.int .u64 ((dg (ByteArray.mk #[])).a.toNat : Int), .int .u64 ((dg (ByteArray.mk #[])).b.toNat : Int), .int .u64 ((dg (ByteArray.mk #[])).c.toNat : Int), .int .u64 ((dg (ByteArray.mk #[])).d.toNat : Int)]) ∧ Below w.heap.size w w' := by
    intro w
    have a1 := fun W : World => ta_nil (P := Tryd.prog) 119 97 _ W under_leaf zero_leaf
    have a2 := fun W : World => ta_nil (P := Tryd.prog) 121 97 _ W under_pair zero_pair
    go_enter Tryd.func46, Tryd.ntmps46
    go_wp2_with (go_at_call 54; refine (ho_impl_all (ByteArray.mk #[]) _).mono ?_; rintro e w1 ⟨rfl, hb1⟩; have hX : Box w.heap.size w1 := (Box.start w).call hb1; obtain ⟨s0, s1, s2, s3, t0, t1, t2, t3⟩ := hX.facts; have hB1 : Below w.heap.size w w1 := below_after ((Below.refl _ _).alloc (Nat.le_refl _) _) hb1 (by simp))
    obtain ⟨q0, q1, q2, q3⟩ := four_set_at (w := w1) (b := w.heap.size) (q := dg (ByteArray.mk #[])) s0 s1 s2 s3
    exact bodyPost_ret (v := .agg #[.int .u64 ((dg (ByteArray.mk #[])).a.toNat : Int), .int .u64 ((dg (ByteArray.mk #[])).b.toNat : Int), .int .u64 ((dg (ByteArray.mk #[])).c.toNat : Int), .int .u64 ((dg (ByteArray.mk #[])).d.toNat : Int)]) (by simp [results, Tryd.results46, go_sem, q0, q1, q2, q3]) rfl ⟨rfl, by repeat' (first | (with_reducible exact hB1) | (with_reducible refine Below.setCell ?_ ?_ _) | go_size)⟩
  induction n with
  | zero =>
    intro S w hn _ _
    have : S = [] := List.length_eq_zero_iff.1 (by omega)
    subst this
    exact zero w
  | succ n ih =>
    intro S w hn h256 h40
    by_cases h0 : S.length = 0
    · have : S = [] := List.length_eq_zero_iff.1 h0
      subst this
      exact zero w
    · by_cases h1 : S.length = 1
      · obtain ⟨s, rfl⟩ : ∃ s, S = [s] := by
          match S, h1 with
          | [s], _ => exact ⟨s, rfl⟩
        show Calls _ _ #[.iface 119 (.agg #[.string s])] _ fun e w' => e = .returned (.agg #[.int .u64 ((leafD s).a.toNat : Int), .int .u64 ((leafD s).b.toNat : Int), .int .u64 ((leafD s).c.toNat : Int), .int .u64 ((leafD s).d.toNat : Int)]) ∧ Below w.heap.size w w'
        have hs := h40 s (by simp)
        have hl1 := fun W : World => hl_impl s W (by omega)
        have a1 := fun W : World => ta_yes (P := Tryd.prog) 119 97 (.agg #[.string s]) W under_leaf
        clear zero ih
        go_enter Tryd.func46, Tryd.ntmps46
        go_wp2_with (go_at_call 52; refine (hl1 _).mono ?_; rintro e w1 ⟨rfl, hb1⟩; have hX : Box w.heap.size w1 := ((Box.start w).alloc _).call hb1; obtain ⟨s0, s1, s2, s3, t0, t1, t2, t3⟩ := hX.facts; have hB1 : Below w.heap.size w w1 := below_after (((Below.refl _ _).alloc (Nat.le_refl _) _).alloc (by simp) _) hb1 (by simp only [World.size_alloc]; omega))
        obtain ⟨q0, q1, q2, q3⟩ := four_set_at (w := w1) (b := w.heap.size) (q := dg (ByteArray.mk #[0] ++ s)) s0 s1 s2 s3
        exact bodyPost_ret (v := .agg #[.int .u64 ((leafD s).a.toNat : Int), .int .u64 ((leafD s).b.toNat : Int), .int .u64 ((leafD s).c.toNat : Int), .int .u64 ((leafD s).d.toNat : Int)]) (by simp [results, Tryd.results46, go_sem, q0, q1, q2, q3, leafD]) rfl ⟨rfl, by repeat' (first | (with_reducible exact hB1) | (with_reducible refine Below.setCell ?_ ?_ _) | go_size)⟩
      · have h2 : 2 ≤ S.length := by omega
        have hsp := sp_lt S.length h2
        obtain ⟨k, hk⟩ : ∃ k, k = sp S.length := ⟨_, rfl⟩
        rw [← hk] at hsp
        have e1 : (S.take k).length = k := by rw [List.length_take]; omega
        have e2 : (S.drop k).length = S.length - k := by rw [List.length_drop]
        have c1 := fun (W' : World) => ih (S.take k) W' (by omega) (by omega) (fun s hs => h40 s (List.mem_of_mem_take hs))
        have c2 := fun (W' : World) => ih (S.drop k) W' (by omega) (by omega) (fun s hs => h40 s (List.mem_of_mem_drop hs))
        have htree : treeV (n + 1) S = .iface 121 (.agg #[treeV n (S.take k), treeV n (S.drop k)]) := by
          show (if S.length = 0 then _ else _) = _
          rw [if_neg h0, if_neg h1, ← hk]
        have hroot : rootN (n + 1) S = pairD (rootN n (S.take k)) (rootN n (S.drop k)) := by
          show (if S.length = 0 then _ else _) = _
          rw [if_neg h0, if_neg h1, ← hk]
        rw [htree, hroot]
        obtain ⟨tp, p, hp⟩ := treeV_some n (S.take k) (by omega) (by omega)
        obtain ⟨tq, q, hq⟩ := treeV_some n (S.drop k) (by omega) (by omega)
        rw [hp] at c1 ⊢
        rw [hq] at c2 ⊢
        obtain ⟨x, hx⟩ : ∃ x, x = rootN n (S.take k) := ⟨_, rfl⟩
        obtain ⟨y, hy⟩ : ∃ y, y = rootN n (S.drop k) := ⟨_, rfl⟩
        rw [← hx] at c1 ⊢
        rw [← hy] at c2 ⊢
        have c3 := fun W : World => hp_impl x y W
        obtain ⟨z, hz⟩ : ∃ z, z = pairD x y := ⟨_, rfl⟩
        have c4 : ∀ W : World, Calls Tryd.prog 53 #[.agg #[.int .u64 ((x).a.toNat : Int), .int .u64 ((x).b.toNat : Int), .int .u64 ((x).c.toNat : Int), .int .u64 ((x).d.toNat : Int)], .agg #[.int .u64 ((y).a.toNat : Int), .int .u64 ((y).b.toNat : Int), .int .u64 ((y).c.toNat : Int), .int .u64 ((y).d.toNat : Int)]] W fun e w' => e = .returned (.agg #[.int .u64 ((z).a.toNat : Int), .int .u64 ((z).b.toNat : Int), .int .u64 ((z).c.toNat : Int), .int .u64 ((z).d.toNat : Int)]) ∧ Below W.heap.size W w' := fun W => by rw [hz]; exact c3 W
        rw [← hz]
        have a1 := fun W : World => ta_no (P := Tryd.prog) 121 119 97 (.agg #[.iface tp p, .iface tq q]) _ W under_leaf (by decide) zero_leaf
        have a2 := fun W : World => ta_yes (P := Tryd.prog) 121 97 (.agg #[.iface tp p, .iface tq q]) W under_pair
        clear zero ih htree hroot hk e1 e2 hp hq hx hy hz c3 h40
        go_enter Tryd.func46, Tryd.ntmps46
        go_wp2_with fail
        have hX0 : Box w.heap.size ((w.alloc (.cells #[Value.int IntKind.u64 0, Value.int IntKind.u64 0, Value.int IntKind.u64 0, Value.int IntKind.u64 0] 34)).alloc (.cells #[Value.iface tp p, Value.iface tq q] 121)).drew := ((Box.start w).alloc _).drew
        have hB0 : Below w.heap.size w ((w.alloc (.cells #[Value.int IntKind.u64 0, Value.int IntKind.u64 0, Value.int IntKind.u64 0, Value.int IntKind.u64 0] 34)).alloc (.cells #[Value.iface tp p, Value.iface tq q] 121)).drew := (((Below.refl _ _).alloc (Nat.le_refl _) _).alloc (by simp) _).drew
        go_region_with (first
          | (go_at_call_of 46 q; refine (c2 _).mono ?_; rintro e w2 ⟨rfl, hb2⟩; have hX2 : Box w.heap.size w2 := hX1.call hb2; have hB2 : Below w.heap.size w w2 := below_after hB1 hb2 (by have := hB1.size; omega))
          | (go_at_call_of 46 p; refine (c1 _).mono ?_; rintro e w1 ⟨rfl, hb1⟩; have hX1 : Box w.heap.size w1 := hX0.call hb1; have hB1 : Below w.heap.size w w1 := below_after hB0 hb1 hB0.size; have d1 : w1.cell? ⟨w.heap.size + 1, 1, none⟩ = some (.iface tq q) := (hb1.cell (by simp)).trans (by simp [go_sem]))
          | (go_at_call 53; refine (c4 _).mono ?_; rintro e w3 ⟨rfl, hb3⟩; have hX3 : Box w.heap.size w3 := hX2.call hb3; obtain ⟨s0, s1, s2, s3, t0, t1, t2, t3⟩ := hX3.facts; have hB3 : Below w.heap.size w w3 := below_after hB2 hb3 (by have := hB2.size; omega)))
        all_goals (go_wp2_with fail)
        all_goals (obtain ⟨q0, q1, q2, q3⟩ := four_set_at (w := w3) (b := w.heap.size) (q := z) s0 s1 s2 s3)
        all_goals (exact bodyPost_ret (v := .agg #[.int .u64 ((z).a.toNat : Int), .int .u64 ((z).b.toNat : Int), .int .u64 ((z).c.toNat : Int), .int .u64 ((z).d.toNat : Int)]) (by simp [results, Tryd.results46, go_sem, q0, q1, q2, q3]) rfl ⟨rfl, by repeat' (first | (with_reducible exact hB3) | (with_reducible refine Below.setCell ?_ ?_ _) | go_size)⟩)

/-- The root that TreeRoot tells. -/
def trv (S : List ByteArray) : Qd := if lok S then rootN 256 S else { a := 0, b := 0, c := 0, d := 0 }
theorem lok_yes {S : List ByteArray} (h : lok S = true) : S.length ≤ 256 ∧ ∀ s ∈ S, s.size ≤ 40 := by
  unfold lok at h
  rw [Bool.and_eq_true, decide_eq_true_iff, List.all_eq_true] at h
  exact ⟨h.1, fun s hs => by simpa using h.2 s hs⟩
set_option maxRecDepth 20000 in
set_option maxHeartbeats 1000000 in
theorem tr_impl (S : List ByteArray) (v : Value) (w : World) (hT : Txt w v S) :
    Calls Tryd.prog 38 #[v] w fun e w' => e = .returned (.agg #[.int .u64 ((trv S).a.toNat : Int), .int .u64 ((trv S).b.toNat : Int), .int .u64 ((trv S).c.toNat : Int), .int .u64 ((trv S).d.toNat : Int)]) ∧ Below w.heap.size w w' := by
  have cl := fun (W : World) (h : Below w.heap.size w W) => lok_impl W v S (hT.call h)
  cases hl : lok S with
  | false =>
    have ht : trv S = { a := 0, b := 0, c := 0, d := 0 } := by unfold trv; rw [hl]; rfl
    rw [ht]
    rw [hl] at cl
    have c0 := cl _ ((Below.refl w.heap.size w).alloc (Nat.le_refl _) (.cells #[Value.int IntKind.u64 0, Value.int IntKind.u64 0, Value.int IntKind.u64 0, Value.int IntKind.u64 0] 34))
    clear cl
    go_enter Tryd.func38, Tryd.ntmps38
    go_wp2_with (go_at_call 37; refine c0.mono ?_; rintro e w1 ⟨rfl, rfl⟩)
    exact bodyPost_ret (v := .agg #[.int .u64 0, .int .u64 0, .int .u64 0, .int .u64 0]) (by simp [results, Tryd.results38, go_sem]) rfl ⟨rfl, (by repeat' (first | (with_reducible exact Below.refl _ _) | (with_reducible assumption) | (with_reducible refine below_drewN ?_ _) | (with_reducible refine Below.setCell ?_ ?_ _) | (with_reducible refine Below.alloc ?_ ?_ _) | (with_reducible refine Below.drew ?_) | go_size))⟩
  | true =>
    have ht : trv S = rootN 256 S := by unfold trv; rw [hl]; rfl
    obtain ⟨h256, h40⟩ := lok_yes hl
    rw [ht]
    rw [hl] at cl
    have c0 := cl _ ((Below.refl w.heap.size w).alloc (Nat.le_refl _) (.cells #[Value.int IntKind.u64 0, Value.int IntKind.u64 0, Value.int IntKind.u64 0, Value.int IntKind.u64 0] 34))
    have c1 := tree_is 256 S v _ h256 h256 (hT.call ((Below.refl w.heap.size w).alloc (Nat.le_refl _) (.cells #[Value.int IntKind.u64 0, Value.int IntKind.u64 0, Value.int IntKind.u64 0, Value.int IntKind.u64 0] 34)))
    have c2 := fun W : World => root_is 256 S W h256 h256 h40
    obtain ⟨z, hz⟩ : ∃ z, z = rootN 256 S := ⟨_, rfl⟩
    obtain ⟨t, htv⟩ : ∃ t, t = treeV 256 S := ⟨_, rfl⟩
    rw [← hz] at c2 ⊢
    rw [← htv] at c1 c2
    clear cl hz h40 htv
    go_enter Tryd.func38, Tryd.ntmps38
    go_wp2_with (first | (go_at_call 37; refine c0.mono ?_; rintro e w1 ⟨rfl, rfl⟩) | (go_at_call 47; refine c1.mono ?_; rintro e w2 ⟨rfl, hb2⟩; have hX2 : Box w.heap.size w2 := (Box.start w).call hb2; have hB2 : Below w.heap.size w w2 := below_after ((Below.refl _ _).alloc (Nat.le_refl _) _) hb2 (by simp)) | (go_at_call 46; refine (c2 _).mono ?_; rintro e w3 ⟨rfl, hb3⟩; have hX3 : Box w.heap.size w3 := hX2.call hb3; obtain ⟨s0, s1, s2, s3, t0, t1, t2, t3⟩ := hX3.facts; have hB3 : Below w.heap.size w w3 := below_after hB2 hb3 hB2.size))
    obtain ⟨q0, q1, q2, q3⟩ := four_set_at (w := w3) (b := w.heap.size) (q := z) s0 s1 s2 s3
    exact bodyPost_ret (v := .agg #[.int .u64 ((z).a.toNat : Int), .int .u64 ((z).b.toNat : Int), .int .u64 ((z).c.toNat : Int), .int .u64 ((z).d.toNat : Int)]) (by simp [results, Tryd.results38, go_sem, q0, q1, q2, q3]) rfl ⟨rfl, by repeat' (first | (with_reducible exact hB3) | (with_reducible refine Below.setCell ?_ ?_ _) | go_size)⟩
end Go.Proofs.YteaaaojafipllaaDoor
