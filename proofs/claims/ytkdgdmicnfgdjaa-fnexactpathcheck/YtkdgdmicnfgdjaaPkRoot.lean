/-
  PeaksRoot of both, walked.
-/
import Derived.Test.YtkdgdmicnfgdjaaStk
import Derived.Test.YtkdgdmicnfgdjaaTree2
namespace Go.Proofs.Ytkdgdmicnfgdjaa
open Go.RowKit

/-- The block B holds the digest q, and may be written. -/
def Rt (B : Nat) (q : Qd) (W : World) : Prop := B < W.heap.size ∧ (W.cell? ⟨B, 0, none⟩ = some (Value.int IntKind.u64 ((q.a).toNat : Int)) ∧ W.cell? ⟨B, 1, none⟩ = some (Value.int IntKind.u64 ((q.b).toNat : Int)) ∧ W.cell? ⟨B, 2, none⟩ = some (Value.int IntKind.u64 ((q.c).toNat : Int)) ∧ W.cell? ⟨B, 3, none⟩ = some (Value.int IntKind.u64 ((q.d).toNat : Int))) ∧
  W.frozen? ⟨B, 0, none⟩ = false ∧ W.frozen? ⟨B, 1, none⟩ = false ∧ W.frozen? ⟨B, 2, none⟩ = false ∧ W.frozen? ⟨B, 3, none⟩ = false
theorem Rt.new (w : World) (q : Qd) (t : TypeId) : Rt w.heap.size q (w.alloc (.cells #[Value.int IntKind.u64 ((q).a.toNat : Int), Value.int IntKind.u64 ((q).b.toNat : Int), Value.int IntKind.u64 ((q).c.toNat : Int), Value.int IntKind.u64 ((q).d.toNat : Int)] t)) := by
  refine ⟨by simp, ⟨?_, ?_, ?_, ?_⟩, ?_, ?_, ?_, ?_⟩ <;> simp [go_sem]
theorem Rt.behind {B : Nat} {q : Qd} {W W' : World} (h : Rt B q W) (hb : Below W.heap.size W W') : Rt B q W' := by
  obtain ⟨h0, ⟨h1, h2, h3, h4⟩, h5, h6, h7, h8⟩ := h
  exact ⟨Nat.lt_of_lt_of_le h0 hb.size, ⟨(hb.cell (p := ⟨B, 0, none⟩) h0).trans h1, (hb.cell (p := ⟨B, 1, none⟩) h0).trans h2, (hb.cell (p := ⟨B, 2, none⟩) h0).trans h3, (hb.cell (p := ⟨B, 3, none⟩) h0).trans h4⟩,
    (hb.frozen (p := ⟨B, 0, none⟩) h0).trans h5, (hb.frozen (p := ⟨B, 1, none⟩) h0).trans h6, (hb.frozen (p := ⟨B, 2, none⟩) h0).trans h7, (hb.frozen (p := ⟨B, 3, none⟩) h0).trans h8⟩
theorem Rt.drew {B : Nat} {q : Qd} {W : World} (h : Rt B q W) : Rt B q W.drew := h
theorem Rt.alloc {B : Nat} {q : Qd} {W : World} (h : Rt B q W) (o : Obj) : Rt B q (W.alloc o) := h.behind ((Below.refl _ _).alloc (Nat.le_refl _) _)
theorem Rt.set {B : Nat} {q : Qd} {W : World} (h : Rt B q W) (X o : Nat) (x : Value) (hX : X ≠ B) : Rt B q (W.setCell ⟨X, o, none⟩ x) := by
  obtain ⟨h0, ⟨h1, h2, h3, h4⟩, h5, h6, h7, h8⟩ := h
  exact ⟨by simp only [World.size_setCell]; exact h0, ⟨c_set h1 hX, c_set h2 hX, c_set h3 hX, c_set h4 hX⟩, by rw [World.frozen?_setCell]; exact h5, by rw [World.frozen?_setCell]; exact h6, by rw [World.frozen?_setCell]; exact h7, by rw [World.frozen?_setCell]; exact h8⟩
theorem Rt.grown {B X : Nat} {q : Qd} {W W' : World} (h : Rt B q W) (hg : W.grownBy W' (some X)) (hX : X ≠ B) : Rt B q W' := by
  obtain ⟨h0, ⟨h1, h2, h3, h4⟩, h5, h6, h7, h8⟩ := h
  have hb : W'.heap[B]? = W.heap[B]? := hg.block B h0 (fun e => hX (by injection e with e; exact e.symm))
  exact ⟨Nat.lt_of_lt_of_le h0 hg.size, ⟨(World.cell?_of_block (w := W) (a := ⟨B, 0, none⟩) hb).trans h1, (World.cell?_of_block (w := W) (a := ⟨B, 1, none⟩) hb).trans h2, (World.cell?_of_block (w := W) (a := ⟨B, 2, none⟩) hb).trans h3, (World.cell?_of_block (w := W) (a := ⟨B, 3, none⟩) hb).trans h4⟩,
    (World.frozen?_of_block (w := W) (a := ⟨B, 0, none⟩) hb).trans h5, (World.frozen?_of_block (w := W) (a := ⟨B, 1, none⟩) hb).trans h6, (World.frozen?_of_block (w := W) (a := ⟨B, 2, none⟩) hb).trans h7, (World.frozen?_of_block (w := W) (a := ⟨B, 3, none⟩) hb).trans h8⟩
/-- A digest stored over another. -/
theorem Rt.put {B : Nat} {q : Qd} {W : World} (h : Rt B q W) (r : Qd) :
    Rt B r ((((W.setCell ⟨B, 0, none⟩ (Value.int IntKind.u64 ((r.a).toNat : Int))).setCell ⟨B, 1, none⟩ (Value.int IntKind.u64 ((r.b).toNat : Int))).setCell ⟨B, 2, none⟩ (Value.int IntKind.u64 ((r.c).toNat : Int))).setCell ⟨B, 3, none⟩ (Value.int IntKind.u64 ((r.d).toNat : Int))) := by
  obtain ⟨h0, ⟨h1, h2, h3, h4⟩, h5, h6, h7, h8⟩ := h
  have hc := four_set (w := W) (b := B) (x0 := Value.int IntKind.u64 ((r.a).toNat : Int)) (x1 := Value.int IntKind.u64 ((r.b).toNat : Int)) (x2 := Value.int IntKind.u64 ((r.c).toNat : Int)) (x3 := Value.int IntKind.u64 ((r.d).toNat : Int)) (fun i hi => by
    rcases (by omega : i = 0 ∨ i = 1 ∨ i = 2 ∨ i = 3) with rfl | rfl | rfl | rfl
    · rw [h1]; rfl
    · rw [h2]; rfl
    · rw [h3]; rfl
    · rw [h4]; rfl)
  exact ⟨by simp only [World.size_setCell]; exact h0, hc, by simp only [World.frozen?_setCell]; exact h5, by simp only [World.frozen?_setCell]; exact h6, by simp only [World.frozen?_setCell]; exact h7, by simp only [World.frozen?_setCell]; exact h8⟩

/-- The root that peaks make. -/
def pkN : List Qd → Qd
  | [] => dg ByteArray.empty
  | [q] => q
  | q :: r :: s => pairD q (pkN (r :: s))
def pkr (L : List Qd) : Qd := if 8 < L.length then ⟨0, 0, 0, 0⟩ else pkN L
theorem pkN_last (L : List Qd) (h : 0 < L.length) : pkN (L.drop (L.length - 1)) = L[L.length - 1] := by
  rw [List.drop_eq_getElem_cons (by omega), List.drop_eq_nil_of_le (by omega)]
  rfl
theorem pkN_step (L : List Qd) (k : Nat) (h : k + 1 < L.length) : pkN (L.drop k) = pairD L[k] (pkN (L.drop (k + 1))) := by
  rw [List.drop_eq_getElem_cons (by omega)]
  rw [List.drop_eq_getElem_cons h]
  rfl

set_option maxRecDepth 20000 in
set_option maxHeartbeats 1000000 in
theorem pkr_spec (L : List Qd) (v : Value) (w : World) (hT : Dgs w v L) :
    Calls Try.prog 58 #[v] w fun e w' => e = .returned (.agg #[.int .u64 ((pkr L).a.toNat : Int), .int .u64 ((pkr L).b.toNat : Int), .int .u64 ((pkr L).c.toNat : Int), .int .u64 ((pkr L).d.toNat : Int)]) ∧ Below w.heap.size w w' := by
  obtain ⟨oa, cap, rfl, hl⟩ := hT.len
  by_cases hbig : 8 < L.length
  · have e : pkr L = ⟨0, 0, 0, 0⟩ := by unfold pkr; rw [if_pos hbig]
    rw [e]
    clear hT e
    have hI : 8 < (L.length : Int) := by omega
    go_enter Try.func58, Try.ntmps58
    go_wp2
    exact bodyPost_ret (v := .agg #[.int .u64 0, .int .u64 0, .int .u64 0, .int .u64 0]) (by simp [results, Try.results58, go_sem]) rfl ⟨rfl, (by repeat' (first | (with_reducible exact Below.refl _ _) | (with_reducible assumption) | (with_reducible refine below_drewN ?_ _) | (with_reducible refine Below.setCell ?_ ?_ _) | (with_reducible refine Below.alloc ?_ ?_ _) | (with_reducible refine Below.drew ?_) | go_size))⟩
  have hI : ¬ 8 < (L.length : Int) := by omega
  have e : pkr L = pkN L := by unfold pkr; rw [if_neg hbig]
  rw [e]
  clear e
  by_cases h0 : L.length = 0
  · have e : L = [] := List.length_eq_zero_iff.1 h0
    subst e
    simp only [pkN]
    have ce := fun V : World => ho_spec_all ByteArray.empty V
    generalize dg ByteArray.empty = q at ce ⊢
    clear hT hl hbig hI h0
    simp only [List.length_nil]
    go_enter Try.func58, Try.ntmps58
    go_wp2_with (go_at_call 57; refine (ce _).mono ?_; rintro e w1 ⟨rfl, hb1⟩; obtain ⟨l0, ⟨a0, a1, a2, a3⟩, f0, f1, f2, f3⟩ := (Rt.new w ⟨0, 0, 0, 0⟩ 36).behind hb1)
    have hr := ((Rt.new w ⟨0, 0, 0, 0⟩ 36).behind hb1).put q
    exact bodyPost_ret (v := .agg #[.int .u64 ((q).a.toNat : Int), .int .u64 ((q).b.toNat : Int), .int .u64 ((q).c.toNat : Int), .int .u64 ((q).d.toNat : Int)]) (by obtain ⟨_, ⟨r0, r1, r2, r3⟩, _⟩ := hr; simp [results, Try.results58, go_sem, r0, r1, r2, r3]) rfl ⟨rfl, by
      have hB := ((Below.refl w.heap.size w).alloc (Nat.le_refl _) (.cells #[Value.int IntKind.u64 (((⟨0, 0, 0, 0⟩ : Qd)).a.toNat : Int), Value.int IntKind.u64 (((⟨0, 0, 0, 0⟩ : Qd)).b.toNat : Int), Value.int IntKind.u64 (((⟨0, 0, 0, 0⟩ : Qd)).c.toNat : Int), Value.int IntKind.u64 (((⟨0, 0, 0, 0⟩ : Qd)).d.toNat : Int)] 36)).trans (hb1.mono (by simp))
      exact (((hB.setCell (p := ⟨w.heap.size, 0, none⟩) (Nat.le_refl _) _).setCell (p := ⟨w.heap.size, 1, none⟩) (Nat.le_refl _) _).setCell (p := ⟨w.heap.size, 2, none⟩) (Nat.le_refl _) _).setCell (p := ⟨w.heap.size, 3, none⟩) (Nat.le_refl _) _⟩
  rcases hT with ⟨_, h0'⟩ | ⟨a, cap', hv, hlc, hm, hbl, hc⟩
  · rw [h0'] at h0; simp at h0
  obtain ⟨rfl, _, rfl⟩ : oa = some a ∧ L.length = L.length ∧ cap = cap' := by simpa using hv
  have hbl' := hbl (by omega)
  have hlast := hc (L.length - 1) (by omega)
  have HL : Hid (pkN (L.drop (L.length - 1)) = L[L.length - 1]) := pkN_last L (by omega)
  obtain ⟨q, hq⟩ : ∃ q, q = L[L.length - 1] := ⟨_, rfl⟩
  rw [← hq] at hlast HL
  obtain ⟨n, hn⟩ : ∃ n, L.length = n + 1 := ⟨L.length - 1, by omega⟩
  have HC : Hid (∀ (i : Nat) (h : i < L.length), DAt w (a.add (i * 4)) L[i]) := hc
  have HN : Hid (L.length = n + 1) := hn
  rw [hn] at hlast HL hI ⊢
  simp only [Nat.add_sub_cancel] at hlast HL
  have hn8 : n ≤ 7 := by omega
  clear hq hc hv hbl hn hlc hl hbig h0
  have hla : DAt (w.alloc (.cells #[Value.int IntKind.u64 0, Value.int IntKind.u64 0, Value.int IntKind.u64 0, Value.int IntKind.u64 0] 36)) (a.add (n * 4)) q := hlast.below ((Below.refl w.heap.size w).alloc (Nat.le_refl _) _) (by rw [add_block]; exact hbl')
  obtain ⟨d0, d1, d2, d3⟩ := hla
  have hn0 : ¬ ((n : Int) + 1 < 1) := by omega
  have hne : ((n : Int) + 1 == 0) = false := by simp; omega
  clear hlast
  go_enter Try.func58, Try.ntmps58
  go_wp2_with fail
  have HS : Hid (Rt w.heap.size ⟨0, 0, 0, 0⟩ ((w.alloc (.cells #[Value.int IntKind.u64 0, Value.int IntKind.u64 0, Value.int IntKind.u64 0, Value.int IntKind.u64 0] 36)).alloc (.cells #[Value.int IntKind.u64 ((q).a.toNat : Int), Value.int IntKind.u64 ((q).b.toNat : Int), Value.int IntKind.u64 ((q).c.toNat : Int), Value.int IntKind.u64 ((q).d.toNat : Int)] 36)) ∧ Rt (w.heap.size + 1) (pkN (L.drop n)) ((w.alloc (.cells #[Value.int IntKind.u64 0, Value.int IntKind.u64 0, Value.int IntKind.u64 0, Value.int IntKind.u64 0] 36)).alloc (.cells #[Value.int IntKind.u64 ((q).a.toNat : Int), Value.int IntKind.u64 ((q).b.toNat : Int), Value.int IntKind.u64 ((q).c.toNat : Int), Value.int IntKind.u64 ((q).d.toNat : Int)] 36)) ∧ Below w.heap.size w ((w.alloc (.cells #[Value.int IntKind.u64 0, Value.int IntKind.u64 0, Value.int IntKind.u64 0, Value.int IntKind.u64 0] 36)).alloc (.cells #[Value.int IntKind.u64 ((q).a.toNat : Int), Value.int IntKind.u64 ((q).b.toNat : Int), Value.int IntKind.u64 ((q).c.toNat : Int), Value.int IntKind.u64 ((q).d.toNat : Int)] 36))) := by
    have h2 := Rt.new (w.alloc (.cells #[Value.int IntKind.u64 0, Value.int IntKind.u64 0, Value.int IntKind.u64 0, Value.int IntKind.u64 0] 36)) q 36
    rw [World.size_alloc, ← HL.out] at h2
    rw [HL.out] at h2 ⊢
    exact ⟨(Rt.new w ⟨0, 0, 0, 0⟩ 36).alloc _, h2, ((Below.refl _ _).alloc (Nat.le_refl _) _).alloc (by simp) _⟩
  go_loopw [4] (fun i wr => ∃ k : Nat, k ≤ n ∧ i = .int .i64 ((k : Int) - 1) ∧ Hid (Rt w.heap.size ⟨0, 0, 0, 0⟩ wr ∧ Rt (w.heap.size + 1) (pkN (L.drop k)) wr ∧ Below w.heap.size w wr)) (fun i _ => (intOf i + 1).toNat)
  case atStart => exact ⟨n, Nat.le_refl _, congrArg (Value.int IntKind.i64) (by omega), HS⟩
  case round =>
    obtain ⟨k, hk, rfl, HR⟩ := hrel
    obtain ⟨R0, R1, RB⟩ := HR.out
    by_cases hpos : 0 < k
    · obtain ⟨j, rfl⟩ : ∃ j, k = j + 1 := ⟨k - 1, by omega⟩
      have hjl : j < L.length := by have := HN.out; omega
      have hd : DAt wr (a.add (j * 4)) L[j] := (HC.out j hjl).below RB (by rw [add_block]; exact hbl')
      have HP : Hid (pkN (L.drop j) = pairD L[j] (pkN (L.drop (j + 1)))) := pkN_step L j (by have := HN.out; omega)
      have hz := RB.size
      generalize L[j] = p at hd HP
      generalize pkN (L.drop (j + 1)) = r at R1 HP
      have ch0 := fun V : World => hp_spec p r V
      obtain ⟨y, hy⟩ : ∃ y, y = pairD p r := ⟨_, rfl⟩
      have ch : ∀ V : World, Calls Try.prog 77 #[.agg #[.int .u64 ((p).a.toNat : Int), .int .u64 ((p).b.toNat : Int), .int .u64 ((p).c.toNat : Int), .int .u64 ((p).d.toNat : Int)], .agg #[.int .u64 ((r).a.toNat : Int), .int .u64 ((r).b.toNat : Int), .int .u64 ((r).c.toNat : Int), .int .u64 ((r).d.toNat : Int)]] V fun e w' => e = .returned (.agg #[.int .u64 ((y).a.toNat : Int), .int .u64 ((y).b.toNat : Int), .int .u64 ((y).c.toNat : Int), .int .u64 ((y).d.toNat : Int)]) ∧ Below V.heap.size V w' := by rw [hy]; exact ch0
      rw [← hy] at HP
      clear hy ch0
      obtain ⟨e0, e1, e2, e3⟩ := hd
      obtain ⟨l1, ⟨r0, r1, r2, r3⟩, f0, f1, f2, f3⟩ := id R1
      have hj0 : (0 : Int) ≤ (j : Int) := by omega
      have hjI : (j : Int) < (n : Int) + 1 := by omega
      have hjn : j < n + 1 := by omega
      clear HS HR d0 d1 d2 d3
      have ej : (((j + 1 : Nat) : Int) - 1) = (j : Int) := by omega
      rw [ej]
      clear ej
      go_wp2_with fail
      go_region_with (go_at_call 77; refine (ch _).mono ?_; rintro e w1 ⟨rfl, hb1⟩; obtain ⟨lx, ⟨x0, x1, x2, x3⟩, g0, g1, g2, g3⟩ := (Rt.drew R1).behind hb1)
      all_goals (go_wp2_with fail)
      all_goals
        have RB1 := RB.drew.trans (hb1.mono hz)
        refine ⟨⟨j, by omega, rfl, ?_, ?_, ?_⟩, by simp [intOf]⟩
        · exact ((((((Rt.drew R0).behind hb1).set (w.heap.size + 1) 0 _ (by omega)).set (w.heap.size + 1) 1 _ (by omega)).set (w.heap.size + 1) 2 _ (by omega)).set (w.heap.size + 1) 3 _ (by omega))
        · rw [HP.out]; exact ((Rt.drew R1).behind hb1).put y
        · exact (((RB1.setCell (p := ⟨w.heap.size + 1, 0, none⟩) (Nat.le_succ _) _).setCell (p := ⟨w.heap.size + 1, 1, none⟩) (Nat.le_succ _) _).setCell (p := ⟨w.heap.size + 1, 2, none⟩) (Nat.le_succ _) _).setCell (p := ⟨w.heap.size + 1, 3, none⟩) (Nat.le_succ _) _
    · have hk0 : k = 0 := by omega
      subst hk0
      simp only [List.drop_zero] at R1
      obtain ⟨r, hr⟩ : ∃ r, r = pkN L := ⟨_, rfl⟩
      rw [← hr] at R1
      have HP : Hid (r = pkN L) := hr
      clear hr
      obtain ⟨l1, ⟨r0, r1, r2, r3⟩, f0, f1, f2, f3⟩ := id R1
      obtain ⟨l0, ⟨z0, z1, z2, z3⟩, g0, g1, g2, g3⟩ := id R0
      clear HS HR d0 d1 d2 d3 HL
      go_wp2_with fail
      have hr := R0.put r
      exact bodyPost_ret (v := .agg #[.int .u64 ((r).a.toNat : Int), .int .u64 ((r).b.toNat : Int), .int .u64 ((r).c.toNat : Int), .int .u64 ((r).d.toNat : Int)]) (by obtain ⟨_, ⟨r0, r1, r2, r3⟩, _⟩ := hr; simp [results, Try.results58, go_sem, r0, r1, r2, r3]) rfl ⟨by rw [HP.out], (((RB.setCell (p := ⟨w.heap.size, 0, none⟩) (Nat.le_refl _) _).setCell (p := ⟨w.heap.size, 1, none⟩) (Nat.le_refl _) _).setCell (p := ⟨w.heap.size, 2, none⟩) (Nat.le_refl _) _).setCell (p := ⟨w.heap.size, 3, none⟩) (Nat.le_refl _) _⟩
end Go.Proofs.Ytkdgdmicnfgdjaa
