/-
  PeaksAdd of the program.
-/
import Derived.Test.YtgpbodanaeelaaaPush
import Derived.Test.YtgpbodanaeelaaaPkRoot2
namespace Go.Proofs.Ytgpbodanaeelaaa
open Go.RowKit

/-- The peaks behind a leaf more: as many of the last ones as n ends in binary ones are paired with what comes. -/
def pa (m : Nat) (K : List Qd) (t : Qd) : List Qd := if m % 2 = 1 then pa (m / 2) K.dropLast (pairD (lastD K) t) else K ++ [t]
termination_by m
decreasing_by omega
theorem pa_odd {m : Nat} {K : List Qd} {t : Qd} (h : m % 2 = 1) : pa m K t = pa (m / 2) K.dropLast (pairD (lastD K) t) := by
  rw [pa, if_pos h]
theorem pa_even {m : Nat} {K : List Qd} {t : Qd} (h : m % 2 ≠ 1) : pa m K t = K ++ [t] := by
  rw [pa, if_neg h]
theorem pc_tab : ∀ m : Fin 256, (pc m.val ≤ 8) ∧ (m.val % 2 = 1 → pc m.val = pc (m.val / 2) + 1) := by decide +kernel
theorem pc_le {m : Nat} (h : m ≤ 255) : pc m ≤ 8 := (pc_tab ⟨m, by omega⟩).1
theorem pc_odd {m : Nat} (h : m ≤ 255) (ho : m % 2 = 1) : pc m = pc (m / 2) + 1 := (pc_tab ⟨m, by omega⟩).2 ho
/-- Whether PeaksAdd takes its arguments. -/
def paOk (n : Int) (L : List Qd) (s : ByteArray) : Prop := 0 ≤ n ∧ n ≤ 255 ∧ (L.length : Int) = pcI n ∧ s.size ≤ 40
instance (n : Int) (L : List Qd) (s : ByteArray) : Decidable (paOk n L s) := by unfold paOk; infer_instance
/-- What PeaksAdd makes of a list. -/
def paL (n : Int) (L : List Qd) (s : ByteArray) : List Qd := if paOk n L s then pa n.toNat L (leafD s) else []
theorem Stk.weak {base Bs : Nat} {av : Nat → Prop} {L : List Qd} {W : World} (h : Stk base Bs av L W) : Stk base Bs (fun _ => False) L W := by
  obtain ⟨h0, h1, h2, v, h3, h4, h5⟩ := h
  exact ⟨h0, h1, h2, v, h3, fun k e => ⟨(h4 k e).1, id⟩, h5⟩
theorem Ty.new (W : World) (u : Value) : Ty W.heap.size (W.alloc (.cells #[u] 46)) := ⟨u, by show (W.heap.push _)[W.heap.size]? = _; simp⟩
theorem Ty.setX {Bs : Nat} {W : World} (h : Ty Bs W) (X o : Nat) (x : Value) (hX : X ≠ Bs) : Ty Bs (W.setCell ⟨X, o, none⟩ x) := by
  obtain ⟨y, h⟩ := h
  exact ⟨y, (Below.heap_setCell W ⟨X, o, none⟩ x Bs (fun e => hX e.symm)).trans h⟩
/-- What stands ahead of each round of PeaksAdd. -/
def PA (w : World) (Bs Br : Nat) (K : List Qd) (t : Qd) (W : World) : Prop :=
  Stk w.heap.size Bs (fun k => Bs ≤ k) K W ∧ Ty Bs W ∧ Rt Br t W ∧ Below w.heap.size w W

set_option maxRecDepth 20000 in
set_option maxHeartbeats 2000000 in
theorem pad_impl_in (n : Nat) (L : List Qd) (s : ByteArray) (v : Value) (w : World) (hT : Dgs w v L) (hn : n ≤ 255) (hL : L.length = pc n) (hs : s.size ≤ 40) :
    Calls Try.prog 14 #[.int .i64 (n : Int), v, .string s] w fun e w' => ∃ u, e = .returned (.tuple #[u, .bool true]) ∧ w'.ownsRow w.heap.size 31 4 u (pa n L (leafD s)).length (qcs (pa n L (leafD s))) ∧ Below w.heap.size w w' := by
  have hle := pc_le hn
  have cs : ∀ V : World, Below w.heap.size w V → Calls Try.prog 32 #[v] V fun e w' => ∃ u, e = .returned (.agg #[u]) ∧ w'.ownsRow (V.heap.size + 1) 31 4 u L.length (qcs L) ∧ Below V.heap.size V w' := fun V hV => stackOf_is V v L (hT.call hV) (by omega)
  have cc : ∀ V : World, Calls Try.prog 9 #[.int .i64 (n : Int)] V fun e w' => e = .returned (.int .i64 (L.length : Int)) ∧ V = w' := fun V => by
    have := pc_impl_all (n : Int) V
    rw [show pcI (n : Int) = (L.length : Int) by unfold pcI; rw [if_neg (by omega), Int.toNat_natCast, hL]] at this
    exact this.mono (fun e w' h => ⟨h.1, h.2.symm⟩)
  have cl0 := fun V : World => hl_impl s V (by omega)
  obtain ⟨t0, ht0⟩ : ∃ t0, t0 = leafD s := ⟨_, rfl⟩
  have cl : ∀ V : World, Calls Try.prog 35 #[.string s] V fun e w' => e = .returned (.agg #[.int .u64 ((t0).a.toNat : Int), .int .u64 ((t0).b.toNat : Int), .int .u64 ((t0).c.toNat : Int), .int .u64 ((t0).d.toNat : Int)]) ∧ Below V.heap.size V w' := by rw [ht0]; exact cl0
  rw [← ht0]
  clear cl0 ht0
  obtain ⟨R, hR⟩ : ∃ R, R = pa n L t0 := ⟨_, rfl⟩
  have HR : Hid (pa n L t0 = R) := hR.symm
  rw [← hR]
  obtain ⟨oa, cap, rfl, hl⟩ := hT.len
  have HL : Hid (L.length ≤ 8) := by show _ ≤ _; omega
  have hsI : ¬ 40 < (s.size : Int) := by omega
  have hnI : ¬ 256 ≤ (n : Int) := by omega
  have hnI2 : ¬ (n : Int) < 0 := by omega
  clear hT hl hL hle hR hs
  go_enter Try.func14, Try.ntmps14
  go_wp2_with (first
      | (go_at_call 9; (refine (cc _).mono ?_; rintro e w0 ⟨rfl, rfl⟩; clear cc))
      | (go_at_call 32; (refine (cs _ (Below.refl _ _)).mono ?_; clear cs; rintro e w1 ⟨u, rfl, hown, hb1⟩; obtain ⟨ua, uc, rfl⟩ := own_len hown; have hs1 := hb1.size; have st := Stk.new (base := w.heap.size) 46 hown (by omega) (by omega); have ty := Ty.new w1 (.slice ua L.length uc); have B1 := hb1.alloc (by omega) (.cells #[.slice ua L.length uc] 46)))
      | (go_at_call 35; (refine (cl _).mono ?_; clear cl; rintro e w2 ⟨rfl, hb2⟩; have hs2 := hb2.size; simp only [World.size_alloc] at hs2; have st2 := (st.grown hb2).grown ((Below.refl _ w2).alloc (Nat.le_refl _) (.cells #[Value.int IntKind.u64 ((t0).a.toNat : Int), Value.int IntKind.u64 ((t0).b.toNat : Int), Value.int IntKind.u64 ((t0).c.toNat : Int), Value.int IntKind.u64 ((t0).d.toNat : Int)] 31)); have ty2 := (ty.below hb2).below ((Below.refl _ w2).alloc (Nat.le_refl _) (.cells #[Value.int IntKind.u64 ((t0).a.toNat : Int), Value.int IntKind.u64 ((t0).b.toNat : Int), Value.int IntKind.u64 ((t0).c.toNat : Int), Value.int IntKind.u64 ((t0).d.toNat : Int)] 31)); have rt2 := Rt.new w2 t0 31; have B2 := (B1.trans (hb2.mono (by simp only [World.size_alloc]; omega))).alloc (by omega) (.cells #[Value.int IntKind.u64 ((t0).a.toNat : Int), Value.int IntKind.u64 ((t0).b.toNat : Int), Value.int IntKind.u64 ((t0).c.toNat : Int), Value.int IntKind.u64 ((t0).d.toNat : Int)] 31); clear st ty B1)))
  have HS : Hid (PA w w1.heap.size w2.heap.size L t0 (w2.alloc (.cells #[Value.int IntKind.u64 ((t0).a.toNat : Int), Value.int IntKind.u64 ((t0).b.toNat : Int), Value.int IntKind.u64 ((t0).c.toNat : Int), Value.int IntKind.u64 ((t0).d.toNat : Int)] 31))) := ⟨st2, ty2, rt2, B2⟩
  obtain ⟨Bs, hBs⟩ : ∃ Bs, Bs = w1.heap.size := ⟨_, rfl⟩
  obtain ⟨Br, hBr⟩ : ∃ Br, Br = w2.heap.size := ⟨_, rfl⟩
  rw [← hBs, ← hBr] at HS ⊢
  have l1 : w.heap.size ≤ Bs := by omega
  have l2 : Bs < Br := by omega
  clear st2 ty2 rt2 B2 hb1 hb2 hown hs1 hs2 hBs hBr
  go_loopw [10] (fun r wr => ∃ (m : Nat) (K : List Qd) (t : Qd), m ≤ 255 ∧ K.length ≤ 8 ∧ r = .int .i64 (m : Int) ∧ Hid (pa m K t = R) ∧ Hid (PA w Bs Br K t wr)) (fun r _ => (intOf r).toNat)
  case atStart => exact ⟨n, L, t0, hn, HL.out, rfl, HR, HS⟩
  case round =>
    obtain ⟨m, K, t, hm, hK, rfl, HE, HP⟩ := hrel
    obtain ⟨k1, k2, k3, k4⟩ := HP.out
    have lw : w.heap.size ≤ wr.heap.size := k4.size
    have lb := k3.1
    have hdiv : (m : Int).tdiv 2 = ((m / 2 : Nat) : Int) := by rw [Int.tdiv_eq_ediv_of_nonneg (by omega)]; omega
    by_cases ho : m % 2 = 1
    · have hmI : ((m : Int).tmod 2 == 1) = true := by rw [Int.tmod_eq_emod_of_nonneg (by omega)]; rw [beq_iff_eq]; omega
      have HE2 : Hid (pa (m / 2) K.dropLast (pairD (lastD K) t) = R) := (pa_odd ho).symm.trans HE.out
      obtain ⟨p, hp⟩ : ∃ p, p = lastD K := ⟨_, rfl⟩
      have cp : ∀ W : World, Stk w.heap.size Bs (fun k => Bs ≤ k) K W → Ty Bs W → Calls Try.prog 33 #[.pointer (some ⟨Bs, 0, none⟩)] W fun e w' => ∃ b, e = .returned (.tuple #[.agg #[.int .u64 ((p).a.toNat : Int), .int .u64 ((p).b.toNat : Int), .int .u64 ((p).c.toNat : Int), .int .u64 ((p).d.toNat : Int)], .bool b]) ∧ Stk w.heap.size Bs (fun k => Bs ≤ k) K.dropLast w' ∧ W.grownBy w' (some Bs) ∧ Ty Bs w' := fun W h h' => by
        have := pop_isT w.heap.size Bs _ K W h h'
        rw [← hp] at this
        exact this.mono (fun e w' h => ⟨_, h.1, h.2.1, h.2.2.1, h.2.2.2⟩)
      have ch0 := fun V : World => hp_impl p t V
      obtain ⟨y, hy⟩ : ∃ y, y = pairD p t := ⟨_, rfl⟩
      have ch : ∀ V : World, Calls Try.prog 22 #[.agg #[.int .u64 ((p).a.toNat : Int), .int .u64 ((p).b.toNat : Int), .int .u64 ((p).c.toNat : Int), .int .u64 ((p).d.toNat : Int)], .agg #[.int .u64 ((t).a.toNat : Int), .int .u64 ((t).b.toNat : Int), .int .u64 ((t).c.toNat : Int), .int .u64 ((t).d.toNat : Int)]] V fun e w' => e = .returned (.agg #[.int .u64 ((y).a.toNat : Int), .int .u64 ((y).b.toNat : Int), .int .u64 ((y).c.toNat : Int), .int .u64 ((y).d.toNat : Int)]) ∧ Below V.heap.size V w' := by rw [hy]; exact ch0
      rw [← hp, ← hy] at HE2
      clear hp hy ch0 HE HP HS HR
      go_wp2_with (first
        | (go_at_call 33; (refine (cp _ k1 k2).mono ?_; clear cp; rintro e w3 ⟨b, rfl, st3, hg3, ty3⟩; have hs3 := hg3.size; have al := (Below.refl _ w3).alloc (Nat.le_refl _) (.cells #[Value.int IntKind.u64 ((p).a.toNat : Int), Value.int IntKind.u64 ((p).b.toNat : Int), Value.int IntKind.u64 ((p).c.toNat : Int), Value.int IntKind.u64 ((p).d.toNat : Int)] 31); have st4 := st3.grown al; have ty4 := ty3.below al; have rt4 := (k3.grown hg3 (by omega)).alloc (.cells #[Value.int IntKind.u64 ((p).a.toNat : Int), Value.int IntKind.u64 ((p).b.toNat : Int), Value.int IntKind.u64 ((p).c.toNat : Int), Value.int IntKind.u64 ((p).d.toNat : Int)] 31); have B4 := (k4.grown hg3 (by omega) (fun k e => by cases e; omega)).alloc (by omega) (.cells #[Value.int IntKind.u64 ((p).a.toNat : Int), Value.int IntKind.u64 ((p).b.toNat : Int), Value.int IntKind.u64 ((p).c.toNat : Int), Value.int IntKind.u64 ((p).d.toNat : Int)] 31); obtain ⟨-, ⟨b0, b1, b2, b3⟩, -⟩ := id rt4; clear st3 ty3 al k1 k2 k3 k4 hg3))
        | (go_at_call 22; (refine (ch _).mono ?_; clear ch; rintro e w5 ⟨rfl, hb5⟩; have hs5 := hb5.size; simp only [World.size_alloc] at hs5; have st5 := st4.grown hb5; have ty5 := ty4.below hb5; have rt5 := rt4.behind hb5; have B5 := B4.trans (hb5.mono (by simp only [World.size_alloc]; omega)); clear b0 b1 b2 b3 st4 ty4 rt4 B4; obtain ⟨-, ⟨b0, b1, b2, b3⟩, f0, f1, f2, f3⟩ := id rt5)))
      have x1 := (((st5.set Br 0 (Value.int IntKind.u64 ((y.a).toNat : Int)) (by omega) (by omega)).set Br 1 (Value.int IntKind.u64 ((y.b).toNat : Int)) (by omega) (by omega)).set Br 2 (Value.int IntKind.u64 ((y.c).toNat : Int)) (by omega) (by omega)).set Br 3 (Value.int IntKind.u64 ((y.d).toNat : Int)) (by omega) (by omega)
      have x2 := (((ty5.setX Br 0 (Value.int IntKind.u64 ((y.a).toNat : Int)) (by omega)).setX Br 1 (Value.int IntKind.u64 ((y.b).toNat : Int)) (by omega)).setX Br 2 (Value.int IntKind.u64 ((y.c).toNat : Int)) (by omega)).setX Br 3 (Value.int IntKind.u64 ((y.d).toNat : Int)) (by omega)
      have x3 := rt5.put y
      have x4 := (((B5.setCell (p := ⟨Br, 0, none⟩) (by show w.heap.size ≤ Br; omega) (Value.int IntKind.u64 ((y.a).toNat : Int))).setCell (p := ⟨Br, 1, none⟩) (by show w.heap.size ≤ Br; omega) (Value.int IntKind.u64 ((y.b).toNat : Int))).setCell (p := ⟨Br, 2, none⟩) (by show w.heap.size ≤ Br; omega) (Value.int IntKind.u64 ((y.c).toNat : Int))).setCell (p := ⟨Br, 3, none⟩) (by show w.heap.size ≤ Br; omega) (Value.int IntKind.u64 ((y.d).toNat : Int))
      refine ⟨⟨m / 2, K.dropLast, y, by omega, by rw [List.length_dropLast]; omega, ?_, HE2, ⟨x1, x2, x3, x4⟩⟩, ?_⟩
      · first | rfl | rw [hdiv]
      · simp only [intOf]; first | omega | (rw [hdiv]; omega)
    · have hmI : ((m : Int).tmod 2 == 1) = false := by rw [Int.tmod_eq_emod_of_nonneg (by omega)]; rw [beq_eq_false_iff_ne]; omega
      have e0 := (pa_even (K := K) (t := t) ho).symm.trans HE.out
      have cq := fun W : World => push_is w.heap.size Bs K t W
      rw [e0] at cq
      have KW := k1.weak
      obtain ⟨-, ⟨b0, b1, b2, b3⟩, -⟩ := id k3
      clear HE HP HS HR e0 hdiv
      go_wp2_with (first
        | (go_at_call 28; (refine (cq _ KW k2 (by omega) lw).mono ?_; clear cq; rintro e w3 ⟨rfl, st3, ty3, hb3⟩; obtain ⟨h0, h1, h2, u, h3, h4, h5⟩ := st3; obtain ⟨ub, uq, rfl⟩ := own_len h5; have hs3 := hb3.size)))
      exact bodyPost_ret (v := .tuple #[.slice ub _ uq, .bool true]) (by simp [results, Try.results14, go_sem]) rfl ⟨_, rfl, h5, k4.trans hb3⟩
end Go.Proofs.Ytgpbodanaeelaaa
