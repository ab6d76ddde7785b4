/-
  PeaksRoot of the program, and its law, walked.
-/
import Derived.Test.YtgpbodanaeelaaaPkRoot
namespace Go.Proofs.Ytgpbodanaeelaaa
open Go.RowKit

/-- What stands ahead of each round of PeaksRoot: j peaks are yet to be paired, the last of them in the block Bp. -/
def PI (w : World) (Bs Br : Nat) (L : List Qd) (j Bp : Nat) (wr : World) : Prop :=
  Br < Bp ∧ Rt w.heap.size ⟨0, 0, 0, 0⟩ wr ∧ Stk w.heap.size Bs (fun k => Bs ≤ k) (L.take j).dropLast wr ∧ Rt Br (pkN (L.drop j)) wr ∧ Rt Bp (lastD (L.take j)) wr ∧ Below w.heap.size w wr
/-- How many the stack in the block Bs has. -/
def stl (Bs : Nat) (W : World) : Nat := match W.cell? ⟨Bs, 0, none⟩ with | some (.slice _ n _) => n | _ => 0
theorem Stk.stl {base Bs : Nat} {av : Nat → Prop} {L : List Qd} {W : World} (h : Stk base Bs av L W) : stl Bs W = L.length := by
  obtain ⟨_, _, _, v, h3, _, h5⟩ := h
  obtain ⟨a, cap, rfl⟩ := own_len h5
  unfold Ytgpbodanaeelaaa.stl
  rw [h3]
def b01 : Value → Nat
  | .bool true => 1
  | _ => 0
theorem nil_root (w : World) : Calls Try.prog 29 #[.nilIface] w fun e w' => e = .returned (.agg #[.int .u64 ((dg ByteArray.empty).a.toNat : Int), .int .u64 ((dg ByteArray.empty).b.toNat : Int), .int .u64 ((dg ByteArray.empty).c.toNat : Int), .int .u64 ((dg ByteArray.empty).d.toNat : Int)]) ∧ Below w.heap.size w w' := root_is 0 [] w (Nat.le_refl _) (by simp) (fun s h => by cases h)

set_option maxRecDepth 20000 in
set_option maxHeartbeats 2000000 in
theorem pkr_impl (L : List Qd) (v : Value) (w : World) (hT : Dgs w v L) (hlen : L.length ≤ 1048576) :
    Calls Try.prog 11 #[v] w fun e w' => e = .returned (.agg #[.int .u64 ((pkr L).a.toNat : Int), .int .u64 ((pkr L).b.toNat : Int), .int .u64 ((pkr L).c.toNat : Int), .int .u64 ((pkr L).d.toNat : Int)]) ∧ Below w.heap.size w w' := by
  by_cases hbig : 8 < L.length
  · have e : pkr L = ⟨0, 0, 0, 0⟩ := by unfold pkr; rw [if_pos hbig]
    rw [e]
    obtain ⟨oa, cap, rfl, hl⟩ := hT.len
    clear hT e
    have hI : 8 < (L.length : Int) := by omega
    go_enter Try.func11, Try.ntmps11
    go_wp2
    exact bodyPost_ret (v := .agg #[.int .u64 0, .int .u64 0, .int .u64 0, .int .u64 0]) (by simp [results, Try.results11, go_sem]) rfl ⟨rfl, (by repeat' (first | (with_reducible exact Below.refl _ _) | (with_reducible assumption) | (with_reducible refine below_drewN ?_ _) | (with_reducible refine Below.setCell ?_ ?_ _) | (with_reducible refine Below.alloc ?_ ?_ _) | (with_reducible refine Below.drew ?_) | go_size))⟩
  have hI : ¬ 8 < (L.length : Int) := by omega
  have e : pkr L = pkN L := by unfold pkr; rw [if_neg hbig]
  rw [e]
  clear e
  have cs : ∀ V : World, Below w.heap.size w V → Calls Try.prog 32 #[v] V fun e w' => ∃ u, e = .returned (.agg #[u]) ∧ w'.ownsRow (V.heap.size + 1) 31 4 u L.length (qcs L) ∧ Below V.heap.size V w' := fun V hV => stackOf_is V v L (hT.call hV) hlen
  by_cases h0 : L.length = 0
  · have e : L = [] := List.length_eq_zero_iff.1 h0
    subst e
    simp only [pkN]
    have ce := fun V : World => nil_root V
    generalize dg ByteArray.empty = q at ce ⊢
    obtain ⟨oa, cap, rfl, hl⟩ := hT.len
    clear hT hl hbig hI h0
    simp only [List.length_nil] at cs ⊢
    go_enter Try.func11, Try.ntmps11
    go_wp2_with (first
      | (go_at_call 32; (refine (cs _ ((Below.refl _ _).alloc (Nat.le_refl _) _)).mono ?_; rintro e w1 ⟨u, rfl, hown, hb1⟩; obtain ⟨ua, uc, rfl⟩ := own_len hown; have hs1 := hb1.size; simp only [World.size_alloc] at hs1; have st := Stk.new (base := w.heap.size) (L := []) 46 hown (by simp only [World.size_alloc]; omega) (by omega); have z1 := ((Rt.new w ⟨0, 0, 0, 0⟩ 31).behind hb1).alloc (.cells #[.slice ua 0 uc] 46); have B1 := (((Below.refl w.heap.size w).alloc (Nat.le_refl _) (.cells #[Value.int IntKind.u64 0, Value.int IntKind.u64 0, Value.int IntKind.u64 0, Value.int IntKind.u64 0] 31)).trans (hb1.mono (by simp only [World.size_alloc]; omega))).alloc (by omega) (.cells #[.slice ua 0 uc] 46)))
      | (go_at_call 33; refine (pop_none _ _ _ _ st).mono ?_; rintro e w2 ⟨rfl, hb2⟩; have z2 := (z1.behind hb2).alloc (.cells #[Value.int IntKind.u64 0, Value.int IntKind.u64 0, Value.int IntKind.u64 0, Value.int IntKind.u64 0] 31); have B2 := (B1.trans (hb2.mono (by simp only [World.size_alloc]; omega))).alloc (by have := hb2.size; simp only [World.size_alloc] at this; omega) (.cells #[Value.int IntKind.u64 0, Value.int IntKind.u64 0, Value.int IntKind.u64 0, Value.int IntKind.u64 0] 31); clear z1 B1 st)
      | (go_at_call 29; refine (ce _).mono ?_; rintro e w3 ⟨rfl, hb3⟩; have z3 := z2.behind hb3; have B3 := B2.trans (hb3.mono B2.size); obtain ⟨l0, ⟨a0, a1, a2, a3⟩, f0, f1, f2, f3⟩ := id z3; clear z2 B2))
    have hr := z3.put q
    exact bodyPost_ret (v := .agg #[.int .u64 ((q).a.toNat : Int), .int .u64 ((q).b.toNat : Int), .int .u64 ((q).c.toNat : Int), .int .u64 ((q).d.toNat : Int)]) (by obtain ⟨_, ⟨r0, r1, r2, r3⟩, _⟩ := hr; simp [results, Try.results11, go_sem, r0, r1, r2, r3]) rfl ⟨rfl, (((B3.setCell (p := ⟨w.heap.size, 0, none⟩) (Nat.le_refl _) _).setCell (p := ⟨w.heap.size, 1, none⟩) (Nat.le_refl _) _).setCell (p := ⟨w.heap.size, 2, none⟩) (Nat.le_refl _) _).setCell (p := ⟨w.heap.size, 3, none⟩) (Nat.le_refl _) _⟩
  obtain ⟨n, hn⟩ : ∃ n, L.length = n + 1 := ⟨L.length - 1, by omega⟩
  have HT0 : Hid (L.take (n + 1) = L) := by show _ = _; rw [← hn, List.take_length]
  have HL : Hid (lastD L = pkN (L.drop n) ∧ L.dropLast = L.take n) := by
    refine ⟨?_, by rw [List.dropLast_eq_take, hn]; rfl⟩
    have h1 := pkN_last L (by omega)
    have e1 : L.length - 1 = n := by omega
    simp only [e1] at h1
    rw [h1]
    have h2 := lastD_snoc (L.take n) (L[n]'(by omega))
    rw [List.take_append_getElem, ← hn, List.take_length] at h2
    exact h2
  obtain ⟨q, hq⟩ : ∃ q, q = lastD L := ⟨_, rfl⟩
  have HQ : Hid (pkN (L.drop n) = q) := by show _ = _; rw [hq, HL.out.1]
  obtain ⟨p0, hp0⟩ : ∃ p0, p0 = lastD (L.take n) := ⟨_, rfl⟩
  obtain ⟨oa, cap, rfl, hl⟩ := hT.len
  have HN : Hid (L.length = n + 1) := hn
  have hn8 : n ≤ 7 := by omega
  rw [hn] at cs hI ⊢
  have c1 : ∀ (Bs : Nat) (W : World), Stk w.heap.size Bs (fun k => Bs ≤ k) L W → Calls Try.prog 33 #[.pointer (some ⟨Bs, 0, none⟩)] W fun e w' => e = .returned (.tuple #[.agg #[.int .u64 ((q).a.toNat : Int), .int .u64 ((q).b.toNat : Int), .int .u64 ((q).c.toNat : Int), .int .u64 ((q).d.toNat : Int)], .bool true]) ∧ Stk w.heap.size Bs (fun k => Bs ≤ k) (L.take n) w' ∧ W.grownBy w' (some Bs) := fun Bs W h => by
    have := pop_is w.heap.size Bs _ L W h
    rw [HL.out.2, ← hq, show decide (0 < L.length) = true by simp; omega] at this
    exact this
  have c2 : ∀ (Bs : Nat) (W : World), Stk w.heap.size Bs (fun k => Bs ≤ k) (L.take n) W → Calls Try.prog 33 #[.pointer (some ⟨Bs, 0, none⟩)] W fun e w' => e = .returned (.tuple #[.agg #[.int .u64 ((p0).a.toNat : Int), .int .u64 ((p0).b.toNat : Int), .int .u64 ((p0).c.toNat : Int), .int .u64 ((p0).d.toNat : Int)], .bool (decide (0 < n))]) ∧ Stk w.heap.size Bs (fun k => Bs ≤ k) (L.take n).dropLast w' ∧ W.grownBy w' (some Bs) := fun Bs W h => by
    have := pop_is w.heap.size Bs _ (L.take n) W h
    rw [← hp0, show (L.take n).length = n by rw [List.length_take]; omega] at this
    exact this
  have HP0 : Hid (p0 = lastD (L.take n)) := hp0
  clear hq hp0 hT hl hbig h0 hn
  go_enter Try.func11, Try.ntmps11
  go_wp2_with (first
      | (go_at_call 32; (refine (cs _ ((Below.refl _ _).alloc (Nat.le_refl _) _)).mono ?_; rintro e w1 ⟨u, rfl, hown, hb1⟩; obtain ⟨ua, uc, rfl⟩ := own_len hown; have hs1 := hb1.size; simp only [World.size_alloc] at hs1; rw [← HN.out] at hown; have st := Stk.new (base := w.heap.size) 46 hown (by simp only [World.size_alloc]; omega) (by omega); rw [HN.out] at st; have z1 := ((Rt.new w ⟨0, 0, 0, 0⟩ 31).behind hb1).alloc (.cells #[.slice ua (n + 1) uc] 46); have B1 := (((Below.refl w.heap.size w).alloc (Nat.le_refl _) (.cells #[Value.int IntKind.u64 0, Value.int IntKind.u64 0, Value.int IntKind.u64 0, Value.int IntKind.u64 0] 31)).trans (hb1.mono (by simp only [World.size_alloc]; omega))).alloc (by omega) (.cells #[.slice ua (n + 1) uc] 46)))
      | (go_at_call 33; (refine (c1 _ _ st).mono ?_; clear c1; rintro e w2 ⟨rfl, st2, hg2⟩; have hs2 := hg2.size; simp only [World.size_alloc] at hs2; have z2 := (z1.grown hg2 (by omega)).alloc (.cells #[Value.int IntKind.u64 ((q).a.toNat : Int), Value.int IntKind.u64 ((q).b.toNat : Int), Value.int IntKind.u64 ((q).c.toNat : Int), Value.int IntKind.u64 ((q).d.toNat : Int)] 31); have B2 := (B1.grown hg2 (by simp only [World.size_alloc]; omega) (fun k e => by cases e; omega)).alloc (by omega) (.cells #[Value.int IntKind.u64 ((q).a.toNat : Int), Value.int IntKind.u64 ((q).b.toNat : Int), Value.int IntKind.u64 ((q).c.toNat : Int), Value.int IntKind.u64 ((q).d.toNat : Int)] 31); have st3 := st2.grown ((Below.refl _ w2).alloc (Nat.le_refl _) (.cells #[Value.int IntKind.u64 ((q).a.toNat : Int), Value.int IntKind.u64 ((q).b.toNat : Int), Value.int IntKind.u64 ((q).c.toNat : Int), Value.int IntKind.u64 ((q).d.toNat : Int)] 31)); have rt3 := Rt.new w2 q 31; clear z1 B1 st st2))
      | (go_at_call 33; (refine (c2 _ _ st3).mono ?_; clear c2; rintro e w3 ⟨rfl, st4, hg4⟩; have hs4 := hg4.size; simp only [World.size_alloc] at hs4; have z4 := (z2.grown hg4 (by omega)).alloc (.cells #[Value.int IntKind.u64 ((p0).a.toNat : Int), Value.int IntKind.u64 ((p0).b.toNat : Int), Value.int IntKind.u64 ((p0).c.toNat : Int), Value.int IntKind.u64 ((p0).d.toNat : Int)] 31); have B4 := (B2.grown hg4 (by simp only [World.size_alloc]; omega) (fun k e => by cases e; omega)).alloc (by omega) (.cells #[Value.int IntKind.u64 ((p0).a.toNat : Int), Value.int IntKind.u64 ((p0).b.toNat : Int), Value.int IntKind.u64 ((p0).c.toNat : Int), Value.int IntKind.u64 ((p0).d.toNat : Int)] 31); have st5 := st4.grown ((Below.refl _ w3).alloc (Nat.le_refl _) (.cells #[Value.int IntKind.u64 ((p0).a.toNat : Int), Value.int IntKind.u64 ((p0).b.toNat : Int), Value.int IntKind.u64 ((p0).c.toNat : Int), Value.int IntKind.u64 ((p0).d.toNat : Int)] 31)); have rt5 := (rt3.grown hg4 (by omega)).alloc (.cells #[Value.int IntKind.u64 ((p0).a.toNat : Int), Value.int IntKind.u64 ((p0).b.toNat : Int), Value.int IntKind.u64 ((p0).c.toNat : Int), Value.int IntKind.u64 ((p0).d.toNat : Int)] 31); have pk5 := Rt.new w3 p0 31; clear z2 B2 st3 st4 rt3)))
  have HS : Hid (PI w w1.heap.size w2.heap.size L n w3.heap.size (w3.alloc (.cells #[Value.int IntKind.u64 ((p0).a.toNat : Int), Value.int IntKind.u64 ((p0).b.toNat : Int), Value.int IntKind.u64 ((p0).c.toNat : Int), Value.int IntKind.u64 ((p0).d.toNat : Int)] 31))) := by
    rw [← HQ.out] at rt5
    rw [HP0.out] at pk5 z4 st5 rt5 B4 ⊢
    exact ⟨by omega, z4, st5, rt5, pk5, B4⟩
  obtain ⟨Bs, hBs⟩ : ∃ Bs, Bs = w1.heap.size := ⟨_, rfl⟩
  obtain ⟨Br, hBr⟩ : ∃ Br, Br = w2.heap.size := ⟨_, rfl⟩
  rw [← hBs, ← hBr] at HS ⊢
  have l1 : w.heap.size < Bs := by omega
  have l2 : Bs < Br := by omega
  clear z4 st5 rt5 pk5 B4 hg2 hg4 hb1 hown hs1 hs2 hs4 hBs hBr
  go_loopw [6, 7] (fun p m wr => ∃ j Bp : Nat, j ≤ n ∧ p = .pointer (some ⟨Bp, 0, none⟩) ∧ m = .bool (decide (0 < j)) ∧ Hid (PI w Bs Br L j Bp wr)) (fun _ m wr => stl Bs wr + b01 m)
  case atStart => exact ⟨n, _, Nat.le_refl _, rfl, rfl, HS⟩
  case round =>
    obtain ⟨j, Bp, hj, rfl, rfl, HR⟩ := hrel
    obtain ⟨k0, k1, k2, k3, k4, k5⟩ := HR.out
    by_cases hpos : 0 < j
    · obtain ⟨i, rfl⟩ : ∃ i, j = i + 1 := ⟨j - 1, by omega⟩
      have hil : i < L.length := by have := HN.out; omega
      have e1 : (L.take (i + 1)).dropLast = L.take i := by rw [List.dropLast_eq_take, List.take_take, List.length_take]; congr 1; omega
      have e2 : lastD (L.take (i + 1)) = L[i] := by rw [← List.take_append_getElem hil]; exact lastD_snoc _ _
      have HP : Hid (pkN (L.drop i) = pairD L[i] (pkN (L.drop (i + 1)))) := pkN_step L i (by have := HN.out; omega)
      have hm : Ytgpbodanaeelaaa.stl Bs wr = i := by rw [k2.stl, e1, List.length_take]; omega
      rw [e1] at k2
      rw [e2] at k4
      generalize L[i] = p at HP k4
      generalize pkN (L.drop (i + 1)) = r at HP k3
      have ch0 := fun V : World => hp_impl p r V
      obtain ⟨y, hy⟩ : ∃ y, y = pairD p r := ⟨_, rfl⟩
      have ch : ∀ V : World, Calls Try.prog 22 #[.agg #[.int .u64 ((p).a.toNat : Int), .int .u64 ((p).b.toNat : Int), .int .u64 ((p).c.toNat : Int), .int .u64 ((p).d.toNat : Int)], .agg #[.int .u64 ((r).a.toNat : Int), .int .u64 ((r).b.toNat : Int), .int .u64 ((r).c.toNat : Int), .int .u64 ((r).d.toNat : Int)]] V fun e w' => e = .returned (.agg #[.int .u64 ((y).a.toNat : Int), .int .u64 ((y).b.toNat : Int), .int .u64 ((y).c.toNat : Int), .int .u64 ((y).d.toNat : Int)]) ∧ Below V.heap.size V w' := by rw [hy]; exact ch0
      rw [← hy] at HP
      obtain ⟨pp, hpp⟩ : ∃ pp, pp = lastD (L.take i) := ⟨_, rfl⟩
      have cp : ∀ W : World, Stk w.heap.size Bs (fun k => Bs ≤ k) (L.take i) W → Calls Try.prog 33 #[.pointer (some ⟨Bs, 0, none⟩)] W fun e w' => e = .returned (.tuple #[.agg #[.int .u64 ((pp).a.toNat : Int), .int .u64 ((pp).b.toNat : Int), .int .u64 ((pp).c.toNat : Int), .int .u64 ((pp).d.toNat : Int)], .bool (decide (0 < i))]) ∧ Stk w.heap.size Bs (fun k => Bs ≤ k) (L.take i).dropLast w' ∧ W.grownBy w' (some Bs) := fun W h => by
        have := pop_is w.heap.size Bs _ (L.take i) W h
        rw [← hpp, show (L.take i).length = i by rw [List.length_take]; omega] at this
        exact this
      have HPP : Hid (pp = lastD (L.take i)) := hpp
      have hd1 : decide (0 < i + 1) = true := by simp
      rw [hd1]
      have HM : Hid (Ytgpbodanaeelaaa.stl Bs wr = i) := hm
      have lw : wr.heap.size ≥ w.heap.size := k5.size
      have lb := k4.1
      clear hpp hy ch0 e1 e2 HS HR hd1 hm
      obtain ⟨-, ⟨a0, a1, a2, a3⟩, -⟩ := id k4
      obtain ⟨-, ⟨b0, b1, b2, b3⟩, -⟩ := id k3
      have nb : Br ≠ Bp := by omega
      have nb' : Bp ≠ Br := by omega
      go_wp2_with (first
        | (go_at_call 22; (refine (ch _).mono ?_; rintro e w4 ⟨rfl, hb4⟩; have hs4 := hb4.size; have m3 := k3.behind hb4; have m4 := k4.behind hb4; clear a0 a1 a2 a3 b0 b1 b2 b3; obtain ⟨-, ⟨a0, a1, a2, a3⟩, -⟩ := id m4; obtain ⟨-, ⟨b0, b1, b2, b3⟩, f0, f1, f2, f3⟩ := id m3)))
      have x2 : Stk w.heap.size Bs (fun k => Bs ≤ k) (L.take i) ((((w4.setCell ⟨Br, 0, none⟩ (Value.int IntKind.u64 ((y.a).toNat : Int))).setCell ⟨Br, 1, none⟩ (Value.int IntKind.u64 ((y.b).toNat : Int))).setCell ⟨Br, 2, none⟩ (Value.int IntKind.u64 ((y.c).toNat : Int))).setCell ⟨Br, 3, none⟩ (Value.int IntKind.u64 ((y.d).toNat : Int))) := ((((k2.grown hb4).set Br 0 _ (by omega) (by omega)).set Br 1 _ (by omega) (by omega)).set Br 2 _ (by omega) (by omega)).set Br 3 _ (by omega) (by omega)
      have x3 : Rt Br y ((((w4.setCell ⟨Br, 0, none⟩ (Value.int IntKind.u64 ((y.a).toNat : Int))).setCell ⟨Br, 1, none⟩ (Value.int IntKind.u64 ((y.b).toNat : Int))).setCell ⟨Br, 2, none⟩ (Value.int IntKind.u64 ((y.c).toNat : Int))).setCell ⟨Br, 3, none⟩ (Value.int IntKind.u64 ((y.d).toNat : Int))) := m3.put y
      have x1 : Rt w.heap.size ⟨0, 0, 0, 0⟩ ((((w4.setCell ⟨Br, 0, none⟩ (Value.int IntKind.u64 ((y.a).toNat : Int))).setCell ⟨Br, 1, none⟩ (Value.int IntKind.u64 ((y.b).toNat : Int))).setCell ⟨Br, 2, none⟩ (Value.int IntKind.u64 ((y.c).toNat : Int))).setCell ⟨Br, 3, none⟩ (Value.int IntKind.u64 ((y.d).toNat : Int))) := ((((k1.behind hb4).set Br 0 _ (by omega)).set Br 1 _ (by omega)).set Br 2 _ (by omega)).set Br 3 _ (by omega)
      have x5 : Below w.heap.size w ((((w4.setCell ⟨Br, 0, none⟩ (Value.int IntKind.u64 ((y.a).toNat : Int))).setCell ⟨Br, 1, none⟩ (Value.int IntKind.u64 ((y.b).toNat : Int))).setCell ⟨Br, 2, none⟩ (Value.int IntKind.u64 ((y.c).toNat : Int))).setCell ⟨Br, 3, none⟩ (Value.int IntKind.u64 ((y.d).toNat : Int))) := ((((k5.trans (hb4.mono lw)).setCell (p := ⟨Br, 0, none⟩) (by show w.heap.size ≤ Br; omega) _).setCell (p := ⟨Br, 1, none⟩) (by show w.heap.size ≤ Br; omega) _).setCell (p := ⟨Br, 2, none⟩) (by show w.heap.size ≤ Br; omega) _).setCell (p := ⟨Br, 3, none⟩) (by show w.heap.size ≤ Br; omega) _
      have x6 : ((((w4.setCell ⟨Br, 0, none⟩ (Value.int IntKind.u64 ((y.a).toNat : Int))).setCell ⟨Br, 1, none⟩ (Value.int IntKind.u64 ((y.b).toNat : Int))).setCell ⟨Br, 2, none⟩ (Value.int IntKind.u64 ((y.c).toNat : Int))).setCell ⟨Br, 3, none⟩ (Value.int IntKind.u64 ((y.d).toNat : Int))).heap.size = w4.heap.size := by simp only [World.size_setCell]
      clear a0 a1 a2 a3 b0 b1 b2 b3 f0 f1 f2 f3 m3 m4 k1 k2 k3 k4 k5
      generalize ((((w4.setCell ⟨Br, 0, none⟩ (Value.int IntKind.u64 ((y.a).toNat : Int))).setCell ⟨Br, 1, none⟩ (Value.int IntKind.u64 ((y.b).toNat : Int))).setCell ⟨Br, 2, none⟩ (Value.int IntKind.u64 ((y.c).toNat : Int))).setCell ⟨Br, 3, none⟩ (Value.int IntKind.u64 ((y.d).toNat : Int))) = w5 at x1 x2 x3 x5 x6 ⊢
      have hal := (Below.refl w5.heap.size w5).alloc (Nat.le_refl _) (.cells #[Value.int IntKind.u64 ((p).a.toNat : Int), Value.int IntKind.u64 ((p).b.toNat : Int), Value.int IntKind.u64 ((p).c.toNat : Int), Value.int IntKind.u64 ((p).d.toNat : Int)] 31)
      have y4 := Rt.new w5 p 31
      rw [x6] at y4
      refine (cp _ (x2.grown hal)).mono ?_
      rintro e w6 ⟨rfl, st6, hg6⟩
      have hs6 := hg6.size
      simp only [World.size_alloc, x6] at hs6
      have v1 := (x1.alloc (.cells #[Value.int IntKind.u64 ((p).a.toNat : Int), Value.int IntKind.u64 ((p).b.toNat : Int), Value.int IntKind.u64 ((p).c.toNat : Int), Value.int IntKind.u64 ((p).d.toNat : Int)] 31)).grown hg6 (by omega)
      have v3 := (x3.alloc (.cells #[Value.int IntKind.u64 ((p).a.toNat : Int), Value.int IntKind.u64 ((p).b.toNat : Int), Value.int IntKind.u64 ((p).c.toNat : Int), Value.int IntKind.u64 ((p).d.toNat : Int)] 31)).grown hg6 (by omega)
      have v4 := y4.grown hg6 (by omega)
      have v5 := (x5.alloc (by omega) (.cells #[Value.int IntKind.u64 ((p).a.toNat : Int), Value.int IntKind.u64 ((p).b.toNat : Int), Value.int IntKind.u64 ((p).c.toNat : Int), Value.int IntKind.u64 ((p).d.toNat : Int)] 31)).grown hg6 (by simp only [World.size_alloc, x6]; omega) (fun k e => by cases e; omega)
      obtain ⟨-, ⟨a0, a1, a2, a3⟩, f0, f1, f2, f3⟩ := id v4
      clear x1 x2 x3 x5 hal y4 hg6 hb4
      go_wp2_with fail
      have u2 := (((st6.set w4.heap.size 0 (Value.int IntKind.u64 ((pp.a).toNat : Int)) (by omega) (by omega)).set w4.heap.size 1 (Value.int IntKind.u64 ((pp.b).toNat : Int)) (by omega) (by omega)).set w4.heap.size 2 (Value.int IntKind.u64 ((pp.c).toNat : Int)) (by omega) (by omega)).set w4.heap.size 3 (Value.int IntKind.u64 ((pp.d).toNat : Int)) (by omega) (by omega)
      refine ⟨⟨i, _, by omega, rfl, rfl, ?_⟩, ?_⟩
      · refine ⟨by omega, (((v1.set _ 0 _ (by omega)).set _ 1 _ (by omega)).set _ 2 _ (by omega)).set _ 3 _ (by omega), u2, ?_, ?_, ?_⟩
        · rw [HP.out]; exact (((v3.set _ 0 _ (by omega)).set _ 1 _ (by omega)).set _ 2 _ (by omega)).set _ 3 _ (by omega)
        · rw [← HPP.out]; exact v4.put pp
        · exact (((v5.setCell (p := ⟨w4.heap.size, 0, none⟩) (by show w.heap.size ≤ w4.heap.size; omega) _).setCell (p := ⟨w4.heap.size, 1, none⟩) (by show w.heap.size ≤ w4.heap.size; omega) _).setCell (p := ⟨w4.heap.size, 2, none⟩) (by show w.heap.size ≤ w4.heap.size; omega) _).setCell (p := ⟨w4.heap.size, 3, none⟩) (by show w.heap.size ≤ w4.heap.size; omega) _
      · rw [u2.stl, HM.out, List.length_dropLast, List.length_take]
        by_cases hi0 : 0 < i
        · rw [decide_eq_true hi0]; simp only [b01]; omega
        · rw [decide_eq_false hi0]; simp only [b01]; omega
    · have hj0 : j = 0 := by omega
      subst hj0
      simp only [List.drop_zero] at k3
      obtain ⟨r, hr⟩ : ∃ r, r = pkN L := ⟨_, rfl⟩
      rw [← hr] at k3
      have HP : Hid (r = pkN L) := hr
      have hd0 : decide (0 < 0) = false := by simp
      rw [hd0]
      obtain ⟨-, ⟨a0, a1, a2, a3⟩, -⟩ := id k3
      obtain ⟨-, ⟨z0, z1, z2, z3⟩, g0, g1, g2, g3⟩ := id k1
      clear hr HS HR hd0 k2 k4
      go_wp2_with fail
      have hr := k1.put r
      exact bodyPost_ret (v := .agg #[.int .u64 ((r).a.toNat : Int), .int .u64 ((r).b.toNat : Int), .int .u64 ((r).c.toNat : Int), .int .u64 ((r).d.toNat : Int)]) (by obtain ⟨_, ⟨r0, r1, r2, r3⟩, _⟩ := hr; simp [results, Try.results11, go_sem, r0, r1, r2, r3]) rfl ⟨by rw [HP.out], (((k5.setCell (p := ⟨w.heap.size, 0, none⟩) (Nat.le_refl _) _).setCell (p := ⟨w.heap.size, 1, none⟩) (Nat.le_refl _) _).setCell (p := ⟨w.heap.size, 2, none⟩) (Nat.le_refl _) _).setCell (p := ⟨w.heap.size, 3, none⟩) (Nat.le_refl _) _⟩

end Go.Proofs.Ytgpbodanaeelaaa
