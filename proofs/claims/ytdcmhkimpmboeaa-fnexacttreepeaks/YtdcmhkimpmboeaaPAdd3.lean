/-
  PeaksAdd of the model.
-/
import Derived.Test.YtdcmhkimpmboeaaPAdd2
import Derived.Laws.OwnMore
namespace Go.Proofs.Ytdcmhkimpmboeaa
open Go.RowKit

/-- append(b, q), b a row of digests of the call's own, q one digest. -/
theorem wpList_append_dg {w : World} {ops : Array Oper} {rest : List Oper} {o : Oper} {a : Act} {Q : Exit → Act → World → Prop} (hgd : o.guard = none) (s x : Operand)
    (ho : o.op = .call { callee := .builtin .append, args := #[s, x], argTypes := #[24, 24] })
    (base : Nat) (v : Value) (K : List Qd) (q : Qd) (hs : a.eval s = v) (hown : w.ownsRow base 35 4 v K.length (qcs K))
    (B : Nat) (hx : a.eval x = .slice (some ⟨B, 0, none⟩) 1 1) (hc : ∀ j u, (qc q)[j]? = some u → w.cell? ((⟨B, 0, none⟩ : Addr).add j) = some u)
    (hlen : K.length ≤ 1048576) (hbase : base ≤ w.heap.size)
    (h : ∀ v' w', w'.ownsRow base 35 4 v' (K ++ [q]).length (qcs (K ++ [q])) → w.grownBy w' v.ownBlock → wpList Try.prog ops Q rest (a.put o.dst v') w') : wpList Try.prog ops Q (o :: rest) a w := by
  obtain ⟨i0, hi, hz0, hz1, hz2⟩ := info_parts infoD
  refine wpList_append_own w hgd s x 24 ho base 35 i0 _ 4 32 Try.underlying24 hi hz0 hz1 hz2 rfl (by decide) v K.length (qcs K) hs hown ⟨B, 0, none⟩ 1 1 (qc q) hx rfl hc qc_one (by unfold maxLen; omega) (by omega) hbase ?_
  intro v' w' h1 h2 _
  refine h v' w' ?_ h2
  rw [qcs_append, List.length_append]
  simpa [qcs] using h1
set_option maxRecDepth 20000 in
set_option maxHeartbeats 1000000 in
theorem pad_spec_out (n : Int) (L : List Qd) (s : ByteArray) (v : Value) (w : World) (hT : Dgs w v L) (hno : ¬ paOk n L s) :
    Calls Try.prog 20 #[.int .i64 n, v, .string s] w fun e w' => ∃ u, e = .returned (.tuple #[u, .bool false]) ∧ w'.ownsRow w.heap.size 35 4 u 0 [] ∧ Below w.heap.size w w' := by
  have cc : ∀ V : World, Calls Try.prog 38 #[.int .i64 n] V fun e w' => e = .returned (.int .i64 (pcI n)) ∧ V = w' := fun V => (pc_spec_all n V).mono (fun e w' h => ⟨h.1, h.2.symm⟩)
  obtain ⟨oa, cap, rfl, hl⟩ := hT.len
  clear hT
  have ci : ∀ V : World, Calls Try.prog 37 #[.int .i64 n, .int .i64 0, .int .i64 255] V fun e w' => e = .returned (.bool (decide (0 ≤ n) && decide (n ≤ 255))) ∧ V = w' := fun V => (in_is n 0 255 V).mono (fun e w' h => ⟨h.1, h.2.symm⟩)
  by_cases h0 : 0 ≤ n ∧ n ≤ 255
  · rw [show (decide (0 ≤ n) && decide (n ≤ 255)) = true by simp [h0]] at ci
    by_cases h2 : (L.length : Int) = pcI n
    · have h3 : 40 < (s.size : Int) := by unfold paOk at hno; omega
      rw [← h2] at cc
      clear hno h2
      go_enter Try.func20, Try.ntmps20
      go_wp2_with (first | (go_at_call 37; (refine (ci _).mono ?_; rintro e w0 ⟨rfl, rfl⟩; clear ci)) | (go_at_call 38; (refine (cc _).mono ?_; rintro e w0 ⟨rfl, rfl⟩; clear cc)))
      exact bodyPost_ret (v := .tuple #[.slice (some ⟨w.heap.size, 0, none⟩) 0 0, .bool false]) (by simp [results, Try.results20, go_sem]) rfl ⟨_, rfl, World.ownsRow_lit w #[] 0 (Nat.le_refl _) (by unfold maxLen; omega) rfl, (by repeat' (first | (with_reducible exact Below.refl _ _) | (with_reducible assumption) | (with_reducible refine below_drewN ?_ _) | (with_reducible refine Below.setCell ?_ ?_ _) | (with_reducible refine Below.alloc ?_ ?_ _) | (with_reducible refine Below.drew ?_) | go_size))⟩
    · have h3 : ((L.length : Int) != pcI n) = true := by simpa using h2
      generalize pcI n = c at cc h2 h3
      clear hno
      go_enter Try.func20, Try.ntmps20
      go_wp2_with (first | (go_at_call 37; (refine (ci _).mono ?_; rintro e w0 ⟨rfl, rfl⟩; clear ci)) | (go_at_call 38; (refine (cc _).mono ?_; rintro e w0 ⟨rfl, rfl⟩; clear cc)))
      exact bodyPost_ret (v := .tuple #[.slice (some ⟨w.heap.size, 0, none⟩) 0 0, .bool false]) (by simp [results, Try.results20, go_sem]) rfl ⟨_, rfl, World.ownsRow_lit w #[] 0 (Nat.le_refl _) (by unfold maxLen; omega) rfl, (by repeat' (first | (with_reducible exact Below.refl _ _) | (with_reducible assumption) | (with_reducible refine below_drewN ?_ _) | (with_reducible refine Below.setCell ?_ ?_ _) | (with_reducible refine Below.alloc ?_ ?_ _) | (with_reducible refine Below.drew ?_) | go_size))⟩
  · rw [show (decide (0 ≤ n) && decide (n ≤ 255)) = false by simp; omega] at ci
    clear cc hno
    go_enter Try.func20, Try.ntmps20
    go_wp2_with (go_at_call 37; (refine (ci _).mono ?_; rintro e w0 ⟨rfl, rfl⟩; clear ci))
    exact bodyPost_ret (v := .tuple #[.slice (some ⟨w.heap.size, 0, none⟩) 0 0, .bool false]) (by simp [results, Try.results20, go_sem]) rfl ⟨_, rfl, World.ownsRow_lit w #[] 0 (Nat.le_refl _) (by unfold maxLen; omega) rfl, (by repeat' (first | (with_reducible exact Below.refl _ _) | (with_reducible assumption) | (with_reducible refine below_drewN ?_ _) | (with_reducible refine Below.setCell ?_ ?_ _) | (with_reducible refine Below.alloc ?_ ?_ _) | (with_reducible refine Below.drew ?_) | go_size))⟩
/-- What stands ahead of each round of the model's PeaksAdd. -/
def SA (w : World) (Br : Nat) (u : Value) (K : List Qd) (t : Qd) (W : World) : Prop :=
  W.ownsRow w.heap.size 35 4 u K.length (qcs K) ∧ (∀ k, u.ownBlock = some k → k < Br) ∧ Rt Br t W ∧ Below w.heap.size w W
set_option maxRecDepth 20000 in
set_option maxHeartbeats 2000000 in
theorem pad_spec_in (n : Nat) (L : List Qd) (s : ByteArray) (v : Value) (w : World) (hT : Dgs w v L) (hn : n ≤ 255) (hL : L.length = pc n) (hs : s.size ≤ 40) :
    Calls Try.prog 20 #[.int .i64 (n : Int), v, .string s] w fun e w' => ∃ u, e = .returned (.tuple #[u, .bool true]) ∧ w'.ownsRow w.heap.size 35 4 u (pa n L (leafD s)).length (qcs (pa n L (leafD s))) ∧ Below w.heap.size w w' := by
  have hle := pc_le hn
  have cc : ∀ V : World, Calls Try.prog 38 #[.int .i64 (n : Int)] V fun e w' => e = .returned (.int .i64 (L.length : Int)) ∧ V = w' := fun V => by
    have := pc_spec_all (n : Int) V
    rw [show pcI (n : Int) = (L.length : Int) by unfold pcI; rw [if_neg (by omega), Int.toNat_natCast, hL]] at this
    exact this.mono (fun e w' h => ⟨h.1, h.2.symm⟩)
  have ci : ∀ V : World, Calls Try.prog 37 #[.int .i64 (n : Int), .int .i64 0, .int .i64 255] V fun e w' => e = .returned (.bool true) ∧ V = w' := fun V => by
    have := in_is (n : Int) 0 255 V
    rw [show (decide (0 ≤ (n : Int)) && decide ((n : Int) ≤ 255)) = true by simp; omega] at this
    exact this.mono (fun e w' h => ⟨h.1, h.2.symm⟩)
  have cl0 := fun V : World => hl_spec s V (by omega)
  obtain ⟨t0, ht0⟩ : ∃ t0, t0 = leafD s := ⟨_, rfl⟩
  have cl : ∀ V : World, Calls Try.prog 39 #[.string s] V fun e w' => e = .returned (.agg #[.int .u64 ((t0).a.toNat : Int), .int .u64 ((t0).b.toNat : Int), .int .u64 ((t0).c.toNat : Int), .int .u64 ((t0).d.toNat : Int)]) ∧ Below V.heap.size V w' := by rw [ht0]; exact cl0
  rw [← ht0]
  clear cl0 ht0
  obtain ⟨R, hR⟩ : ∃ R, R = pa n L t0 := ⟨_, rfl⟩
  have HR : Hid (pa n L t0 = R) := hR.symm
  rw [← hR]
  have HD : Hid (Dgs w v L) := hT
  obtain ⟨oa, cap, rfl, hl⟩ := hT.len
  have hsI : ¬ 40 < (s.size : Int) := by omega
  have HL : Hid (L.length = pc n ∧ L.length ≤ 8) := ⟨hL, by omega⟩
  have hl8 : L.length ≤ 8 := by omega
  clear hT hl hL hle hR hs
  go_enter Try.func20, Try.ntmps20
  go_wp2_with (first | (go_at_call 37; (refine (ci _).mono ?_; rintro e w0 ⟨rfl, rfl⟩; clear ci)) | (go_at_call 38; (refine (cc _).mono ?_; rintro e w0 ⟨rfl, rfl⟩; clear cc)))
  have HS : Hid ((w.alloc (.cells #[] 35)).ownsRow w.heap.size 35 4 (.slice (some ⟨w.heap.size, 0, none⟩) 0 0) (L.take 0).length (qcs (L.take 0)) ∧ Below w.heap.size w (w.alloc (.cells #[] 35))) := ⟨World.ownsRow_lit w #[] 0 (Nat.le_refl _) (by unfold maxLen; omega) rfl, (by repeat' (first | (with_reducible exact Below.refl _ _) | (with_reducible assumption) | (with_reducible refine below_drewN ?_ _) | (with_reducible refine Below.setCell ?_ ?_ _) | (with_reducible refine Below.alloc ?_ ?_ _) | (with_reducible refine Below.drew ?_) | go_size))⟩
  go_loopw [8, 9] (fun u i wr => ∃ (k : Nat) (ob : Option Addr) (cb : Nat), k ≤ L.length ∧ i = .int .i64 (k : Int) ∧ u = .slice ob k cb ∧ Hid (wr.ownsRow w.heap.size 35 4 u (L.take k).length (qcs (L.take k)) ∧ Below w.heap.size w wr)) (fun _ i _ => ((L.length : Int) - intOf i).toNat)
  case atStart => exact ⟨0, _, _, Nat.zero_le _, rfl, rfl, HS⟩
  case round =>
    obtain ⟨k, ob, cb, hk, rfl, rfl, HK⟩ := hrel
    obtain ⟨k1, k2⟩ := HK.out
    have lw : w.heap.size ≤ wr.heap.size := k2.size
    by_cases hlt : k < L.length
    · have hT' := HD.out.call k2
      rcases hT' with ⟨_, h0'⟩ | ⟨a, cap', hv, hlc, hm, hbl, hc⟩
      · rw [h0'] at hlt; simp at hlt
      obtain ⟨rfl, _, rfl⟩ : oa = some a ∧ L.length = L.length ∧ cap = cap' := by simpa using hv
      have hd := hc k hlt
      have HE : Hid (L.take (k + 1) = L.take k ++ [L[k]]) := List.take_succ_eq_append_getElem hlt
      have hz : (L.take k).length = k := by rw [List.length_take]; omega
      generalize L[k] = q at hd HE
      obtain ⟨d0, d1, d2, d3⟩ := hd
      have hkI : (k : Int) < (L.length : Int) := by omega
      have HO : Hid (wr.ownsRow w.heap.size 35 4 (.slice ob k cb) (L.take k).length (qcs (L.take k))) := k1
      clear hc hv hbl hm hlc HK HS k1
      have hz2 : (L.take (k + 1)).length = k + 1 := by rw [List.length_take]; omega
      have HZ : Hid ((L.take (k + 1)).length = k + 1) := hz2
      clear hz2
      go_wp2_with (at_builtin; refine wpList_append_dg rfl _ _ rfl w.heap.size _ (L.take k) q rfl (HO.out.alloc _) wr.heap.size rfl (qc_cells (by simp [go_sem]) (by simp [go_sem]) (by simp [go_sem]) (by simp [go_sem])) (by omega) (by simp only [World.size_alloc]; omega) ?_; intro v' w3 ho3 hg3; rw [← HE.out] at ho3; obtain ⟨oc, cq, hv3⟩ := own_len ho3; rw [HZ.out] at hv3; subst hv3)
      refine ⟨⟨k + 1, oc, cq, by omega, rfl, rfl, ho3, (k2.alloc lw (.cells #[Value.int IntKind.u64 ((q).a.toNat : Int), Value.int IntKind.u64 ((q).b.toNat : Int), Value.int IntKind.u64 ((q).c.toNat : Int), Value.int IntKind.u64 ((q).d.toNat : Int)] 35)).grown hg3 (by simp only [World.size_alloc]; omega) (fun k e => (HO.out.lt k e).1)⟩, by simp only [intOf]; omega⟩
    · have hke : k = L.length := by omega
      subst hke
      rw [List.take_length] at k1
      clear HK HS
      have hlI : ¬ (L.length : Int) < (L.length : Int) := by omega
      go_wp2_with (go_at_call 39; (refine (cl _).mono ?_; clear cl; rintro e w2 ⟨rfl, hb2⟩; have hs2 := hb2.size; have rt2 := Rt.new w2 t0 35; have B2 := (k2.trans (hb2.mono lw)).alloc (by omega) (.cells #[Value.int IntKind.u64 ((t0).a.toNat : Int), Value.int IntKind.u64 ((t0).b.toNat : Int), Value.int IntKind.u64 ((t0).c.toNat : Int), Value.int IntKind.u64 ((t0).d.toNat : Int)] 35); have ow2 := (own_call k1 hb2).alloc (.cells #[Value.int IntKind.u64 ((t0).a.toNat : Int), Value.int IntKind.u64 ((t0).b.toNat : Int), Value.int IntKind.u64 ((t0).c.toNat : Int), Value.int IntKind.u64 ((t0).d.toNat : Int)] 35); have lt2 : ∀ j, (Value.slice ob L.length cb).ownBlock = some j → j < w2.heap.size := (fun j e => Nat.lt_of_lt_of_le (k1.lt j e).2 hs2)))
      have HS : Hid (SA w w2.heap.size (.slice ob L.length cb) L t0 (w2.alloc (.cells #[Value.int IntKind.u64 ((t0).a.toNat : Int), Value.int IntKind.u64 ((t0).b.toNat : Int), Value.int IntKind.u64 ((t0).c.toNat : Int), Value.int IntKind.u64 ((t0).d.toNat : Int)] 35))) := ⟨ow2, lt2, rt2, B2⟩
      obtain ⟨Br, hBr⟩ : ∃ Br, Br = w2.heap.size := ⟨_, rfl⟩
      rw [← hBr] at HS ⊢
      have l1 : w.heap.size ≤ Br := by omega
      clear ow2 lt2 rt2 B2 hb2 hs2 hBr k1 k2 lw hlI hlt hk
      go_loopw [0, 8] (fun r u wr => ∃ (m : Nat) (K : List Qd) (t : Qd) (og : Option Addr) (cg : Nat), m ≤ 255 ∧ K.length ≤ 8 ∧ r = .int .i64 (m : Int) ∧ u = .slice og K.length cg ∧ Hid (pa m K t = R ∧ K.length = pc m) ∧ Hid (SA w Br (.slice og K.length cg) K t wr)) (fun r _ _ => (intOf r).toNat)
      case atStart => exact ⟨n, L, t0, ob, cb, hn, HL.out.2, rfl, rfl, ⟨HR.out, HL.out.1⟩, HS⟩
      case round =>
        obtain ⟨m, K, t, og, cg, hm, hK, rfl, rfl, HE, HP⟩ := hrel
        obtain ⟨k1, k2, k3, k4⟩ := HP.out
        have lw : w.heap.size ≤ wr.heap.size := k4.size
        have lb := k3.1
        have hdiv : (m : Int).tdiv 2 = ((m / 2 : Nat) : Int) := by rw [Int.tdiv_eq_ediv_of_nonneg (by omega)]; omega
        by_cases ho : m % 2 = 1
        · have hmI : ((m : Int).tmod 2 == 1) = true := by rw [Int.tmod_eq_emod_of_nonneg (by omega)]; rw [beq_iff_eq]; omega
          have hpc := (HE.out.2).trans (pc_odd hm ho)
          have hKn : K ≠ [] := by intro e; rw [e] at hpc; simp at hpc
          obtain ⟨K', p, rfl⟩ : ∃ K' p, K = K' ++ [p] := ⟨_, _, (List.dropLast_concat_getLast hKn).symm⟩
          have HE2 : Hid (pa (m / 2) K' (pairD p t) = R ∧ K'.length = pc (m / 2)) := ⟨by
            have := (pa_odd (K := K' ++ [p]) (t := t) ho).symm.trans HE.out.1
            rwa [lastD_snoc, List.dropLast_concat] at this, by simp at hpc; exact hpc⟩
          obtain ⟨g, cap2, hv⟩ := own_slice k1 (by simp)
          obtain ⟨rfl, -, rfl⟩ : og = some ⟨g, 0, none⟩ ∧ (K' ++ [p]).length = (K' ++ [p]).length ∧ cg = cap2 := by simpa using hv
          have hcap := own_cap k1
          have hd := own_dat k1 K'.length (by simp)
          rw [List.getElem_concat_length rfl] at hd
          have hgb : g < Br := k2 g rfl
          have HG : Hid (w.heap.size ≤ g) := (k1.lt g rfl).1
          rw [qcs_append] at k1
          simp only [List.length_append, List.length_cons, List.length_nil, Nat.zero_add] at k1 hcap hK ⊢
          have HO : Hid (wr.ownsRow w.heap.size 35 4 (.slice (some ⟨g, 0, none⟩) K'.length cg) K'.length (qcs K')) := ownsRow_pop (qcs_len K') k1
          obtain ⟨j, hj⟩ : ∃ j, j = K'.length := ⟨_, rfl⟩
          have HJ : Hid (j = K'.length) := hj
          rw [← hj] at hd HO hcap hK ⊢
          have hj1 : j ≤ cg := by omega
          have HK8 : Hid (j + 1 ≤ 8) := hK
          have hj2 : j + 1 ≤ cg := by omega
          have hjm : j + 1 ≤ 9223372036854775807 := by omega
          have hj0 : (0 : Int) ≤ (j : Int) := by omega
          have hjI : (j : Int) < (j : Int) + 1 := by omega
          have hjn : j < j + 1 := by omega
          have hje : IntKind.i64.wrap (j : Int) = (j : Int) := IntWalk.i64_in _ (by omega)
          obtain ⟨d0, d1, d2, d3⟩ := hd
          have ch0 := fun V : World => hp_spec p t V
          obtain ⟨y, hy⟩ : ∃ y, y = pairD p t := ⟨_, rfl⟩
          have ch : ∀ V : World, Calls Try.prog 32 #[.agg #[.int .u64 ((p).a.toNat : Int), .int .u64 ((p).b.toNat : Int), .int .u64 ((p).c.toNat : Int), .int .u64 ((p).d.toNat : Int)], .agg #[.int .u64 ((t).a.toNat : Int), .int .u64 ((t).b.toNat : Int), .int .u64 ((t).c.toNat : Int), .int .u64 ((t).d.toNat : Int)]] V fun e w' => e = .returned (.agg #[.int .u64 ((y).a.toNat : Int), .int .u64 ((y).b.toNat : Int), .int .u64 ((y).c.toNat : Int), .int .u64 ((y).d.toNat : Int)]) ∧ Below V.heap.size V w' := by rw [hy]; exact ch0
          rw [← hy] at HE2
          obtain ⟨lx, ⟨b0, b1, b2, b3⟩, -⟩ := id k3
          clear hy ch0 HE HP HS HR hj hv hpc hKn k1 k2 hcap hK
          go_wp2_with fail
          go_region_with (go_at_call 32; refine (ch _).mono ?_; rintro e w1 ⟨rfl, hb1⟩; obtain ⟨ly, ⟨x0, x1, x2, x3⟩, g0, g1, g2, g3⟩ := (Rt.drew k3).behind hb1)
          all_goals (go_wp2_with fail)
          all_goals
            have B1 := k4.drew.trans (hb1.mono lw)
            have gne : some g ≠ some Br := fun e => by injection e with e; omega
            have o1 := own_call HO.out.drew hb1
            have o2 := (((o1.kept (grown_set w1 Br 0 (Value.int IntKind.u64 ((y.a).toNat : Int))) (.inr gne)).kept (grown_set _ Br 1 (Value.int IntKind.u64 ((y.b).toNat : Int))) (.inr gne)).kept (grown_set _ Br 2 (Value.int IntKind.u64 ((y.c).toNat : Int))) (.inr gne)).kept (grown_set _ Br 3 (Value.int IntKind.u64 ((y.d).toNat : Int))) (.inr gne)
            rw [HJ.out] at o2
            refine ⟨⟨m / 2, K', y, some ⟨g, 0, none⟩, cg, by omega, by have := HJ.out; have := HK8.out; omega, ?_, by rw [← HJ.out], HE2, o2, fun k e => (by injection e with e; subst e; exact hgb), ((Rt.drew k3).behind hb1).put y, (((B1.setCell (p := ⟨Br, 0, none⟩) l1 _).setCell (p := ⟨Br, 1, none⟩) l1 _).setCell (p := ⟨Br, 2, none⟩) l1 _).setCell (p := ⟨Br, 3, none⟩) l1 _⟩, ?_⟩
            · first | rfl | rw [hdiv]
            · simp only [intOf]; first | omega | (rw [hdiv]; omega)
        · have hmI : ((m : Int).tmod 2 == 1) = false := by rw [Int.tmod_eq_emod_of_nonneg (by omega)]; rw [beq_eq_false_iff_ne]; omega
          have HE0 : Hid (K ++ [t] = R) := (pa_even (K := K) (t := t) ho).symm.trans HE.out.1
          obtain ⟨lx, ⟨b0, b1, b2, b3⟩, -⟩ := id k3
          have HO : Hid (wr.ownsRow w.heap.size 35 4 (.slice og K.length cg) K.length (qcs K)) := k1
          clear HE HP HS HR hdiv k1 k2
          go_wp2_with (at_builtin; refine wpList_append_dg rfl _ _ rfl w.heap.size _ K t rfl (HO.out.alloc _) wr.heap.size rfl (qc_cells (by simp [go_sem]) (by simp [go_sem]) (by simp [go_sem]) (by simp [go_sem])) (by omega) (by simp only [World.size_alloc]; omega) ?_; intro v' w3 ho3 hg3; rw [HE0.out] at ho3; obtain ⟨oc, cq, hv3⟩ := own_len ho3; subst hv3)
          exact bodyPost_ret (v := .tuple #[.slice oc R.length cq, .bool true]) (by simp [results, Try.results20, go_sem]) rfl ⟨_, rfl, ho3, (k4.alloc lw (.cells #[Value.int IntKind.u64 ((t).a.toNat : Int), Value.int IntKind.u64 ((t).b.toNat : Int), Value.int IntKind.u64 ((t).c.toNat : Int), Value.int IntKind.u64 ((t).d.toNat : Int)] 35)).grown hg3 (by simp only [World.size_alloc]; omega) (fun k e => (HO.out.lt k e).1)⟩
theorem pad_spec (n : Int) (L : List Qd) (s : ByteArray) (v : Value) (w : World) (hT : Dgs w v L) :
    Calls Try.prog 20 #[.int .i64 n, v, .string s] w fun e w' => ∃ u, e = .returned (.tuple #[u, .bool (decide (paOk n L s))]) ∧ w'.ownsRow w.heap.size 35 4 u (paL n L s).length (qcs (paL n L s)) ∧ Below w.heap.size w w' := by
  by_cases h : paOk n L s
  · obtain ⟨m, rfl, hm, hL, hs⟩ := paOk_nat h
    have := pad_spec_in m L s v w hT hm hL hs
    unfold paL
    rw [if_pos h, decide_eq_true h]
    exact this
  · have := pad_spec_out n L s v w hT h
    unfold paL
    rw [if_neg h, decide_eq_false h]
    exact this
end Go.Proofs.Ytdcmhkimpmboeaa
