/-
  One leaf more, on both sides.
-/
import Derived.Deep.Onto
import Derived.Test.YtegihccdpohnnaaLg1
import Derived.Test.YtegihccdpohnnaaDraw7
import Derived.Test.YtegihccdpohnnaaSc
namespace Go.Proofs.Ytegihccdpohnnaa
open Go.RowKit

theorem scs_tcs (S : List ByteArray) : scs S = tcs S := rfl
theorem own_txtL {W : World} {base : Nat} {u : Value} {S : List ByteArray} (h : W.ownsRow base 9 1 u S.length (tcs S)) : Txt W u S := by
  rcases id h.2 with ⟨rfl, h0⟩ | ⟨g, cap, cur, rfl, hg, hh, hn, hm, hs, ht⟩
  · exact .inl ⟨rfl, List.length_eq_zero_iff.1 h0⟩
  · refine .inr ⟨⟨g, 0, none⟩, cap, rfl, hn, hm, fun _ => (h.lt g rfl).2, fun i hi => ?_⟩
    rw [Addr.add_mid, Nat.zero_add, h.cellAt i (by omega)]
    simp [tcs]
theorem own_callT {W W' : World} {base n : Nat} {v : Value} {xs : List Value} (h : W.ownsRow base 9 1 v n xs) (hb : Below W.heap.size W W') : W'.ownsRow base 9 1 v n xs :=
  h.kept (w' := W') (row := none) ⟨hb.os, hb.tape, hb.output, hb.size, fun k hk _ => hb.block k hk⟩ (by
    cases hv : v.ownBlock with
    | none => exact .inl rfl
    | some k => exact .inr (fun e => by cases e))
theorem wpList_append_txk {w : World} {ops : Array Oper} {rest : List Oper} {o : Oper} {a : Act} {Q : Exit → Act → World → Prop} (hgd : o.guard = none) (s x : Operand)
    (ho : o.op = .call { callee := .builtin .append, args := #[s, x], argTypes := #[22, 22] })
    (base : Nat) (v : Value) (S : List ByteArray) (k : Nat) (q : ByteArray) (hs : a.eval s = v) (hk : S.length = k) (hown : w.ownsRow base 9 1 v S.length (tcs S))
    (B : Nat) (hx : a.eval x = .slice (some ⟨B, 0, none⟩) 1 1) (hc : w.cell? ⟨B, 0, none⟩ = some (.string q))
    (hlen : k ≤ 1048576) (hbase : base ≤ w.heap.size)
    (h : ∀ ob cb w', w'.ownsRow base 9 1 (.slice ob (k + 1) cb) (S ++ [q]).length (tcs (S ++ [q])) → w.grownBy w' v.ownBlock → wpList Try.prog ops Q rest (a.put o.dst (.slice ob (k + 1) cb)) w') : wpList Try.prog ops Q (o :: rest) a w := by
  refine wpList_append_txt hgd s x ho base v S q hs hown B hx hc (by omega) hbase ?_
  intro v' w3 ho3 hg3
  obtain ⟨oc, cq, hv3⟩ := owt_len ho3
  rw [List.length_append, hk, List.length_singleton] at hv3
  subst hv3
  exact h oc cq w3 ho3 hg3
set_option maxRecDepth 20000 in
set_option maxHeartbeats 1000000 in
theorem l2l_is (W : World) (v : Value) (L : List ByteArray) (h : Txt W v L) (hlen : L.length ≤ 1000000) :
    Calls Try.prog 13 #[v] W fun e w' => ∃ u, e = .returned u ∧ w'.ownsRow W.heap.size 9 1 u L.length (tcs L) ∧ Below W.heap.size W w' := by
  obtain ⟨oa, cap, rfl⟩ : ∃ a cap, v = .slice a L.length cap := by
    rcases h with ⟨rfl, rfl⟩ | ⟨a, cap, rfl, _⟩
    · exact ⟨none, 0, rfl⟩
    · exact ⟨some a, cap, rfl⟩
  have HT : Hid (Txt W (.slice oa L.length cap) L) := h
  clear h
  have HS : Hid ((W.alloc (.cells #[] 9)).ownsRow W.heap.size 9 1 (.slice (some ⟨W.heap.size, 0, none⟩) 0 0) (L.take 0).length (tcs (L.take 0)) ∧ Below W.heap.size W (W.alloc (.cells #[] 9))) := ⟨World.ownsRow_lit W #[] 0 (Nat.le_refl _) (by unfold maxLen; omega) rfl, (Below.refl _ _).alloc (Nat.le_refl _) _⟩
  go_enter Try.func13, Try.ntmps13
  go_wp2_with fail
  go_loopw [3, 4] (fun u i wr => ∃ (k : Nat) (ob : Option Addr) (cb : Nat), k ≤ L.length ∧ i = .int .i64 (k : Int) ∧ u = .slice ob k cb ∧ Hid (wr.ownsRow W.heap.size 9 1 (.slice ob k cb) (L.take k).length (tcs (L.take k)) ∧ Below W.heap.size W wr)) (fun _ i _ => L.length - (intOf i).toNat)
  case atStart => exact ⟨0, _, _, by omega, rfl, rfl, HS⟩
  case round =>
    obtain ⟨k, ob, cb, hk, rfl, rfl, HV⟩ := hrel
    by_cases hlt : k < L.length
    · obtain ⟨o1, b1⟩ := HV.out
      have lw := b1.size
      have hkI : (k : Int) < (L.length : Int) := by omega
      have hk0 : (0 : Int) ≤ (k : Int) := by omega
      obtain ⟨a, rfl, hd⟩ : ∃ a, oa = some a ∧ wr.cell? (a.add k) = some (.string L[k]) := by
        rcases HT.out.call b1 with ⟨_, h0⟩ | ⟨a, cap', hv, _, _, _, hc⟩
        · rw [h0] at hlt; exact absurd hlt (Nat.not_lt_zero _)
        · injection hv with e1
          exact ⟨a, e1, hc k hlt⟩
      obtain ⟨s, hs⟩ : ∃ s, s = L[k] := ⟨_, rfl⟩
      have htk : L.take k ++ [s] = L.take (k + 1) := by rw [hs, List.take_succ_eq_append_getElem hlt]
      rw [← hs] at hd
      have hl1 : (L.take k).length = k := by rw [List.length_take]; omega
      have hl2 : (L.take (k + 1)).length = k + 1 := by rw [List.length_take]; omega
      generalize L.take k = T at o1 htk hl1
      have HT1 : Hid (T.length = k ∧ T ++ [s] = L.take (k + 1) ∧ (L.take (k + 1)).length = k + 1) := ⟨hl1, htk, hl2⟩
      have hb1 : IntKind.i64.wrap ((k : Int) + 1) = (k : Int) + 1 := IntWalk.i64_in _ (by omega)
      clear HS HV hs hl1 htk hl2
      go_wp2_with (at_builtin; refine wpList_append_txk rfl _ _ rfl W.heap.size _ T k s rfl HT1.out.1 (o1.alloc _) wr.heap.size rfl (by first | (simp [go_sem]; done) | (simp [go_sem]; rfl)) (by omega) (by simp only [World.size_alloc]; omega) ?_; intro oc cq w3 ho3 hg3)
      rw [HT1.out.2.1] at ho3
      exact ⟨⟨k + 1, oc, cq, by omega, by go_num, rfl, ho3, (b1.alloc lw _).grown hg3 (by simp only [World.size_alloc]; omega) (fun j e => (o1.lt j e).1)⟩, by simp only [intOf]; omega⟩
    · have hkk : k = L.length := by omega
      subst hkk
      obtain ⟨o1, b1⟩ := HV.out
      rw [List.take_length] at o1
      clear HS HV
      go_wp2_with fail
      go_ret
      exact ⟨_, rfl, o1, b1⟩
theorem lvf_is (v : Value) (n : Int) (w : World) : Calls Try.prog 17 #[.agg #[v], .int .i64 n] w fun e w' =>
    e = .returned (.func (.func 23) #[] #[.pointer (some ⟨w.heap.size + 1, 0, none⟩), .pointer (some ⟨w.heap.size, 0, none⟩)]) ∧ w' = (w.alloc (.cells #[v] 26)).alloc (.cells #[.int .i64 n] 3) := by
  go_enter Try.func17, Try.ntmps17
  go_wp2_with fail
  go_ret
  exact ⟨rfl, rfl⟩
theorem col_is (S : List ByteArray) (v : Value) (hsz : ∀ s ∈ S, s.size ≤ 1048576) (hlen : S.length ≤ 1048576) (Bf Bl : Nat) (w : World) (hBf : Bf < w.heap.size) (hBl : Bl < w.heap.size)
    (c1 : w.cell? ⟨Bf, 0, none⟩ = some (.int .i64 0)) (c2 : w.cell? ⟨Bl, 0, none⟩ = some v) (hT : Txt w v S) :
    Calls Try.prog 16 #[.func (.func 23) #[] #[.pointer (some ⟨Bf, 0, none⟩), .pointer (some ⟨Bl, 0, none⟩)]] w fun e w' =>
      ∃ u, e = .returned u ∧ w'.ownsRow (w.heap.size + 1) 9 1 u S.length (tcs S) ∧ Below w.heap.size w w' := by
  have c := aps_is S v hsz hlen Bf Bl w hBf hBl c1 c2 hT
  go_enter Try.func16, Try.ntmps16
  go_wp2_with (go_at_call 22; refine c.mono ?_; rintro e w1 ⟨u, rfl, ho, hb⟩)
  go_ret
  exact ⟨u, rfl, ho, hb⟩
set_option maxRecDepth 20000 in
theorem agg_log : AggTy 26 1 := ⟨⟨_, Try.underlying26, rfl⟩, by kernel_rfl⟩
theorem resL {fn : Func} {p q : Tmp} {t : TypeId} {n : Nat} (ht : AggTy t n) (h : fn.results = #[.cell p t, .tmp q]) (tmps : Array Value) (w : World) (b : Nat) (vs : List Value) (hn : vs.length = n)
    (hp : tmps.getD p undef = .pointer (some ⟨b, 0, none⟩)) (x : Value) (hq : tmps.getD q undef = x) (hl : Lies b 0 vs w) :
    (results fn tmps).run Try.prog w = .ok (.tuple #[.agg vs.toArray, x]) w := by
  obtain ⟨⟨d, hu1, hd1⟩, hi1⟩ := ht
  have hp' : tmps[p]?.getD undef = .pointer (some ⟨b, 0, none⟩) := by simpa using hp
  have hq' : tmps[q]?.getD undef = x := by simpa using hq
  simp [results, h, hp', hq', asAddr, run_lv t b 0 vs w d hd1 hu1 (by rw [hn]; exact hi1) hl]
/-- What comes of one leaf more. -/
def la (S : List ByteArray) (x : ByteArray) : List ByteArray × Bool := if lok S = false then ([], false) else if 256 ≤ S.length ∨ 40 < x.size then (S, false) else (S ++ [x], true)
theorem lok_len {S : List ByteArray} (h : lok S = true) : S.length ≤ 256 ∧ ∀ s ∈ S, s.size ≤ 40 := by
  unfold lok at h
  rw [Bool.and_eq_true, decide_eq_true_iff, List.all_eq_true] at h
  exact ⟨h.1, fun s hs => of_decide_eq_true (h.2 s hs)⟩
/-- What stands while a log is looked at: its box, the box of the answer. -/
def LB (W : World) (v : Value) (w : World) : Prop := w.cell? ⟨W.heap.size, 0, none⟩ = some v ∧ Room (W.heap.size + 1) 0 1 w ∧ W.heap.size + 1 < w.heap.size ∧ Below W.heap.size W w
theorem LB.call {W : World} {v : Value} {w w' : World} (h : LB W v w) (hb : Below w.heap.size w w') : LB W v w' := by
  obtain ⟨h1, h2, h3, h4⟩ := h
  exact ⟨(hb.cell (p := ⟨W.heap.size, 0, none⟩) (by show W.heap.size < _; omega)).trans h1, h2.call hb h3, Nat.lt_of_lt_of_le h3 hb.size, below_after h4 hb h4.size⟩
theorem LB.new (W : World) (v : Value) (t t' : TypeId) : LB W v ((W.alloc (.cells #[v] t)).alloc (.cells #[.slice none 0 0] t')) := by
  have r := Room.new (W.alloc (.cells #[v] t)) #[.slice none 0 0] t' 1 rfl
  rw [World.size_alloc] at r
  refine ⟨?_, r, by simp, ((Below.refl _ _).alloc (Nat.le_refl _) _).alloc (by simp) _⟩
  have := (Lies.new W [v] t).call ((Below.refl _ _).alloc (Nat.le_refl _) (.cells #[.slice none 0 0] t')) (by simp)
  have h := this 0 _ rfl
  rwa [Nat.zero_add] at h
theorem own_apart {W : World} {base n b : Nat} {u : Value} {xs : List Value} (h : W.ownsRow base 9 1 u n xs) (hb : b < base) (vs : List Value) (o : Nat) : (W.setCells b o vs).ownsRow base 9 1 u n xs :=
  h.kept (sc_grown W b o vs) (by
    cases hv : u.ownBlock with
    | none => exact .inl rfl
    | some k => exact .inr (fun e => by have := (h.lt k hv).1; injection e with e; omega))
set_option maxRecDepth 20000 in
set_option maxHeartbeats 2000000 in
theorem la_spec (W : World) (v : Value) (S : List ByteArray) (x : ByteArray) (h : Txt W v S) (hx : x.size ≤ 1048576) :
    Calls Try.prog 5 #[.agg #[v], .string x] W fun e w' => ∃ u, e = .returned (.tuple #[.agg #[u], .bool (la S x).2]) ∧ w'.ownsRow (W.heap.size + 2) 9 1 u (la S x).1.length (tcs (la S x).1) ∧ Below W.heap.size W w' := by
  have B0 : LB W v _ := LB.new W v 26 26
  have cl := fun (V : World) (h : Txt V v S) => lok_spec V v S h
  go_enter Try.func5, Try.ntmps5
  go_upto_region 1 with fail
  generalize (W.alloc (.cells #[v] 26)).alloc (.cells #[.slice none 0 0] 26) = w0 at B0 ⊢
  obtain ⟨a0, r0, l0, z0⟩ := id B0
  have T0 := h.call z0
  cases hk : lok S with
  | false =>
    have e : la S x = ([], false) := by unfold la; rw [if_pos hk]
    rw [hk] at cl
    go_wp2_with (first
      | (go_at_call 12; refine (cl _ T0).mono ?_; rintro e w1 ⟨rfl, hw⟩; subst hw)
      | (with_reducible refine wpl_build #[.slice none 0 0] (by kernel_rfl) ?_)
      | (with_reducible refine wpl_store agg_log (W.heap.size + 1) 0 [.slice none 0 0] (by kernel_rfl) (by kernel_rfl) (by kernel_rfl) (by kernel_rfl) r0 ?_; have k1 := Lies.sc (vs := [.slice none 0 0]) rfl r0; have k2 := Below.sc (W.heap.size + 1) (by omega) [.slice none 0 0] 0 _ z0; generalize World.setCells _ (W.heap.size + 1) 0 [.slice none 0 0] = wz at k1 k2 ⊢))
    exact bodyPost_ret (v := .tuple #[.agg #[.slice none 0 0], .bool false]) (resL agg_log Try.results5 _ _ (W.heap.size + 1) [.slice none 0 0] (by kernel_rfl) (by kernel_rfl) _ (by kernel_rfl) k1) rfl (by first | (rw [e]; exact ⟨_, rfl, World.ownsRow_nil _ _ _ _, k2⟩) | exact ⟨_, rfl, World.ownsRow_nil _ _ _ _, k2⟩)
  | true =>
    obtain ⟨hl, hs⟩ := lok_len hk
    rw [hk] at cl
    have c2 := fun (V : World) (h : Txt V v S) => l2l_is V v S h (by omega)
    go_upto_region 4 with (first
      | (go_at_call 12; refine (cl _ T0).mono ?_; rintro e w1 ⟨rfl, hw⟩; subst hw)
      | (go_at_call 13; refine (c2 _ T0).mono ?_; rintro e w2 ⟨u, rfl, o2, b2⟩; have B2 := B0.call b2; clear b2 a0 r0 z0 T0))
    obtain ⟨ou, cu, rfl⟩ := owt_len o2
    have o3 : World.ownsRow _ (W.heap.size + 2) 9 1 _ _ _ := World.ownsRow.mono o2 (by omega)
    clear c2 cl o2 hs B0 l0
    rename_i w2 _
    obtain ⟨a0, r0, l0', z0⟩ := id B2
    clear B2
    by_cases h1 : 256 ≤ S.length
    · have e : la S x = (S, false) := by unfold la; rw [if_neg (by rw [hk]; decide), if_pos (.inl h1)]
      have hI : (256 : Int) ≤ (S.length : Int) := by omega
      clear h1 hk hl
      go_wp2_with (first
        | (with_reducible refine wpl_build #[.slice ou S.length cu] (by kernel_rfl) ?_)
        | (with_reducible refine wpl_store agg_log (W.heap.size + 1) 0 [.slice ou S.length cu] (by kernel_rfl) (by kernel_rfl) (by kernel_rfl) (by kernel_rfl) r0 ?_; have k1 := Lies.sc (vs := [.slice ou S.length cu]) rfl r0; have k2 := Below.sc (W.heap.size + 1) (by omega) [.slice ou S.length cu] 0 _ z0; have k3 := own_apart o3 (Nat.lt_succ_self (W.heap.size + 1)) [.slice ou S.length cu] 0; generalize World.setCells _ (W.heap.size + 1) 0 [.slice ou S.length cu] = wz at k1 k2 k3 ⊢))
      exact bodyPost_ret (v := .tuple #[.agg #[.slice ou S.length cu], .bool false]) (resL agg_log Try.results5 _ _ (W.heap.size + 1) [.slice ou S.length cu] (by kernel_rfl) (by kernel_rfl) _ (by kernel_rfl) k1) rfl (by first | (rw [e]; exact ⟨_, rfl, k3, k2⟩) | exact ⟨_, rfl, k3, k2⟩)
    · have hI : ¬ (256 : Int) ≤ (S.length : Int) := by omega
      by_cases h2 : 40 < x.size
      · have e : la S x = (S, false) := by unfold la; rw [if_neg (by rw [hk]; decide), if_pos (.inr h2)]
        have hI2 : (40 : Int) < (x.size : Int) := by omega
        clear h1 h2 hk hl
        go_wp2_with (first
          | (with_reducible refine wpl_build #[.slice ou S.length cu] (by kernel_rfl) ?_)
          | (with_reducible refine wpl_store agg_log (W.heap.size + 1) 0 [.slice ou S.length cu] (by kernel_rfl) (by kernel_rfl) (by kernel_rfl) (by kernel_rfl) r0 ?_; have k1 := Lies.sc (vs := [.slice ou S.length cu]) rfl r0; have k2 := Below.sc (W.heap.size + 1) (by omega) [.slice ou S.length cu] 0 _ z0; have k3 := own_apart o3 (Nat.lt_succ_self (W.heap.size + 1)) [.slice ou S.length cu] 0; generalize World.setCells _ (W.heap.size + 1) 0 [.slice ou S.length cu] = wz at k1 k2 k3 ⊢))
        exact bodyPost_ret (v := .tuple #[.agg #[.slice ou S.length cu], .bool false]) (resL agg_log Try.results5 _ _ (W.heap.size + 1) [.slice ou S.length cu] (by kernel_rfl) (by kernel_rfl) _ (by kernel_rfl) k1) rfl (by first | (rw [e]; exact ⟨_, rfl, k3, k2⟩) | exact ⟨_, rfl, k3, k2⟩)
      · have e : la S x = (S ++ [x], true) := by unfold la; rw [if_neg (by rw [hk]; decide), if_neg (by omega)]
        have hI2 : ¬ (40 : Int) < (x.size : Int) := by omega
        have hl9 : S.length ≤ 1048576 := by omega
        clear h1 h2 hk hl
        go_wp2_with (first
          | (at_builtin; refine wpList_append_txk rfl _ _ rfl (W.heap.size + 2) _ S S.length x rfl rfl (o3.alloc _) w2.heap.size rfl (by first | (simp [go_sem]; done) | (simp [go_sem]; rfl)) hl9 (by simp only [World.size_alloc]; omega) ?_; intro oc cq w3 ho3 hg3; have r0 := (r0.call ((Below.refl _ _).alloc (Nat.le_refl _) (.cells #[.string x] 9)) l0').grown hg3 (by simp only [World.size_alloc]; omega) (fun e => by have := (o3.lt _ e).1; omega); have z0 := (z0.alloc z0.size _).grown hg3 (by simp only [World.size_alloc]; omega) (fun j e => by have := (o3.lt j e).1; omega))
          | (with_reducible refine wpl_build #[.slice oc (S.length + 1) cq] (by kernel_rfl) ?_)
          | (with_reducible refine wpl_store agg_log (W.heap.size + 1) 0 [.slice oc (S.length + 1) cq] (by kernel_rfl) (by kernel_rfl) (by kernel_rfl) (by kernel_rfl) r0 ?_; have k1 := Lies.sc (vs := [.slice oc (S.length + 1) cq]) rfl r0; have k2 := Below.sc (W.heap.size + 1) (by omega) [.slice oc (S.length + 1) cq] 0 _ z0; have k3 := own_apart ho3 (Nat.lt_succ_self (W.heap.size + 1)) [.slice oc (S.length + 1) cq] 0; generalize World.setCells _ (W.heap.size + 1) 0 [.slice oc (S.length + 1) cq] = wz at k1 k2 k3 ⊢))
        exact bodyPost_ret (v := .tuple #[.agg #[.slice oc (S.length + 1) cq], .bool true]) (resL agg_log Try.results5 _ _ (W.heap.size + 1) [.slice oc (S.length + 1) cq] (by kernel_rfl) (by kernel_rfl) _ (by kernel_rfl) k1) rfl (by first | (rw [e]; exact ⟨_, rfl, by simpa using k3, k2⟩) | exact ⟨_, rfl, by simpa using k3, k2⟩)
end Go.Proofs.Ytegihccdpohnnaa
