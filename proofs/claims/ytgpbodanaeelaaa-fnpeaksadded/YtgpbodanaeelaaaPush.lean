/-
  One digest more on a stack.
-/
import Derived.Test.YtgpbodanaeelaaaStk
import Derived.Deep.RegionLaw
import Derived.OneCell
namespace Go.Proofs.Ytgpbodanaeelaaa
open Go.RowKit

/-- An append to a row of the call's own, in a region that draws its order. -/
theorem step_append_own {P : Program} {ops : Array Oper} {o : Oper} {a : Act} {w : World} {K : Act → World → Prop} {Q : Exit → Act → World → Prop} {E : Prop}
    (hg : o.guard = none) (s x : Operand) (t : TypeId) (hop : o.op = Op.call { callee := Callee.builtin Builtin.append, args := #[s, x], argTypes := #[t, t] })
    (base : Nat) (e : TypeId) (i : TypeInfo) (z : Value) (size bytes : Nat) (ht : P.underlying t = some (.slice e)) (hi : P.info? e = some i) (hz : i.zero = some z)
    (hsize : i.size = size) (hby : i.bytes = bytes) (hzs : z.cells.size = size) (hsz : 0 < size)
    (v : Value) (n : Nat) (xs : List Value) (hs : a.eval s = v) (hown : w.ownsRow base e size v n xs)
    (ad : Addr) (m c : Nat) (news : List Value) (hx : a.eval x = .slice (some ad) m c) (hl : news.length = m * size) (hc : ∀ j u, news[j]? = some u → w.cell? (ad.add j) = some u) (h1 : ∀ u ∈ news, u.oneCell' = true)
    (h63 : n + m ≤ maxLen) (hbytes : (n + m) * bytes ≤ 140737488355328) (hbase : base ≤ w.heap.size)
    (hK : ∀ v' w', w'.ownsRow base e size v' (n + m) (xs ++ news) → w.grownBy w' v.ownBlock → K (a.put o.dst v') w') :
    if Region.wanted o (yielded ops a.tmps) = true then Oper.wp P o a w K Q else E := by
  have hw : Region.wanted o (yielded ops a.tmps) = true := by simp [Region.wanted, hg]
  rw [if_pos hw]
  obtain ⟨v', w', hrun, r1, r2, -⟩ := run_append_own (P := P) w base t o.type e i z size bytes ht hi hz hsize hby hzs hsz v n xs hown ad m c news hl hc h1 h63 hbytes hbase
  unfold Oper.wp
  simp [execOp, hop, resolve, invoke, builtin, hs, hx, hrun, Result.andThen]
  exact hK v' w' r1 r2

/-- The block Bs has the stack's own type. -/
def Ty (Bs : Nat) (W : World) : Prop := ∃ x, W.heap[Bs]? = some (.cells #[x] 46 (0, 0))
theorem Ty.lt {Bs : Nat} {W : World} (h : Ty Bs W) : Bs < W.heap.size := by
  obtain ⟨x, h⟩ := h
  exact (Array.getElem?_eq_some_iff.1 h).1
theorem Ty.below {Bs : Nat} {W W' : World} (h : Ty Bs W) (hb : Below W.heap.size W W') : Ty Bs W' := by
  have := h.lt
  obtain ⟨x, h⟩ := h
  exact ⟨x, (hb.block Bs this).trans h⟩
theorem Ty.other {Bs : Nat} {W W' : World} {row : Option Nat} (h : Ty Bs W) (hb : W.grownBy W' row) (hr : some Bs ≠ row) : Ty Bs W' := by
  have := h.lt
  obtain ⟨x, h⟩ := h
  exact ⟨x, (hb.block Bs this hr).trans h⟩
theorem Ty.set {Bs : Nat} {W : World} (h : Ty Bs W) (X : Nat) (x : Value) : Ty Bs (W.setCell ⟨X, 0, none⟩ x) := by
  obtain ⟨y, h⟩ := h
  by_cases e : Bs = X
  · subst e; exact ⟨x, one_setCell h⟩
  · exact ⟨y, (Below.heap_setCell W ⟨X, 0, none⟩ x Bs e).trans h⟩
set_option maxRecDepth 20000 in
set_option maxHeartbeats 1000000 in
theorem pop_oneT (base Bs : Nat) (av : Nat → Prop) (L : List Qd) (q : Qd) (W : World) (h : Stk base Bs av (L ++ [q]) W) (ht : Ty Bs W) :
    Calls Try.prog 33 #[.pointer (some ⟨Bs, 0, none⟩)] W fun e w' => e = .returned (.tuple #[.agg #[.int .u64 ((q).a.toNat : Int), .int .u64 ((q).b.toNat : Int), .int .u64 ((q).c.toNat : Int), .int .u64 ((q).d.toNat : Int)], .bool true]) ∧ Stk base Bs av L w' ∧ W.grownBy w' (some Bs) ∧ Ty Bs w' := by
  have HT : Hid (Ty Bs W) := ht
  clear ht
  obtain ⟨h0, h1, h2, v, h3, h4, h5⟩ := h
  obtain ⟨g, cap, rfl⟩ := own_slice h5 (by simp)
  have hcap := own_cap h5
  have hd := own_dat h5 L.length (by simp)
  simp only [List.length_append, List.length_cons, List.length_nil, Nat.zero_add, List.getElem_concat_length] at h3 h5 hcap hd
  rw [qcs_append] at h5
  have hg : g ≠ Bs := (h4 g rfl).1
  have hav : ¬ av g := (h4 g rfl).2
  have h6 := ownsRow_pop (qcs_len L) h5
  have H6 : Hid (W.ownsRow base 31 4 (.slice (some ⟨g, 0, none⟩) L.length cap) L.length (qcs L)) := h6
  have hgl : g < W.heap.size := (h6.lt g rfl).2
  clear h5 h4 h6
  obtain ⟨d0, d1, d2, d3⟩ := hd
  obtain ⟨n, hn⟩ : ∃ n, n = L.length := ⟨_, rfl⟩
  rw [← hn] at h3 H6 hcap d0 d1 d2 d3
  have HN : Hid (n = L.length) := hn
  clear hn
  have hnl : n < 9223372036854775807 := by have := hcap; unfold maxLen at this; omega
  have hnc : n ≤ cap := by omega
  have hnc2 : n < cap := by omega
  clear hcap
  go_enter Try.func33, Try.ntmps33
  go_wp2
  have hn := HN.out
  subst hn
  have hg1 : W.grownBy (W.setCell ⟨Bs, 0, none⟩ (.slice (some ⟨g, 0, none⟩) L.length cap)) (some Bs) := grown_set W Bs 0 _
  have hs1 : Stk base Bs av L (W.setCell ⟨Bs, 0, none⟩ (.slice (some ⟨g, 0, none⟩) L.length cap)) :=
    ⟨h0, by simp only [World.size_setCell]; exact h1, by rw [World.frozen?_setCell]; exact h2, _, set_same (by rw [h3]; rfl), fun k e => (by injection e with e; subst e; exact ⟨hg, hav⟩), H6.out.kept hg1 (.inr (fun e => hg (by injection e)))⟩
  have hb2 : Below (W.setCell ⟨Bs, 0, none⟩ (.slice (some ⟨g, 0, none⟩) L.length cap)).heap.size (W.setCell ⟨Bs, 0, none⟩ (.slice (some ⟨g, 0, none⟩) L.length cap)) (((W.setCell ⟨Bs, 0, none⟩ (.slice (some ⟨g, 0, none⟩) L.length cap)).alloc (.cells #[Value.int IntKind.u64 ((q).a.toNat : Int), Value.int IntKind.u64 ((q).b.toNat : Int), Value.int IntKind.u64 ((q).c.toNat : Int), Value.int IntKind.u64 ((q).d.toNat : Int)] 31)).alloc (.cells #[Value.int IntKind.u64 ((q).a.toNat : Int), Value.int IntKind.u64 ((q).b.toNat : Int), Value.int IntKind.u64 ((q).c.toNat : Int), Value.int IntKind.u64 ((q).d.toNat : Int)] 31)) :=
    ((Below.refl _ _).alloc (Nat.le_refl _) _).alloc (by simp) _
  exact bodyPost_ret (v := .tuple #[.agg #[.int .u64 ((q).a.toNat : Int), .int .u64 ((q).b.toNat : Int), .int .u64 ((q).c.toNat : Int), .int .u64 ((q).d.toNat : Int)], .bool true]) (by simp [results, Try.results33, go_sem]) rfl ⟨rfl, hs1.grown hb2, grown_below hg1 hb2, (HT.out.set Bs _).below hb2⟩
theorem pop_isT (base Bs : Nat) (av : Nat → Prop) (L : List Qd) (W : World) (h : Stk base Bs av L W) (ht : Ty Bs W) :
    Calls Try.prog 33 #[.pointer (some ⟨Bs, 0, none⟩)] W fun e w' => e = .returned (.tuple #[.agg #[.int .u64 ((lastD L).a.toNat : Int), .int .u64 ((lastD L).b.toNat : Int), .int .u64 ((lastD L).c.toNat : Int), .int .u64 ((lastD L).d.toNat : Int)], .bool (decide (0 < L.length))]) ∧ Stk base Bs av L.dropLast w' ∧ W.grownBy w' (some Bs) ∧ Ty Bs w' := by
  by_cases hL : L = []
  · subst hL
    refine (pop_none base Bs av W h).mono ?_
    rintro e w' ⟨rfl, hb⟩
    exact ⟨rfl, h.grown hb, ⟨hb.os, hb.tape, hb.output, hb.size, fun k hk _ => hb.block k hk⟩, ht.below hb⟩
  · have e : L = L.dropLast ++ [L.getLast hL] := (List.dropLast_concat_getLast hL).symm
    have hl : lastD L = L.getLast hL := by have h1 := lastD_snoc L.dropLast (L.getLast hL); rwa [List.dropLast_concat_getLast] at h1
    have hp : decide (0 < L.length) = true := by simpa using List.length_pos_iff.2 hL
    rw [hl, hp]
    exact pop_oneT base Bs av _ _ W (by rw [← e]; exact h) ht
/-- A row of digests lies in no block of a stack. -/
theorem Ty.apart {Bs base n : Nat} {W : World} {v : Value} {xs : List Value} (h : Ty Bs W) (ho : W.ownsRow base 31 4 v n xs) : v.ownBlock ≠ some Bs := by
  intro e
  obtain ⟨x, h⟩ := h
  obtain ⟨_, ⟨rfl, _⟩ | ⟨g, cap, cur, rfl, _, hg, _⟩⟩ := ho
  · cases e
  · injection e with e
    subst e
    rw [hg] at h
    injection h with h
    injection h with _ h2
    exact absurd h2 (by decide)

theorem own_call {W W' : World} {base n : Nat} {v : Value} {xs : List Value} (h : W.ownsRow base 31 4 v n xs) (hb : Below W.heap.size W W') : W'.ownsRow base 31 4 v n xs :=
  h.kept (w' := W') (row := none) ⟨hb.os, hb.tape, hb.output, hb.size, fun k hk _ => hb.block k hk⟩ (by
    cases hv : v.ownBlock with
    | none => exact .inl rfl
    | some k => exact .inr (fun e => by cases e))
theorem qc_cells {V : World} {B : Nat} {q : Qd} (h0 : V.cell? ⟨B, 0, none⟩ = some (Value.int IntKind.u64 ((q.a).toNat : Int))) (h1 : V.cell? ⟨B, 1, none⟩ = some (Value.int IntKind.u64 ((q.b).toNat : Int))) (h2 : V.cell? ⟨B, 2, none⟩ = some (Value.int IntKind.u64 ((q.c).toNat : Int))) (h3 : V.cell? ⟨B, 3, none⟩ = some (Value.int IntKind.u64 ((q.d).toNat : Int))) :
    ∀ j u, (qc q)[j]? = some u → V.cell? ((⟨B, 0, none⟩ : Addr).add j) = some u := by
  intro j u hu
  have hj : j < 4 := (List.getElem?_eq_some_iff.1 hu).1
  rw [Addr.add_mid, Nat.zero_add]
  rcases (by omega : j = 0 ∨ j = 1 ∨ j = 2 ∨ j = 3) with rfl | rfl | rfl | rfl <;> simp [qc] at hu <;> subst hu <;> assumption
theorem qc_one {q : Qd} : ∀ u ∈ qc q, u.oneCell' = true := by
  intro u hu
  exact qcs_one (L := [q]) (by simpa [qcs] using hu)

set_option maxRecDepth 20000 in
set_option maxHeartbeats 1000000 in
/-- One digest more. -/
theorem push_is (base Bs : Nat) (L : List Qd) (q : Qd) (W : World) (h : Stk base Bs (fun _ => False) L W) (ht : Ty Bs W) (hl : L.length ≤ 1048576) (hbW : base ≤ W.heap.size) :
    Calls Try.prog 28 #[.pointer (some ⟨Bs, 0, none⟩), .agg #[.int .u64 ((q).a.toNat : Int), .int .u64 ((q).b.toNat : Int), .int .u64 ((q).c.toNat : Int), .int .u64 ((q).d.toNat : Int)]] W fun e w' => e = .returned (.tuple #[]) ∧ Stk base Bs (fun _ => False) (L ++ [q]) w' ∧ Ty Bs w' ∧ Below base W w' := by
  obtain ⟨i0, hi, hz0, hz1, hz2⟩ := info_parts infoD
  obtain ⟨h0, h1, h2, v, h3, h4, h5⟩ := h
  obtain ⟨oa, cap, rfl⟩ := own_len h5
  obtain ⟨V, hV⟩ : ∃ V, V = ((W.alloc (.cells #[Value.int IntKind.u64 ((q).a.toNat : Int), Value.int IntKind.u64 ((q).b.toNat : Int), Value.int IntKind.u64 ((q).c.toNat : Int), Value.int IntKind.u64 ((q).d.toNat : Int)] 31)).alloc (.cells #[Value.int IntKind.u64 ((q).a.toNat : Int), Value.int IntKind.u64 ((q).b.toNat : Int), Value.int IntKind.u64 ((q).c.toNat : Int), Value.int IntKind.u64 ((q).d.toNat : Int)] 31)).drew := ⟨_, rfl⟩
  have hWV : Below W.heap.size W V := by rw [hV]; exact (((Below.refl _ _).alloc (Nat.le_refl _) _).alloc (by simp) _).drew
  have hVs : V.heap.size = W.heap.size + 2 := by rw [hV]; simp
  have hc : ∀ j u, (qc q)[j]? = some u → V.cell? ((⟨W.heap.size + 1, 0, none⟩ : Addr).add j) = some u := by
    rw [hV]
    exact qc_cells (by simp [go_sem]) (by simp [go_sem]) (by simp [go_sem]) (by simp [go_sem])
  have h5V := own_call h5 hWV
  have hTV := ht.below hWV
  have hcV : V.cell? ⟨Bs, 0, none⟩ = some (.slice oa L.length cap) := (hWV.cell (p := ⟨Bs, 0, none⟩) h1).trans h3
  have hfV : V.frozen? ⟨Bs, 0, none⟩ = false := (hWV.frozen (p := ⟨Bs, 0, none⟩) h1).trans h2
  have hne : (some Bs : Option Nat) ≠ (Value.slice oa L.length cap).ownBlock := fun e => (h4 Bs e.symm).1 rfl
  have H : Hid (∀ v' w', w'.ownsRow base 31 4 v' (L.length + 1) (qcs L ++ qc q) → V.grownBy w' (Value.slice oa L.length cap).ownBlock →
      (∃ oa' cap', v' = .slice oa' (L.length + 1) cap') ∧ w'.cell? ⟨Bs, 0, none⟩ = some (.slice oa L.length cap) ∧ w'.frozen? ⟨Bs, 0, none⟩ = false ∧ Below base W w' ∧ Ty Bs w' ∧ Bs < w'.heap.size) := by
    intro v' w' ho hg
    refine ⟨own_len ho, hg.cell hcV hne, (World.frozen?_of_block (a := ⟨Bs, 0, none⟩) (hg.block Bs (by omega) hne)).trans hfV, ?_, hTV.other hg hne, by have := hg.size; omega⟩
    exact (hWV.mono hbW).grown hg (by omega) (fun k e => (h5.lt k e).1)
  clear hWV hTV hcV hfV hne h4 ht h5
  have H5 : Hid (V.ownsRow base 31 4 (.slice oa L.length cap) L.length (qcs L)) := h5V
  have HC : Hid (∀ j u, (qc q)[j]? = some u → V.cell? ((⟨W.heap.size + 1, 0, none⟩ : Addr).add j) = some u) := hc
  clear h5V hc
  subst hV
  go_enter Try.func28, Try.ntmps28
  go_wp2
  go_region_law (refine step_append_own rfl (.tmp 8) (.tmp 10) 25 rfl base 31 i0 _ 4 32 Try.underlying25 hi hz0 hz1 hz2 rfl (by decide) (.slice oa L.length cap) L.length (qcs L) (by simp [Act.eval]) H5.out ⟨W.heap.size + 1, 0, none⟩ 1 1 (qc q) (by simp [Act.eval]) rfl HC.out qc_one (by unfold maxLen; omega) (by omega) (by omega) ?_; intro v' w1 ho1 hg1; obtain ⟨⟨oa', cap', rfl⟩, c1, f1, b1, t1, l1⟩ := H.out v' w1 ho1 hg1)
  all_goals go_end0
  all_goals exact ⟨rfl, ⟨h0, by simp only [World.size_setCell]; exact l1, by rw [World.frozen?_setCell]; exact f1, _, set_same (by rw [c1]; rfl), fun k e => ⟨fun e2 => t1.apart ho1 (by rw [e, e2]), id⟩, by
    have := ho1.kept (grown_set w1 Bs 0 (.slice oa' (L.length + 1) cap')) (.inr (fun e => t1.apart ho1 e))
    rw [qcs_append, List.length_append]
    simpa [qcs] using this⟩, t1.set Bs _, b1.setCell (p := ⟨Bs, 0, none⟩) h0 _⟩
end Go.Proofs.Ytgpbodanaeelaaa
