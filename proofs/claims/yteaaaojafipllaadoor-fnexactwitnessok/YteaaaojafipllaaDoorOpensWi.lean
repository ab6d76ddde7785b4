/-
  A witness that came in, opened; what start-up lays of the numbers of sessions.
-/
import Derived.Test.YteaaaojafipllaaDoorJoinB50
import Derived.Test.YteaaaojafipllaaDoorJoinB52
import Derived.Test.YteaaaojafipllaaDoorWi5
import Derived.Deep.Strs
import Derived.Deep.Slices
import Derived.MakeChecks
import Derived.Lib.SmallJoins
namespace Go.Proofs.YteaaaojafipllaaDoor
open Go.ChangeShapes Go.WideShapes Go.ChangeAt Go.RowKit Go.Joins
namespace Opens
theorem cellsWt : Tryd.prog.cellsOf 31 = 15 := by kernel_rfl
theorem cellsWs : Tryd.prog.cellsOf 29 = 1 := by kernel_rfl
theorem cellsWh : Tryd.prog.cellsOf 67 = 7 := by kernel_rfl
set_option maxRecDepth 100000 in
theorem pt_trod {H : Type} {enc : TypeId × Value → H} {W : World} {base n : Nat} {spare : Nat → Bool} {held : Bool} {c0 c1 c2 c3 c4 : Value} {x : DataW H × List MemPlace}
    (hf : DataW.trod enc Tryd.prog W base spare held n 65 [c0, c1, c2, c3, c4] = some x) : ∃ (s : Int) (q : Qd), [c0, c1, c2, c3, c4] = [.int .i64 s, .int .u64 ((q.a).toNat : Int), .int .u64 ((q.b).toNat : Int), .int .u64 ((q.c).toNat : Int), .int .u64 ((q.d).toNat : Int)] := by
  obtain ⟨y0, y1, n, _, _, h0, h1⟩ := trod_struct2 Tryd.underlying65 hf
  simp only [cellsI, cells43, List.drop_zero, List.drop_succ_cons, List.take_succ_cons, List.take_zero] at h0 h1
  obtain ⟨z0, z1, z2, z3, m, _, _, g0, g1, g2, g3⟩ := trod_struct4 Tryd.underlying24 h1
  simp only [cells64, List.drop_zero, List.drop_succ_cons, List.take_succ_cons, List.take_zero] at g0 g1 g2 g3
  obtain ⟨x, e, _, _⟩ := DataW.trod_int Tryd.underlying3 h0
  obtain ⟨xa, e0, _, wa⟩ := DataW.trod_int Tryd.underlying22 g0
  obtain ⟨xb, e1, _, wb⟩ := DataW.trod_int Tryd.underlying22 g1
  obtain ⟨xc, e2, _, wc⟩ := DataW.trod_int Tryd.underlying22 g2
  obtain ⟨xd, e3, _, wd⟩ := DataW.trod_int Tryd.underlying22 g3
  obtain ⟨ua, rfl⟩ := of_wf wa
  obtain ⟨ub, rfl⟩ := of_wf wb
  obtain ⟨uc, rfl⟩ := of_wf wc
  obtain ⟨ud, rfl⟩ := of_wf wd
  simp at e e0 e1 e2 e3
  subst e e0 e1 e2 e3
  exact ⟨x, ⟨ua, ub, uc, ud⟩, rfl⟩
theorem choose_whs {P : Nat → Wh → Prop} : ∀ n : Nat, (∀ i, i < n → ∃ q, P i q) → ∃ L : List Wh, L.length = n ∧ ∀ (i : Nat) (h : i < L.length), P i L[i]
  | 0, _ => ⟨[], rfl, fun i h => by simp at h⟩
  | n + 1, h => by
    obtain ⟨L, hl, hL⟩ := choose_whs n (fun i hi => h i (by omega))
    obtain ⟨q, hq⟩ := h n (by omega)
    refine ⟨L ++ [q], by simp [hl], fun i hi => ?_⟩
    by_cases e : i < L.length
    · rw [List.getElem_append_left e]; exact hL i e
    · have e2 : i = L.length := by simp at hi; omega
      subst e2
      rw [List.getElem_concat_length rfl, hl]
      exact hq
set_option maxRecDepth 100000 in
theorem wish_cells {H : Type} {enc : TypeId × Value → H} {W : World} {base n : Nat} {spare : Nat → Bool} {held : Bool} {cs : List Value} {x : DataW H × List MemPlace}
    (hl : cs.length = 7) (h : DataW.trod enc Tryd.prog W base spare held n 67 cs = some x) : ∃ l : Wh, cs = [.int .i64 l.w, .int .i64 l.e, .int .i64 l.s, .int .u64 ((l.q.a).toNat : Int), .int .u64 ((l.q.b).toNat : Int), .int .u64 ((l.q.c).toNat : Int), .int .u64 ((l.q.d).toNat : Int)] := by
  match cs, hl with
  | [c0, c1, c2, c3, c4, c5, c6], _ =>
    obtain ⟨y0, y1, y2, m, _, _, h0, h1, h2⟩ := Go.Deep.trod_struct3 Tryd.underlying67 h
    simp only [cellsI, cellsP, List.drop_zero, List.drop_succ_cons, List.take_succ_cons, List.take_zero] at h0 h1 h2
    obtain ⟨f, e0, _, _⟩ := DataW.trod_int Tryd.underlying3 h0
    obtain ⟨t, e1, _, _⟩ := DataW.trod_int Tryd.underlying3 h1
    obtain ⟨s, q, e2⟩ := pt_trod h2
    simp only [List.cons.injEq, and_true] at e0 e1 e2
    obtain ⟨rfl, rfl, rfl, rfl, rfl⟩ := e2
    subst e0 e1
    exact ⟨⟨f, t, s, q⟩, rfl⟩
set_option maxRecDepth 100000 in
theorem whs_trod {H : Type} {enc : TypeId × Value → H} {W : World} {base n : Nat} {spare : Nat → Bool} {held : Bool} {c : Value} {x : DataW H × List MemPlace}
    (hf : DataW.trod enc Tryd.prog W base spare held n 29 [c] = some x) : ∃ L : List Wh, Whs W c L := by
  rcases DataW.trod_slice Tryd.underlying29 hf with ⟨hcs, _⟩ | ⟨a, len, cap, elems, rest, n, _, hcs, _, hb, hl, hm, hlen, hel, _, _⟩
  · simp at hcs
    subst hcs
    exact ⟨[], .inl ⟨rfl, rfl⟩⟩
  · simp at hcs
    subst hcs
    have each : ∀ i, i < len → ∃ l : Wh, WAt W (a.add (i * 7)) l := fun i hi => by
      have h1 := hel i hi
      rw [cellsWh, List.getElem?_eq_getElem (by omega), Option.bind_eq_some_iff] at h1
      obtain ⟨cs, h2, h3⟩ := h1
      obtain ⟨_, hln, hcell⟩ := World.cells?_some h2
      obtain ⟨l, e⟩ := wish_cells hln h3
      subst e
      refine ⟨l, ?_, ?_, ?_, ?_, ?_, ?_, ?_⟩
      · have := hcell 0 (by omega); simpa [Addr.add] using this
      · have := hcell 1 (by omega); simpa [Addr.add] using this
      · have := hcell 2 (by omega); simpa [Addr.add] using this
      · have := hcell 3 (by omega); simpa [Addr.add] using this
      · have := hcell 4 (by omega); simpa [Addr.add] using this
      · have := hcell 5 (by omega); simpa [Addr.add] using this
      · have := hcell 6 (by omega); simpa [Addr.add] using this
    obtain ⟨L, hL, hc⟩ := choose_whs len each
    refine ⟨L, .inr ⟨a, cap, by rw [hL], by omega, hm, fun h0 => ?_, fun i hi => hc i hi⟩⟩
    have h1 := block_lt_of_cell (hc 0 h0).1
    rwa [add_block] at h1
set_option maxRecDepth 100000 in
theorem open_witness {H : Type} {enc : TypeId × Value → H} {W : World} {r : Reach} {base b0 : Nat} {spare : Nat → Bool} {held : Bool} {v : Value} {d : DataW H} {p : List MemPlace}
    (hv : Value.okWide Tryd.prog W r b0 31 v) (h : DataW.Trod enc Tryd.prog W base spare held 31 v d p) :
    ∃ (k : Sl × Sl) (u : Value) (L : List Wh), v = .agg #[.int .u64 ((k.1).m.toNat : Int), .int .u64 ((k.1).q.toNat : Int), .int .u64 ((k.1).z.toNat : Int), .int .u64 ((k.1).r.a.toNat : Int), .int .u64 ((k.1).r.b.toNat : Int), .int .u64 ((k.1).r.c.toNat : Int), .int .u64 ((k.1).r.d.toNat : Int), .int .u64 ((k.2).m.toNat : Int), .int .u64 ((k.2).q.toNat : Int), .int .u64 ((k.2).z.toNat : Int), .int .u64 ((k.2).r.a.toNat : Int), .int .u64 ((k.2).r.b.toNat : Int), .int .u64 ((k.2).r.c.toNat : Int), .int .u64 ((k.2).r.d.toNat : Int), u] ∧ Whs W u L := by
  obtain ⟨cs, rfl, hsz⟩ := okWide_struct Tryd.underlying31 hv
  rw [cellsWt] at hsz
  obtain ⟨l⟩ := cs
  match l, hsz with
  | [c0, c1, c2, c3, c4, c5, c6, c7, c8, c9, c10, c11, c12, c13, c14], _ =>
    obtain ⟨fuel, hf⟩ := h
    obtain ⟨y0, y1, n, _, _, h0, h1⟩ := trod_struct2 Tryd.underlying31 hf
    simp only [Value.cells, cellsDk, cellsWs, List.drop_zero, List.drop_succ_cons, List.take_succ_cons, List.take_zero] at h0 h1
    obtain ⟨z0, z1, m, _, _, g0, g1⟩ := trod_struct2 Tryd.underlying28 h0
    simp only [cellsSl, List.drop_zero, List.drop_succ_cons, List.take_succ_cons, List.take_zero] at g0 g1
    obtain ⟨s, hs⟩ := slot_trod g0
    obtain ⟨t, ht⟩ := slot_trod g1
    obtain ⟨L, hL⟩ := whs_trod h1
    simp only [List.cons.injEq, and_true] at hs ht
    obtain ⟨rfl, rfl, rfl, rfl, rfl, rfl, rfl⟩ := hs
    obtain ⟨rfl, rfl, rfl, rfl, rfl, rfl, rfl⟩ := ht
    exact ⟨(s, t), c14, L, rfl, hL⟩
set_option maxRecDepth 100000 in
theorem gw_laid {W : World} {rest : List (String × DataW Unit)} (h : laidMet Tryd.prog (("loop.example/belfry/impl.wireSession", DataW.agg [.lit (.int .i64 3), .lit (.int .i64 1), .lit (.int .i64 1000000), .lit (.int .i64 3)]) :: rest) W) : Gw W := by
  obtain ⟨ps, ⟨g', t', cs, fuel, p, q, hg', ht', hvar, hd, _, _⟩, _⟩ := h
  have hg : Tryd.prog.globalNamed "loop.example/belfry/impl.wireSession" = some 0 := by kernel_rfl
  obtain rfl := Option.some.inj (hg.symm.trans hg')
  have hty : (Tryd.prog.globals[0]?).map (·.type) = some 71 := by kernel_rfl
  obtain rfl := Option.some.inj (hty.symm.trans ht')
  obtain ⟨y0, y1, y2, y3, m, hx, hl, h0, h1, h2, h3⟩ := trod_struct4 Tryd.underlying71 hd
  have hc : Tryd.prog.cellsOf 71 = 4 := by kernel_rfl
  rw [hc] at hl
  have hcell := fun i => World.var?_cell hg hvar i
  obtain ⟨l⟩ := cs
  match l, hl with
  | [c0, c1, c2, c3], _ =>
    simp only [cellsI, List.drop_zero, List.drop_succ_cons, List.take_succ_cons, List.take_zero] at h0 h1 h2 h3
    obtain ⟨x0, e0, d0, _⟩ := DataW.trod_int Tryd.underlying3 h0
    obtain ⟨x1, e1, d1, _⟩ := DataW.trod_int Tryd.underlying3 h1
    obtain ⟨x2, e2, d2, _⟩ := DataW.trod_int Tryd.underlying3 h2
    obtain ⟨x3, e3, d3, _⟩ := DataW.trod_int Tryd.underlying3 h3
    simp only [List.cons.injEq, and_true] at e0 e1 e2 e3
    subst e0 e1 e2 e3 d0 d1 d2 d3
    simp at hx
    obtain ⟨⟨rfl, rfl, rfl, rfl⟩, -⟩ := hx
    exact ⟨by rw [hcell 0]; rfl, by rw [hcell 1]; rfl, by rw [hcell 2]; rfl, by rw [hcell 3]; rfl⟩
end Opens
end Go.Proofs.YteaaaojafipllaaDoor
