/-
  A client that came in, opened; what start-up lays of the numbers of sessions.
-/
import Derived.Test.YtdpbgcilkidbaaaDoorOpens0
import Derived.Test.YtdpbgcilkidbaaaDoorOpensP
import Derived.Test.YtdpbgcilkidbaaaDoorCl8
import Derived.Deep.Slices
import Derived.MakeChecks
import Derived.Lib.SmallJoins
namespace Go.Proofs.YtdpbgcilkidbaaaDoor
open Go.ChangeShapes Go.WideShapes Go.ChangeAt Go.RowKit Go.Joins
namespace Opens
theorem cellsCl : Tryd.prog.cellsOf 29 = 15 := by kernel_rfl
theorem cellsIs : Tryd.prog.cellsOf 27 = 1 := by kernel_rfl
set_option maxRecDepth 100000 in
theorem point_trod {H : Type} {enc : TypeId × Value → H} {W : World} {base n : Nat} {spare : Nat → Bool} {held : Bool} {c0 c1 c2 c3 c4 : Value} {x : DataW H × List MemPlace}
    (hf : DataW.trod enc Tryd.prog W base spare held n 26 [c0, c1, c2, c3, c4] = some x) : ∃ (s : Int) (q : Qd), [c0, c1, c2, c3, c4] = [.int .i64 s, .int .u64 ((q.a).toNat : Int), .int .u64 ((q.b).toNat : Int), .int .u64 ((q.c).toNat : Int), .int .u64 ((q.d).toNat : Int)] := by
  obtain ⟨y0, y1, n, _, _, h0, h1⟩ := trod_struct2 Tryd.underlying26 hf
  simp only [cellsI, cells43, List.drop_zero, List.drop_succ_cons, List.take_succ_cons, List.take_zero] at h0 h1
  obtain ⟨z0, z1, z2, z3, m, _, _, g0, g1, g2, g3⟩ := trod_struct4 Tryd.underlying24 h1
  simp only [cells64, List.drop_zero, List.drop_succ_cons, List.take_succ_cons, List.take_zero] at g0 g1 g2 g3
  obtain ⟨x, e, _, _⟩ := DataW.trod_int Tryd.underlying3 h0
  obtain ⟨xa, e0, _, wa⟩ := DataW.trod_int Tryd.underlying22 g0
  obtain ⟨xb, e1, _, wb⟩ := DataW.trod_int Tryd.underlying22 g1
  obtain ⟨xc, e2, _, wc⟩ := DataW.trod_int Tryd.underlying22 g2
  obtain ⟨xd, e3, _, wd⟩ := DataW.trod_int Tryd.underlying22 g3
  obtain ⟨ua, rfl⟩ := of_wf wa
  obtain ⟨ub, rfl⟩ := of_wf wb
  obtain ⟨uc, rfl⟩ := of_wf wc
  obtain ⟨ud, rfl⟩ := of_wf wd
  simp at e e0 e1 e2 e3
  subst e e0 e1 e2 e3
  exact ⟨x, ⟨ua, ub, uc, ud⟩, rfl⟩
theorem choose_ints {P : Nat → Int → Prop} : ∀ n : Nat, (∀ i, i < n → ∃ q, P i q) → ∃ L : List Int, L.length = n ∧ ∀ (i : Nat) (h : i < L.length), P i L[i]
  | 0, _ => ⟨[], rfl, fun i h => by simp at h⟩
  | n + 1, h => by
    obtain ⟨L, hl, hL⟩ := choose_ints n (fun i hi => h i (by omega))
    obtain ⟨q, hq⟩ := h n (by omega)
    refine ⟨L ++ [q], by simp [hl], fun i hi => ?_⟩
    by_cases e : i < L.length
    · rw [List.getElem_append_left e]; exact hL i e
    · have e2 : i = L.length := by simp at hi; omega
      subst e2
      rw [List.getElem_concat_length rfl, hl]
      exact hq
set_option maxRecDepth 100000 in
theorem ints_trod {H : Type} {enc : TypeId × Value → H} {W : World} {base n : Nat} {spare : Nat → Bool} {held : Bool} {c : Value} {x : DataW H × List MemPlace}
    (hf : DataW.trod enc Tryd.prog W base spare held n 27 [c] = some x) : ∃ X : List Int, Its W c X := by
  rcases DataW.trod_slice Tryd.underlying27 hf with ⟨hcs, _⟩ | ⟨a, len, cap, elems, rest, n, _, hcs, _, hb, hl, hm, hlen, hel, _, _⟩
  · simp at hcs
    subst hcs
    exact ⟨[], .inl ⟨rfl, rfl⟩⟩
  · simp at hcs
    subst hcs
    have each : ∀ i, i < len → ∃ q : Int, W.cell? (a.add i) = some (.int .i64 q) := fun i hi => by
      have h1 := hel i hi
      rw [cellsI, List.getElem?_eq_getElem (by omega), Option.bind_eq_some_iff] at h1
      obtain ⟨cs, h2, h3⟩ := h1
      obtain ⟨_, hln, hcell⟩ := World.cells?_some h2
      obtain ⟨q, e, _, _⟩ := DataW.trod_int Tryd.underlying3 h3
      subst e
      refine ⟨q, ?_⟩
      have := hcell 0 (by omega)
      simpa [Addr.add] using this
    obtain ⟨L, hL, hc⟩ := choose_ints len each
    refine ⟨L, .inr ⟨a, cap, by rw [hL], by omega, hm, fun h0 => ?_, fun i hi => hc i hi⟩⟩
    have h1 := block_lt_of_cell (hc 0 h0)
    rwa [add_block] at h1
set_option maxRecDepth 100000 in
theorem open_client {H : Type} {enc : TypeId × Value → H} {W : World} {r : Reach} {base b0 : Nat} {spare : Nat → Bool} {held : Bool} {v : Value} {d : DataW H} {p : List MemPlace}
    (hv : Value.okWide Tryd.prog W r b0 29 v) (h : DataW.Trod enc Tryd.prog W base spare held 29 v d p) :
    ∃ (c : Cln) (u : Value) (X : List Int), v = .agg #[.int .i64 c.n, .int .i64 c.m, .int .i64 c.se, .int .i64 c.ph, .int .i64 c.gs, .int .u64 ((c.gr.a).toNat : Int), .int .u64 ((c.gr.b).toNat : Int), .int .u64 ((c.gr.c).toNat : Int), .int .u64 ((c.gr.d).toNat : Int), u, .int .i64 c.ps, .int .u64 ((c.pr.a).toNat : Int), .int .u64 ((c.pr.b).toNat : Int), .int .u64 ((c.pr.c).toNat : Int), .int .u64 ((c.pr.d).toNat : Int)] ∧ Its W u X := by
  obtain ⟨cs, rfl, hsz⟩ := okWide_struct Tryd.underlying29 hv
  rw [cellsCl] at hsz
  obtain ⟨l⟩ := cs
  match l, hsz with
  | [c0, c1, c2, c3, c4, c5, c6, c7, c8, c9, c10, c11, c12, c13, c14], _ =>
    obtain ⟨fuel, hf⟩ := h
    obtain ⟨xs, n, _, _, _, hlen, hh⟩ := DataW.trod_struct Tryd.underlying29 hf
    match xs, hlen with
    | [y0, y1, y2, y3, y4, y5, y6], _ =>
      have h0 := hh 0 _ rfl
      have h1 := hh 1 _ rfl
      have h2 := hh 2 _ rfl
      have h3 := hh 3 _ rfl
      have h4 := hh 4 _ rfl
      have h5 := hh 5 _ rfl
      have h6 := hh 6 _ rfl
      simp [Value.cells, cellsI, cellsP, cellsIs] at h0 h1 h2 h3 h4 h5 h6
      obtain ⟨x0, e0, _, _⟩ := DataW.trod_int Tryd.underlying3 h0
      obtain ⟨x1, e1, _, _⟩ := DataW.trod_int Tryd.underlying3 h1
      obtain ⟨x2, e2, _, _⟩ := DataW.trod_int Tryd.underlying3 h2
      obtain ⟨x3, e3, _, _⟩ := DataW.trod_int Tryd.underlying3 h3
      obtain ⟨gs, gr, e4⟩ := point_trod h4
      obtain ⟨X, hX⟩ := ints_trod h5
      obtain ⟨ps, pr, e6⟩ := point_trod h6
      simp only [List.cons.injEq, and_true] at e0 e1 e2 e3 e4 e6
      obtain ⟨rfl, rfl, rfl, rfl, rfl⟩ := e4
      obtain ⟨rfl, rfl, rfl, rfl, rfl⟩ := e6
      subst e0 e1 e2 e3
      exact ⟨⟨x0, x1, x2, x3, gs, gr, ps, pr⟩, c9, X, rfl, hX⟩
set_option maxRecDepth 100000 in
theorem gs_laid {W : World} {rest : List (String × DataW Unit)} (h : laidMet Tryd.prog (("loop.example/belfry/impl.wireSession", DataW.agg [.lit (.int .i64 3), .lit (.int .i64 1), .lit (.int .i64 1000000), .lit (.int .i64 3)]) :: rest) W) : Gs W := by
  obtain ⟨ps, ⟨g', t', cs, fuel, p, q, hg', ht', hvar, hd, _, _⟩, _⟩ := h
  have hg : Tryd.prog.globalNamed "loop.example/belfry/impl.wireSession" = some 0 := by kernel_rfl
  obtain rfl := Option.some.inj (hg.symm.trans hg')
  have hty : (Tryd.prog.globals[0]?).map (·.type) = some 57 := by kernel_rfl
  obtain rfl := Option.some.inj (hty.symm.trans ht')
  obtain ⟨y0, y1, y2, y3, m, hx, hl, h0, h1, h2, h3⟩ := trod_struct4 Tryd.underlying57 hd
  have hc : Tryd.prog.cellsOf 57 = 4 := by kernel_rfl
  rw [hc] at hl
  have hcell := fun i => World.var?_cell hg hvar i
  obtain ⟨l⟩ := cs
  match l, hl with
  | [c0, c1, c2, c3], _ =>
    simp only [cellsI, List.drop_zero, List.drop_succ_cons, List.take_succ_cons, List.take_zero] at h0 h1 h2 h3
    obtain ⟨x0, e0, d0, _⟩ := DataW.trod_int Tryd.underlying3 h0
    obtain ⟨x1, e1, d1, _⟩ := DataW.trod_int Tryd.underlying3 h1
    obtain ⟨x2, e2, d2, _⟩ := DataW.trod_int Tryd.underlying3 h2
    obtain ⟨x3, e3, d3, _⟩ := DataW.trod_int Tryd.underlying3 h3
    simp only [List.cons.injEq, and_true] at e0 e1 e2 e3
    subst e0 e1 e2 e3 d0 d1 d2 d3
    simp at hx
    obtain ⟨⟨rfl, rfl, rfl, rfl⟩, -⟩ := hx
    exact ⟨by rw [hcell 0]; rfl, by rw [hcell 1]; rfl, by rw [hcell 2]; rfl, by rw [hcell 3]; rfl⟩
end Opens
end Go.Proofs.YtdpbgcilkidbaaaDoor
