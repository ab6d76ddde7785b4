/-
  A point that came in, opened.
-/
import Derived.Test.YtdpbgcilkidbaaaDoorOpensD
namespace Go.Proofs.YtdpbgcilkidbaaaDoor
open Go.ChangeShapes Go.WideShapes Go.ChangeAt Go.RowKit Go.Joins
namespace Opens
theorem cellsP : Tryd.prog.cellsOf 26 = 5 := by kernel_rfl
theorem cellsI : Tryd.prog.cellsOf 3 = 1 := by kernel_rfl
set_option maxRecDepth 100000 in
theorem open_point {H : Type} {enc : TypeId × Value → H} {W : World} {r : Reach} {base b0 : Nat} {spare : Nat → Bool} {held : Bool} {v : Value} {d : DataW H} {p : List MemPlace}
    (hv : Value.okWide Tryd.prog W r b0 26 v) (h : DataW.Trod enc Tryd.prog W base spare held 26 v d p) : ∃ (n : Int) (q : Qd), v = .agg #[.int .i64 n, .int .u64 ((q.a).toNat : Int), .int .u64 ((q.b).toNat : Int), .int .u64 ((q.c).toNat : Int), .int .u64 ((q.d).toNat : Int)] := by
  obtain ⟨cs, rfl, hsz⟩ := okWide_struct Tryd.underlying26 hv
  rw [cellsP] at hsz
  obtain ⟨l⟩ := cs
  match l, hsz with
  | [c0, c1, c2, c3, c4], _ =>
    obtain ⟨fuel, hf⟩ := h
    obtain ⟨y0, y1, n, _, _, h0, h1⟩ := trod_struct2 Tryd.underlying26 hf
    simp only [Value.cells, cellsI, cells43, List.drop_zero, List.drop_succ_cons, List.take_succ_cons, List.take_zero] at h0 h1
    obtain ⟨z0, z1, z2, z3, m, _, _, g0, g1, g2, g3⟩ := trod_struct4 Tryd.underlying24 h1
    simp only [cells64, List.drop_zero, List.drop_succ_cons, List.take_succ_cons, List.take_zero] at g0 g1 g2 g3
    obtain ⟨x, e, _, _⟩ := DataW.trod_int Tryd.underlying3 h0
    obtain ⟨xa, e0, _, wa⟩ := DataW.trod_int Tryd.underlying22 g0
    obtain ⟨xb, e1, _, wb⟩ := DataW.trod_int Tryd.underlying22 g1
    obtain ⟨xc, e2, _, wc⟩ := DataW.trod_int Tryd.underlying22 g2
    obtain ⟨xd, e3, _, wd⟩ := DataW.trod_int Tryd.underlying22 g3
    obtain ⟨ua, rfl⟩ := of_wf wa
    obtain ⟨ub, rfl⟩ := of_wf wb
    obtain ⟨uc, rfl⟩ := of_wf wc
    obtain ⟨ud, rfl⟩ := of_wf wd
    simp at e e0 e1 e2 e3
    subst e e0 e1 e2 e3
    exact ⟨x, ⟨ua, ub, uc, ud⟩, rfl⟩
end Opens
end Go.Proofs.YtdpbgcilkidbaaaDoor
