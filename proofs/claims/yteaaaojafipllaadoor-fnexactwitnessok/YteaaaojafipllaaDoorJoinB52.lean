/-
  A slot that came in, opened; and a disk.
-/
import Derived.Test.YteaaaojafipllaaDoorJoinB34
import Derived.Test.YteaaaojafipllaaDoorJoinB51
namespace Go.Proofs.YteaaaojafipllaaDoor
open Go.ChangeShapes Go.WideShapes Go.ChangeAt Go.RowKit Go.Joins
namespace Opens
theorem cellsSl : Tryd.prog.cellsOf 26 = 7 := by kernel_rfl
theorem cellsDg : Tryd.prog.cellsOf 24 = 4 := by kernel_rfl
set_option maxRecDepth 100000 in
theorem slot_trod {H : Type} {enc : TypeId × Value → H} {W : World} {base n : Nat} {spare : Nat → Bool} {held : Bool} {c0 c1 c2 c3 c4 c5 c6 : Value} {x : DataW H × List MemPlace}
    (hf : DataW.trod enc Tryd.prog W base spare held n 26 [c0, c1, c2, c3, c4, c5, c6] = some x) : ∃ s : Sl, [c0, c1, c2, c3, c4, c5, c6] = [Value.int IntKind.u64 ((s).m.toNat : Int), Value.int IntKind.u64 ((s).q.toNat : Int), Value.int IntKind.u64 ((s).z.toNat : Int), Value.int IntKind.u64 ((s).r.a.toNat : Int), Value.int IntKind.u64 ((s).r.b.toNat : Int), Value.int IntKind.u64 ((s).r.c.toNat : Int), Value.int IntKind.u64 ((s).r.d.toNat : Int)] := by
  obtain ⟨y0, y1, y2, y3, m, _, _, h0, h1, h2, h3⟩ := trod_struct4 Tryd.underlying26 hf
  simp only [cells64, cellsDg, List.drop_zero, List.drop_succ_cons, List.take_succ_cons, List.take_zero] at h0 h1 h2 h3
  obtain ⟨z0, z1, z2, z3, k, _, _, g0, g1, g2, g3⟩ := trod_struct4 Tryd.underlying24 h3
  simp only [cells64, List.drop_zero, List.drop_succ_cons, List.take_succ_cons, List.take_zero] at g0 g1 g2 g3
  obtain ⟨xm, em, _, wm⟩ := DataW.trod_int Tryd.underlying22 h0
  obtain ⟨xq, eq, _, wq⟩ := DataW.trod_int Tryd.underlying22 h1
  obtain ⟨xz, ez, _, wz⟩ := DataW.trod_int Tryd.underlying22 h2
  obtain ⟨xa, e0, _, wa⟩ := DataW.trod_int Tryd.underlying22 g0
  obtain ⟨xb, e1, _, wb⟩ := DataW.trod_int Tryd.underlying22 g1
  obtain ⟨xc, e2, _, wc⟩ := DataW.trod_int Tryd.underlying22 g2
  obtain ⟨xd, e3, _, wd⟩ := DataW.trod_int Tryd.underlying22 g3
  obtain ⟨um, rfl⟩ := of_wf wm
  obtain ⟨uq, rfl⟩ := of_wf wq
  obtain ⟨uz, rfl⟩ := of_wf wz
  obtain ⟨ua, rfl⟩ := of_wf wa
  obtain ⟨ub, rfl⟩ := of_wf wb
  obtain ⟨uc, rfl⟩ := of_wf wc
  obtain ⟨ud, rfl⟩ := of_wf wd
  simp at em eq ez e0 e1 e2 e3
  subst em eq ez e0 e1 e2 e3
  exact ⟨⟨um, uq, uz, ⟨ua, ub, uc, ud⟩⟩, rfl⟩
set_option maxRecDepth 100000 in
theorem open_slot {H : Type} {enc : TypeId × Value → H} {W : World} {r : Reach} {base b0 : Nat} {spare : Nat → Bool} {held : Bool} {v : Value} {d : DataW H} {p : List MemPlace}
    (hv : Value.okWide Tryd.prog W r b0 26 v) (h : DataW.Trod enc Tryd.prog W base spare held 26 v d p) : ∃ s : Sl, v = .agg #[.int .u64 ((s).m.toNat : Int), .int .u64 ((s).q.toNat : Int), .int .u64 ((s).z.toNat : Int), .int .u64 ((s).r.a.toNat : Int), .int .u64 ((s).r.b.toNat : Int), .int .u64 ((s).r.c.toNat : Int), .int .u64 ((s).r.d.toNat : Int)] := by
  obtain ⟨cs, rfl, hsz⟩ := okWide_struct Tryd.underlying26 hv
  rw [cellsSl] at hsz
  obtain ⟨l⟩ := cs
  match l, hsz with
  | [c0, c1, c2, c3, c4, c5, c6], _ =>
    obtain ⟨fuel, hf⟩ := h
    obtain ⟨s, hs⟩ := slot_trod hf
    exact ⟨s, by rw [hs]⟩
theorem cellsDk : Tryd.prog.cellsOf 28 = 14 := by kernel_rfl
set_option maxRecDepth 100000 in
theorem open_disk {H : Type} {enc : TypeId × Value → H} {W : World} {r : Reach} {base b0 : Nat} {spare : Nat → Bool} {held : Bool} {v : Value} {d : DataW H} {p : List MemPlace}
    (hv : Value.okWide Tryd.prog W r b0 28 v) (h : DataW.Trod enc Tryd.prog W base spare held 28 v d p) : ∃ s t : Sl, v = .agg #[.int .u64 ((s).m.toNat : Int), .int .u64 ((s).q.toNat : Int), .int .u64 ((s).z.toNat : Int), .int .u64 ((s).r.a.toNat : Int), .int .u64 ((s).r.b.toNat : Int), .int .u64 ((s).r.c.toNat : Int), .int .u64 ((s).r.d.toNat : Int), .int .u64 ((t).m.toNat : Int), .int .u64 ((t).q.toNat : Int), .int .u64 ((t).z.toNat : Int), .int .u64 ((t).r.a.toNat : Int), .int .u64 ((t).r.b.toNat : Int), .int .u64 ((t).r.c.toNat : Int), .int .u64 ((t).r.d.toNat : Int)] := by
  obtain ⟨cs, rfl, hsz⟩ := okWide_struct Tryd.underlying28 hv
  rw [cellsDk] at hsz
  obtain ⟨l⟩ := cs
  match l, hsz with
  | [c0, c1, c2, c3, c4, c5, c6, b0, b1, b2, b3, b4, b5, b6], _ =>
    obtain ⟨fuel, hf⟩ := h
    obtain ⟨y0, y1, n, _, _, h0, h1⟩ := trod_struct2 Tryd.underlying28 hf
    simp only [Value.cells, cellsSl, List.drop_zero, List.drop_succ_cons, List.take_succ_cons, List.take_zero] at h0 h1
    obtain ⟨s, hs⟩ := slot_trod h0
    obtain ⟨t, ht⟩ := slot_trod h1
    simp only [List.cons.injEq, and_true] at hs ht
    obtain ⟨rfl, rfl, rfl, rfl, rfl, rfl, rfl⟩ := hs
    obtain ⟨rfl, rfl, rfl, rfl, rfl, rfl, rfl⟩ := ht
    exact ⟨s, t, rfl⟩
end Opens
end Go.Proofs.YteaaaojafipllaaDoor

/-
  A point that came in, opened.
-/
namespace Go.Proofs.YteaaaojafipllaaDoor
open Go.ChangeShapes Go.WideShapes Go.ChangeAt Go.RowKit Go.Joins
namespace Opens
theorem cellsP : Tryd.prog.cellsOf 65 = 5 := by kernel_rfl
theorem cellsI : Tryd.prog.cellsOf 3 = 1 := by kernel_rfl
set_option maxRecDepth 100000 in
theorem open_point {H : Type} {enc : TypeId × Value → H} {W : World} {r : Reach} {base b0 : Nat} {spare : Nat → Bool} {held : Bool} {v : Value} {d : DataW H} {p : List MemPlace}
    (hv : Value.okWide Tryd.prog W r b0 65 v) (h : DataW.Trod enc Tryd.prog W base spare held 65 v d p) : ∃ (n : Int) (q : Qd), v = .agg #[.int .i64 n, .int .u64 ((q.a).toNat : Int), .int .u64 ((q.b).toNat : Int), .int .u64 ((q.c).toNat : Int), .int .u64 ((q.d).toNat : Int)] := by
  obtain ⟨cs, rfl, hsz⟩ := okWide_struct Tryd.underlying65 hv
  rw [cellsP] at hsz
  obtain ⟨l⟩ := cs
  match l, hsz with
  | [c0, c1, c2, c3, c4], _ =>
    obtain ⟨fuel, hf⟩ := h
    obtain ⟨y0, y1, n, _, _, h0, h1⟩ := trod_struct2 Tryd.underlying65 hf
    simp only [Value.cells, cellsI, cells43, List.drop_zero, List.drop_succ_cons, List.take_succ_cons, List.take_zero] at h0 h1
    obtain ⟨z0, z1, z2, z3, m, _, _, g0, g1, g2, g3⟩ := trod_struct4 Tryd.underlying24 h1
    simp only [cells64, List.drop_zero, List.drop_succ_cons, List.take_succ_cons, List.take_zero] at g0 g1 g2 g3
    obtain ⟨x, e, _, _⟩ := DataW.trod_int Tryd.underlying3 h0
    obtain ⟨xa, e0, _, wa⟩ := DataW.trod_int Tryd.underlying22 g0
    obtain ⟨xb, e1, _, wb⟩ := DataW.trod_int Tryd.underlying22 g1
    obtain ⟨xc, e2, _, wc⟩ := DataW.trod_int Tryd.underlying22 g2
    obtain ⟨xd, e3, _, wd⟩ := DataW.trod_int Tryd.underlying22 g3
    obtain ⟨ua, rfl⟩ := of_wf wa
    obtain ⟨ub, rfl⟩ := of_wf wb
    obtain ⟨uc, rfl⟩ := of_wf wc
    obtain ⟨ud, rfl⟩ := of_wf wd
    simp at e e0 e1 e2 e3
    subst e e0 e1 e2 e3
    exact ⟨x, ⟨ua, ub, uc, ud⟩, rfl⟩
end Opens
end Go.Proofs.YteaaaojafipllaaDoor
