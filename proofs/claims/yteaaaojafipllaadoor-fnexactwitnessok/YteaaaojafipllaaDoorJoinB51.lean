/-
  What came in, opened: a digest; a string.
-/
import Derived.Test.YteaaaojafipllaaDoorRows
import Derived.Test.YteaaaojafipllaaDoorPlain
import Derived.Test.YteaaaojafipllaaDoorJoinB50
import Derived.WalkKit
import Derived.ProofKit
import Derived.OpenShut
import Derived.ShutString
import Derived.ChangeOld
import Derived.Below
import Derived.Lib.SmallJoins
import Derived.SliceStrings
import Derived.Deep.Slices
namespace Go.Proofs.YteaaaojafipllaaDoor
open Go.ChangeShapes Go.WideShapes Go.ChangeAt Go.RowKit Go.Joins
namespace Opens
theorem cells43 : Tryd.prog.cellsOf 24 = 4 := by kernel_rfl
theorem of_wf {a : Int} (h : (Lit.int .u64 a).wf = true) : ∃ x : UInt64, a = (x.toNat : Int) := by
  have hb := bounds_u64 h
  refine ⟨UInt64.ofNat a.toNat, ?_⟩
  rw [UInt64.toNat_ofNat']
  omega

set_option maxRecDepth 100000 in
/-- A digest that came in, opened. -/
theorem open_digest {H : Type} {enc : TypeId × Value → H} {W : World} {r : Reach} {base b0 : Nat} {spare : Nat → Bool} {held : Bool} {v : Value} {d : DataW H} {p : List MemPlace}
    (hv : Value.okWide Tryd.prog W r b0 24 v) (h : DataW.Trod enc Tryd.prog W base spare held 24 v d p) : ∃ q : Qd, v = .agg #[.int .u64 ((q).a.toNat : Int), .int .u64 ((q).b.toNat : Int), .int .u64 ((q).c.toNat : Int), .int .u64 ((q).d.toNat : Int)] := by
  obtain ⟨c0, c1, c2, c3, y0, y1, y2, y3, m, rfl, rfl, rfl, hy0, hy1, hy2, hy3⟩ := open_agg4 Tryd.underlying24 (by kernel_rfl) cells43 hv h
  obtain ⟨a, e0, rfl, wa⟩ := DataW.trod_int Tryd.underlying22 hy0
  obtain ⟨b, e1, rfl, wb⟩ := DataW.trod_int Tryd.underlying22 hy1
  obtain ⟨c, e2, rfl, wc⟩ := DataW.trod_int Tryd.underlying22 hy2
  obtain ⟨d, e3, rfl, wd⟩ := DataW.trod_int Tryd.underlying22 hy3
  obtain ⟨xa, rfl⟩ := of_wf wa
  obtain ⟨xb, rfl⟩ := of_wf wb
  obtain ⟨xc, rfl⟩ := of_wf wc
  obtain ⟨xd, rfl⟩ := of_wf wd
  simp at e0 e1 e2 e3
  subst e0 e1 e2 e3
  exact ⟨⟨xa, xb, xc, xd⟩, rfl⟩

end Opens
end Go.Proofs.YteaaaojafipllaaDoor

/-
  A slice of digests that came in, opened.
-/
namespace Go.Proofs.YteaaaojafipllaaDoor
open Go.ChangeShapes Go.WideShapes Go.ChangeAt Go.RowKit Go.Joins
namespace Opens
theorem cells64 : Tryd.prog.cellsOf 22 = 1 := by kernel_rfl
set_option maxRecDepth 100000 in
theorem digest_cells {H : Type} {enc : TypeId × Value → H} {W : World} {base n : Nat} {spare : Nat → Bool} {held : Bool} {a : Addr} {cs : List Value} {x : DataW H × List MemPlace}
    (h1 : W.cells? base a 4 = some cs) (h2 : DataW.trod enc Tryd.prog W base spare held n 24 cs = some x) : ∃ q : Qd, DAt W a q := by
  obtain ⟨_, hlen, hcell⟩ := World.cells?_some h1
  obtain ⟨y0, y1, y2, y3, m, _, _, h0, h1', h2', h3⟩ := trod_struct4 Tryd.underlying24 h2
  match cs, hlen with
  | [c0, c1, c2, c3], _ =>
    simp only [cells64, List.drop_zero, List.drop_succ_cons, List.take_succ_cons, List.take_zero] at h0 h1' h2' h3
    obtain ⟨xa, e0, _, wa⟩ := DataW.trod_int Tryd.underlying22 h0
    obtain ⟨xb, e1, _, wb⟩ := DataW.trod_int Tryd.underlying22 h1'
    obtain ⟨xc, e2, _, wc⟩ := DataW.trod_int Tryd.underlying22 h2'
    obtain ⟨xd, e3, _, wd⟩ := DataW.trod_int Tryd.underlying22 h3
    obtain ⟨ua, rfl⟩ := of_wf wa
    obtain ⟨ub, rfl⟩ := of_wf wb
    obtain ⟨uc, rfl⟩ := of_wf wc
    obtain ⟨ud, rfl⟩ := of_wf wd
    simp at e0 e1 e2 e3
    subst e0 e1 e2 e3
    refine ⟨⟨ua, ub, uc, ud⟩, ?_, ?_, ?_, ?_⟩
    · have := hcell 0 (by omega); simpa [Addr.add] using this
    · have := hcell 1 (by omega); simpa [Addr.add] using this
    · have := hcell 2 (by omega); simpa [Addr.add] using this
    · have := hcell 3 (by omega); simpa [Addr.add] using this
theorem choose_list {P : Nat → Qd → Prop} : ∀ n : Nat, (∀ i, i < n → ∃ q, P i q) → ∃ L : List Qd, L.length = n ∧ ∀ (i : Nat) (h : i < L.length), P i L[i]
  | 0, _ => ⟨[], rfl, fun i h => by simp at h⟩
  | n + 1, h => by
    obtain ⟨L, hl, hL⟩ := choose_list n (fun i hi => h i (by omega))
    obtain ⟨q, hq⟩ := h n (by omega)
    refine ⟨L ++ [q], by simp [hl], fun i hi => ?_⟩
    by_cases e : i < L.length
    · rw [List.getElem_append_left e]; exact hL i e
    · have e2 : i = L.length := by simp at hi; omega
      subst e2
      rw [List.getElem_concat_length rfl, hl]
      exact hq
end Opens
end Go.Proofs.YteaaaojafipllaaDoor
