/-
  For every number: WireName of the program answers as WireName of the specification; the table of names is tied to the program's text. No condition.
-/
import Derived.Test.YtcghliiodehijaaDoorWName
import Derived.Test.YtcghliiodehijaaDoorCards
import Derived.Test.YtcghliiodehijaaDoorTie
import Derived.Test.YtcghliiodehijaaDoorOpens0
import Derived.ProofKit
import Derived.OpenShut
import Derived.ShutString
import Derived.ChangeOld
import Derived.Below
import Derived.OpenVars
import Derived.Deep.DeepHandedRow
import Derived.Lib.LaidTab
namespace Go.Proofs.YtcghliiodehijaaDoor
open Go.ChangeShapes Go.WideShapes Go.ChangeAt Go.RowKit Go.Joins
namespace FnExactWireName
theorem tab9 {W : World} (h : laidMetH Tryd.prog Rows.fnExactWireNameRow.laid W) : Tab9 W := by
  rw [MakeChecks.laidMetH_plain _ _ _ (by kernel_rfl)] at h
  have c := fun (i : Nat) (b : List UInt8) (hi : ([[], [97, 115, 107], [104, 101, 97, 100], [118, 111, 117, 99, 104], [112, 114, 111, 118, 101], [103, 114, 111, 119, 116, 104], [97, 99, 107], [102, 101, 116, 99, 104], [114, 97, 110, 103, 101]] : List (List UInt8))[i]? = some b) => str_tab (P := Tryd.prog) (name := "loop.example/belfry/impl.wireNames") (tab := [[], [97, 115, 107], [104, 101, 97, 100], [118, 111, 117, 99, 104], [112, 114, 111, 118, 101], [103, 114, 111, 119, 116, 104], [97, 99, 107], [102, 101, 116, 99, 104], [114, 97, 110, 103, 101]]) (rest := []) (g := 0) (n := 9) (by kernel_rfl) (by kernel_rfl) Tryd.underlying24 Tryd.underlying9 (by kernel_rfl) h i b hi
  exact ⟨c 0 _ rfl, c 1 _ rfl, c 2 _ rfl, c 3 _ rfl, c 4 _ rfl, c 5 _ rfl, c 6 _ rfl, c 7 _ rfl, c 8 _ rfl⟩
theorem contract (H : Type) (enc : TypeId × Value → H) (W : World) (base : Nat) (args : Array Value) (ds gs : List (DataW H)) (before : List MemPlace)
    (hval : ∀ (j : Nat) t v, Tryd.f3.params[j]? = some t → args[j]? = some v → Value.okWide Tryd.prog W .any base t v)
    (hW : DataW.Whole enc Tryd.prog Tryd.f3.params.toList Rows.fnExactWireNameSpec.vars false W args.toList ds gs before) (hL : laidMetH Tryd.prog Rows.fnExactWireNameRow.laid W) :
    Calls Tryd.prog 3 args W fun e W' => ∃ v, e = .returned v ∧ Rows.fnExactWireNameSpec.post enc Tryd.prog Tryd.f3 false true false false W args v W' := by
  have hW' := hW
  obtain ⟨p, q, hA0, hV, rfl, hfz, hnd⟩ := hW
  have hA : DataW.TrodAll enc Tryd.prog W 0 (fun _ => true) true Tryd.f3.params.toList args.toList ds p := hA0
  rw [Tryd.params3] at hA hval
  obtain ⟨v0, vs0, d0, ds0, p0, q0, hargs, rfl, rfl, h0, r0⟩ := trodAll_cons hA
  obtain ⟨rfl, rfl, rfl⟩ := trodAll_nil r0
  obtain rfl : args = #[v0] := by cases args; simp_all
  obtain ⟨x0, rfl, rfl, rfl, hx0⟩ := open_int Tryd.underlying3 (hval 0 3 v0 rfl rfl) h0
  clear hA0
  obtain ⟨g, t, cs, fuel, d, pv, rfl, hg, ht, hcs, htr, rfl⟩ := trodVars_one hV
  refine (lawWireName x0 W (tab9 hL)).mono fun e W' ⟨he, hw⟩ => ?_
  subst he
  subst hw
  have bel : Below W'.heap.size W' W' := Below.refl _ _
  exact ⟨_, rfl, _, _, _, [], _, _, hW', trodAll_mk1 (shut_bool Tryd.underlying4 _), (trodAll_cons_mk (shut_int Tryd.underlying3 hx0) trodAll_mk0), Below.trodVars Opens.laidOut bel (by kernel_rfl) hV, bel.frame _, fun h => by cases h⟩
/-- A world for the witness: the settled one, the variable holding what its initialiser lays. -/
noncomputable def laidWorld (os : Os) : World :=
  { World.holding Tryd.prog os ⟨#[], #[], []⟩ with heap := (World.holding Tryd.prog os ⟨#[], #[], []⟩).heap.modify 0 fun
      | .cells _ t frozen => .cells #[.string (ByteArray.mk #[]), .string (ByteArray.mk #[97, 115, 107]), .string (ByteArray.mk #[104, 101, 97, 100]), .string (ByteArray.mk #[118, 111, 117, 99, 104]), .string (ByteArray.mk #[112, 114, 111, 118, 101]), .string (ByteArray.mk #[103, 114, 111, 119, 116, 104]), .string (ByteArray.mk #[97, 99, 107]), .string (ByteArray.mk #[102, 101, 116, 99, 104]), .string (ByteArray.mk #[114, 97, 110, 103, 101])] t frozen
      | o => o }
theorem laid_met (os : Os) : laidMet Tryd.prog Rows.fnExactWireNameRow.laid ((laidWorld os).forCall (fun _ _ => 0) ⟨#[], #[.int .i64 0], []⟩).memory :=
  laidMet_of_run' 8 (by kernel_rfl) (by kernel_rfl)
theorem reads (os : Os) {H : Type} (enc : TypeId × Value → H) : DataW.whole enc Tryd.prog ((laidWorld os).forCall (fun _ _ => 0) ⟨#[], #[.int .i64 0], []⟩).memory Tryd.f3.params.toList Rows.fnExactWireNameSpec.vars false #[Value.int .i64 0].toList 8 = some ([DataW.lit (.int .i64 0)], [Rows.laid_loop_example_belfry_impl_wireNames], MemPlace.row ⟨0, 0, none⟩ 9) := by
  kernel_rfl
set_option maxRecDepth 100000 in
theorem lifted (os : Os) (started : os.Started) (H : Type) (enc : TypeId × Value → H) (F : Stop.Interp) :
    ReturnsInHanded {} Tryd.checked os 3 .any ((OpenSpec.ofChange Rows.fnExactWireNameSpec).preRow enc Tryd.prog Tryd.f3 Rows.fnExactWireNameRow.domain false Rows.fnExactWireNameRow.laid) (((OpenSpec.ofChange Rows.fnExactWireNameSpec).at F).post enc Tryd.prog Tryd.f3 false true false false) := by
  refine returnsInHanded_of_row (C := Tryd.checked) (s := OpenSpec.ofChange Rows.fnExactWireNameSpec) Opens.own started (by kernel_rfl) Tryd.func3
    (witness_row_at (enc := enc) (C := Tryd.checked) false (laidWorld os) #[.int .i64 0] rfl (by kernel_rfl) (by kernel_rfl) (by kernel_rfl)
      (OpenSpec.preRow_of_cond 8 (reads os enc) (by kernel_rfl) (fun k hk => by cases hk) (by kernel_rfl) (laid_met os))) ?_
  intro W base args ds gs before hval hW _ _ _ hL _ _
  exact contract H enc W base args ds gs before hval hW hL
theorem said : Rows.FnExactWireNameSaid :=
  OpenClaim.holds_of_cond 3 Tryd.f3 rfl rfl rfl rfl rfl rfl rfl ⟨rfl, rfl, rfl, rfl, rfl⟩ rfl rfl rfl rfl rfl (by kernel_rfl) Tryd.func3 (by kernel_rfl)
    (of_decide_eq_true (by kernel_rfl)) (by unfold Func.isWrapper; first | (rw [if_pos (by decide +kernel)]; kernel_rfl) | (rw [if_neg (by decide +kernel)]; exact ⟨rfl, rfl⟩))
    (fun os started H enc _ F => by rw [OpenClaim.pre_eq_preRow]; exact lifted os started H enc F)
theorem plain (f : FuncId) (fn : Func) (hf : Tryd.pinned.checked.prog.funcNamed "loop.example/belfry/laws.FnExactWireName" = some f) (hfn : Tryd.pinned.checked.prog.funcs[f]? = some fn) :
    false = Tryd.pinned.checked.prog.looks [] ∧ ∀ (j : Nat) t, fn.params[j]? = some t → Tryd.pinned.checked.prog.wantsStandIn t = false := by
  obtain rfl : f = 3 := Option.some.inj ((show Tryd.prog.funcNamed "loop.example/belfry/laws.FnExactWireName" = some 3 by kernel_rfl).symm.trans hf) |>.symm
  obtain rfl : fn = Tryd.f3 := (Option.some.inj (Tryd.func3.symm.trans hfn)).symm
  refine ⟨by kernel_rfl, fun j t ht => ?_⟩
  rw [Tryd.params3] at ht
  have hm : t ∈ [3] := by simpa using Array.mem_of_getElem? ht
  have hall : ([3].all fun u => !Tryd.prog.wantsStandIn u) = true := by kernel_rfl
  exact (show Tryd.prog.wantsStandIn t = false by simpa using List.all_eq_true.1 hall t hm)
end FnExactWireName
theorem provedExactWireName : Rows.FnExactWireNameCardSaid :=
  Claim7.holds_tied_plain_at .later [] _ _ _ _ FnExactWireName.said (fun _ h => by cases h) (by kernel_rfl) (fun _ h => by cases h) fnExactWireName_row_tie rfl ⟨rfl, rfl⟩ (by kernel_rfl) rfl FnExactWireName.plain (by kernel_rfl)
#print axioms provedExactWireName
end Go.Proofs.YtcghliiodehijaaDoor
