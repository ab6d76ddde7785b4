/-
  Two facts of the program that every row asks for.
-/
import Derived.Test.YtepgmdgcappfpaaRows
import Derived.WalkKit
import Derived.ProofKit
import Derived.OpenShut
import Derived.ShutString
import Derived.ChangeOld
import Derived.Below
import Derived.Lib.SmallJoins
import Derived.Test.YtepgmdgcappfpaaJoinB23
import Derived.ChangeSlices
namespace Go.Proofs.Ytepgmdgcappfpaa
open Go.ChangeShapes Go.WideShapes Go.ChangeAt Go.RowKit Go.Joins
namespace Opens
theorem own : ownKnob Try.prog.godebug = none := by kernel_rfl
theorem laidOut : laidOutB Try.prog = true := by kernel_rfl
end Opens
end Go.Proofs.Ytepgmdgcappfpaa

/-
  A slice of bytes that came in, opened.
-/
namespace Go.Proofs.Ytepgmdgcappfpaa
open Go.ChangeShapes Go.WideShapes Go.ChangeAt Go.RowKit Go.Joins
namespace Opens
set_option maxRecDepth 100000 in
theorem cellsByte : Try.prog.cellsOf 5 = 1 := by kernel_rfl
set_option maxRecDepth 100000 in
theorem open_bytes {H : Type} {enc : TypeId × Value → H} {W : World} {r : Reach} {base b0 : Nat} {spare : Nat → Bool} {held : Bool} {v : Value} {d : DataW H} {p : List MemPlace}
    (hv : Value.okWide Try.prog W r b0 22 v) (h : DataW.Trod enc Try.prog W base spare held 22 v d p) : ∃ L : List UInt8, Byt W v L := by
  obtain ⟨a0, len, cap, rfl⟩ := okWide_slice Try.underlying22 hv
  obtain ⟨fuel, hf⟩ := h
  rcases open_ints Try.underlying22 Try.underlying5 cellsByte hf with ⟨hcs, hx⟩ | ⟨a, len', cap', zs, hcs, _, hl, hm, hz, hx, hcell, hwf⟩
  · simp [Value.cells] at hcs
    obtain ⟨rfl, rfl, rfl⟩ := hcs
    exact ⟨[], .inl ⟨rfl, rfl⟩⟩
  · simp [Value.cells] at hcs
    obtain ⟨rfl, rfl, rfl⟩ := hcs
    have hle : len ≤ zs.length := by rw [hz]; split <;> omega
    obtain ⟨L, hL⟩ : ∃ L, L = (zs.take len).map (fun z => UInt8.ofNat z.toNat) := ⟨_, rfl⟩
    have hlt : L.length = len := by rw [hL, List.length_map, List.length_take]; omega
    have hc : ∀ (i : Nat) (h : i < L.length), W.cell? (a.add i) = some (.int .u8 (L[i].toNat : Int)) := fun i hi => by
      have hi2 : i < zs.length := by omega
      have hb := bounds_u8 (hwf zs[i] (List.getElem_mem _))
      rw [hcell i hi2]
      have e : L[i] = UInt8.ofNat zs[i].toNat := by simp [hL]
      rw [e, UInt8.toNat_ofNat']
      have e2 : zs.getD i 0 = zs[i] := by simp [List.getD, hi2]
      rw [e2]
      congr 2
      omega
    refine ⟨L, .inr ⟨a, cap, by rw [hlt], by omega, hm, fun h0 => ?_, hc⟩⟩
    have h1 := block_lt_of_cell (hc 0 h0)
    rwa [add_block'] at h1
end Opens
end Go.Proofs.Ytepgmdgcappfpaa
