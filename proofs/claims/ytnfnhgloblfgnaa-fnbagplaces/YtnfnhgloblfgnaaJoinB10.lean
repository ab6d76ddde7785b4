/-
  The locks of this program: under which numbers it holds them.
-/
import Derived.Test.YtnfnhgloblfgnaaLetR
import Derived.Conc.RwLib
import Derived.Conc.MuData
import Derived.Conc.MuLone
import Derived.Defers
import Derived.KernelRfl
import Derived.Test.YtnfnhgloblfgnaaRows
import Derived.Test.YtnfnhgloblfgnaaJoinB1
import Derived.Handy
import Derived.Deep.QuietTactic
import Derived.BigQuiet
import Derived.WalkLawsBesides
namespace Go.Proofs.Ytnfnhgloblfgnaa
open Go.RowKit Go.MuLone

abbrev muL : Go.Conc.Locks.MuLink := { lock := 35, unlock := 36, ilock := 47, iunlock := 48, lockSlow := 54, unlockSlow := 57, disable := 50, enable := 52, acquire := 53, relMerge := 55, cas32 := 51, add32 := 56, tMutex := 73, tIMutex := 71, tPMutex := 91, tPIMutex := 92, tPI32 := 94, tUP := 96, tNoCopy := 68, tU32 := 69 }
theorem muLib : Go.Conc.Locks.MuLib Try.prog muL :=
  ⟨Try.func35, Try.func36, Try.func47, Try.func48, Try.func50, Try.func52, Try.func53, Try.func55, Try.func51, Try.func56, Try.underlying71, Try.runUnderlying71, Try.sizeOf71, Try.isAgg71, Try.zeroValue71, Try.underlying73, Try.runUnderlying73, Try.sizeOf73, Try.isAgg73, Try.zeroValue73, Try.underlying91, Try.runUnderlying91, Try.sizeOf91, Try.isAgg91, Try.zeroValue91, Try.underlying92, Try.runUnderlying92, Try.sizeOf92, Try.isAgg92, Try.zeroValue92, Try.underlying94, Try.runUnderlying94, Try.sizeOf94, Try.isAgg94, Try.zeroValue94, Try.underlying96, Try.runUnderlying96, Try.sizeOf96, Try.isAgg96, Try.zeroValue96, Try.underlying68, Try.runUnderlying68, Try.sizeOf68, Try.isAgg68, Try.zeroValue68, Try.underlying21, Try.runUnderlying21, Try.sizeOf21, Try.isAgg21, Try.zeroValue21, (by kernel_rfl)⟩
/-- The lock of a network is taken, and given back. -/
theorem lock_is (N : Nat) (m c : Int) (v : Value) (w : World) (h : Nw N 0 m v c w) :
    Calls Try.prog 35 #[.pointer (some ⟨N, 0, none⟩)] w fun e w' => e = .returned (.tuple #[]) ∧ w' = w.setCell ⟨N, 0, none⟩ (.int .i32 1) :=
  lock_free muLib ⟨N, 0, none⟩ w h.2.1.1 h.2.2.1
theorem unlock_is (N : Nat) (m c : Int) (v : Value) (u : FrameMode) (w : World) (h : Nw N 1 m v c w) :
    CallsD Try.prog 36 #[.pointer (some ⟨N, 0, none⟩)] u w fun e u' w' => u' = u ∧ (e = .returned (.tuple #[]) ∧ w' = w.setCell ⟨N, 0, none⟩ (.int .i32 0)) :=
  unlock_deferred muLib ⟨N, 0, none⟩ u w h.2.1.1 h.2.2.1
theorem Nw.word {N : Nat} {k m c : Int} {v : Value} {W : World} (h : Nw N k m v c W) (k' : Int) : Nw N k' m v c (W.setCell ⟨N, 0, none⟩ (.int .i32 k')) := by
  obtain ⟨h0, ⟨h1, h2, h3, h4, h5⟩, f0, f3, f4⟩ := h
  exact ⟨by simp only [World.size_setCell]; exact h0, ⟨set_same (by rw [h1]; rfl), (set_off (by omega)).trans h2, (set_off (by omega)).trans h3, (set_off (by omega)).trans h4, (set_off (by omega)).trans h5⟩, by rw [World.frozen?_setCell]; exact f0, by rw [World.frozen?_setCell]; exact f3, by rw [World.frozen?_setCell]; exact f4⟩
theorem Nw.slice {N : Nat} {k m c : Int} {v : Value} {W : World} (h : Nw N k m v c W) (v' : Value) : Nw N k m v' c (W.setCell ⟨N, 3, none⟩ v') := by
  obtain ⟨h0, ⟨h1, h2, h3, h4, h5⟩, f0, f3, f4⟩ := h
  exact ⟨by simp only [World.size_setCell]; exact h0, ⟨(set_off (by omega)).trans h1, (set_off (by omega)).trans h2, (set_off (by omega)).trans h3, set_same (by rw [h4]; rfl), (set_off (by omega)).trans h5⟩, by rw [World.frozen?_setCell]; exact f0, by rw [World.frozen?_setCell]; exact f3, by rw [World.frozen?_setCell]; exact f4⟩
theorem Nw.lost {N : Nat} {k m c : Int} {v : Value} {W : World} (h : Nw N k m v c W) (c' : Int) : Nw N k m v c' (W.setCell ⟨N, 4, none⟩ (.int .i64 c')) := by
  obtain ⟨h0, ⟨h1, h2, h3, h4, h5⟩, f0, f3, f4⟩ := h
  exact ⟨by simp only [World.size_setCell]; exact h0, ⟨(set_off (by omega)).trans h1, (set_off (by omega)).trans h2, (set_off (by omega)).trans h3, (set_off (by omega)).trans h4, set_same (by rw [h5]; rfl)⟩, by rw [World.frozen?_setCell]; exact f0, by rw [World.frozen?_setCell]; exact f3, by rw [World.frozen?_setCell]; exact f4⟩
end Go.Proofs.Ytnfnhgloblfgnaa

/-
  The walks of HashBlock, on both sides: each comes to the plain function HB.
-/
namespace Go.Proofs.Ytnfnhgloblfgnaa
open Go.RowKit

end Go.Proofs.Ytnfnhgloblfgnaa

/-
  The walks of HashBlock, on both sides: each comes to the plain function HB.
-/
namespace Go.Proofs.Ytnfnhgloblfgnaa
open Go.RowKit

end Go.Proofs.Ytnfnhgloblfgnaa
