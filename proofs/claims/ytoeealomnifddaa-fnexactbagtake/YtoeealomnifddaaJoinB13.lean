/-
  The locks of this program: under which numbers it holds them.
-/
import Derived.Test.YtoeealomnifddaaLetR
import Derived.Conc.RwLib
import Derived.Conc.MuData
import Derived.Conc.MuLone
import Derived.Defers
import Derived.KernelRfl
import Derived.Test.YtoeealomnifddaaRows
import Derived.Test.YtoeealomnifddaaPlain
import Derived.Handy
import Derived.Deep.QuietTactic
import Derived.BigQuiet
import Derived.WalkLawsBesides
namespace Go.Proofs.Ytoeealomnifddaa
open Go.RowKit Go.MuLone

abbrev muL : Go.Conc.Locks.MuLink := { lock := 56, unlock := 57, ilock := 64, iunlock := 65, lockSlow := 73, unlockSlow := 76, disable := 69, enable := 71, acquire := 72, relMerge := 74, cas32 := 70, add32 := 75, tMutex := 89, tIMutex := 87, tPMutex := 101, tPIMutex := 106, tPI32 := 108, tUP := 110, tNoCopy := 84, tU32 := 85 }
theorem muLib : Go.Conc.Locks.MuLib Try.prog muL :=
  ⟨Try.func56, Try.func57, Try.func64, Try.func65, Try.func69, Try.func71, Try.func72, Try.func74, Try.func70, Try.func75, Try.underlying87, Try.runUnderlying87, Try.sizeOf87, Try.isAgg87, Try.zeroValue87, Try.underlying89, Try.runUnderlying89, Try.sizeOf89, Try.isAgg89, Try.zeroValue89, Try.underlying101, Try.runUnderlying101, Try.sizeOf101, Try.isAgg101, Try.zeroValue101, Try.underlying106, Try.runUnderlying106, Try.sizeOf106, Try.isAgg106, Try.zeroValue106, Try.underlying108, Try.runUnderlying108, Try.sizeOf108, Try.isAgg108, Try.zeroValue108, Try.underlying110, Try.runUnderlying110, Try.sizeOf110, Try.isAgg110, Try.zeroValue110, Try.underlying84, Try.runUnderlying84, Try.sizeOf84, Try.isAgg84, Try.zeroValue84, Try.underlying21, Try.runUnderlying21, Try.sizeOf21, Try.isAgg21, Try.zeroValue21, (by kernel_rfl)⟩
/-- The lock of a network is taken, and given back. -/
theorem lock_is (N : Nat) (m c : Int) (v : Value) (w : World) (h : Nw N 0 m v c w) :
    Calls Try.prog 56 #[.pointer (some ⟨N, 0, none⟩)] w fun e w' => e = .returned (.tuple #[]) ∧ w' = w.setCell ⟨N, 0, none⟩ (.int .i32 1) :=
  lock_free muLib ⟨N, 0, none⟩ w h.2.1.1 h.2.2.1
theorem unlock_is (N : Nat) (m c : Int) (v : Value) (u : FrameMode) (w : World) (h : Nw N 1 m v c w) :
    CallsD Try.prog 57 #[.pointer (some ⟨N, 0, none⟩)] u w fun e u' w' => u' = u ∧ (e = .returned (.tuple #[]) ∧ w' = w.setCell ⟨N, 0, none⟩ (.int .i32 0)) :=
  unlock_deferred muLib ⟨N, 0, none⟩ u w h.2.1.1 h.2.2.1
theorem Nw.word {N : Nat} {k m c : Int} {v : Value} {W : World} (h : Nw N k m v c W) (k' : Int) : Nw N k' m v c (W.setCell ⟨N, 0, none⟩ (.int .i32 k')) := by
  obtain ⟨h0, ⟨h1, h2, h3, h4, h5⟩, f0, f3, f4⟩ := h
  exact ⟨by simp only [World.size_setCell]; exact h0, ⟨set_same (by rw [h1]; rfl), (set_off (by omega)).trans h2, (set_off (by omega)).trans h3, (set_off (by omega)).trans h4, (set_off (by omega)).trans h5⟩, by rw [World.frozen?_setCell]; exact f0, by rw [World.frozen?_setCell]; exact f3, by rw [World.frozen?_setCell]; exact f4⟩
theorem Nw.slice {N : Nat} {k m c : Int} {v : Value} {W : World} (h : Nw N k m v c W) (v' : Value) : Nw N k m v' c (W.setCell ⟨N, 3, none⟩ v') := by
  obtain ⟨h0, ⟨h1, h2, h3, h4, h5⟩, f0, f3, f4⟩ := h
  exact ⟨by simp only [World.size_setCell]; exact h0, ⟨(set_off (by omega)).trans h1, (set_off (by omega)).trans h2, (set_off (by omega)).trans h3, set_same (by rw [h4]; rfl), (set_off (by omega)).trans h5⟩, by rw [World.frozen?_setCell]; exact f0, by rw [World.frozen?_setCell]; exact f3, by rw [World.frozen?_setCell]; exact f4⟩
theorem Nw.lost {N : Nat} {k m c : Int} {v : Value} {W : World} (h : Nw N k m v c W) (c' : Int) : Nw N k m v c' (W.setCell ⟨N, 4, none⟩ (.int .i64 c')) := by
  obtain ⟨h0, ⟨h1, h2, h3, h4, h5⟩, f0, f3, f4⟩ := h
  exact ⟨by simp only [World.size_setCell]; exact h0, ⟨(set_off (by omega)).trans h1, (set_off (by omega)).trans h2, (set_off (by omega)).trans h3, (set_off (by omega)).trans h4, set_same (by rw [h5]; rfl)⟩, by rw [World.frozen?_setCell]; exact f0, by rw [World.frozen?_setCell]; exact f3, by rw [World.frozen?_setCell]; exact f4⟩
end Go.Proofs.Ytoeealomnifddaa

/-
  The walks of HashBlock, on both sides: each comes to the plain function HB.
-/
namespace Go.Proofs.Ytoeealomnifddaa
open Go.RowKit

end Go.Proofs.Ytoeealomnifddaa

/-
  The walks of HashBlock, on both sides: each comes to the plain function HB.
-/
namespace Go.Proofs.Ytoeealomnifddaa
open Go.RowKit

end Go.Proofs.Ytoeealomnifddaa
