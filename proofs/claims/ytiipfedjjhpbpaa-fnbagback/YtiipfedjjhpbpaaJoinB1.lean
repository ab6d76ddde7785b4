/-
  Plain mathematics of digests: four words of 64 bits, one round, ten rounds, a block. Nothing of the program stands here.
-/
import Derived.Laws.BitsAllLaws
import Derived.Laws.Entries
import Derived.Handy
import Derived.WalkLawsBesides
import Derived.Deep.RegionHeld3
import Derived.Test.YtiipfedjjhpbpaaRows
import Derived.Deep.QuietTactic
import Derived.BigQuiet
import Derived.Deep.RegionWith
import Derived.Deep.CutRange
import Derived.Deep.DeepCutAuto
import Derived.Deep.CutBlock
namespace Go.Proofs.Ytiipfedjjhpbpaa
open Go

/-- Four words. -/
structure Qd where
  a : UInt64
  b : UInt64
  c : UInt64
  d : UInt64

def rl39 (x : UInt64) : UInt64 := x <<< 39 ||| x >>> 25
def rl21 (x : UInt64) : UInt64 := x <<< 21 ||| x >>> 43
def KS : UInt64 := 0xAF251C93E7D04B6B
def kk : Nat → UInt64
  | 0 => 0
  | n + 1 => kk n + KS
/-- One round, at the constant k. -/
def rnd (k : UInt64) (q : Qd) : Qd :=
  { a := rl21 (q.b ^^^ (q.c + rl39 (q.d ^^^ (q.a + (q.b + k))))),
    b := q.c + rl39 (q.d ^^^ (q.a + (q.b + k))),
    c := rl39 (q.d ^^^ (q.a + (q.b + k))),
    d := q.a + (q.b + k) }
def it : Nat → Qd → Qd
  | 0, q => q
  | n + 1, q => rnd (kk (n + 1)) (it n q)
def xq (s b : Qd) : Qd := { a := s.a ^^^ b.a, b := s.b ^^^ b.b, c := s.c ^^^ b.c, d := s.d ^^^ b.d }
/-- A block behind a state. -/
def HB (s b : Qd) : Qd := xq (it 10 (xq s b)) s

theorem tn_lt (x : UInt64) : x.toNat < 18446744073709551616 := x.toNat_lt
theorem w_xor (x y : UInt64) : bits .xor .u64 (x.toNat : Int) (y.toNat : Int) = (((x ^^^ y).toNat : Nat) : Int) := by
  rw [u64_xor_nat _ _ (tn_lt x) (tn_lt y), UInt64.toNat_xor]
theorem w_or (x y : UInt64) : bits .or .u64 (x.toNat : Int) (y.toNat : Int) = (((x ||| y).toNat : Nat) : Int) := by
  rw [u64_or_nat _ _ (tn_lt x) (tn_lt y), UInt64.toNat_or]
theorem w_add (x y : UInt64) : IntKind.u64.wrap ((x.toNat : Int) + (y.toNat : Int)) = (((x + y).toNat : Nat) : Int) := by
  rw [IntKind.wrap_u64, UInt64.toNat_add]; omega
theorem ks_nat : KS.toNat = 12620524952350641003 := rfl
theorem w_addk (x : UInt64) : IntKind.u64.wrap ((x.toNat : Int) + 12620524952350641003) = (((x + KS).toNat : Nat) : Int) := by
  rw [IntKind.wrap_u64, UInt64.toNat_add, ks_nat]; omega
theorem w_shl39 (x : UInt64) : IntKind.u64.wrap ((x.toNat : Int) * 549755813888) = (((x <<< 39).toNat : Nat) : Int) := by
  rw [IntKind.wrap_u64, UInt64.toNat_shiftLeft]
  have e : (39 : UInt64).toNat % 64 = 39 := rfl
  rw [e, Nat.shiftLeft_eq]; omega
theorem w_shl21 (x : UInt64) : IntKind.u64.wrap ((x.toNat : Int) * 2097152) = (((x <<< 21).toNat : Nat) : Int) := by
  rw [IntKind.wrap_u64, UInt64.toNat_shiftLeft]
  have e : (21 : UInt64).toNat % 64 = 21 := rfl
  rw [e, Nat.shiftLeft_eq]; omega
theorem w_shr25 (x : UInt64) : (x.toNat : Int) / (33554432 : Int) = (((x >>> 25).toNat : Nat) : Int) := by
  rw [UInt64.toNat_shiftRight]
  have e : (25 : UInt64).toNat % 64 = 25 := rfl
  rw [e, Nat.shiftRight_eq_div_pow]; omega
theorem w_shr43 (x : UInt64) : (x.toNat : Int) / (8796093022208 : Int) = (((x >>> 43).toNat : Nat) : Int) := by
  rw [UInt64.toNat_shiftRight]
  have e : (43 : UInt64).toNat % 64 = 43 := rfl
  rw [e, Nat.shiftRight_eq_div_pow]; omega
theorem w_rl39 (x : UInt64) : bits .or .u64 (IntKind.u64.wrap ((x.toNat : Int) * 549755813888)) ((x.toNat : Int) / 33554432) = (((rl39 x).toNat : Nat) : Int) := by
  rw [w_shl39, w_shr25, w_or]; rfl
theorem w_rl21 (x : UInt64) : bits .or .u64 (IntKind.u64.wrap ((x.toNat : Int) * 2097152)) ((x.toNat : Int) / 8796093022208) = (((rl21 x).toNat : Nat) : Int) := by
  rw [w_shl21, w_shr43, w_or]; rfl
theorem b_39 : bits .and .u64 39 63 = 39 := by decide +kernel
theorem b_21 : bits .and .u64 21 63 = 21 := by decide +kernel
end Go.Proofs.Ytiipfedjjhpbpaa

/-
  Small laws on worlds: what a call that only makes memory leaves.
-/
namespace Go.Proofs.Ytiipfedjjhpbpaa
open Go.RowKit

theorem below_after {B : Nat} {w W w1 : World} (h : Below B w W) (hb : Below W.heap.size W w1) (hB : B ≤ W.heap.size) : Below B w w1 := h.trans (hb.mono hB)
theorem below_le {B : Nat} {w W : World} (h : Below B w W) (hB : B ≤ w.heap.size) : B ≤ W.heap.size := Nat.le_trans hB h.size
theorem below_call {w W w1 : World} (h : Below w.heap.size w W) (hb : Below W.heap.size W w1) : Below w.heap.size w w1 := h.trans (hb.mono h.size)
theorem c_alloc {w : World} {a : Addr} {v : Value} {o : Obj} (h : w.cell? a = some v) : (w.alloc o).cell? a = some v := by rw [World.cell?_alloc_some w a o (by rw [h]; rfl)]; exact h
theorem c_drew {w : World} {a : Addr} {v : Value} (h : w.cell? a = some v) : w.drew.cell? a = some v := h
theorem c_drewN {w : World} {a : Addr} {v : Value} {n : Nat} (h : w.cell? a = some v) : (w.drewN n).cell? a = some v := h
theorem c_set {w : World} {a p : Addr} {v x : Value} (h : w.cell? a = some v) (hb : p.block ≠ a.block) : (w.setCell p x).cell? a = some v := by
  rw [World.cell?_setCell_other _ _ _ _ (fun e => hb (congrArg Addr.block e))]; exact h
theorem c_call {W w1 : World} (hb : Below W.heap.size W w1) {a : Addr} {v : Value} (h : W.cell? a = some v) (hl : a.block < W.heap.size) : w1.cell? a = some v := (hb.cell hl).trans h
theorem set_same {w : World} {a : Addr} {x : Value} (h : (w.cell? a).isSome = true) : (w.setCell a x).cell? a = some x := by
  obtain ⟨u, hu⟩ := Option.isSome_iff_exists.1 h
  exact World.cell?_setCell_same _ _ _ hu
theorem set_off {w : World} {b i j : Nat} {x : Value} (h : i ≠ j) : (w.setCell ⟨b, i, none⟩ x).cell? ⟨b, j, none⟩ = w.cell? ⟨b, j, none⟩ :=
  World.cell?_setCell_other _ _ _ _ (fun e => h (congrArg Addr.off e))
/-- Four stores into one block: what lies there. -/
theorem four_set {w : World} {b : Nat} {x0 x1 x2 x3 : Value} (h : ∀ i, i < 4 → (w.cell? ⟨b, i, none⟩).isSome = true) :
    ((((w.setCell ⟨b, 0, none⟩ x0).setCell ⟨b, 1, none⟩ x1).setCell ⟨b, 2, none⟩ x2).setCell ⟨b, 3, none⟩ x3).cell? ⟨b, 0, none⟩ = some x0 ∧
    ((((w.setCell ⟨b, 0, none⟩ x0).setCell ⟨b, 1, none⟩ x1).setCell ⟨b, 2, none⟩ x2).setCell ⟨b, 3, none⟩ x3).cell? ⟨b, 1, none⟩ = some x1 ∧
    ((((w.setCell ⟨b, 0, none⟩ x0).setCell ⟨b, 1, none⟩ x1).setCell ⟨b, 2, none⟩ x2).setCell ⟨b, 3, none⟩ x3).cell? ⟨b, 2, none⟩ = some x2 ∧
    ((((w.setCell ⟨b, 0, none⟩ x0).setCell ⟨b, 1, none⟩ x1).setCell ⟨b, 2, none⟩ x2).setCell ⟨b, 3, none⟩ x3).cell? ⟨b, 3, none⟩ = some x3 := by
  refine ⟨?_, ?_, ?_, ?_⟩
  · rw [set_off (by omega), set_off (by omega), set_off (by omega), set_same (h 0 (by omega))]
  · rw [set_off (by omega), set_off (by omega), set_same (by rw [set_off (by omega)]; exact h 1 (by omega))]
  · rw [set_off (by omega), set_same (by rw [set_off (by omega), set_off (by omega)]; exact h 2 (by omega))]
  · rw [set_same (by rw [set_off (by omega), set_off (by omega), set_off (by omega)]; exact h 3 (by omega))]
end Go.Proofs.Ytiipfedjjhpbpaa

/-
  TreeSplit and PeaksCount, walked.
-/
namespace Go.Proofs.Ytiipfedjjhpbpaa
open Go.RowKit

/-- A number between two others. -/
theorem in_is (n lo hi : Int) (w : World) : Calls Try.prog 41 #[.int .i64 n, .int .i64 lo, .int .i64 hi] w fun e w' => e = .returned (.bool (decide (lo ≤ n) && decide (n ≤ hi))) ∧ w' = w := by
  by_cases h1 : lo ≤ n
  · go_enter Try.func41, Try.ntmps41
    go_wp2
    go_ret
    simp [h1]
  · go_enter Try.func41, Try.ntmps41
    go_wp2
    go_ret
    simp
    omega

/-- The greatest power of two below n (n from 2 on). -/
def sp (n : Nat) : Nat := 2 ^ Nat.log2 (n - 1)

set_option maxRecDepth 1000000 in
theorem tab_is (i : Nat) (h : i < ((⟨List.toArray (List.append (List.append (0 :: 1 :: 2 :: 2 :: 3 :: 3 :: 3 :: 3 :: 4 :: 4 :: 4 :: 4 :: 4 :: 4 :: 4 :: 4 :: 5 :: 5 :: 5 :: 5 :: 5 :: 5 :: 5 :: 5 :: 5 :: 5 :: 5 :: 5 :: 5 :: 5 :: 5 :: 5 :: 6 :: 6 :: 6 :: 6 :: 6 :: 6 :: 6 :: 6 :: 6 :: 6 :: 6 :: 6 :: 6 :: 6 :: 6 :: 6 :: 6 :: 6 :: 6 :: 6 :: 6 :: 6 :: 6 :: 6 :: 6 :: 6 :: 6 :: 6 :: 6 :: 6 :: 6 :: 6 :: []) (7 :: 7 :: 7 :: 7 :: 7 :: 7 :: 7 :: 7 :: 7 :: 7 :: 7 :: 7 :: 7 :: 7 :: 7 :: 7 :: 7 :: 7 :: 7 :: 7 :: 7 :: 7 :: 7 :: 7 :: 7 :: 7 :: 7 :: 7 :: 7 :: 7 :: 7 :: 7 :: 7 :: 7 :: 7 :: 7 :: 7 :: 7 :: 7 :: 7 :: 7 :: 7 :: 7 :: 7 :: 7 :: 7 :: 7 :: 7 :: 7 :: 7 :: 7 :: 7 :: 7 :: 7 :: 7 :: 7 :: 7 :: 7 :: 7 :: 7 :: 7 :: 7 :: 7 :: 7 :: [])) (List.append (8 :: 8 :: 8 :: 8 :: 8 :: 8 :: 8 :: 8 :: 8 :: 8 :: 8 :: 8 :: 8 :: 8 :: 8 :: 8 :: 8 :: 8 :: 8 :: 8 :: 8 :: 8 :: 8 :: 8 :: 8 :: 8 :: 8 :: 8 :: 8 :: 8 :: 8 :: 8 :: 8 :: 8 :: 8 :: 8 :: 8 :: 8 :: 8 :: 8 :: 8 :: 8 :: 8 :: 8 :: 8 :: 8 :: 8 :: 8 :: 8 :: 8 :: 8 :: 8 :: 8 :: 8 :: 8 :: 8 :: 8 :: 8 :: 8 :: 8 :: 8 :: 8 :: 8 :: 8 :: []) (8 :: 8 :: 8 :: 8 :: 8 :: 8 :: 8 :: 8 :: 8 :: 8 :: 8 :: 8 :: 8 :: 8 :: 8 :: 8 :: 8 :: 8 :: 8 :: 8 :: 8 :: 8 :: 8 :: 8 :: 8 :: 8 :: 8 :: 8 :: 8 :: 8 :: 8 :: 8 :: 8 :: 8 :: 8 :: 8 :: 8 :: 8 :: 8 :: 8 :: 8 :: 8 :: 8 :: 8 :: 8 :: 8 :: 8 :: 8 :: 8 :: 8 :: 8 :: 8 :: 8 :: 8 :: 8 :: 8 :: 8 :: 8 :: 8 :: 8 :: 8 :: 8 :: 8 :: 8 :: [])))⟩ : ByteArray) : ByteArray).size) : ((((⟨List.toArray (List.append (List.append (0 :: 1 :: 2 :: 2 :: 3 :: 3 :: 3 :: 3 :: 4 :: 4 :: 4 :: 4 :: 4 :: 4 :: 4 :: 4 :: 5 :: 5 :: 5 :: 5 :: 5 :: 5 :: 5 :: 5 :: 5 :: 5 :: 5 :: 5 :: 5 :: 5 :: 5 :: 5 :: 6 :: 6 :: 6 :: 6 :: 6 :: 6 :: 6 :: 6 :: 6 :: 6 :: 6 :: 6 :: 6 :: 6 :: 6 :: 6 :: 6 :: 6 :: 6 :: 6 :: 6 :: 6 :: 6 :: 6 :: 6 :: 6 :: 6 :: 6 :: 6 :: 6 :: 6 :: 6 :: []) (7 :: 7 :: 7 :: 7 :: 7 :: 7 :: 7 :: 7 :: 7 :: 7 :: 7 :: 7 :: 7 :: 7 :: 7 :: 7 :: 7 :: 7 :: 7 :: 7 :: 7 :: 7 :: 7 :: 7 :: 7 :: 7 :: 7 :: 7 :: 7 :: 7 :: 7 :: 7 :: 7 :: 7 :: 7 :: 7 :: 7 :: 7 :: 7 :: 7 :: 7 :: 7 :: 7 :: 7 :: 7 :: 7 :: 7 :: 7 :: 7 :: 7 :: 7 :: 7 :: 7 :: 7 :: 7 :: 7 :: 7 :: 7 :: 7 :: 7 :: 7 :: 7 :: 7 :: 7 :: [])) (List.append (8 :: 8 :: 8 :: 8 :: 8 :: 8 :: 8 :: 8 :: 8 :: 8 :: 8 :: 8 :: 8 :: 8 :: 8 :: 8 :: 8 :: 8 :: 8 :: 8 :: 8 :: 8 :: 8 :: 8 :: 8 :: 8 :: 8 :: 8 :: 8 :: 8 :: 8 :: 8 :: 8 :: 8 :: 8 :: 8 :: 8 :: 8 :: 8 :: 8 :: 8 :: 8 :: 8 :: 8 :: 8 :: 8 :: 8 :: 8 :: 8 :: 8 :: 8 :: 8 :: 8 :: 8 :: 8 :: 8 :: 8 :: 8 :: 8 :: 8 :: 8 :: 8 :: 8 :: 8 :: []) (8 :: 8 :: 8 :: 8 :: 8 :: 8 :: 8 :: 8 :: 8 :: 8 :: 8 :: 8 :: 8 :: 8 :: 8 :: 8 :: 8 :: 8 :: 8 :: 8 :: 8 :: 8 :: 8 :: 8 :: 8 :: 8 :: 8 :: 8 :: 8 :: 8 :: 8 :: 8 :: 8 :: 8 :: 8 :: 8 :: 8 :: 8 :: 8 :: 8 :: 8 :: 8 :: 8 :: 8 :: 8 :: 8 :: 8 :: 8 :: 8 :: 8 :: 8 :: 8 :: 8 :: 8 :: 8 :: 8 :: 8 :: 8 :: 8 :: 8 :: 8 :: 8 :: 8 :: 8 :: [])))⟩ : ByteArray) : ByteArray)[i]'h).toNat : Int) = (if i = 0 then 0 else Nat.log2 i + 1 : Nat) := by
  have key : ∀ i : Fin 256, (((⟨List.toArray (List.append (List.append (0 :: 1 :: 2 :: 2 :: 3 :: 3 :: 3 :: 3 :: 4 :: 4 :: 4 :: 4 :: 4 :: 4 :: 4 :: 4 :: 5 :: 5 :: 5 :: 5 :: 5 :: 5 :: 5 :: 5 :: 5 :: 5 :: 5 :: 5 :: 5 :: 5 :: 5 :: 5 :: 6 :: 6 :: 6 :: 6 :: 6 :: 6 :: 6 :: 6 :: 6 :: 6 :: 6 :: 6 :: 6 :: 6 :: 6 :: 6 :: 6 :: 6 :: 6 :: 6 :: 6 :: 6 :: 6 :: 6 :: 6 :: 6 :: 6 :: 6 :: 6 :: 6 :: 6 :: 6 :: []) (7 :: 7 :: 7 :: 7 :: 7 :: 7 :: 7 :: 7 :: 7 :: 7 :: 7 :: 7 :: 7 :: 7 :: 7 :: 7 :: 7 :: 7 :: 7 :: 7 :: 7 :: 7 :: 7 :: 7 :: 7 :: 7 :: 7 :: 7 :: 7 :: 7 :: 7 :: 7 :: 7 :: 7 :: 7 :: 7 :: 7 :: 7 :: 7 :: 7 :: 7 :: 7 :: 7 :: 7 :: 7 :: 7 :: 7 :: 7 :: 7 :: 7 :: 7 :: 7 :: 7 :: 7 :: 7 :: 7 :: 7 :: 7 :: 7 :: 7 :: 7 :: 7 :: 7 :: 7 :: [])) (List.append (8 :: 8 :: 8 :: 8 :: 8 :: 8 :: 8 :: 8 :: 8 :: 8 :: 8 :: 8 :: 8 :: 8 :: 8 :: 8 :: 8 :: 8 :: 8 :: 8 :: 8 :: 8 :: 8 :: 8 :: 8 :: 8 :: 8 :: 8 :: 8 :: 8 :: 8 :: 8 :: 8 :: 8 :: 8 :: 8 :: 8 :: 8 :: 8 :: 8 :: 8 :: 8 :: 8 :: 8 :: 8 :: 8 :: 8 :: 8 :: 8 :: 8 :: 8 :: 8 :: 8 :: 8 :: 8 :: 8 :: 8 :: 8 :: 8 :: 8 :: 8 :: 8 :: 8 :: 8 :: []) (8 :: 8 :: 8 :: 8 :: 8 :: 8 :: 8 :: 8 :: 8 :: 8 :: 8 :: 8 :: 8 :: 8 :: 8 :: 8 :: 8 :: 8 :: 8 :: 8 :: 8 :: 8 :: 8 :: 8 :: 8 :: 8 :: 8 :: 8 :: 8 :: 8 :: 8 :: 8 :: 8 :: 8 :: 8 :: 8 :: 8 :: 8 :: 8 :: 8 :: 8 :: 8 :: 8 :: 8 :: 8 :: 8 :: 8 :: 8 :: 8 :: 8 :: 8 :: 8 :: 8 :: 8 :: 8 :: 8 :: 8 :: 8 :: 8 :: 8 :: 8 :: 8 :: 8 :: 8 :: [])))⟩ : ByteArray) : ByteArray)[i.val]'(by have := i.isLt; exact this)).toNat = (if i.val = 0 then 0 else Nat.log2 i.val + 1 : Nat) := by decide +kernel
  exact congrArg Int.ofNat (key ⟨i, h⟩)
def bl (x : Nat) : Nat := if x = 0 then 0 else Nat.log2 x + 1
theorem bl_le (x : Nat) (h : x < 256) : bl x ≤ 8 := by
  unfold bl
  split
  · omega
  · rename_i h0
    have := (Nat.log2_lt h0).2 (show x < 2 ^ 8 from h)
    omega
/-- How many binary ones. -/
def pcF : Nat → Nat → Nat
  | 0, _ => 0
  | f + 1, n => n % 2 + pcF f (n / 2)
def pc (n : Nat) : Nat := pcF 9 n
theorem pcF_zero : ∀ f, pcF f 0 = 0
  | 0 => rfl
  | f + 1 => by simp [pcF, pcF_zero f]
theorem pcF_le : ∀ f n, pcF f n ≤ f
  | 0, _ => Nat.le_refl 0
  | f + 1, n => by
    have := pcF_le f (n / 2)
    simp only [pcF]
    omega
/-! The two laws. -/
def spI (n : Int) : Int := if n < 2 ∨ 256 < n then 0 else (sp n.toNat : Int)
def pcI (n : Int) : Int := if n < 0 ∨ 256 < n then 0 else (pc n.toNat : Int)
end Go.Proofs.Ytiipfedjjhpbpaa
