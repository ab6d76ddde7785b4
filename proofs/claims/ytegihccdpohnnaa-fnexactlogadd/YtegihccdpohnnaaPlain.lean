/-
  Plain mathematics of digests: four words of 64 bits, one round, ten rounds, a block. Nothing of the program stands here.
-/
import Derived.Laws.BitsAllLaws
import Derived.Laws.Entries
namespace Go.Proofs.Ytegihccdpohnnaa
open Go

/-- Four words. -/
structure Qd where
  a : UInt64
  b : UInt64
  c : UInt64
  d : UInt64

def rl39 (x : UInt64) : UInt64 := x <<< 39 ||| x >>> 25
def rl21 (x : UInt64) : UInt64 := x <<< 21 ||| x >>> 43
def KS : UInt64 := 0xAF251C93E7D04B6B
def kk : Nat → UInt64
  | 0 => 0
  | n + 1 => kk n + KS
/-- One round, at the constant k. -/
def rnd (k : UInt64) (q : Qd) : Qd :=
  { a := rl21 (q.b ^^^ (q.c + rl39 (q.d ^^^ (q.a + (q.b + k))))),
    b := q.c + rl39 (q.d ^^^ (q.a + (q.b + k))),
    c := rl39 (q.d ^^^ (q.a + (q.b + k))),
    d := q.a + (q.b + k) }
def it : Nat → Qd → Qd
  | 0, q => q
  | n + 1, q => rnd (kk (n + 1)) (it n q)
def xq (s b : Qd) : Qd := { a := s.a ^^^ b.a, b := s.b ^^^ b.b, c := s.c ^^^ b.c, d := s.d ^^^ b.d }
/-- A block behind a state. -/
def HB (s b : Qd) : Qd := xq (it 10 (xq s b)) s

theorem tn_lt (x : UInt64) : x.toNat < 18446744073709551616 := x.toNat_lt
theorem w_xor (x y : UInt64) : bits .xor .u64 (x.toNat : Int) (y.toNat : Int) = (((x ^^^ y).toNat : Nat) : Int) := by
  rw [u64_xor_nat _ _ (tn_lt x) (tn_lt y), UInt64.toNat_xor]
theorem w_or (x y : UInt64) : bits .or .u64 (x.toNat : Int) (y.toNat : Int) = (((x ||| y).toNat : Nat) : Int) := by
  rw [u64_or_nat _ _ (tn_lt x) (tn_lt y), UInt64.toNat_or]
theorem w_add (x y : UInt64) : IntKind.u64.wrap ((x.toNat : Int) + (y.toNat : Int)) = (((x + y).toNat : Nat) : Int) := by
  rw [IntKind.wrap_u64, UInt64.toNat_add]; omega
theorem ks_nat : KS.toNat = 12620524952350641003 := rfl
theorem w_addk (x : UInt64) : IntKind.u64.wrap ((x.toNat : Int) + 12620524952350641003) = (((x + KS).toNat : Nat) : Int) := by
  rw [IntKind.wrap_u64, UInt64.toNat_add, ks_nat]; omega
theorem w_shl39 (x : UInt64) : IntKind.u64.wrap ((x.toNat : Int) * 549755813888) = (((x <<< 39).toNat : Nat) : Int) := by
  rw [IntKind.wrap_u64, UInt64.toNat_shiftLeft]
  have e : (39 : UInt64).toNat % 64 = 39 := rfl
  rw [e, Nat.shiftLeft_eq]; omega
theorem w_shl21 (x : UInt64) : IntKind.u64.wrap ((x.toNat : Int) * 2097152) = (((x <<< 21).toNat : Nat) : Int) := by
  rw [IntKind.wrap_u64, UInt64.toNat_shiftLeft]
  have e : (21 : UInt64).toNat % 64 = 21 := rfl
  rw [e, Nat.shiftLeft_eq]; omega
theorem w_shr25 (x : UInt64) : (x.toNat : Int) / (33554432 : Int) = (((x >>> 25).toNat : Nat) : Int) := by
  rw [UInt64.toNat_shiftRight]
  have e : (25 : UInt64).toNat % 64 = 25 := rfl
  rw [e, Nat.shiftRight_eq_div_pow]; omega
theorem w_shr43 (x : UInt64) : (x.toNat : Int) / (8796093022208 : Int) = (((x >>> 43).toNat : Nat) : Int) := by
  rw [UInt64.toNat_shiftRight]
  have e : (43 : UInt64).toNat % 64 = 43 := rfl
  rw [e, Nat.shiftRight_eq_div_pow]; omega
theorem w_rl39 (x : UInt64) : bits .or .u64 (IntKind.u64.wrap ((x.toNat : Int) * 549755813888)) ((x.toNat : Int) / 33554432) = (((rl39 x).toNat : Nat) : Int) := by
  rw [w_shl39, w_shr25, w_or]; rfl
theorem w_rl21 (x : UInt64) : bits .or .u64 (IntKind.u64.wrap ((x.toNat : Int) * 2097152)) ((x.toNat : Int) / 8796093022208) = (((rl21 x).toNat : Nat) : Int) := by
  rw [w_shl21, w_shr43, w_or]; rfl
theorem b_39 : bits .and .u64 39 63 = 39 := by decide +kernel
theorem b_21 : bits .and .u64 21 63 = 21 := by decide +kernel
end Go.Proofs.Ytegihccdpohnnaa
