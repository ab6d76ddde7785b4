/-
  Plain mathematics of digests, continued: words and bytes.
-/
import Derived.Test.YtegihccdpohnnaaPlain
namespace Go.Proofs.Ytegihccdpohnnaa
open Go

/-! Words and bytes. -/
def by8 (x : UInt64) (k : UInt64) : UInt8 := (x >>> k).toUInt8
/-- A word in eight bytes, the higher first. -/
def wb (x : UInt64) : List UInt8 := [by8 x 56, by8 x 48, by8 x 40, by8 x 32, by8 x 24, by8 x 16, by8 x 8, by8 x 0]
def bstep (acc : UInt64) (x : UInt8) : UInt64 := acc <<< 8 ||| x.toUInt64
/-- Eight bytes as a word. -/
def bw (l : List UInt8) : UInt64 := l.foldl bstep 0
/-- A digest in 32 bytes. -/
def db (q : Qd) : List UInt8 := wb q.a ++ (wb q.b ++ (wb q.c ++ wb q.d))
/-- 32 bytes as a digest. -/
def bd (l : List UInt8) : Qd := { a := bw (l.take 8), b := bw ((l.drop 8).take 8), c := bw ((l.drop 16).take 8), d := bw ((l.drop 24).take 8) }

theorem u8_lt (x : UInt8) : x.toNat < 256 := x.toNat_lt
theorem v_by8 (x : UInt64) (k : Nat) (hk : k < 64) (m : Nat) (hm : m = 2 ^ k) : ((by8 x (UInt64.ofNat k)).toNat : Int) = (x.toNat : Int) / (m : Int) % 256 := by
  unfold by8
  rw [UInt64.toNat_toUInt8, UInt64.toNat_shiftRight, UInt64.toNat_ofNat']
  have e : k % 2 ^ 64 % 64 = k := by omega
  rw [e, Nat.shiftRight_eq_div_pow, hm]
  omega
theorem v56 (x : UInt64) : (x.toNat : Int) / 72057594037927936 % 256 = ((by8 x 56).toNat : Int) := (v_by8 x 56 (by omega) 72057594037927936 (by decide)).symm
theorem v48 (x : UInt64) : (x.toNat : Int) / 281474976710656 % 256 = ((by8 x 48).toNat : Int) := (v_by8 x 48 (by omega) 281474976710656 (by decide)).symm
theorem v40 (x : UInt64) : (x.toNat : Int) / 1099511627776 % 256 = ((by8 x 40).toNat : Int) := (v_by8 x 40 (by omega) 1099511627776 (by decide)).symm
theorem v32 (x : UInt64) : (x.toNat : Int) / 4294967296 % 256 = ((by8 x 32).toNat : Int) := (v_by8 x 32 (by omega) 4294967296 (by decide)).symm
theorem v24 (x : UInt64) : (x.toNat : Int) / 16777216 % 256 = ((by8 x 24).toNat : Int) := (v_by8 x 24 (by omega) 16777216 (by decide)).symm
theorem v16 (x : UInt64) : (x.toNat : Int) / 65536 % 256 = ((by8 x 16).toNat : Int) := (v_by8 x 16 (by omega) 65536 (by decide)).symm
theorem v8 (x : UInt64) : (x.toNat : Int) / 256 % 256 = ((by8 x 8).toNat : Int) := (v_by8 x 8 (by omega) 256 (by decide)).symm
theorem v0 (x : UInt64) : (x.toNat : Int) % 256 = ((by8 x 0).toNat : Int) := by
  have h := v_by8 x 0 (by omega) 1 (by decide)
  simpa using h.symm
theorem w_bstep (acc : UInt64) (x : UInt8) : bits .or .u64 (IntKind.u64.wrap ((acc.toNat : Int) * 256)) (IntKind.u64.wrap (x.toNat : Int)) = ((bstep acc x).toNat : Int) := by
  have h1 : IntKind.u64.wrap ((acc.toNat : Int) * 256) = (((acc <<< 8).toNat : Nat) : Int) := by
    rw [IntKind.wrap_u64, UInt64.toNat_shiftLeft]
    have e : (8 : UInt64).toNat % 64 = 8 := rfl
    rw [e, Nat.shiftLeft_eq]; omega
  have h2 : IntKind.u64.wrap (x.toNat : Int) = ((x.toUInt64.toNat : Nat) : Int) := by
    have := u8_lt x
    rw [IntKind.wrap_u64, UInt8.toNat_toUInt64]; omega
  rw [h1, h2, w_or]; rfl
theorem w_bstep0 (x : UInt8) : bits .or .u64 0 (IntKind.u64.wrap (x.toNat : Int)) = ((bstep 0 x).toNat : Int) := by
  have h := w_bstep 0 x
  have e : IntKind.u64.wrap (((0 : UInt64).toNat : Int) * 256) = 0 := by decide +kernel
  rw [e] at h
  exact h
end Go.Proofs.Ytegihccdpohnnaa
