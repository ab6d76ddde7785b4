/-
  Plain mathematics of digests, continued: a text laid into blocks.
-/
import Derived.Test.YtegihccdpohnnaaPlain2
import Derived.Test.YtegihccdpohnnaaKit4
namespace Go.Proofs.Ytegihccdpohnnaa
open Go

def H0 : Qd := { a := 0xC1E4D37A5B0962F8, b := 0x2D9A6E13F7084BC5, c := 0x71F0A85CE43B9D26, d := 0x9E62C70B184FA5D3 }
/-- So many blocks behind a state. -/
def blocks (h : Qd) : Nat → List UInt8 → Qd
  | 0, _ => h
  | n + 1, l => blocks (HB h (bd (l.take 32))) n (l.drop 32)
def padN (m : Nat) : Nat := (32 - (m + 9) % 32) % 32
def pad (t : List UInt8) : List UInt8 := t ++ ([128] ++ (List.replicate (padN t.length) 0 ++ wb (UInt64.ofNat t.length)))
/-- The digest of a text that has no bytes 255. -/
def hashOf (t : List UInt8) : Qd := blocks H0 ((pad t).length / 32) (pad t)

theorem blocks_succ (n : Nat) : ∀ (h : Qd) (l : List UInt8), blocks h (n + 1) l = HB (blocks h n l) (bd ((l.drop (32 * n)).take 32)) := by
  induction n with
  | zero => intro h l; simp [blocks]
  | succ n ih =>
    intro h l
    rw [blocks, ih, blocks, List.drop_drop]
    congr 3
    congr 1
    omega
theorem blocks_append (n : Nat) : ∀ (h : Qd) (x y : List UInt8), 32 * n ≤ x.length → blocks h n (x ++ y) = blocks h n x := by
  induction n with
  | zero => intro h x y _; rfl
  | succ n ih =>
    intro h x y hx
    rw [blocks, blocks, List.take_append_of_le_length (by omega), List.drop_append_of_le_length (by omega), ih _ _ _ (by simp; omega)]
theorem wb_len (x : UInt64) : (wb x).length = 8 := rfl
theorem pad_length (t : List UInt8) : (pad t).length = t.length + 9 + padN t.length := by
  simp [pad, wb_len]; omega
theorem pad_mod (t : List UInt8) : (pad t).length % 32 = 0 := by
  rw [pad_length]; unfold padN; omega
theorem pad_le (t : List UInt8) : (pad t).length ≤ t.length + 40 := by
  rw [pad_length]; unfold padN; omega

/-- The last block or two, out of what is left: the short case. -/
theorem hashOf_short (t : List UInt8) (c r : Nat) (hc : c = t.length / 32) (hr : r = t.length % 32) (h : r ≤ 23) :
    hashOf t = HB (blocks H0 c t) (bd (t.drop (32 * c) ++ ([128] ++ (List.replicate (23 - r) 0 ++ wb (UInt64.ofNat t.length))))) := by
  have hp : padN t.length = 23 - r := by unfold padN; omega
  have hl : (pad t).length / 32 = c + 1 := by rw [pad_length, hp]; omega
  unfold hashOf
  rw [hl, blocks_succ]
  have e1 : blocks H0 c (pad t) = blocks H0 c t := blocks_append c H0 t _ (by omega)
  rw [e1]
  congr 2
  unfold pad
  rw [hp, List.drop_append_of_le_length (by omega), List.take_of_length_le (by simp [wb_len]; omega)]

/-- The long case. -/
theorem hashOf_long (t : List UInt8) (c r : Nat) (hc : c = t.length / 32) (hr : r = t.length % 32) (h : 24 ≤ r) :
    hashOf t = HB (HB (blocks H0 c t) (bd (t.drop (32 * c) ++ ([128] ++ List.replicate (31 - r) 0)))) (bd (List.replicate 24 0 ++ wb (UInt64.ofNat t.length))) := by
  have hp : padN t.length = 55 - r := by unfold padN; omega
  have hl : (pad t).length / 32 = c + 1 + 1 := by rw [pad_length, hp]; omega
  unfold hashOf
  rw [hl, blocks_succ, blocks_succ]
  have e1 : blocks H0 c (pad t) = blocks H0 c t := blocks_append c H0 t _ (by omega)
  rw [e1]
  have hrep : List.replicate (55 - r) (0 : UInt8) = List.replicate (31 - r) 0 ++ List.replicate 24 0 := by
    rw [List.replicate_append_replicate]; congr 1; omega
  have hpad : pad t = (t ++ ([128] ++ List.replicate (31 - r) 0)) ++ (List.replicate 24 0 ++ wb (UInt64.ofNat t.length)) := by
    unfold pad; rw [hp, hrep]; simp
  have hlen : (t ++ ([128] ++ List.replicate (31 - r) (0 : UInt8))).length = 32 * (c + 1) := by simp; omega
  congr 2
  · congr 1
    rw [hpad, List.drop_append_of_le_length (by rw [hlen]; omega), List.take_append_of_le_length (by simp; omega), List.drop_append_of_le_length (by omega),
      List.take_of_length_le (by simp; omega)]
  · rw [hpad, List.drop_append, List.drop_of_length_le (by rw [hlen]; omega), hlen, Nat.sub_self, List.drop_zero, List.nil_append, List.take_of_length_le (by simp [wb_len])]
end Go.Proofs.Ytegihccdpohnnaa
