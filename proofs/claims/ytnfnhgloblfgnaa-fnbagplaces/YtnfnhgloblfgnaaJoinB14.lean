/-
  Plain mathematics of digests, continued: a text laid into blocks.
-/
import Derived.Test.YtnfnhgloblfgnaaJoinB13
import Derived.Test.YtnfnhgloblfgnaaRows
import Derived.Deep.QuietTactic
import Derived.BigQuiet
import Derived.Deep.RegionWith
import Derived.Deep.RegionHeld3
import Derived.Deep.CutRange
import Derived.Deep.DeepCutAuto
import Derived.Deep.CutBlock
import Derived.Laws.Tables
import Derived.Test.YtnfnhgloblfgnaaJoinB10
namespace Go.Proofs.Ytnfnhgloblfgnaa
open Go

def H0 : Qd := { a := 0xC1E4D37A5B0962F8, b := 0x2D9A6E13F7084BC5, c := 0x71F0A85CE43B9D26, d := 0x9E62C70B184FA5D3 }
/-- So many blocks behind a state. -/
def blocks (h : Qd) : Nat → List UInt8 → Qd
  | 0, _ => h
  | n + 1, l => blocks (HB h (bd (l.take 32))) n (l.drop 32)
def padN (m : Nat) : Nat := (32 - (m + 9) % 32) % 32
def pad (t : List UInt8) : List UInt8 := t ++ ([128] ++ (List.replicate (padN t.length) 0 ++ wb (UInt64.ofNat t.length)))
/-- The digest of a text that has no bytes 255. -/
def hashOf (t : List UInt8) : Qd := blocks H0 ((pad t).length / 32) (pad t)

theorem blocks_succ (n : Nat) : ∀ (h : Qd) (l : List UInt8), blocks h (n + 1) l = HB (blocks h n l) (bd ((l.drop (32 * n)).take 32)) := by
  induction n with
  | zero => intro h l; simp [blocks]
  | succ n ih =>
    intro h l
    rw [blocks, ih, blocks, List.drop_drop]
    congr 3
    congr 1
    omega
theorem blocks_append (n : Nat) : ∀ (h : Qd) (x y : List UInt8), 32 * n ≤ x.length → blocks h n (x ++ y) = blocks h n x := by
  induction n with
  | zero => intro h x y _; rfl
  | succ n ih =>
    intro h x y hx
    rw [blocks, blocks, List.take_append_of_le_length (by omega), List.drop_append_of_le_length (by omega), ih _ _ _ (by simp; omega)]
theorem wb_len (x : UInt64) : (wb x).length = 8 := rfl
theorem pad_length (t : List UInt8) : (pad t).length = t.length + 9 + padN t.length := by
  simp [pad, wb_len]; omega
theorem pad_mod (t : List UInt8) : (pad t).length % 32 = 0 := by
  rw [pad_length]; unfold padN; omega
theorem pad_le (t : List UInt8) : (pad t).length ≤ t.length + 40 := by
  rw [pad_length]; unfold padN; omega

/-- The last block or two, out of what is left: the short case. -/
theorem hashOf_short (t : List UInt8) (c r : Nat) (hc : c = t.length / 32) (hr : r = t.length % 32) (h : r ≤ 23) :
    hashOf t = HB (blocks H0 c t) (bd (t.drop (32 * c) ++ ([128] ++ (List.replicate (23 - r) 0 ++ wb (UInt64.ofNat t.length))))) := by
  have hp : padN t.length = 23 - r := by unfold padN; omega
  have hl : (pad t).length / 32 = c + 1 := by rw [pad_length, hp]; omega
  unfold hashOf
  rw [hl, blocks_succ]
  have e1 : blocks H0 c (pad t) = blocks H0 c t := blocks_append c H0 t _ (by omega)
  rw [e1]
  congr 2
  unfold pad
  rw [hp, List.drop_append_of_le_length (by omega), List.take_of_length_le (by simp [wb_len]; omega)]

/-- The long case. -/
theorem hashOf_long (t : List UInt8) (c r : Nat) (hc : c = t.length / 32) (hr : r = t.length % 32) (h : 24 ≤ r) :
    hashOf t = HB (HB (blocks H0 c t) (bd (t.drop (32 * c) ++ ([128] ++ List.replicate (31 - r) 0)))) (bd (List.replicate 24 0 ++ wb (UInt64.ofNat t.length))) := by
  have hp : padN t.length = 55 - r := by unfold padN; omega
  have hl : (pad t).length / 32 = c + 1 + 1 := by rw [pad_length, hp]; omega
  unfold hashOf
  rw [hl, blocks_succ, blocks_succ]
  have e1 : blocks H0 c (pad t) = blocks H0 c t := blocks_append c H0 t _ (by omega)
  rw [e1]
  have hrep : List.replicate (55 - r) (0 : UInt8) = List.replicate (31 - r) 0 ++ List.replicate 24 0 := by
    rw [List.replicate_append_replicate]; congr 1; omega
  have hpad : pad t = (t ++ ([128] ++ List.replicate (31 - r) 0)) ++ (List.replicate 24 0 ++ wb (UInt64.ofNat t.length)) := by
    unfold pad; rw [hp, hrep]; simp
  have hlen : (t ++ ([128] ++ List.replicate (31 - r) (0 : UInt8))).length = 32 * (c + 1) := by simp; omega
  congr 2
  · congr 1
    rw [hpad, List.drop_append_of_le_length (by rw [hlen]; omega), List.take_append_of_le_length (by simp; omega), List.drop_append_of_le_length (by omega),
      List.take_of_length_le (by simp; omega)]
  · rw [hpad, List.drop_append, List.drop_of_length_le (by rw [hlen]; omega), hlen, Nat.sub_self, List.drop_zero, List.nil_append, List.take_of_length_le (by simp [wb_len])]
end Go.Proofs.Ytnfnhgloblfgnaa

/-
  l1Bytes: a word in eight bytes.
-/
namespace Go.Proofs.Ytnfnhgloblfgnaa
open Go.RowKit

end Go.Proofs.Ytnfnhgloblfgnaa

/-
  l1Word: eight bytes of a text as a word.
-/
namespace Go.Proofs.Ytnfnhgloblfgnaa
open Go.RowKit

/-- The k bytes of a text from place n on. -/
def seg (s : ByteArray) (n k : Nat) : List UInt8 := (s.data.toList.drop n).take k
theorem seg_snoc (s : ByteArray) (n k : Nat) (h : n + k < s.size) : seg s n (k + 1) = seg s n k ++ [s[n + k]] := by
  unfold seg
  rw [List.take_succ_eq_append_getElem (by simp; have : s.size = s.data.size := rfl; omega)]
  congr 1
  simp [List.getElem_drop]
  rfl
theorem bw_snoc (l : List UInt8) (x : UInt8) : bw (l ++ [x]) = bstep (bw l) x := by simp [bw]

/-- 32 bytes as a digest, by places. -/
theorem bd_seg (s : ByteArray) (n : Nat) : bd (seg s n 32) = { a := bw (seg s n 8), b := bw (seg s (n + 8) 8), c := bw (seg s (n + 16) 8), d := bw (seg s (n + 24) 8) } := by
  unfold bd seg
  simp [List.take_take, List.drop_take, List.drop_drop]

end Go.Proofs.Ytnfnhgloblfgnaa

/-
  l1Bare, l1Zeros: a text without its bytes 255; so many bytes 0.
-/
namespace Go.Proofs.Ytnfnhgloblfgnaa
open Go.RowKit

/-- Without bytes 255. -/
def bare (l : List UInt8) : List UInt8 := l.filter (· != 255)
theorem bare_snoc (l : List UInt8) (x : UInt8) : bare (l ++ [x]) = bare l ++ (if x = 255 then [] else [x]) := by
  unfold bare
  rw [List.filter_append]
  by_cases h : x = 255 <;> simp [h]
theorem bare_le (l : List UInt8) : (bare l).length ≤ l.length := List.length_filter_le _ _
theorem take_snoc (s : ByteArray) (k : Nat) (h : k < s.size) : s.data.toList.take (k + 1) = s.data.toList.take k ++ [s[k]] := by
  rw [List.take_succ_eq_append_getElem (by simpa using h)]; rfl

end Go.Proofs.Ytnfnhgloblfgnaa

/-
  HashOf of the specification.
-/
namespace Go.Proofs.Ytnfnhgloblfgnaa
open Go.RowKit

theorem four_set_at {w : World} {b : Nat} {q : Qd} {y0 y1 y2 y3 : Value} (h0 : w.cell? ⟨b, 0, none⟩ = some y0) (h1 : w.cell? ⟨b, 1, none⟩ = some y1) (h2 : w.cell? ⟨b, 2, none⟩ = some y2) (h3 : w.cell? ⟨b, 3, none⟩ = some y3) :
    ((((w.setCell ⟨b, 0, none⟩ (Value.int IntKind.u64 ((q.a).toNat : Int))).setCell ⟨b, 1, none⟩ (Value.int IntKind.u64 ((q.b).toNat : Int))).setCell ⟨b, 2, none⟩ (Value.int IntKind.u64 ((q.c).toNat : Int))).setCell ⟨b, 3, none⟩ (Value.int IntKind.u64 ((q.d).toNat : Int))).cell? ⟨b, 0, none⟩ = some (Value.int IntKind.u64 ((q.a).toNat : Int)) ∧ ((((w.setCell ⟨b, 0, none⟩ (Value.int IntKind.u64 ((q.a).toNat : Int))).setCell ⟨b, 1, none⟩ (Value.int IntKind.u64 ((q.b).toNat : Int))).setCell ⟨b, 2, none⟩ (Value.int IntKind.u64 ((q.c).toNat : Int))).setCell ⟨b, 3, none⟩ (Value.int IntKind.u64 ((q.d).toNat : Int))).cell? ⟨b, 1, none⟩ = some (Value.int IntKind.u64 ((q.b).toNat : Int)) ∧ ((((w.setCell ⟨b, 0, none⟩ (Value.int IntKind.u64 ((q.a).toNat : Int))).setCell ⟨b, 1, none⟩ (Value.int IntKind.u64 ((q.b).toNat : Int))).setCell ⟨b, 2, none⟩ (Value.int IntKind.u64 ((q.c).toNat : Int))).setCell ⟨b, 3, none⟩ (Value.int IntKind.u64 ((q.d).toNat : Int))).cell? ⟨b, 2, none⟩ = some (Value.int IntKind.u64 ((q.c).toNat : Int)) ∧ ((((w.setCell ⟨b, 0, none⟩ (Value.int IntKind.u64 ((q.a).toNat : Int))).setCell ⟨b, 1, none⟩ (Value.int IntKind.u64 ((q.b).toNat : Int))).setCell ⟨b, 2, none⟩ (Value.int IntKind.u64 ((q.c).toNat : Int))).setCell ⟨b, 3, none⟩ (Value.int IntKind.u64 ((q.d).toNat : Int))).cell? ⟨b, 3, none⟩ = some (Value.int IntKind.u64 ((q.d).toNat : Int)) :=
  four_set (w := w) (b := b) (x0 := Value.int IntKind.u64 ((q.a).toNat : Int)) (x1 := Value.int IntKind.u64 ((q.b).toNat : Int)) (x2 := Value.int IntKind.u64 ((q.c).toNat : Int)) (x3 := Value.int IntKind.u64 ((q.d).toNat : Int)) (fun i hi => by
    have hi' : i = 0 ∨ i = 1 ∨ i = 2 ∨ i = 3 := by omega
    rcases hi' with rfl | rfl | rfl | rfl
    · rw [h0]; rfl
    · rw [h1]; rfl
    · rw [h2]; rfl
    · rw [h3]; rfl)

/-- One byte in a row, as a string. -/
theorem run_str_one (W : World) (b : Nat) (x : UInt8) (h : W.cell? ⟨b, 0, none⟩ = some (.int .u8 (x.toNat : Int))) :
    (convert 22 9 (.slice (some ⟨b, 0, none⟩) 1 1)).run Try.prog W = .ok (.string (str [x])) W := by
  rw [run_convert_bytes_string _ 22 9 5 _ _ _ Try.underlying22 Try.underlying5 Try.underlying9]
  refine run_str_cells _ _ _ _ [x] rfl (fun j u hu => ?_)
  match j, hu with
  | 0, hu => simp [bv] at hu; subst hu; simpa [Addr.add] using h

end Go.Proofs.Ytnfnhgloblfgnaa
