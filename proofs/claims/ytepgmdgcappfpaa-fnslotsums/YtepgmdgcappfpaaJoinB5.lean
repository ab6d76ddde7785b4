/-
  copy of a text into a row of bytes made last; digestOfBytes at any 32 bytes.
-/
import Derived.Test.YtepgmdgcappfpaaRows
import Derived.Test.YtepgmdgcappfpaaJoinB1
import Derived.Test.YtepgmdgcappfpaaJoinB3
import Derived.Test.YtepgmdgcappfpaaWalks4
import Derived.Handy
import Derived.Deep.QuietTactic
import Derived.BigQuiet
import Derived.WalkLawsBesides
import Derived.Deep.RegionWith
import Derived.Deep.RegionHeld3
import Derived.Deep.CutRange
import Derived.Deep.DeepCutAuto
import Derived.Deep.CutBlock
import Derived.Laws.Tables
namespace Go.Proofs.Ytepgmdgcappfpaa
open Go.RowKit

theorem run_copy_str (W : World) (ty t : TypeId) (cur : Array Value) (s : ByteArray) (n : Nat) (hn : s.size = n) (hc : cur.size = n) :
    (Builtin.copy_ #[22, 9] ty #[.slice (some ⟨W.heap.size, 0, none⟩) n n, .string s]).run Try.prog (W.alloc (.cells cur t)) = .ok (goInt n) (W.alloc (.cells (bv s.data.toList).toArray t)) := by
  have hsd : s.data.size = n := hn
  have hst := run_storeCells_at Try.prog W.heap.size 0 t (bv s.data.toList) 0 cur (W.alloc (.cells cur t)) (heap_alloc_last W _) (by simp [bv, hsd, hc]) (by simp [bv, Value.oneCell'])
  have hi : (Try.prog.info? 5).map (·.size) = some 1 := by kernel_rfl
  cases hq : Try.prog.info? 5 with
  | none => simp [hq] at hi
  | some i =>
    have hm : Nat.min s.size n = n := by rw [hn]; simp
    have hk : List.take n (List.map (fun b : UInt8 => Value.int IntKind.u8 (b.toNat : Int)) s.data.toList) = bv s.data.toList := by
      rw [List.take_of_length_le (by simp [hsd])]; rfl
    have he : (List.take (0 + 0) cur.toList ++ bv s.data.toList ++ List.drop (0 + 0 + (bv s.data.toList).length) cur.toList).toArray = (bv s.data.toList).toArray := by
      rw [List.drop_of_length_le (by simp [bv, hsd, hc])]; simp
    rw [he, World.setRow_alloc_new] at hst
    simp [Builtin.copy_, Builtin.lenOf, Builtin.firstCells, sizeOf, typeInfo, run_underlying Try.underlying22, hq, hm, hk, hst]

/-- digestOfBytes, at any 32 bytes. -/
theorem dob_any (l : List UInt8) (hl : l.length = 32) (w : World) :
    Calls Try.prog 58 #[.agg (bv l).toArray] w fun e w' => e = .returned (.agg #[.int .u64 ((bd l).a.toNat : Int), .int .u64 ((bd l).b.toNat : Int), .int .u64 ((bd l).c.toNat : Int), .int .u64 ((bd l).d.toNat : Int)]) ∧ Below w.heap.size w w' := by
  obtain ⟨x0, x1, x2, x3, x4, x5, x6, x7, x8, x9, x10, x11, x12, x13, x14, x15, x16, x17, x18, x19, x20, x21, x22, x23, x24, x25, x26, x27, x28, x29, x30, x31, rfl⟩ := list32 l hl
  exact dob_is x0 x1 x2 x3 x4 x5 x6 x7 x8 x9 x10 x11 x12 x13 x14 x15 x16 x17 x18 x19 x20 x21 x22 x23 x24 x25 x26 x27 x28 x29 x30 x31 w
end Go.Proofs.Ytepgmdgcappfpaa

/-
  The walks of HashBlock, on both sides: each comes to the plain function HB.
-/
namespace Go.Proofs.Ytepgmdgcappfpaa
open Go.RowKit

set_option maxHeartbeats 1000000 in
theorem hb_spec (s b : Qd) (w : World) :
    Calls Try.prog 43 #[.agg #[.int .u64 ((s).a.toNat : Int), .int .u64 ((s).b.toNat : Int), .int .u64 ((s).c.toNat : Int), .int .u64 ((s).d.toNat : Int)], .agg #[.int .u64 ((b).a.toNat : Int), .int .u64 ((b).b.toNat : Int), .int .u64 ((b).c.toNat : Int), .int .u64 ((b).d.toNat : Int)]] w fun e w' => e = .returned (.agg #[.int .u64 ((HB s b).a.toNat : Int), .int .u64 ((HB s b).b.toNat : Int), .int .u64 ((HB s b).c.toNat : Int), .int .u64 ((HB s b).d.toNat : Int)]) ∧ Below w.heap.size w w' := by
  go_enter Try.func43, Try.ntmps43
  go_wp2
  simp only [w_xor]
  go_loop [5, 6, 7, 8, 9, 10] (fun a b' c d k i => ∃ n : Nat, n ≤ 10 ∧ i = .int .i64 n ∧ k = .int .u64 ((kk n).toNat : Int) ∧ a = .int .u64 (((it n (xq s b)).a).toNat : Int) ∧ b' = .int .u64 (((it n (xq s b)).b).toNat : Int) ∧ c = .int .u64 (((it n (xq s b)).c).toNat : Int) ∧ d = .int .u64 (((it n (xq s b)).d).toNat : Int)) (fun _ _ _ _ _ i => 10 - (intOf i).toNat)
  case atStart => exact ⟨0, by omega, rfl, rfl, rfl, rfl, rfl, rfl⟩
  case round =>
    obtain ⟨n, hn, rfl, rfl, rfl, rfl, rfl, rfl⟩ := hrel
    by_cases hlt : n < 10
    · go_wp2
      go_round
      case rel =>
        simp only [w_addk, w_add, w_xor, w_rl39, w_rl21, UInt64.add_assoc]
        exact ⟨n + 1, by omega, by go_num, rfl, rfl, rfl, rfl, rfl⟩
      case measure => simp [intOf]; omega
    · have hn10 : n = 10 := by omega
      subst hn10
      go_wp2
      simp only [w_xor]
      exact bodyPost_ret (v := .agg #[.int .u64 ((HB s b).a.toNat : Int), .int .u64 ((HB s b).b.toNat : Int), .int .u64 ((HB s b).c.toNat : Int), .int .u64 ((HB s b).d.toNat : Int)]) (by simp [results, Try.results43, go_sem, HB, xq]) rfl ⟨rfl, (by repeat' (first | (with_reducible exact Below.refl _ _) | (with_reducible assumption) | (with_reducible refine below_drewN ?_ _) | (with_reducible refine Below.setCell ?_ ?_ _) | (with_reducible refine Below.alloc ?_ ?_ _) | (with_reducible refine Below.drew ?_) | go_size))⟩

end Go.Proofs.Ytepgmdgcappfpaa

/-
  l1Word: eight bytes of a text as a word.
-/
namespace Go.Proofs.Ytepgmdgcappfpaa
open Go.RowKit

/-- The k bytes of a text from place n on. -/
def seg (s : ByteArray) (n k : Nat) : List UInt8 := (s.data.toList.drop n).take k
theorem seg_snoc (s : ByteArray) (n k : Nat) (h : n + k < s.size) : seg s n (k + 1) = seg s n k ++ [s[n + k]] := by
  unfold seg
  rw [List.take_succ_eq_append_getElem (by simp; have : s.size = s.data.size := rfl; omega)]
  congr 1
  simp [List.getElem_drop]
  rfl
theorem bw_snoc (l : List UInt8) (x : UInt8) : bw (l ++ [x]) = bstep (bw l) x := by simp [bw]

set_option maxHeartbeats 1000000 in
theorem l1w_is (s : ByteArray) (n : Nat) (w : World) (hs : s.size ≤ 9223372036854775000) (h8 : n + 8 ≤ s.size) :
    Calls Try.prog 44 #[.string s, .int .i64 (n : Int)] w fun e w' => e = .returned (.int .u64 ((bw (seg s n 8)).toNat : Int)) ∧ w' = w := by
  go_enter Try.func44, Try.ntmps44
  go_wp2
  go_loop [5, 6] (fun v i => ∃ k : Nat, k ≤ 8 ∧ i = .int .i64 ((n + k : Nat) : Int) ∧ v = .int .u64 ((bw (seg s n k)).toNat : Int)) (fun _ i => n + 8 - (intOf i).toNat)
  case atStart => exact ⟨0, by omega, by simp, rfl⟩
  case round =>
    obtain ⟨k, hk, rfl, rfl⟩ := hrel
    by_cases hlt : k < 8
    · have hlt' : n + k < s.size := by omega
      have hsn := seg_snoc s n k hlt'
      have HS : Hid (bw (seg s n (k + 1)) = bstep (bw (seg s n k)) s[n + k]) := by rw [hsn]; exact bw_snoc _ _
      clear hsn
      go_wp2
      go_round
      case rel => exact ⟨k + 1, by omega, by go_num, by rw [HS.out, w_bstep]⟩
      case measure => simp [intOf]; omega
    · have hk8 : k = 8 := by omega
      subst hk8
      go_wp2
      go_ret
      exact ⟨rfl, rfl⟩

/-- 32 bytes as a digest, by places. -/
theorem bd_seg (s : ByteArray) (n : Nat) : bd (seg s n 32) = { a := bw (seg s n 8), b := bw (seg s (n + 8) 8), c := bw (seg s (n + 16) 8), d := bw (seg s (n + 24) 8) } := by
  unfold bd seg
  simp [List.take_take, List.drop_take, List.drop_drop]

end Go.Proofs.Ytepgmdgcappfpaa

/-
  HashBack, on both sides, and its law, walked.
-/
namespace Go.Proofs.Ytepgmdgcappfpaa
open Go.RowKit

theorem info62 : (Try.prog.info? 103).map (·.size) = some 32 := by kernel_rfl

theorem seg_all (s : ByteArray) (n : Nat) (hn : s.size = n) : seg s 0 n = s.data.toList := by
  unfold seg
  have : s.data.size = n := hn
  rw [List.drop_zero, List.take_of_length_le (by simp [this])]

end Go.Proofs.Ytepgmdgcappfpaa

/-
  Plain mathematics of digests, continued: a text laid into blocks.
-/
namespace Go.Proofs.Ytepgmdgcappfpaa
open Go

def H0 : Qd := { a := 0xC1E4D37A5B0962F8, b := 0x2D9A6E13F7084BC5, c := 0x71F0A85CE43B9D26, d := 0x9E62C70B184FA5D3 }
/-- So many blocks behind a state. -/
def blocks (h : Qd) : Nat → List UInt8 → Qd
  | 0, _ => h
  | n + 1, l => blocks (HB h (bd (l.take 32))) n (l.drop 32)
def padN (m : Nat) : Nat := (32 - (m + 9) % 32) % 32
def pad (t : List UInt8) : List UInt8 := t ++ ([128] ++ (List.replicate (padN t.length) 0 ++ wb (UInt64.ofNat t.length)))
/-- The digest of a text that has no bytes 255. -/
def hashOf (t : List UInt8) : Qd := blocks H0 ((pad t).length / 32) (pad t)

theorem blocks_succ (n : Nat) : ∀ (h : Qd) (l : List UInt8), blocks h (n + 1) l = HB (blocks h n l) (bd ((l.drop (32 * n)).take 32)) := by
  induction n with
  | zero => intro h l; simp [blocks]
  | succ n ih =>
    intro h l
    rw [blocks, ih, blocks, List.drop_drop]
    congr 3
    congr 1
    omega
theorem blocks_append (n : Nat) : ∀ (h : Qd) (x y : List UInt8), 32 * n ≤ x.length → blocks h n (x ++ y) = blocks h n x := by
  induction n with
  | zero => intro h x y _; rfl
  | succ n ih =>
    intro h x y hx
    rw [blocks, blocks, List.take_append_of_le_length (by omega), List.drop_append_of_le_length (by omega), ih _ _ _ (by simp; omega)]
theorem wb_len (x : UInt64) : (wb x).length = 8 := rfl
theorem pad_length (t : List UInt8) : (pad t).length = t.length + 9 + padN t.length := by
  simp [pad, wb_len]; omega
theorem pad_mod (t : List UInt8) : (pad t).length % 32 = 0 := by
  rw [pad_length]; unfold padN; omega
theorem pad_le (t : List UInt8) : (pad t).length ≤ t.length + 40 := by
  rw [pad_length]; unfold padN; omega

/-- The last block or two, out of what is left: the short case. -/
theorem hashOf_short (t : List UInt8) (c r : Nat) (hc : c = t.length / 32) (hr : r = t.length % 32) (h : r ≤ 23) :
    hashOf t = HB (blocks H0 c t) (bd (t.drop (32 * c) ++ ([128] ++ (List.replicate (23 - r) 0 ++ wb (UInt64.ofNat t.length))))) := by
  have hp : padN t.length = 23 - r := by unfold padN; omega
  have hl : (pad t).length / 32 = c + 1 := by rw [pad_length, hp]; omega
  unfold hashOf
  rw [hl, blocks_succ]
  have e1 : blocks H0 c (pad t) = blocks H0 c t := blocks_append c H0 t _ (by omega)
  rw [e1]
  congr 2
  unfold pad
  rw [hp, List.drop_append_of_le_length (by omega), List.take_of_length_le (by simp [wb_len]; omega)]

/-- The long case. -/
theorem hashOf_long (t : List UInt8) (c r : Nat) (hc : c = t.length / 32) (hr : r = t.length % 32) (h : 24 ≤ r) :
    hashOf t = HB (HB (blocks H0 c t) (bd (t.drop (32 * c) ++ ([128] ++ List.replicate (31 - r) 0)))) (bd (List.replicate 24 0 ++ wb (UInt64.ofNat t.length))) := by
  have hp : padN t.length = 55 - r := by unfold padN; omega
  have hl : (pad t).length / 32 = c + 1 + 1 := by rw [pad_length, hp]; omega
  unfold hashOf
  rw [hl, blocks_succ, blocks_succ]
  have e1 : blocks H0 c (pad t) = blocks H0 c t := blocks_append c H0 t _ (by omega)
  rw [e1]
  have hrep : List.replicate (55 - r) (0 : UInt8) = List.replicate (31 - r) 0 ++ List.replicate 24 0 := by
    rw [List.replicate_append_replicate]; congr 1; omega
  have hpad : pad t = (t ++ ([128] ++ List.replicate (31 - r) 0)) ++ (List.replicate 24 0 ++ wb (UInt64.ofNat t.length)) := by
    unfold pad; rw [hp, hrep]; simp
  have hlen : (t ++ ([128] ++ List.replicate (31 - r) (0 : UInt8))).length = 32 * (c + 1) := by simp; omega
  congr 2
  · congr 1
    rw [hpad, List.drop_append_of_le_length (by rw [hlen]; omega), List.take_append_of_le_length (by simp; omega), List.drop_append_of_le_length (by omega),
      List.take_of_length_le (by simp; omega)]
  · rw [hpad, List.drop_append, List.drop_of_length_le (by rw [hlen]; omega), hlen, Nat.sub_self, List.drop_zero, List.nil_append, List.take_of_length_le (by simp [wb_len])]
end Go.Proofs.Ytepgmdgcappfpaa
