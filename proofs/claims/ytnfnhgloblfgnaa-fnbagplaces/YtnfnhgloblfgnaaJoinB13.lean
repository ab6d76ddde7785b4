/-
  Plain mathematics of digests, continued: words and bytes.
-/
import Derived.Test.YtnfnhgloblfgnaaJoinB1
import Derived.Test.YtnfnhgloblfgnaaJoinB4
import Derived.Laws.AppendOwn
import Derived.Laws.OwnMore
import Derived.Laws.BytesString
import Derived.OwnWalk
import Derived.Test.YtnfnhgloblfgnaaRows
namespace Go.Proofs.Ytnfnhgloblfgnaa
open Go

/-! Words and bytes. -/
def by8 (x : UInt64) (k : UInt64) : UInt8 := (x >>> k).toUInt8
/-- A word in eight bytes, the higher first. -/
def wb (x : UInt64) : List UInt8 := [by8 x 56, by8 x 48, by8 x 40, by8 x 32, by8 x 24, by8 x 16, by8 x 8, by8 x 0]
def bstep (acc : UInt64) (x : UInt8) : UInt64 := acc <<< 8 ||| x.toUInt64
/-- Eight bytes as a word. -/
def bw (l : List UInt8) : UInt64 := l.foldl bstep 0
/-- A digest in 32 bytes. -/
def db (q : Qd) : List UInt8 := wb q.a ++ (wb q.b ++ (wb q.c ++ wb q.d))
/-- 32 bytes as a digest. -/
def bd (l : List UInt8) : Qd := { a := bw (l.take 8), b := bw ((l.drop 8).take 8), c := bw ((l.drop 16).take 8), d := bw ((l.drop 24).take 8) }

theorem u8_lt (x : UInt8) : x.toNat < 256 := x.toNat_lt
theorem v_by8 (x : UInt64) (k : Nat) (hk : k < 64) (m : Nat) (hm : m = 2 ^ k) : ((by8 x (UInt64.ofNat k)).toNat : Int) = (x.toNat : Int) / (m : Int) % 256 := by
  unfold by8
  rw [UInt64.toNat_toUInt8, UInt64.toNat_shiftRight, UInt64.toNat_ofNat']
  have e : k % 2 ^ 64 % 64 = k := by omega
  rw [e, Nat.shiftRight_eq_div_pow, hm]
  omega
theorem v56 (x : UInt64) : (x.toNat : Int) / 72057594037927936 % 256 = ((by8 x 56).toNat : Int) := (v_by8 x 56 (by omega) 72057594037927936 (by decide)).symm
theorem v48 (x : UInt64) : (x.toNat : Int) / 281474976710656 % 256 = ((by8 x 48).toNat : Int) := (v_by8 x 48 (by omega) 281474976710656 (by decide)).symm
theorem v40 (x : UInt64) : (x.toNat : Int) / 1099511627776 % 256 = ((by8 x 40).toNat : Int) := (v_by8 x 40 (by omega) 1099511627776 (by decide)).symm
theorem v32 (x : UInt64) : (x.toNat : Int) / 4294967296 % 256 = ((by8 x 32).toNat : Int) := (v_by8 x 32 (by omega) 4294967296 (by decide)).symm
theorem v24 (x : UInt64) : (x.toNat : Int) / 16777216 % 256 = ((by8 x 24).toNat : Int) := (v_by8 x 24 (by omega) 16777216 (by decide)).symm
theorem v16 (x : UInt64) : (x.toNat : Int) / 65536 % 256 = ((by8 x 16).toNat : Int) := (v_by8 x 16 (by omega) 65536 (by decide)).symm
theorem v8 (x : UInt64) : (x.toNat : Int) / 256 % 256 = ((by8 x 8).toNat : Int) := (v_by8 x 8 (by omega) 256 (by decide)).symm
theorem v0 (x : UInt64) : (x.toNat : Int) % 256 = ((by8 x 0).toNat : Int) := by
  have h := v_by8 x 0 (by omega) 1 (by decide)
  simpa using h.symm
theorem w_bstep (acc : UInt64) (x : UInt8) : bits .or .u64 (IntKind.u64.wrap ((acc.toNat : Int) * 256)) (IntKind.u64.wrap (x.toNat : Int)) = ((bstep acc x).toNat : Int) := by
  have h1 : IntKind.u64.wrap ((acc.toNat : Int) * 256) = (((acc <<< 8).toNat : Nat) : Int) := by
    rw [IntKind.wrap_u64, UInt64.toNat_shiftLeft]
    have e : (8 : UInt64).toNat % 64 = 8 := rfl
    rw [e, Nat.shiftLeft_eq]; omega
  have h2 : IntKind.u64.wrap (x.toNat : Int) = ((x.toUInt64.toNat : Nat) : Int) := by
    have := u8_lt x
    rw [IntKind.wrap_u64, UInt8.toNat_toUInt64]; omega
  rw [h1, h2, w_or]; rfl
theorem w_bstep0 (x : UInt8) : bits .or .u64 0 (IntKind.u64.wrap (x.toNat : Int)) = ((bstep 0 x).toNat : Int) := by
  have h := w_bstep 0 x
  have e : IntKind.u64.wrap (((0 : UInt64).toNat : Int) * 256) = 0 := by decide +kernel
  rw [e] at h
  exact h
end Go.Proofs.Ytnfnhgloblfgnaa

/-
  Bytes that are gathered by append, and their string.
-/
namespace Go.Proofs.Ytnfnhgloblfgnaa
open Go.RowKit
variable {P : Program}

/-- A string of bytes. -/
abbrev str (l : List UInt8) : ByteArray := ⟨l.toArray⟩

theorem foldl_push (l : List UInt8) : ∀ r : ByteArray, (l.map fun x => (x.toNat : Int)).foldl (fun r n => r.push (UInt8.ofNat n.toNat)) r = ⟨r.data ++ l.toArray⟩ := by
  induction l with
  | nil => intro r; simp
  | cons x l ih =>
    intro r
    simp only [List.map_cons, List.foldl_cons]
    rw [ih]
    congr 1
    simp [ByteArray.push]

theorem bv_map (l : List UInt8) : bv l = (l.map fun x => (x.toNat : Int)).map (Value.int .u8) := by simp [bv]

/-- Cells that hold bytes, read as a string. -/
theorem run_str_cells (w : World) (a : Addr) (len cap : Nat) (l : List UInt8) (hl : l.length = len) (h : ∀ j v, (bv l)[j]? = some v → w.cell? (a.add j) = some v) :
    (Conv.bytesToString (.slice (some a) len cap)).run P w = .ok (.string (str l)) w := by
  have h1 : (loadCells a len).run P w = .ok (bv l).toArray w := by
    have := run_loadCells_list (P := P) w a (bv l) h
    rwa [bv_length, hl] at this
  rw [bv_map] at h1
  rw [run_bytesToString w a len cap _ h1, foldl_push]
  simp [str]

theorem run_str_own (w : World) (base : Nat) (v : Value) (l : List UInt8) (h : w.ownsRow base 5 1 v l.length (bv l)) (hs : P.underlying 22 = some (.slice 5)) (he : P.underlying 5 = some (.int .u8)) (hd : P.underlying 9 = some .string) :
    (convert 22 9 v).run P w = .ok (.string (str l)) w := by
  rcases h with ⟨_, ⟨rfl, hn⟩ | ⟨g, cap, cur, rfl, hb, hg, hn, hcap, hsz, htk⟩⟩
  · rw [run_convert_bytes_string w 22 9 5 none 0 0 hs he hd]
    have : l = [] := List.length_eq_zero_iff.1 hn
    subst this
    simp [Conv.bytesToString, str]
    rfl
  · rw [run_convert_bytes_string w 22 9 5 _ _ _ hs he hd]
    refine run_str_cells w _ _ _ l rfl (fun j u hu => ?_)
    rw [Addr.add_mid, cell_of_row w g _ cur 5 (0, 0) hg]
    rw [← htk] at hu
    rw [List.getElem?_take] at hu
    split at hu
    · simpa using hu
    · cases hu
end Go.Proofs.Ytnfnhgloblfgnaa

/-
  One byte more: append to bytes that the call itself gathers.
-/
namespace Go.Proofs.Ytnfnhgloblfgnaa
open Go.RowKit

theorem info5 : (Try.prog.info? 5).map (fun i => (i.zero, i.size, i.bytes)) = some (some (.int .u8 0), 1, 1) := by kernel_rfl

/-- append(b, x), b bytes of the call's own, x one byte. -/
theorem wpList_append_byte {w : World} {ops : Array Oper} {rest : List Oper} {o : Oper} {a : Act} {Q : Exit → Act → World → Prop} (hgd : o.guard = none) (s x : Operand)
    (ho : o.op = .call { callee := .builtin .append, args := #[s, x], argTypes := #[22, 22] })
    (base : Nat) (v : Value) (l : List UInt8) (y : UInt8) (hs : a.eval s = v) (hown : w.ownsRow base 5 1 v l.length (bv l))
    (ad : Addr) (hx : a.eval x = .slice (some ad) 1 1) (hcell : w.cell? ad = some (.int .u8 (y.toNat : Int)))
    (hlen : l.length < 1000000000) (hbase : base ≤ w.heap.size)
    (h : ∀ v' w', w'.ownsRow base 5 1 v' (l ++ [y]).length (bv (l ++ [y])) → w.grownBy w' v.ownBlock → wpList Try.prog ops Q rest (a.put o.dst v') w') : wpList Try.prog ops Q (o :: rest) a w := by
  obtain ⟨i0, hi, hz0, hz1, hz2⟩ := info_parts info5
  refine wpList_append_own w hgd s x 22 ho base 5 i0 (.int .u8 0) 1 1 Try.underlying22 hi hz0 hz1 hz2 rfl (by decide) v l.length (bv l) hs hown ad 1 1 [.int .u8 (y.toNat : Int)] hx rfl ?_ ?_ ?_ ?_ hbase ?_
  · intro j u hj
    match j, hj with
    | 0, hj => simp at hj; subst hj; simpa [Addr.add] using hcell
  · intro u hu; simp at hu; subst hu; rfl
  · unfold maxLen; omega
  · omega
  · intro v' w' h1 h2 _
    refine h v' w' ?_ h2
    simpa [bv] using h1
end Go.Proofs.Ytnfnhgloblfgnaa
