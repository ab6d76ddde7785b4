/-
  Bytes that are gathered by append, and their string.
-/
import Derived.Test.YtepgmdgcappfpaaJoinB2
import Derived.Laws.AppendOwn
import Derived.Laws.OwnMore
import Derived.Laws.BytesString
import Derived.OwnWalk
import Derived.Test.YtepgmdgcappfpaaRows
import Derived.Test.YtepgmdgcappfpaaJoinB1
import Derived.Deep.QuietTactic
import Derived.BigQuiet
namespace Go.Proofs.Ytepgmdgcappfpaa
open Go.RowKit
variable {P : Program}

/-- A string of bytes. -/
abbrev str (l : List UInt8) : ByteArray := ⟨l.toArray⟩

theorem foldl_push (l : List UInt8) : ∀ r : ByteArray, (l.map fun x => (x.toNat : Int)).foldl (fun r n => r.push (UInt8.ofNat n.toNat)) r = ⟨r.data ++ l.toArray⟩ := by
  induction l with
  | nil => intro r; simp
  | cons x l ih =>
    intro r
    simp only [List.map_cons, List.foldl_cons]
    rw [ih]
    congr 1
    simp [ByteArray.push]

theorem bv_map (l : List UInt8) : bv l = (l.map fun x => (x.toNat : Int)).map (Value.int .u8) := by simp [bv]

/-- Cells that hold bytes, read as a string. -/
theorem run_str_cells (w : World) (a : Addr) (len cap : Nat) (l : List UInt8) (hl : l.length = len) (h : ∀ j v, (bv l)[j]? = some v → w.cell? (a.add j) = some v) :
    (Conv.bytesToString (.slice (some a) len cap)).run P w = .ok (.string (str l)) w := by
  have h1 : (loadCells a len).run P w = .ok (bv l).toArray w := by
    have := run_loadCells_list (P := P) w a (bv l) h
    rwa [bv_length, hl] at this
  rw [bv_map] at h1
  rw [run_bytesToString w a len cap _ h1, foldl_push]
  simp [str]

theorem run_str_own (w : World) (base : Nat) (v : Value) (l : List UInt8) (h : w.ownsRow base 5 1 v l.length (bv l)) (hs : P.underlying 22 = some (.slice 5)) (he : P.underlying 5 = some (.int .u8)) (hd : P.underlying 9 = some .string) :
    (convert 22 9 v).run P w = .ok (.string (str l)) w := by
  rcases h with ⟨_, ⟨rfl, hn⟩ | ⟨g, cap, cur, rfl, hb, hg, hn, hcap, hsz, htk⟩⟩
  · rw [run_convert_bytes_string w 22 9 5 none 0 0 hs he hd]
    have : l = [] := List.length_eq_zero_iff.1 hn
    subst this
    simp [Conv.bytesToString, str]
    rfl
  · rw [run_convert_bytes_string w 22 9 5 _ _ _ hs he hd]
    refine run_str_cells w _ _ _ l rfl (fun j u hu => ?_)
    rw [Addr.add_mid, cell_of_row w g _ cur 5 (0, 0) hg]
    rw [← htk] at hu
    rw [List.getElem?_take] at hu
    split at hu
    · simpa using hu
    · cases hu
end Go.Proofs.Ytepgmdgcappfpaa

/-
  One byte more: append to bytes that the call itself gathers.
-/
namespace Go.Proofs.Ytepgmdgcappfpaa
open Go.RowKit

theorem info5 : (Try.prog.info? 5).map (fun i => (i.zero, i.size, i.bytes)) = some (some (.int .u8 0), 1, 1) := by kernel_rfl

/-- append(b, x), b bytes of the call's own, x one byte. -/
theorem wpList_append_byte {w : World} {ops : Array Oper} {rest : List Oper} {o : Oper} {a : Act} {Q : Exit → Act → World → Prop} (hgd : o.guard = none) (s x : Operand)
    (ho : o.op = .call { callee := .builtin .append, args := #[s, x], argTypes := #[22, 22] })
    (base : Nat) (v : Value) (l : List UInt8) (y : UInt8) (hs : a.eval s = v) (hown : w.ownsRow base 5 1 v l.length (bv l))
    (ad : Addr) (hx : a.eval x = .slice (some ad) 1 1) (hcell : w.cell? ad = some (.int .u8 (y.toNat : Int)))
    (hlen : l.length < 1000000000) (hbase : base ≤ w.heap.size)
    (h : ∀ v' w', w'.ownsRow base 5 1 v' (l ++ [y]).length (bv (l ++ [y])) → w.grownBy w' v.ownBlock → wpList Try.prog ops Q rest (a.put o.dst v') w') : wpList Try.prog ops Q (o :: rest) a w := by
  obtain ⟨i0, hi, hz0, hz1, hz2⟩ := info_parts info5
  refine wpList_append_own w hgd s x 22 ho base 5 i0 (.int .u8 0) 1 1 Try.underlying22 hi hz0 hz1 hz2 rfl (by decide) v l.length (bv l) hs hown ad 1 1 [.int .u8 (y.toNat : Int)] hx rfl ?_ ?_ ?_ ?_ hbase ?_
  · intro j u hj
    match j, hj with
    | 0, hj => simp at hj; subst hj; simpa [Addr.add] using hcell
  · intro u hu; simp at hu; subst hu; rfl
  · unfold maxLen; omega
  · omega
  · intro v' w' h1 h2 _
    refine h v' w' ?_ h2
    simpa [bv] using h1
end Go.Proofs.Ytepgmdgcappfpaa

/-
  Words and bytes.
-/
namespace Go.Proofs.Ytepgmdgcappfpaa
open Go.RowKit

set_option maxHeartbeats 1000000 in
/-- bytesOfWord. -/
theorem bow_is (x : UInt64) (w : World) :
    Calls Try.prog 39 #[.int .u64 ((x).toNat : Int)] w fun e w' => e = .returned (.agg #[Value.int IntKind.u8 ((by8 x 56).toNat : Int), Value.int IntKind.u8 ((by8 x 48).toNat : Int), Value.int IntKind.u8 ((by8 x 40).toNat : Int), Value.int IntKind.u8 ((by8 x 32).toNat : Int), Value.int IntKind.u8 ((by8 x 24).toNat : Int), Value.int IntKind.u8 ((by8 x 16).toNat : Int), Value.int IntKind.u8 ((by8 x 8).toNat : Int), Value.int IntKind.u8 ((by8 x 0).toNat : Int)]) ∧ w' = (w.alloc (.cells #[Value.int IntKind.u8 ((by8 x 56).toNat : Int), Value.int IntKind.u8 ((by8 x 48).toNat : Int), Value.int IntKind.u8 ((by8 x 40).toNat : Int), Value.int IntKind.u8 ((by8 x 32).toNat : Int), Value.int IntKind.u8 ((by8 x 24).toNat : Int), Value.int IntKind.u8 ((by8 x 16).toNat : Int), Value.int IntKind.u8 ((by8 x 8).toNat : Int), Value.int IntKind.u8 ((by8 x 0).toNat : Int)] 93)).alloc (.cells #[Value.int IntKind.u8 ((by8 x 56).toNat : Int), Value.int IntKind.u8 ((by8 x 48).toNat : Int), Value.int IntKind.u8 ((by8 x 40).toNat : Int), Value.int IntKind.u8 ((by8 x 32).toNat : Int), Value.int IntKind.u8 ((by8 x 24).toNat : Int), Value.int IntKind.u8 ((by8 x 16).toNat : Int), Value.int IntKind.u8 ((by8 x 8).toNat : Int), Value.int IntKind.u8 ((by8 x 0).toNat : Int)] 93) := by
  go_enter Try.func39, Try.ntmps39
  go_wp2
  go_rounds 9
  simp only [v56, v48, v40, v32, v24, v16, v8, v0]
  exact bodyPost_ret (v := .agg #[Value.int IntKind.u8 ((by8 x 56).toNat : Int), Value.int IntKind.u8 ((by8 x 48).toNat : Int), Value.int IntKind.u8 ((by8 x 40).toNat : Int), Value.int IntKind.u8 ((by8 x 32).toNat : Int), Value.int IntKind.u8 ((by8 x 24).toNat : Int), Value.int IntKind.u8 ((by8 x 16).toNat : Int), Value.int IntKind.u8 ((by8 x 8).toNat : Int), Value.int IntKind.u8 ((by8 x 0).toNat : Int)]) (by simp [results, Try.results39, go_sem]) rfl ⟨rfl, rfl⟩

set_option maxHeartbeats 1000000 in
/-- wordOfBytes. -/
theorem wob_is (x0 x1 x2 x3 x4 x5 x6 x7 : UInt8) (w : World) :
    Calls Try.prog 65 #[.agg #[Value.int IntKind.u8 (x0.toNat : Int), Value.int IntKind.u8 (x1.toNat : Int), Value.int IntKind.u8 (x2.toNat : Int), Value.int IntKind.u8 (x3.toNat : Int), Value.int IntKind.u8 (x4.toNat : Int), Value.int IntKind.u8 (x5.toNat : Int), Value.int IntKind.u8 (x6.toNat : Int), Value.int IntKind.u8 (x7.toNat : Int)]] w fun e w' => e = .returned (.int .u64 ((bw [x0, x1, x2, x3, x4, x5, x6, x7]).toNat : Int)) ∧ w' = w.alloc (.cells #[Value.int IntKind.u8 (x0.toNat : Int), Value.int IntKind.u8 (x1.toNat : Int), Value.int IntKind.u8 (x2.toNat : Int), Value.int IntKind.u8 (x3.toNat : Int), Value.int IntKind.u8 (x4.toNat : Int), Value.int IntKind.u8 (x5.toNat : Int), Value.int IntKind.u8 (x6.toNat : Int), Value.int IntKind.u8 (x7.toNat : Int)] 93) := by
  go_enter Try.func65, Try.ntmps65
  go_wp2
  go_rounds 9
  simp only [w_bstep0, w_bstep]
  go_ret
  exact ⟨rfl, rfl⟩

end Go.Proofs.Ytepgmdgcappfpaa
