/-
  l1Hex, digitsOfBytes: bytes in digits of sixteen, walked.
-/
import Derived.Test.YtjfiafnbmejaeaaRows
import Derived.Test.YtjfiafnbmejaeaaPlain6
import Derived.Test.YtjfiafnbmejaeaaKit5
import Derived.Deep.QuietTactic
import Derived.BigQuiet
import Derived.Deep.RegionWith
import Derived.Deep.RegionHeld3
import Derived.Deep.CutRange
import Derived.Deep.DeepCutAuto
import Derived.Deep.CutBlock
import Derived.Laws.Tables
import Derived.Test.YtjfiafnbmejaeaaWalks14
namespace Go.Proofs.Ytjfiafnbmejaeaa
open Go.RowKit

theorem hx_val (n : Nat) (h : n < 16) : ((hx n).toNat : Int) = if n < 10 then 48 + (n : Int) else 87 + (n : Int) := by
  have key : ∀ n, n < 16 → ((hx n).toNat : Int) = if n < 10 then 48 + (n : Int) else 87 + (n : Int) := by decide +kernel
  exact key n h

theorem hex_is (n : Nat) (h : n < 16) (w : World) : Calls Try.prog 67 #[.int .i64 (n : Int)] w fun e w' => e = .returned (.int .u8 ((hx n).toNat : Int)) ∧ w' = w := by
  have HV : Hid (((hx n).toNat : Int) = if n < 10 then 48 + (n : Int) else 87 + (n : Int)) := hx_val n h
  generalize ((hx n).toNat : Int) = y at HV ⊢
  by_cases h1 : n < 10
  · have h1' : (n : Int) < 10 := by omega
    go_enter Try.func67, Try.ntmps67
    go_wp2
    go_ret
    refine ⟨congrArg Ending.returned (congrArg (Value.int IntKind.u8) ?_), rfl⟩
    have hv := HV.out
    rw [if_pos h1] at hv
    rw [hv]
  · have h1' : ¬ (n : Int) < 10 := by omega
    go_enter Try.func67, Try.ntmps67
    go_wp2
    go_ret
    refine ⟨congrArg Ending.returned (congrArg (Value.int IntKind.u8) ?_), rfl⟩
    have hv := HV.out
    rw [if_neg h1] at hv
    rw [hv]
    show (97 + (n : Int) - 10) = _
    omega
/-- What stands in digitsOfBytes: the bytes, the answer's box, the digits so far. -/
def DgRel (w : World) (L O : List UInt8) (wx : World) : Prop :=
  w.heap.size + 1 + 1 < wx.heap.size ∧ Below w.heap.size w wx ∧ wx.heap[w.heap.size]? = some (.cells (bv L).toArray 62) ∧ (∃ old : Array Value, old.size = 64 ∧ wx.heap[w.heap.size + 1]? = some (.cells old 66)) ∧ wx.heap[w.heap.size + 1 + 1]? = some (.cells (bv O).toArray 66)
theorem DgRel.drew {w wx : World} {L O : List UInt8} (h : DgRel w L O wx) : DgRel w L O wx.drew := ⟨h.1, h.2.1.drew, h.2.2⟩
theorem DgRel.byte {w W : World} {L O : List UInt8} (h : DgRel w L O W) (r : Nat) (x : UInt8) : DgRel w L (O.set r x) (W.setCell ⟨w.heap.size + 1 + 1, r, none⟩ (.int .u8 (x.toNat : Int))) := by
  obtain ⟨hz, hB, hrow, ⟨old, ho, hold⟩, hout⟩ := h
  have hh : (W.setCell ⟨w.heap.size + 1 + 1, r, none⟩ (.int .u8 (x.toNat : Int))).heap[w.heap.size + 1 + 1]? = some (.cells (bv (O.set r x)).toArray 66) := by
    rw [setCell_eq_setRow W (w.heap.size + 1 + 1) r _ 66 (0, 0) _ hout, setRow_heap _ _ _ _ _ _ hout]
    simp [bv, List.map_set]
  refine ⟨by simp only [World.size_setCell]; exact hz, hB.setCell (by show w.heap.size ≤ w.heap.size + 1 + 1; omega) _, ?_, ⟨old, ho, ?_⟩, hh⟩
  · rw [heap_setCell_other _ _ _ _ (by show w.heap.size ≠ w.heap.size + 1 + 1; omega)]; exact hrow
  · rw [heap_setCell_other _ _ _ _ (by show w.heap.size + 1 ≠ w.heap.size + 1 + 1; omega)]; exact hold
theorem DgRel.start (w : World) (L : List UInt8) (Y Z : Array Value) (hY : Y.size = 64) (hZ : Z = (bv (List.replicate 64 0)).toArray) : DgRel w L (hexs (L.take 0) ++ List.replicate (64 - 2 * 0) 0) (((w.alloc (.cells (bv L).toArray 62)).alloc (.cells Y 66)).alloc (.cells Z 66)) := by
  subst hZ
  refine ⟨by simp, (by repeat' (first | (with_reducible exact Below.refl _ _) | (with_reducible assumption) | (with_reducible refine below_drewN ?_ _) | (with_reducible refine Below.setCell ?_ ?_ _) | (with_reducible refine Below.alloc ?_ ?_ _) | (with_reducible refine Below.drew ?_) | go_size)), ?_, ⟨Y, hY, ?_⟩, heap_new2 _ _ _ (by simp only [World.size_alloc])⟩
  · rw [heap_alloc_old _ _ (by simp only [World.size_alloc]; omega), heap_alloc_old _ _ (by simp only [World.size_alloc]; omega)]
    exact heap_alloc_last w _
  · rw [heap_alloc_old _ _ (by simp only [World.size_alloc]; omega)]
    exact heap_new2 _ _ _ (by simp only [World.size_alloc])
/-- The high and the low digit of a byte. -/
def hx8 (x : UInt8) : UInt8 := hx (x.toNat / 16)
def lx8 (x : UInt8) : UInt8 := hx (x.toNat % 16)
theorem dig_at (n : Nat) (h : n < (⟨#[48, 49, 50, 51, 52, 53, 54, 55, 56, 57, 97, 98, 99, 100, 101, 102]⟩ : ByteArray).size) : ((⟨#[48, 49, 50, 51, 52, 53, 54, 55, 56, 57, 97, 98, 99, 100, 101, 102]⟩ : ByteArray)[n]'h) = hx n := by
  have key : ∀ n : Fin 16, ((⟨#[48, 49, 50, 51, 52, 53, 54, 55, 56, 57, 97, 98, 99, 100, 101, 102]⟩ : ByteArray)[n.val]'(by have := n.isLt; exact this)) = hx n.val := by decide +kernel
  exact key ⟨n, h⟩
/-- The cells of a row of bytes. -/
theorem cell_row (W : World) (g t : Nat) (L : List UInt8) (h : W.heap[g]? = some (.cells (bv L).toArray t)) (i : Nat) (hi : i < L.length) : W.cell? ⟨g, i, none⟩ = some (.int .u8 (L[i].toNat : Int)) := by
  rw [cell_of_row W g i _ t (0, 0) h]
  simp [bv, hi]
theorem info64 : (Try.prog.info? 66).map (·.size) = some 64 := by kernel_rfl
/-- Two digits more. -/
theorem set_two (A : List UInt8) (m n : Nat) (x y : UInt8) (hn : A.length = n) : ((A ++ List.replicate (m + 2) 0).set n x).set (n + 1) y = (A ++ [x, y]) ++ List.replicate m 0 := by
  subst hn
  have e : List.replicate (m + 2) (0 : UInt8) = 0 :: 0 :: List.replicate m 0 := rfl
  rw [e]
  simp

set_option maxRecDepth 20000 in
set_option maxHeartbeats 1000000 in
theorem dob2_is (L : List UInt8) (hL : L.length = 32) (w : World) :
    Calls Try.prog 59 #[.agg (bv L).toArray] w fun e w' => e = .returned (.agg (bv (hexs L)).toArray) ∧ Below w.heap.size w w' := by
  obtain ⟨E, hE⟩ : ∃ E, E = hexs L := ⟨_, rfl⟩
  have HE0 : Hid (E = hexs L) := hE
  rw [← hE]
  clear hE
  go_enter Try.func59, Try.ntmps59
  have hv := dig_at
  have hs : (⟨#[48, 49, 50, 51, 52, 53, 54, 55, 56, 57, 97, 98, 99, 100, 101, 102]⟩ : ByteArray).size = 16 := by decide +kernel
  generalize (⟨#[48, 49, 50, 51, 52, 53, 54, 55, 56, 57, 97, 98, 99, 100, 101, 102]⟩ : ByteArray) = T at hv hs ⊢
  have HT : Hid (∀ (n : Nat) (h : n < T.size), (T[n]'h) = hx n) := hv
  clear hv
  go_wp2_with fail
  go_loopw [5] (fun i wr => ∃ k : Nat, k ≤ 32 ∧ i = .int .i64 (k : Int) ∧ Hid (DgRel w L (hexs (L.take k) ++ List.replicate (64 - 2 * k) 0) wr)) (fun i _ => 32 - (intOf i).toNat)
  case atStart => exact ⟨0, by omega, rfl, DgRel.start w L _ _ rfl rfl⟩
  case round =>
    obtain ⟨k, hk, rfl, HR⟩ := hrel
    by_cases hlt : k < 32
    · have hltI : (k : Int) < 32 := by omega
      have hk0 : (0 : Int) ≤ (k : Int) := by omega
      obtain ⟨x, hx⟩ : ∃ x, x = L[k] := ⟨_, rfl⟩
      obtain ⟨j, hj⟩ : ∃ j : Nat, j = 2 * k := ⟨_, rfl⟩
      have hj1 : (2 : Int) * (k : Int) = (j : Int) := by omega
      have hj2 : IntKind.i64.wrap ((j : Int) + 1) = (j : Int) + 1 := IntWalk.i64_in _ (by omega)
      have hj0 : (0 : Int) ≤ (j : Int) := by omega
      have hj64 : (j : Int) + 1 < 64 := by omega
      obtain ⟨O, hO⟩ : ∃ O, O = hexs (L.take k) ++ List.replicate (64 - 2 * k) 0 := ⟨_, rfl⟩
      have hOl : O.length = 64 := by rw [hO, List.length_append, hexs_length, List.length_replicate, List.length_take]; omega
      have HO : Hid (((O.set j (hx8 x)).set (j + 1) (lx8 x)) = hexs (L.take (k + 1)) ++ List.replicate (64 - 2 * (k + 1)) 0) := by
        show _ = _
        rw [hO, show 64 - 2 * k = (64 - 2 * (k + 1)) + 2 by omega, set_two _ _ j _ _ (by rw [hexs_length, List.length_take]; omega), hexs_take L k (by omega), hx]
        rfl
      rw [← hO] at HR
      obtain ⟨hz, hB, hrow, _, hout⟩ := HR.out
      have bj : j < O.length := by omega
      have bj1 : j + 1 < O.length := by omega
      have bk : k < L.length := by omega
      have hc0 := cell_row wr w.heap.size 62 L hrow k bk
      rw [← hx] at hc0
      have hc1 := cell_row wr (w.heap.size + 1 + 1) 66 O hout j bj
      have hc2 := cell_row wr (w.heap.size + 1 + 1) 66 O hout (j + 1) bj1
      have hf1 : wr.frozen? ⟨w.heap.size + 1 + 1, j, none⟩ = false := frozen_of_row wr (w.heap.size + 1 + 1) j _ 66 hout
      have hf2 : wr.frozen? ⟨w.heap.size + 1 + 1, j + 1, none⟩ = false := frozen_of_row wr (w.heap.size + 1 + 1) (j + 1) _ 66 hout
      have HN : Hid (DgRel w L ((O.set j (hx8 x)).set (j + 1) (lx8 x)) ((wr.setCell ⟨w.heap.size + 1 + 1, j, none⟩ (.int .u8 ((hx8 x).toNat : Int))).setCell ⟨w.heap.size + 1 + 1, j + 1, none⟩ (.int .u8 ((lx8 x).toNat : Int)))) := (HR.out.byte j (hx8 x)).byte (j + 1) (lx8 x)
      have HX : Hid (∀ h, (T[((x.toNat : Int) / 16).toNat]'h) = hx8 x) := fun h => by rw [HT.out]; unfold hx8; congr 1
      have HY : Hid (∀ h, (T[((x.toNat : Int) % 16).toNat]'h) = lx8 x) := fun h => by rw [HT.out]; unfold lx8; congr 1
      have hx256 := u8_lt x
      have HE : Hid ((x.toNat : Int) = (x.toNat : Int)) := rfl
      have HJ : Hid (j = 2 * k) := hj
      clear hrow hout hO hx HR hj
      generalize hy : (x.toNat : Int) = y at hc0 HX HY HE
      have hy0 : 0 ≤ y := by omega
      have hy1 : y < 256 := by omega
      have ha : bits .and .u8 y 15 = y % 16 := by go_bits2
      clear hy hx256
      go_wp2_with fail
      refine ⟨⟨k + 1, by omega, by go_num, ?_⟩, by simp [intOf]; omega⟩
      show DgRel _ _ _ _
      rw [HX.out, HY.out, ← HO.out]
      exact HN.out
    · have hkk : k = 32 := by omega
      subst hkk
      have hge : ¬ ((32 : Nat) : Int) < 32 := by omega
      have hOl : E.length = 64 := by rw [HE0.out, hexs_length]; omega
      have e : hexs (L.take 32) ++ List.replicate (64 - 2 * 32) 0 = E := by
        rw [List.take_of_length_le (by omega), HE0.out]; simp
      rw [e] at HR
      obtain ⟨hz, hB, hrow, ⟨old, hold, hres⟩, hout⟩ := HR.out
      have HO : Hid (wr.heap[w.heap.size + 1 + 1]? = some (.cells (bv E).toArray 66)) := hout
      have HS : Hid (wr.heap[w.heap.size + 1]? = some (.cells old 66)) := hres
      have hsz : (bv E).toArray.size = 64 := by simp [bv_length, hOl]
      have HI : Hid ((Try.prog.info? 66).map (·.size) = some (bv E).toArray.size) := info64.trans (congrArg some hsz.symm)
      have HOLD : Hid (old.size = (bv E).toArray.size) := by show _ = _; omega
      have HONE : Hid ((bv E).toArray.all (·.oneCell') = true) := by
        show _ = _
        simp [bv, Value.oneCell']
      have HBB : Hid (Below w.heap.size w wr) := hB
      clear hrow hout hres hOl e HR hsz hold hB
      go_wp2_with (first | (refine wpList_load_row rfl 66 _ rfl (w.heap.size + 1 + 1) rfl 66 _ _ _ HO.out Try.underlying66 rfl HI.out ?_) | (refine wpList_store_row rfl 66 _ _ rfl (w.heap.size + 1) _ rfl rfl 66 _ HS.out HI.out HOLD.out HONE.out ?_))
      exact bodyPost_ret (v := .agg (bv E).toArray) (results_cell_row Try.results59 _ _ (w.heap.size + 1) 66 _ _ _ rfl (setRow_heap _ _ _ _ _ _ HS.out) Try.underlying66 rfl HI.out) rfl ⟨rfl, below_setRow HBB.out (by omega) _⟩
end Go.Proofs.Ytjfiafnbmejaeaa
