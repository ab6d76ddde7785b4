/-
  HashRead of the program, walked.
-/
import Derived.Test.YtjfiafnbmejaeaaWalks22
import Derived.Test.YtjfiafnbmejaeaaWalks9
namespace Go.Proofs.Ytjfiafnbmejaeaa
open Go.RowKit

/-- digitValue. -/
theorem dval_is (c : UInt8) (w : World) : Calls Try.prog 72 #[.int .u8 (c.toNat : Int)] w fun e w' => e = .returned (.int .u8 (dv c : Int)) ∧ w' = w := by
  have hc := u8_lt c
  obtain ⟨d, hd⟩ : ∃ d, d = dv c := ⟨_, rfl⟩
  have HD : Hid (d = if 48 ≤ c.toNat ∧ c.toNat ≤ 57 then c.toNat - 48 else if 97 ≤ c.toNat ∧ c.toNat ≤ 102 then c.toNat - 87 else 0) := hd
  rw [← hd]
  clear hd
  generalize hy : (c.toNat : Int) = y
  have HY : Hid ((c.toNat : Int) = y) := hy
  have hy0 : 0 ≤ y := by omega
  have hy1 : y < 256 := by omega
  clear hy
  by_cases h1 : 48 ≤ y
  · by_cases h2 : y ≤ 57
    · go_enter Try.func72, Try.ntmps72
      go_wp2
      go_ret
      refine ⟨congrArg Ending.returned (congrArg (Value.int IntKind.u8) ?_), rfl⟩
      have e := HD.out
      have e2 := HY.out
      rw [if_pos (by omega)] at e
      show y - 48 = _
      omega
    · by_cases h3 : 97 ≤ y
      · by_cases h4 : y ≤ 102
        · go_enter Try.func72, Try.ntmps72
          go_wp2
          go_ret
          refine ⟨congrArg Ending.returned (congrArg (Value.int IntKind.u8) ?_), rfl⟩
          have e := HD.out
          have e2 := HY.out
          rw [if_neg (by omega), if_pos (by omega)] at e
          show y - 97 + 10 = _
          omega
        · go_enter Try.func72, Try.ntmps72
          go_wp2
          go_ret
          refine ⟨congrArg Ending.returned (congrArg (Value.int IntKind.u8) ?_), rfl⟩
          have e := HD.out
          have e2 := HY.out
          rw [if_neg (by omega), if_neg (by omega)] at e
          rw [e]; rfl
      · go_enter Try.func72, Try.ntmps72
        go_wp2
        go_ret
        refine ⟨congrArg Ending.returned (congrArg (Value.int IntKind.u8) ?_), rfl⟩
        have e := HD.out
        have e2 := HY.out
        rw [if_neg (by omega), if_neg (by omega)] at e
        rw [e]; rfl
  · go_enter Try.func72, Try.ntmps72
    go_wp2
    go_ret
    refine ⟨congrArg Ending.returned (congrArg (Value.int IntKind.u8) ?_), rfl⟩
    have e := HD.out
    have e2 := HY.out
    rw [if_neg (by omega), if_neg (by omega)] at e
    rw [e]; rfl

/-- What stands in bytesOfDigits: the digits, the answer's box, the bytes so far. -/
def BdRel (w : World) (L O : List UInt8) (wx : World) : Prop :=
  w.heap.size + 1 + 1 < wx.heap.size ∧ Below w.heap.size w wx ∧ wx.heap[w.heap.size]? = some (.cells (bv L).toArray 66) ∧ (∃ old : Array Value, old.size = 32 ∧ wx.heap[w.heap.size + 1]? = some (.cells old 62)) ∧ wx.heap[w.heap.size + 1 + 1]? = some (.cells (bv O).toArray 62)
theorem BdRel.byte {w W : World} {L O : List UInt8} (h : BdRel w L O W) (r : Nat) (x : UInt8) : BdRel w L (O.set r x) (W.setCell ⟨w.heap.size + 1 + 1, r, none⟩ (.int .u8 (x.toNat : Int))) := by
  obtain ⟨hz, hB, hrow, ⟨old, ho, hold⟩, hout⟩ := h
  have hh : (W.setCell ⟨w.heap.size + 1 + 1, r, none⟩ (.int .u8 (x.toNat : Int))).heap[w.heap.size + 1 + 1]? = some (.cells (bv (O.set r x)).toArray 62) := by
    rw [setCell_eq_setRow W (w.heap.size + 1 + 1) r _ 62 (0, 0) _ hout, setRow_heap _ _ _ _ _ _ hout]
    simp [bv, List.map_set]
  refine ⟨by simp only [World.size_setCell]; exact hz, hB.setCell (by show w.heap.size ≤ w.heap.size + 1 + 1; omega) _, ?_, ⟨old, ho, ?_⟩, hh⟩
  · rw [heap_setCell_other _ _ _ _ (by show w.heap.size ≠ w.heap.size + 1 + 1; omega)]; exact hrow
  · rw [heap_setCell_other _ _ _ _ (by show w.heap.size + 1 ≠ w.heap.size + 1 + 1; omega)]; exact hold
theorem BdRel.drew {w wx : World} {L O : List UInt8} (h : BdRel w L O wx) : BdRel w L O wx.drew := ⟨h.1, h.2.1.drew, h.2.2⟩
theorem BdRel.start (w : World) (L : List UInt8) (Y Z : Array Value) (hY : Y.size = 32) (hZ : Z = (bv (List.replicate 32 0)).toArray) : BdRel w L (unb (L.take (2 * 0)) ++ List.replicate (32 - 0) 0) (((w.alloc (.cells (bv L).toArray 66)).alloc (.cells Y 62)).alloc (.cells Z 62)) := by
  subst hZ
  refine ⟨by simp, (by repeat' (first | (with_reducible exact Below.refl _ _) | (with_reducible assumption) | (with_reducible refine below_drewN ?_ _) | (with_reducible refine Below.setCell ?_ ?_ _) | (with_reducible refine Below.alloc ?_ ?_ _) | (with_reducible refine Below.drew ?_) | go_size)), ?_, ⟨Y, hY, ?_⟩, heap_new2 _ _ _ (by simp only [World.size_alloc])⟩
  · rw [heap_alloc_old _ _ (by simp only [World.size_alloc]; omega), heap_alloc_old _ _ (by simp only [World.size_alloc]; omega)]
    exact heap_alloc_last w _
  · rw [heap_alloc_old _ _ (by simp only [World.size_alloc]; omega)]
    exact heap_new2 _ _ _ (by simp only [World.size_alloc])
theorem set_one (A : List UInt8) (m n : Nat) (x : UInt8) (hn : A.length = n) : (A ++ List.replicate (m + 1) 0).set n x = (A ++ [x]) ++ List.replicate m 0 := by
  subst hn
  have e : List.replicate (m + 1) (0 : UInt8) = 0 :: List.replicate m 0 := rfl
  rw [e]
  simp
theorem or_pair (a b : Nat) (ha : a < 16) (hb : b < 16) : bits .or .u8 ((a : Int) * 16) (b : Int) = 16 * (a : Int) + (b : Int) := by
  have key : ∀ a, a < 16 → ∀ b, b < 16 → bits .or .u8 ((a : Nat) * 16 : Int) ((b : Nat) : Int) = 16 * ((a : Nat) : Int) + ((b : Nat) : Int) := by decide +kernel
  exact key a ha b hb
theorem info32 : (Try.prog.info? 62).map (·.size) = some 32 := by kernel_rfl

set_option maxRecDepth 20000 in
set_option maxHeartbeats 2000000 in
theorem bod2_is (L : List UInt8) (hL : L.length = 64) (w : World) :
    Calls Try.prog 58 #[.agg (bv L).toArray] w fun e w' => e = .returned (.agg (bv (unb L)).toArray) ∧ Below w.heap.size w w' := by
  obtain ⟨E, hE⟩ : ∃ E, E = unb L := ⟨_, rfl⟩
  have HE0 : Hid (E = unb L) := hE
  rw [← hE]
  clear hE
  go_enter Try.func58, Try.ntmps58
  go_wp2_with fail
  go_loopw [5] (fun i wr => ∃ k : Nat, k ≤ 32 ∧ i = .int .i64 (k : Int) ∧ Hid (BdRel w L (unb (L.take (2 * k)) ++ List.replicate (32 - k) 0) wr)) (fun i _ => 32 - (intOf i).toNat)
  case atStart => exact ⟨0, by omega, rfl, BdRel.start w L _ _ rfl rfl⟩
  case round =>
    obtain ⟨k, hk, rfl, HR⟩ := hrel
    by_cases hlt : k < 32
    · have hltI : (k : Int) < 32 := by omega
      have hk0 : (0 : Int) ≤ (k : Int) := by omega
      obtain ⟨j, hj⟩ : ∃ j : Nat, j = 2 * k := ⟨_, rfl⟩
      have bj : j < L.length := by omega
      have bj1 : j + 1 < L.length := by omega
      obtain ⟨x, hx⟩ : ∃ x, x = L[j] := ⟨_, rfl⟩
      obtain ⟨z, hz⟩ : ∃ z, z = L[j + 1] := ⟨_, rfl⟩
      have hj1 : (2 : Int) * (k : Int) = (j : Int) := by omega
      have hj2 : IntKind.i64.wrap ((j : Int) + 1) = (j : Int) + 1 := IntWalk.i64_in _ (by omega)
      have hj0 : (0 : Int) ≤ (j : Int) := by omega
      have hj64 : (j : Int) + 1 < 64 := by omega
      have hj63 : (j : Int) < 64 := by omega
      have hj01 : (0 : Int) ≤ (j : Int) + 1 := by omega
      have hw2 : IntKind.i64.wrap (j : Int) = (j : Int) := IntWalk.i64_in _ (by omega)
      obtain ⟨O, hO⟩ : ∃ O, O = unb (L.take (2 * k)) ++ List.replicate (32 - k) 0 := ⟨_, rfl⟩
      have hul : (unb (L.take (2 * k))).length = k := unb_length k _ (by rw [List.length_take]; omega)
      have hOl : O.length = 32 := by rw [hO, List.length_append, hul, List.length_replicate]; omega
      obtain ⟨y, hy⟩ : ∃ y, y = UInt8.ofNat (16 * dv x + dv z) := ⟨_, rfl⟩
      have HO : Hid (O.set k y = unb (L.take (2 * (k + 1))) ++ List.replicate (32 - (k + 1)) 0) := by
        show _ = _
        subst hj
        rw [hO, show 32 - k = (32 - (k + 1)) + 1 by omega, set_one _ _ k _ hul, unb_take L k bj1, hy, hx, hz]
      rw [← hO] at HR
      obtain ⟨hzz, hB, hrow, _, hout⟩ := HR.out
      have bk : k < O.length := by omega
      have hc0 := cell_row wr w.heap.size 66 L hrow j bj
      have hc1 := cell_row wr w.heap.size 66 L hrow (j + 1) bj1
      rw [← hx] at hc0
      rw [← hz] at hc1
      have hc2 := cell_row wr (w.heap.size + 1 + 1) 62 O hout k bk
      have hf2 : wr.frozen? ⟨w.heap.size + 1 + 1, k, none⟩ = false := frozen_of_row wr (w.heap.size + 1 + 1) k _ 62 hout
      have HN : Hid (BdRel w L (O.set k y) (wr.drew.setCell ⟨w.heap.size + 1 + 1, k, none⟩ (.int .u8 (y.toNat : Int)))) := BdRel.byte HR.out.drew k y
      have HJ : Hid (j = 2 * k) := hj
      have dx := dv_lt x
      have dz := dv_lt z
      have ca := fun W : World => dval_is x W
      have cb := fun W : World => dval_is z W
      have HV : Hid ((y.toNat : Int) = 16 * (dv x : Int) + (dv z : Int)) := by
        show _ = _
        rw [hy, UInt8.toNat_ofNat']
        omega
      clear hrow hout hO hx hz HR hj hy
      obtain ⟨X, hX⟩ : ∃ X : Int, X = (x.toNat : Int) := ⟨_, rfl⟩
      obtain ⟨Z, hZ⟩ : ∃ Z : Int, Z = (z.toNat : Int) := ⟨_, rfl⟩
      rw [← hX] at hc0 ca
      rw [← hZ] at hc1 cb
      obtain ⟨dX, hdX⟩ : ∃ dX : Int, dX = (dv x : Int) := ⟨_, rfl⟩
      obtain ⟨dZ, hdZ⟩ : ∃ dZ : Int, dZ = (dv z : Int) := ⟨_, rfl⟩
      rw [← hdX] at ca HV
      rw [← hdZ] at cb HV
      have b1 : 0 ≤ dX := by omega
      have b2 : dX < 16 := by omega
      have b3 : 0 ≤ dZ := by omega
      have b4 : dZ < 16 := by omega
      have hsh : IntKind.u8.wrap (dX * 16) = dX * 16 := by rw [IntKind.wrap_u8]; omega
      have hor : bits .or .u8 (dX * 16) dZ = (y.toNat : Int) := by
        rw [HV.out, hdX, hdZ]
        exact or_pair _ _ dx dz
      clear hX hZ hdX hdZ dx dz
      go_wp2_with fail
      go_region_with (first | (go_at_call_of 72 X; refine (ca _).mono ?_; rintro e w2 ⟨rfl, rfl⟩) | (go_at_call_of 72 Z; refine (cb _).mono ?_; rintro e w2 ⟨rfl, rfl⟩))
      all_goals (go_wp2_with fail)
      all_goals (refine ⟨⟨k + 1, by omega, by go_num, ?_⟩, by simp [intOf]; omega⟩)
      all_goals (show BdRel _ _ _ _; rw [← HO.out]; exact HN.out)
    · have hkk : k = 32 := by omega
      subst hkk
      have hge : ¬ ((32 : Nat) : Int) < 32 := by omega
      have hul : (unb L).length = 32 := unb_length 32 L (by omega)
      have hOl : E.length = 32 := by rw [HE0.out]; exact hul
      have e : unb (L.take (2 * 32)) ++ List.replicate (32 - 32) 0 = E := by
        rw [List.take_of_length_le (by omega), HE0.out]; simp
      rw [e] at HR
      obtain ⟨hz, hB, hrow, ⟨old, hold, hres⟩, hout⟩ := HR.out
      have HO : Hid (wr.heap[w.heap.size + 1 + 1]? = some (.cells (bv E).toArray 62)) := hout
      have HS : Hid (wr.heap[w.heap.size + 1]? = some (.cells old 62)) := hres
      have hsz : (bv E).toArray.size = 32 := by simp [bv_length, hOl]
      have HI : Hid ((Try.prog.info? 62).map (·.size) = some (bv E).toArray.size) := info32.trans (congrArg some hsz.symm)
      have HOLD : Hid (old.size = (bv E).toArray.size) := by show _ = _; omega
      have HONE : Hid ((bv E).toArray.all (·.oneCell') = true) := by
        show _ = _
        simp [bv, Value.oneCell']
      have HBB : Hid (Below w.heap.size w wr) := hB
      clear hrow hout hres hOl e HR hsz hold hB hul
      go_wp2_with (first | (refine wpList_load_row rfl 62 _ rfl (w.heap.size + 1 + 1) rfl 62 _ _ _ HO.out Try.underlying62 rfl HI.out ?_) | (refine wpList_store_row rfl 62 _ _ rfl (w.heap.size + 1) _ rfl rfl 62 _ HS.out HI.out HOLD.out HONE.out ?_))
      exact bodyPost_ret (v := .agg (bv E).toArray) (results_cell_row Try.results58 _ _ (w.heap.size + 1) 62 _ _ _ rfl (setRow_heap _ _ _ _ _ _ HS.out) Try.underlying62 rfl HI.out) rfl ⟨rfl, below_setRow HBB.out (by omega) _⟩
end Go.Proofs.Ytjfiafnbmejaeaa
