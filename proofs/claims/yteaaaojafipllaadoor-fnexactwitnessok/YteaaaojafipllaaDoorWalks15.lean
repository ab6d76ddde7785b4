/-
  HashOf of the program, walked.
-/
import Derived.Test.YteaaaojafipllaaDoorRows
import Derived.Test.YteaaaojafipllaaDoorJoinB6
import Derived.Test.YteaaaojafipllaaDoorJoinB7
import Derived.Deep.QuietTactic
import Derived.BigQuiet
import Derived.Deep.RegionWith
import Derived.Deep.RegionHeld3
import Derived.Deep.CutRange
import Derived.Deep.DeepCutAuto
import Derived.Deep.CutBlock
import Derived.Laws.Tables
import Derived.Test.YteaaaojafipllaaDoorJoinB20
import Derived.Test.YteaaaojafipllaaDoorWalks14
namespace Go.Proofs.YteaaaojafipllaaDoor
open Go.RowKit

set_option maxRecDepth 100000 in
set_option maxHeartbeats 1000000 in
theorem ho_impl_big (s : ByteArray) (w : World) (hbig : 20000 < s.size) :
    Calls Tryd.prog 54 #[.string s] w fun e w' => e = .returned (.agg #[.int .u64 0, .int .u64 0, .int .u64 0, .int .u64 0]) ∧ Below w.heap.size w w' := by
  have hb : (20000 : Int) < (s.size : Int) := by omega
  go_enter Tryd.func54, Tryd.ntmps54
  go_wp2_with fail
  exact bodyPost_ret (v := .agg #[.int .u64 0, .int .u64 0, .int .u64 0, .int .u64 0]) (by simp [results, Tryd.results54, go_sem]) rfl ⟨rfl, (by repeat' (first | (with_reducible exact Below.refl _ _) | (with_reducible assumption) | (with_reducible refine below_drewN ?_ _) | (with_reducible refine Below.setCell ?_ ?_ _) | (with_reducible refine Below.alloc ?_ ?_ _) | (with_reducible refine Below.drew ?_) | go_size))⟩

set_option maxRecDepth 100000 in
/-- hashRest, behind the bytes t. -/
theorem rest_inv (t L : List UInt8) (q : Qd) (h : Inv t L q) (ht : t.length ≤ 100000) (w : World) :
    Calls Tryd.prog 64 #[.agg #[.int .u64 ((q).a.toNat : Int), .int .u64 ((q).b.toNat : Int), .int .u64 ((q).c.toNat : Int), .int .u64 ((q).d.toNat : Int)], .agg (bv L).toArray, .int .i64 (t.length : Int)] w fun e w' => e = .returned (.agg #[.int .u64 ((hashOf t).a.toNat : Int), .int .u64 ((hashOf t).b.toNat : Int), .int .u64 ((hashOf t).c.toNat : Int), .int .u64 ((hashOf t).d.toNat : Int)]) ∧ Below w.heap.size w w' := by
  have hL := h.1
  by_cases hr : t.length % 32 ≤ 23
  · have hc := rest_core q q L (L.take (t.length % 32) ++ ([128] ++ List.replicate (31 - t.length % 32) 0)) _ hL t.length (t.length % 32) ht rfl rfl (by simp; omega) w (.inl ⟨hr, rfl, rfl⟩)
    rw [inv_short h hr] at hc
    exact hc
  · have hc := rest_core q _ L (List.replicate 32 0) _ hL t.length (t.length % 32) ht rfl rfl rfl w (.inr ⟨by omega, rfl, rfl⟩)
    rw [inv_long h (by omega)] at hc
    exact hc

set_option maxRecDepth 100000 in
set_option maxHeartbeats 4000000 in
theorem ho_impl (s : ByteArray) (w : World) (hs : s.size ≤ 20000) :
    Calls Tryd.prog 54 #[.string s] w fun e w' => e = .returned (.agg #[.int .u64 ((hashOf (bare s.data.toList)).a.toNat : Int), .int .u64 ((hashOf (bare s.data.toList)).b.toNat : Int), .int .u64 ((hashOf (bare s.data.toList)).c.toNat : Int), .int .u64 ((hashOf (bare s.data.toList)).d.toNat : Int)]) ∧ Below w.heap.size w w' := by
  have hb : ¬ (20000 : Int) < (s.size : Int) := by omega
  go_enter Tryd.func54, Tryd.ntmps54
  go_wp2_with (go_at_call 61; refine (start_is _).mono ?_; rintro e w' ⟨rfl, rfl⟩)
  go_loopw [5, 14] (fun v i wr => ∃ (k kept : Nat) (L : List UInt8) (q : Qd), k ≤ s.size ∧ i = .int .i64 (k : Int) ∧ v = .int .i64 (kept : Int) ∧ Hid (kept = (bare (s.data.toList.take k)).length) ∧ Hid (Inv (bare (s.data.toList.take k)) L q) ∧ Hid (HoRel w q L wr)) (fun _ i _ => s.size - (intOf i).toNat)
  case atStart => exact ⟨0, 0, List.replicate 32 0, H0, by omega, rfl, rfl, rfl, inv_start, HoRel.start w⟩
  case round =>
    obtain ⟨k, kept, L, q, hk, rfl, rfl, HK, HV, HR⟩ := hrel
    have hkk : kept ≤ 20000 := by
      have h1 := bare_le (s.data.toList.take k)
      have h2 := List.length_take_le k s.data.toList
      have h3 := HK.out
      omega
    by_cases hlt : k < s.size
    · have hltI : (k : Int) < (s.size : Int) := by omega
      have HT : Hid (bare (s.data.toList.take (k + 1)) = bare (s.data.toList.take k) ++ (if s[k] = 255 then [] else [s[k]])) := by
        have := take_snoc s k hlt
        show _ = _
        rw [this]; exact bare_snoc _ _
      have hw1 : IntKind.i64.wrap ((k : Int) + 1) = (k : Int) + 1 := IntWalk.i64_in _ (by omega)
      by_cases h255 : s[k] = 255
      · have hne : ((s[k].toNat : Int) == 255) = true := by rw [h255]; rfl
        have H5 : Hid (s[k] = 255) := h255
        clear h255
        go_wp2_with fail
        go_roundw
        case rel => exact ⟨k + 1, kept, L, q, by omega, by go_num, rfl, by show _ = _; rw [HT.out, if_pos H5.out, List.append_nil]; exact HK.out, by show Inv _ _ _; rw [HT.out, if_pos H5.out, List.append_nil]; exact HV.out, HR⟩
        case measure => simp [intOf]; omega
      · have hne : ((s[k].toNat : Int) == 255) = false := by
          rw [beq_eq_false_iff_ne]
          intro e
          have h5 : (255 : UInt8).toNat = 255 := rfl
          exact h255 (UInt8.toNat.inj (by omega))
        have HT2 : Hid (bare (s.data.toList.take (k + 1)) = bare (s.data.toList.take k) ++ [s[k]]) := by
          show _ = _
          rw [HT.out, if_neg h255]
        clear h255 HT
        obtain ⟨r, hr⟩ : ∃ r : Nat, r = kept % 32 := ⟨_, rfl⟩
        have HRM32 : Hid (r = kept % 32) := hr
        have hrI : (kept : Int) % 32 = (r : Int) := by omega
        have hrT : (kept : Int).tmod 32 = (r : Int) := by rw [Int.tmod_eq_emod_of_nonneg (by omega)]; exact hrI
        have hr0 : (0 : Int) ≤ (r : Int) := by omega
        have hr32 : (r : Int) < 32 := by omega
        have hrow := HR.out.2.2.1
        have HLEN : Hid (L.length = 32) := HV.out.1
        have hcl := cell_g32 wr (w.heap.size + 1 + 1 + 1) L HLEN.out hrow r (by omega)
        have hfz : wr.frozen? ⟨w.heap.size + 1 + 1 + 1, r, none⟩ = false := frozen_of_row wr (w.heap.size + 1 + 1 + 1) r _ 129 hrow
        have HR2 : Hid (HoRel w q (L.set r s[k]) (wr.setCell ⟨w.heap.size + 1 + 1 + 1, r, none⟩ (.int .u8 (s[k].toNat : Int)))) := HoRel.byte HR.out r s[k]
        have HNEW : Hid (kept + 1 = (bare (s.data.toList.take (k + 1))).length) := by
          show _ = _
          rw [HT2.out, List.length_append, List.length_singleton, ← HK.out]
        have hkw : IntKind.i64.wrap ((kept : Int) + 1) = (kept : Int) + 1 := IntWalk.i64_in _ (by omega)
        clear hr hrow
        by_cases hfull : (kept + 1) % 32 = 0
        · have hf1 : ((kept : Int) + 1) % 32 = 0 := by omega
          have hf2 : ((kept : Int) + 1).tmod 32 = 0 := by rw [Int.tmod_eq_emod_of_nonneg (by omega)]; exact hf1
          have HV2 : Hid (Inv (bare (s.data.toList.take (k + 1))) (L.set r s[k]) (HB q (bd (L.set r s[k])))) := by
            show Inv _ _ _
            have h := inv_full HV.out s[k] (by rw [← HK.out]; exact hfull)
            rw [← HK.out, ← HRM32.out] at h
            rw [HT2.out]; exact h
          go_wp2_with fail
          obtain ⟨L2, hL2⟩ : ∃ L2 : List UInt8, L2 = L.set r s[k] := ⟨_, rfl⟩
          obtain ⟨wc, hwc⟩ : ∃ wc : World, wc = wr.setCell ⟨w.heap.size + 1 + 1 + 1, r, none⟩ (.int .u8 (s[k].toNat : Int)) := ⟨_, rfl⟩
          have hlen2 : L2.length = 32 := by rw [hL2, List.length_set]; exact HLEN.out
          have HL2 : Hid (L2.length = 32) := hlen2
          rw [← hL2] at HV2 HR2
          rw [← hwc] at HR2
          rw [← hwc]
          clear hL2 hwc hlen2 hcl hfz HLEN HR HV HT2
          have ROW : Hid (wc.drew.heap[w.heap.size + 1 + 1 + 1]? = some (.cells (bv L2).toArray 129)) := HR2.out.2.2.1
          have HI62 : Hid ((Tryd.prog.info? 129).map (·.size) = some (bv L2).toArray.size) := info62'.trans (congrArg some (by simp [bv_length, HL2.out]))
          obtain ⟨_, _, _, e0, e1, e2, e3, _, _, _, _, _, _, _, _, _, _, _, _⟩ := HR2.out
          refine wp_region_any (by kernel_rfl) ?_
          change wpAny _ _ _ _ _ _ _ (World.drew _)
          refine wpAny_ready (rs := [0, 1]) (by kernel_rfl) (by simp) ?_
          refine AllReady.cons rfl (fun K hK => ?_) (AllReady.cons rfl (fun K hK => ?_) AllReady.nil)
          · go_simp
            refine hK _ _ ?_
            clear hK K
            refine wpAny_ready (rs := [1]) (by kernel_rfl) (by simp) ?_
            refine AllReady.cons rfl (fun K hK => ?_) AllReady.nil
            rw [if_pos (by rfl)]
            refine wp_load_row 129 _ rfl (w.heap.size + 1 + 1 + 1) rfl 129 (bv L2).toArray _ _ ROW.out Tryd.underlying129 rfl HI62.out ?_
            simp only [Act.put, List.setIfInBounds_toArray]
            refine hK _ _ ?_
            clear hK K
            refine wpAny_ready (rs := [2]) (by kernel_rfl) (by simp) ?_
            refine AllReady.cons rfl (fun K hK => ?_) AllReady.nil
            go_simp
            go_wp2_with (go_at_call 63; refine (dob_any L2 HL2.out _).mono ?_; rintro e wN ⟨rfl, hbN⟩; have HRN : Hid (HoRel w q L2 wN) := HoRel.call (HoRel.drew HR2.out) hbN; obtain ⟨_, _, _, e0N, e1N, e2N, e3N, _, _, _, _, _, _, _, _, _, _, _, _⟩ := HRN.out; clear hbN)
            refine wpAny_ready (rs := [3]) (by kernel_rfl) (by simp) ?_
            refine AllReady.cons rfl (fun K hK => ?_) AllReady.nil
            go_simp
            go_wp2_with (go_at_call 62; refine (hb_impl q (bd L2) _).mono ?_; rintro e wM ⟨rfl, hbM⟩; have HRM : Hid (HoRel w q L2 wM) := HoRel.call HRN.out hbM; obtain ⟨_, _, _, e0M, e1M, e2M, e3M, g0M, g1M, g2M, g3M, _, _, _, _, _, _, _, _⟩ := HRM.out; clear hbM)
            refine wpAny_ready (rs := [4]) (by kernel_rfl) (by simp) ?_
            refine AllReady.cons rfl (fun K hK => ?_) AllReady.nil
            go_simp
            refine hK _ _ ?_
            clear hK K
            refine wpAny_done (by kernel_rfl) ?_ _
            have HRS : Hid (HoRel w (HB q (bd L2)) L2 ((((wM.setCell ⟨w.heap.size + 1 + 1, 0, none⟩ (Value.int IntKind.u64 (((HB q (bd L2)).a).toNat : Int))).setCell ⟨w.heap.size + 1 + 1, 1, none⟩ (Value.int IntKind.u64 (((HB q (bd L2)).b).toNat : Int))).setCell ⟨w.heap.size + 1 + 1, 2, none⟩ (Value.int IntKind.u64 (((HB q (bd L2)).c).toNat : Int))).setCell ⟨w.heap.size + 1 + 1, 3, none⟩ (Value.int IntKind.u64 (((HB q (bd L2)).d).toNat : Int)))) := HoRel.state HRM.out
            clear e0 e1 e2 e3 e0M e1M e2M e3M g0M g1M g2M g3M
            go_wp2_with fail
            go_roundw
            case rel => exact ⟨k + 1, kept + 1, L2, HB q (bd L2), by omega, by go_num, by go_num, HNEW, HV2, HRS⟩
            case measure => simp [intOf]; omega
          · rw [if_pos (by rfl)]
            refine wp_load_row 129 _ rfl (w.heap.size + 1 + 1 + 1) rfl 129 (bv L2).toArray _ _ ROW.out Tryd.underlying129 rfl HI62.out ?_
            simp only [Act.put, List.setIfInBounds_toArray]
            refine hK _ _ ?_
            clear hK K
            refine wpAny_ready (rs := [0, 2]) (by kernel_rfl) (by simp) ?_
            refine AllReady.cons rfl (fun K hK => ?_) (AllReady.cons rfl (fun K hK => ?_) AllReady.nil)
            · go_simp
              refine hK _ _ ?_
              clear hK K
              refine wpAny_ready (rs := [2]) (by kernel_rfl) (by simp) ?_
              refine AllReady.cons rfl (fun K hK => ?_) AllReady.nil
              go_simp
              go_wp2_with (go_at_call 63; refine (dob_any L2 HL2.out _).mono ?_; rintro e wN ⟨rfl, hbN⟩; have HRN : Hid (HoRel w q L2 wN) := HoRel.call (HoRel.drew HR2.out) hbN; obtain ⟨_, _, _, e0N, e1N, e2N, e3N, _, _, _, _, _, _, _, _, _, _, _, _⟩ := HRN.out; clear hbN)
              refine wpAny_ready (rs := [3]) (by kernel_rfl) (by simp) ?_
              refine AllReady.cons rfl (fun K hK => ?_) AllReady.nil
              go_simp
              go_wp2_with (go_at_call 62; refine (hb_impl q (bd L2) _).mono ?_; rintro e wM ⟨rfl, hbM⟩; have HRM : Hid (HoRel w q L2 wM) := HoRel.call HRN.out hbM; obtain ⟨_, _, _, e0M, e1M, e2M, e3M, g0M, g1M, g2M, g3M, _, _, _, _, _, _, _, _⟩ := HRM.out; clear hbM)
              refine wpAny_ready (rs := [4]) (by kernel_rfl) (by simp) ?_
              refine AllReady.cons rfl (fun K hK => ?_) AllReady.nil
              go_simp
              refine hK _ _ ?_
              clear hK K
              refine wpAny_done (by kernel_rfl) ?_ _
              have HRS : Hid (HoRel w (HB q (bd L2)) L2 ((((wM.setCell ⟨w.heap.size + 1 + 1, 0, none⟩ (Value.int IntKind.u64 (((HB q (bd L2)).a).toNat : Int))).setCell ⟨w.heap.size + 1 + 1, 1, none⟩ (Value.int IntKind.u64 (((HB q (bd L2)).b).toNat : Int))).setCell ⟨w.heap.size + 1 + 1, 2, none⟩ (Value.int IntKind.u64 (((HB q (bd L2)).c).toNat : Int))).setCell ⟨w.heap.size + 1 + 1, 3, none⟩ (Value.int IntKind.u64 (((HB q (bd L2)).d).toNat : Int)))) := HoRel.state HRM.out
              clear e0 e1 e2 e3 e0M e1M e2M e3M g0M g1M g2M g3M
              go_wp2_with fail
              go_roundw
              case rel => exact ⟨k + 1, kept + 1, L2, HB q (bd L2), by omega, by go_num, by go_num, HNEW, HV2, HRS⟩
              case measure => simp [intOf]; omega
            · go_simp
              go_wp2_with (go_at_call 63; refine (dob_any L2 HL2.out _).mono ?_; rintro e wN ⟨rfl, hbN⟩; have HRN : Hid (HoRel w q L2 wN) := HoRel.call (HoRel.drew HR2.out) hbN; obtain ⟨_, _, _, e0N, e1N, e2N, e3N, _, _, _, _, _, _, _, _, _, _, _, _⟩ := HRN.out; clear hbN)
              refine wpAny_ready (rs := [0]) (by kernel_rfl) (by simp) ?_
              refine AllReady.cons rfl (fun K hK => ?_) AllReady.nil
              go_simp
              refine hK _ _ ?_
              clear hK K
              refine wpAny_ready (rs := [3]) (by kernel_rfl) (by simp) ?_
              refine AllReady.cons rfl (fun K hK => ?_) AllReady.nil
              go_simp
              go_wp2_with (go_at_call 62; refine (hb_impl q (bd L2) _).mono ?_; rintro e wM ⟨rfl, hbM⟩; have HRM : Hid (HoRel w q L2 wM) := HoRel.call HRN.out hbM; obtain ⟨_, _, _, e0M, e1M, e2M, e3M, g0M, g1M, g2M, g3M, _, _, _, _, _, _, _, _⟩ := HRM.out; clear hbM)
              refine wpAny_ready (rs := [4]) (by kernel_rfl) (by simp) ?_
              refine AllReady.cons rfl (fun K hK => ?_) AllReady.nil
              go_simp
              refine hK _ _ ?_
              clear hK K
              refine wpAny_done (by kernel_rfl) ?_ _
              have HRS : Hid (HoRel w (HB q (bd L2)) L2 ((((wM.setCell ⟨w.heap.size + 1 + 1, 0, none⟩ (Value.int IntKind.u64 (((HB q (bd L2)).a).toNat : Int))).setCell ⟨w.heap.size + 1 + 1, 1, none⟩ (Value.int IntKind.u64 (((HB q (bd L2)).b).toNat : Int))).setCell ⟨w.heap.size + 1 + 1, 2, none⟩ (Value.int IntKind.u64 (((HB q (bd L2)).c).toNat : Int))).setCell ⟨w.heap.size + 1 + 1, 3, none⟩ (Value.int IntKind.u64 (((HB q (bd L2)).d).toNat : Int)))) := HoRel.state HRM.out
              clear e0 e1 e2 e3 e0M e1M e2M e3M g0M g1M g2M g3M
              go_wp2_with fail
              go_roundw
              case rel => exact ⟨k + 1, kept + 1, L2, HB q (bd L2), by omega, by go_num, by go_num, HNEW, HV2, HRS⟩
              case measure => simp [intOf]; omega
        · have hf1 : (((kept : Int) + 1) % 32 == 0) = false := by rw [beq_eq_false_iff_ne]; omega
          have hf2 : (((kept : Int) + 1).tmod 32 == 0) = false := by rw [Int.tmod_eq_emod_of_nonneg (by omega)]; exact hf1
          have HV2 : Hid (Inv (bare (s.data.toList.take (k + 1))) (L.set r s[k]) q) := by
            show Inv _ _ _
            have h := inv_byte HV.out s[k] (by rw [← HK.out]; exact hfull)
            rw [← HK.out, ← HRM32.out] at h
            rw [HT2.out]; exact h
          go_wp2_with fail
          go_roundw
          case rel => exact ⟨k + 1, kept + 1, L.set r s[k], q, by omega, by go_num, by go_num, HNEW, HV2, HR2⟩
          case measure => simp [intOf]; omega
    · have hk' : s.data.toList.take k = s.data.toList := List.take_of_length_le (by have : s.size = s.data.size := rfl; simp; omega)
      have hge : ¬ (k : Int) < (s.size : Int) := by omega
      rw [hk'] at HK HV
      clear hk'
      have ROW : Hid (wr.heap[w.heap.size + 1 + 1 + 1]? = some (.cells (bv L).toArray 129)) := HR.out.2.2.1
      have HI62 : Hid ((Tryd.prog.info? 129).map (·.size) = some (bv L).toArray.size) := info62'.trans (congrArg some (by simp [bv_length, HV.out.1]))
      have hkt := HK.out
      subst hkt
      obtain ⟨_, _, _, e0, e1, e2, e3, _, _, _, _, _, _, _, _, _, _, _, _⟩ := HR.out
      go_wp2_with (first | (refine wpList_load_row rfl 129 _ rfl (w.heap.size + 1 + 1 + 1) rfl 129 (bv L).toArray _ _ ROW.out Tryd.underlying129 rfl HI62.out ?_) | (go_at_call 64; refine (rest_inv _ L q HV.out (by omega) _).mono ?_; rintro e wN ⟨rfl, hbN⟩; have HRN : Hid (HoRel w q L wN) := HoRel.call HR.out hbN; obtain ⟨_, _, _, _, _, _, _, _, _, _, _, r0N, r1N, r2N, r3N, k0N, k1N, k2N, k3N⟩ := HRN.out; clear hbN))
      obtain ⟨q0, q1, q2, q3⟩ := four_set_at (w := wN) (b := w.heap.size) (q := hashOf (bare s.data.toList)) r0N r1N r2N r3N
      have hBN : Below w.heap.size w wN := HRN.out.2.1
      refine bodyPost_ret (v := .agg #[.int .u64 ((hashOf (bare s.data.toList)).a.toNat : Int), .int .u64 ((hashOf (bare s.data.toList)).b.toNat : Int), .int .u64 ((hashOf (bare s.data.toList)).c.toNat : Int), .int .u64 ((hashOf (bare s.data.toList)).d.toNat : Int)]) (by simp [results, Tryd.results54, go_sem, q0, q1, q2, q3]) rfl ⟨rfl, ?_⟩
      repeat' (first | (with_reducible exact hBN) | (with_reducible refine Below.setCell ?_ ?_ _) | go_size)
end Go.Proofs.YteaaaojafipllaaDoor
