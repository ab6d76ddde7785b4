/-
  The law of the peaks that grow leaf by leaf, walked (the second part).
-/
import Derived.Test.YtgpbodanaeelaaaLawFA
namespace Go.Proofs.Ytgpbodanaeelaaa
open Go.RowKit

set_option maxRecDepth 20000 in
set_option maxHeartbeats 4000000 in
theorem lawFnPeaksAdded (v : Value) (L : List UInt8) (w : World) (hV : Byt w v L) :
    Calls Try.prog 4 #[v] w fun e w' => e = .returned (.bool true) ∧ Below w.heap.size w w' := by
  obtain ⟨oa, cap, hv⟩ : ∃ a cap, v = .slice a L.length cap := by
    rcases hV with ⟨rfl, rfl⟩ | ⟨a, cap, rfl, _⟩
    · exact ⟨none, 0, rfl⟩
    · exact ⟨some a, cap, rfl⟩
  by_cases hbig : 1048576 < L.length
  · have hbI : (1048576 : Int) < (L.length : Int) := by omega
    subst hv
    clear hV
    go_enter Try.func4, Try.ntmps4
    go_wp2_with fail
    go_ret
    exact ⟨rfl, Below.refl _ _⟩
  · have hbI : ¬ (1048576 : Int) < (L.length : Int) := by omega
    subst hv
    have k1 := drawPeaks_is w _ L hV
    clear hV
    go_enter Try.func4, Try.ntmps4
    go_wp2_with (go_at_call 6; refine k1.mono ?_; rintro e w1 ⟨u, S, rfl, hT, hl, hz, hb1⟩; obtain ⟨ob, cb, hu⟩ := txt_sl hT; clear k1)
    have cl := lok_spec w1 u S hT
    cases hlk : lok S with
    | false =>
      rw [hlk] at cl
      clear hT hz hlk
      subst hu
      go_wp2_with (go_at_call 8; refine cl.mono ?_; rintro e w3 ⟨rfl, hw⟩; replace hw := hw.symm; subst hw)
      go_ret
      exact ⟨rfl, hb1⟩
    | true =>
      rw [hlk] at cl
      by_cases h40 : 40 < S.length
      · have h40I : (40 : Int) < (S.length : Int) := by omega
        clear hT hz hlk
        subst hu
        go_wp2_with (go_at_call 8; refine cl.mono ?_; rintro e w3 ⟨rfl, hw⟩; replace hw := hw.symm; subst hw)
        go_ret
        exact ⟨rfl, hb1⟩
      · have h40I : ¬ (40 : Int) < (S.length : Int) := by omega
        have HT : Hid (Txt w1 (.slice ob S.length cb) S ∧ lok S = true ∧ S.length ≤ 40) := by rw [hu] at hT; exact ⟨hT, hlk, by omega⟩
        obtain ⟨n, hn⟩ : ∃ n, n = S.length := ⟨_, rfl⟩
        have HN : Hid (n = S.length) := hn
        rw [← hn] at hu h40I
        have hS : (Value.slice ob S.length cb) = Value.slice ob n cb := by rw [hn]
        rw [hS]
        have hn40 : n ≤ 40 := by omega
        clear hT hz hlk hl hS hn h40
        subst hu
        go_wp2_with (go_at_call 8; refine cl.mono ?_; rintro e w3 ⟨rfl, hw⟩; replace hw := hw.symm; subst hw; clear cl)
        have HS : Hid (Below w1.heap.size w1 (w1.alloc (.cells #[] 31)) ∧ Dgs (w1.alloc (.cells #[] 31)) (.slice (some ⟨w1.heap.size, 0, none⟩) 0 0) (tk (S.take 0))) := by
          refine ⟨(Below.refl _ _).alloc (Nat.le_refl _) _, ?_⟩
          rw [List.take_zero, tk_nil]
          exact .inr ⟨⟨w1.heap.size, 0, none⟩, 0, rfl, Nat.le_refl _, by unfold maxLen; omega, fun h => by simp at h, fun i h => by simp at h⟩
        go_loopw [4, 5] (fun p i wr => ∃ (k : Nat) (op : Option Addr) (np cp : Nat), k ≤ n ∧ i = .int .i64 (k : Int) ∧ p = .slice op np cp ∧ Hid (Below w1.heap.size w1 wr ∧ Dgs wr (.slice op np cp) (tk (S.take k)))) (fun _ i _ => n - (intOf i).toNat)
        case atStart => exact ⟨0, _, _, _, by omega, rfl, rfl, HS⟩
        case round =>
          obtain ⟨k, op, np, cp, hk, rfl, rfl, HR⟩ := hrel
          by_cases hlt : k < n
          · obtain ⟨hB, hD⟩ := HR.out
            obtain ⟨hT, hok, hS40⟩ := HT.out
            have hnS := HN.out
            obtain ⟨hpo, hpl⟩ := add_step hok (k := k) (by omega) hS40
            have cA : ∀ (W : World), Dgs W (.slice op np cp) (tk (S.take k)) → Calls Try.prog 14 #[.int .i64 (k : Int), .slice op np cp, .string S[k]] W fun e w' => ∃ oc nc cc, e = .returned (.tuple #[.slice oc nc cc, .bool true]) ∧ Dgs w' (.slice oc nc cc) (tk (S.take (k + 1))) ∧ Below W.heap.size W w' := fun W h => by
              refine (pad_impl (k : Int) (tk (S.take k)) S[k] _ W h).mono ?_
              rintro e w' ⟨x, rfl, ho, hb⟩
              rw [hpl] at ho
              obtain ⟨oc, cc, rfl⟩ := own_len ho
              exact ⟨oc, _, cc, by rw [decide_eq_true hpo], own_dgs ho, hb⟩
            have hTk : Txt w1 (.slice ob (k + 1) cb) (S.take (k + 1)) := by
              rcases hT with ⟨h1, h2⟩ | ⟨a, cap', he, hl, hm, hb, hc⟩
              · rw [h2] at hnS; simp at hnS; omega
              · obtain ⟨rfl, rfl⟩ : ob = some a ∧ cb = cap' := by injection he with e1 e2 e3; exact ⟨e1, e3⟩
                exact Txt.take (.inr ⟨a, cb, rfl, hl, hm, hb, hc⟩) (k + 1) (by omega)
            have hokk := lok_take hok (k + 1)
            have etk : tkL (S.take (k + 1)) = tk (S.take (k + 1)) := by unfold tkL; rw [if_pos hokk]
            have cB : ∀ W : World, Below w1.heap.size w1 W → Calls Try.prog 16 #[.slice ob (k + 1) cb] W fun e w' => ∃ oc nc cc, e = .returned (.slice oc nc cc) ∧ Dgs w' (.slice oc nc cc) (tk (S.take (k + 1))) ∧ Below W.heap.size W w' := fun W h => by
              refine (tpk_spec (S.take (k + 1)) _ W (hTk.call h)).mono ?_
              rintro e w' ⟨x, rfl, ho, hb⟩
              rw [etk] at ho
              obtain ⟨oc, cc, rfl⟩ := own_len ho
              exact ⟨oc, _, cc, rfl, own_dgs ho, hb⟩
            have hlR : (tk (S.take (k + 1))).length ≤ 256 := by
              have := tk_len (k + 1) (S.take (k + 1)) (by rw [List.length_take]; omega) (by rw [List.length_take]; omega)
              rw [List.length_take] at this
              omega
            have cD := fun (W : World) (x : Value) (h : Dgs W x (tk (S.take (k + 1)))) => pkr_impl (tk (S.take (k + 1))) x W h (by omega)
            have ez : pkr (tk (S.take (k + 1))) = trv (S.take (k + 1)) := by rw [← etk]; exact tkL_root hokk
            rw [ez] at cD
            have cE : ∀ W : World, Below w1.heap.size w1 W → Calls Try.prog 13 #[.slice ob (k + 1) cb] W fun e w' => e = .returned (.agg #[.int .u64 ((trv (S.take (k + 1))).a.toNat : Int), .int .u64 ((trv (S.take (k + 1))).b.toNat : Int), .int .u64 ((trv (S.take (k + 1))).c.toNat : Int), .int .u64 ((trv (S.take (k + 1))).d.toNat : Int)]) ∧ Below W.heap.size W w' := fun W h => tr_spec (S.take (k + 1)) _ W (hTk.call h)
            obtain ⟨z, hz⟩ : ∃ z, z = trv (S.take (k + 1)) := ⟨_, rfl⟩
            rw [← hz] at cD cE
            obtain ⟨a, ea, hcell, hcb⟩ : ∃ a, ob = some a ∧ wr.cell? (a.add k) = some (.string S[k]) ∧ n ≤ cb := by
              rcases hT.call hB with ⟨_, h2⟩ | ⟨a, cap', he, hl, hm, hb, hc⟩
              · rw [h2] at hnS; simp at hnS; omega
              · obtain ⟨rfl, rfl⟩ : ob = some a ∧ cb = cap' := by injection he with e1 e2 e3; exact ⟨e1, e3⟩
                exact ⟨a, rfl, hc k (by omega), by omega⟩
            have hHK : Hid (Dgs wr (.slice op np cp) (tk (S.take k))) := hD
            obtain ⟨s, hs⟩ : ∃ s, s = S[k] := ⟨_, rfl⟩
            rw [← hs] at cA hcell
            obtain ⟨K, hK⟩ : ∃ K, K = tk (S.take (k + 1)) := ⟨_, rfl⟩
            have HK : Hid (K = tk (S.take (k + 1))) := hK
            rw [← hK] at cA cB cD
            have cA1 := cA _ hHK.out
            obtain ⟨j, hj⟩ : ∃ j, j = k + 1 := ⟨_, rfl⟩
            have HJ : Hid (j = k + 1) := hj
            rw [← hj] at cB cE
            have hadd : IntKind.i64.wrap ((k : Int) + 1) = (j : Int) := by rw [IntWalk.i64_in _ (by omega)]; omega
            have j1 : j ≤ n := by omega
            have j2 : j ≤ cb := by omega
            have j3 : (j : Int) ≤ (cb : Int) := by omega
            have j4 : (0 : Int) ≤ (j : Int) := by omega
            have hk0 : (0 : Int) ≤ (k : Int) := by omega
            have hkI : (k : Int) < (n : Int) := by omega
            have hjI : (k : Int) + 1 = (j : Int) := by omega
            have lw := hB.size
            subst ea
            clear HS hD HR hT hnS hpo hpl hTk etk hokk hz ez hs hK hj cA HT HN hok hS40 hHK hjI
            go_wp2_with (go_at_call 14; refine cA1.mono ?_; rintro e w2 ⟨oc, nc, cc, rfl, hD2, hb2⟩; have hB2 := below_after hB hb2 lw; clear cA1 hb2)
            go_region_held3 (fun _ => True) (trivial) ((first
              | (go_at_call 16; refine (cB _ hB2.drew).mono ?_; rintro e w3 ⟨od, nd, cd, rfl, hD3, hb3⟩; have hB3 := below_after hB2.drew hb3 hB2.drew.size; have hD23 := (hD2.call (Below.refl _ w2).drew).call hb3)
              | (go_at_call 15; refine (samed_is _ _ _ K hD23 hD3).mono ?_; rintro e w4 ⟨rfl, hb4⟩; have hB4 := below_after hB3 hb4 hB3.size; have hD24 := hD23.call hb4)
              | (go_at_call 11; refine (cD _ _ hD24).mono ?_; rintro e w5 ⟨rfl, hb5⟩; have hB5 := below_after hB4 hb5 hB4.size; have hD25 := hD24.call hb5)
              | (go_at_call 13; refine (cE _ hB5).mono ?_; rintro e w6 ⟨rfl, hb6⟩; have hB6 := below_after hB5 hb6 hB5.size; have hD26 := hD25.call hb6)))
            go_wp2_with fail
            refine ⟨⟨j, oc, nc, cc, j1, rfl, rfl, hB6, ?_⟩, ?_⟩
            · have := HK.out
              have e := HJ.out
              subst e
              rw [← this]
              exact hD26
            · have := HJ.out
              simp only [intOf]
              omega
          · clear HS
            go_wp2_with fail
            go_ret
            exact ⟨rfl, below_after hb1 HR.out.1 hb1.size⟩
end Go.Proofs.Ytgpbodanaeelaaa
