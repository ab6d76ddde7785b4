/-
  The names of the kinds of messages, on both sides; a table of texts that start-up lays.
-/
import Derived.Test.YtcghliiodehijaaDoorRows
import Derived.WalkKit
import Derived.ProofKit
import Derived.OpenShut
import Derived.MakeChecks
import Derived.Lib.LaidTab
namespace Go.Proofs.YtcghliiodehijaaDoor
open Go.RowKit

/-- What a listed table of texts gives: its cells. -/
theorem str_tab {P : Program} {W : World} {name : String} {tab : List (List UInt8)} {rest : List (String × DataW Unit)} {g : Nat} {t e : TypeId} {n : Nat}
    (hg : P.globalNamed name = some g) (hty : (P.globals[g]?).map (·.type) = some t) (ht : P.underlying t = some (.array n e)) (he : P.underlying e = some .string) (hce : P.cellsOf e = 1)
    (h : laidMet P ((name, DataW.agg (tab.map fun b => DataW.lit (.string b))) :: rest) W) (i : Nat) (b : List UInt8) (hi : tab[i]? = some b) : W.cell? ⟨g, i, none⟩ = some (.string ⟨b.toArray⟩) := by
  obtain ⟨ps, ⟨g', t', cs, fuel, p, q, hg', ht', hvar, hd, _, _⟩, _⟩ := h
  obtain rfl := Option.some.inj (hg.symm.trans hg')
  obtain rfl := Option.some.inj (hty.symm.trans ht')
  obtain ⟨xs, m, rfl, hx, hlen, hn, hel⟩ := DataW.trod_array ht hd
  simp only [Prod.mk.injEq, DataW.agg.injEq] at hx
  have hxi : (xs.map (·.1))[i]? = some (DataW.lit (.string b)) := by rw [← hx.1]; simp [hi]
  rw [List.getElem?_map, Option.map_eq_some_iff] at hxi
  obtain ⟨x, hx1, hx2⟩ := hxi
  have hin : i < n := by have := (List.getElem?_eq_some_iff.1 hx1).1; omega
  have h1 := hel i hin
  rw [hx1, hce, Nat.mul_one] at h1
  obtain ⟨s, e1, e2, _⟩ := DataW.trod_string he h1
  have e3 : s.data.toList = b := by rw [e2] at hx2; simpa using hx2
  have e4 : cs.toList[i]? = some (.string s) := by
    have := congrArg (·[0]?) e1
    simpa [List.getElem?_take, List.getElem?_drop] using this
  rw [World.var?_cell hg hvar i]
  have e5 : s = ⟨b.toArray⟩ := by
    cases s
    subst e3
    simp
  subst e5
  simpa using e4
/-- The name of a kind. -/
def knm (k : Int) : ByteArray := if k = 1 then (ByteArray.mk #[97, 115, 107]) else if k = 2 then (ByteArray.mk #[104, 101, 97, 100]) else if k = 3 then (ByteArray.mk #[118, 111, 117, 99, 104]) else if k = 4 then (ByteArray.mk #[112, 114, 111, 118, 101]) else if k = 5 then (ByteArray.mk #[103, 114, 111, 119, 116, 104]) else if k = 6 then (ByteArray.mk #[97, 99, 107]) else if k = 7 then (ByteArray.mk #[102, 101, 116, 99, 104]) else if k = 8 then (ByteArray.mk #[114, 97, 110, 103, 101]) else (ByteArray.mk #[])
theorem sname_is (k : Int) (w : World) : Calls Tryd.prog 4 #[.int .i64 k] w fun e w' => e = .returned (.string (knm k)) ∧ w' = w := by
  by_cases h : 0 ≤ k ∧ k < 9
  · obtain rfl | rfl | rfl | rfl | rfl | rfl | rfl | rfl | rfl : k = 0 ∨ k = 1 ∨ k = 2 ∨ k = 3 ∨ k = 4 ∨ k = 5 ∨ k = 6 ∨ k = 7 ∨ k = 8 := by omega
    all_goals
      go_enter Tryd.func4, Tryd.ntmps4
      go_wp2
      go_ret
      exact ⟨rfl, rfl⟩
  · have hk : knm k = (ByteArray.mk #[]) := by
      unfold knm
      rw [if_neg (by omega), if_neg (by omega), if_neg (by omega), if_neg (by omega), if_neg (by omega), if_neg (by omega), if_neg (by omega), if_neg (by omega)]
    rw [hk]
    have k1 : (k == 1) = false := by rw [beq_eq_false_iff_ne]; omega
    have k2 : (k == 2) = false := by rw [beq_eq_false_iff_ne]; omega
    have k3 : (k == 3) = false := by rw [beq_eq_false_iff_ne]; omega
    have k4 : (k == 4) = false := by rw [beq_eq_false_iff_ne]; omega
    have k5 : (k == 5) = false := by rw [beq_eq_false_iff_ne]; omega
    have k6 : (k == 6) = false := by rw [beq_eq_false_iff_ne]; omega
    have k7 : (k == 7) = false := by rw [beq_eq_false_iff_ne]; omega
    have k8 : (k == 8) = false := by rw [beq_eq_false_iff_ne]; omega
    clear h hk
    go_enter Tryd.func4, Tryd.ntmps4
    go_wp2
    go_ret
    exact ⟨rfl, rfl⟩
/-- The table lies where start-up lays it. -/
def Tab9 (w : World) : Prop := w.cell? ⟨0, 0, none⟩ = some (.string (ByteArray.mk #[])) ∧ w.cell? ⟨0, 1, none⟩ = some (.string (ByteArray.mk #[97, 115, 107])) ∧ w.cell? ⟨0, 2, none⟩ = some (.string (ByteArray.mk #[104, 101, 97, 100])) ∧ w.cell? ⟨0, 3, none⟩ = some (.string (ByteArray.mk #[118, 111, 117, 99, 104])) ∧ w.cell? ⟨0, 4, none⟩ = some (.string (ByteArray.mk #[112, 114, 111, 118, 101])) ∧ w.cell? ⟨0, 5, none⟩ = some (.string (ByteArray.mk #[103, 114, 111, 119, 116, 104])) ∧ w.cell? ⟨0, 6, none⟩ = some (.string (ByteArray.mk #[97, 99, 107])) ∧ w.cell? ⟨0, 7, none⟩ = some (.string (ByteArray.mk #[102, 101, 116, 99, 104])) ∧ w.cell? ⟨0, 8, none⟩ = some (.string (ByteArray.mk #[114, 97, 110, 103, 101]))
theorem iname_is (k : Int) (w : World) (ht : Tab9 w) : Calls Tryd.prog 5 #[.int .i64 k] w fun e w' => e = .returned (.string (knm k)) ∧ w' = w := by
  obtain ⟨c0, c1, c2, c3, c4, c5, c6, c7, c8⟩ := ht
  by_cases h : 0 ≤ k ∧ k < 9
  · obtain rfl | rfl | rfl | rfl | rfl | rfl | rfl | rfl | rfl : k = 0 ∨ k = 1 ∨ k = 2 ∨ k = 3 ∨ k = 4 ∨ k = 5 ∨ k = 6 ∨ k = 7 ∨ k = 8 := by omega
    all_goals
      go_enter Tryd.func5, Tryd.ntmps5
      go_wp2
      go_ret
      exact ⟨rfl, rfl⟩
  · have hk : knm k = (ByteArray.mk #[]) := by
      unfold knm
      rw [if_neg (by omega), if_neg (by omega), if_neg (by omega), if_neg (by omega), if_neg (by omega), if_neg (by omega), if_neg (by omega), if_neg (by omega)]
    rw [hk]
    clear c0 c1 c2 c3 c4 c5 c6 c7 c8 hk
    by_cases h0 : k < 0
    · clear h
      go_enter Tryd.func5, Tryd.ntmps5
      go_wp2
      go_ret
      exact ⟨rfl, rfl⟩
    · have h9 : 9 ≤ k := by omega
      clear h
      go_enter Tryd.func5, Tryd.ntmps5
      go_wp2
      go_ret
      exact ⟨rfl, rfl⟩
theorem lawWireName (k : Int) (w : World) (ht : Tab9 w) : Calls Tryd.prog 3 #[.int .i64 k] w fun e w' => e = .returned (.bool true) ∧ w' = w := by
  have c1 := sname_is k w
  have c2 := iname_is k w ht
  generalize knm k = s at c1 c2
  clear ht
  go_enter Tryd.func3, Tryd.ntmps3
  go_wp2_with (first
    | (go_at_call 4; refine c1.mono ?_; rintro e w1 ⟨rfl, hw⟩; subst hw)
    | (go_at_call 5; refine c2.mono ?_; rintro e w1 ⟨rfl, hw⟩; subst hw))
  go_ret
  exact ⟨rfl, rfl⟩
end Go.Proofs.YtcghliiodehijaaDoor
