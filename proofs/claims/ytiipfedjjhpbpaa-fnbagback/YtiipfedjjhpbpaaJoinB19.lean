/-
  A mark's text, as a function of its number.
-/
import Derived.Test.YtiipfedjjhpbpaaJoinB12
namespace Go.Proofs.Ytiipfedjjhpbpaa
open Go.RowKit

def dgt (k : Nat) : UInt8 := UInt8.ofNat (48 + k % 10)
theorem dgt_is (k : Nat) : ((dgt k).toNat : Int) = 48 + ((k % 10 : Nat) : Int) := by
  unfold dgt
  rw [UInt8.toNat_ofNat', Nat.mod_eq_of_lt (by omega)]
  omega
/-- The digits of k ahead of s. -/
def mtF (k : Nat) (s : ByteArray) : ByteArray := if _h : k = 0 then s else mtF (k / 10) (str [dgt k] ++ s)
termination_by k
decreasing_by omega
theorem mtF_zero (s : ByteArray) : mtF 0 s = s := by unfold mtF; rw [dif_pos rfl]
theorem mtF_step (k : Nat) (s : ByteArray) (h : k ≠ 0) : mtF k s = mtF (k / 10) (str [dgt k] ++ s) := by
  rw [mtF, dif_neg h]
def mkT (k : Nat) : ByteArray := if k = 0 then ByteArray.mk #[109, 48] else ByteArray.mk #[109] ++ mtF k ByteArray.empty

set_option maxRecDepth 20000 in
set_option maxHeartbeats 1000000 in
theorem markT_is (k : Nat) (hk : k ≤ 16777216) (W : World) : Calls Try.prog 62 #[.int .i64 (k : Int)] W fun e w' => e = .returned (.string (mkT k)) ∧ Below W.heap.size W w' := by
  by_cases h0 : k = 0
  · subst h0
    go_enter Try.func62, Try.ntmps62
    go_wp2
    go_ret
    exact ⟨rfl, Below.refl _ _⟩
  have hkI : ¬ (k : Int) ≤ 0 := by omega
  have hT : mkT k = ByteArray.mk #[109] ++ mtF k ByteArray.empty := by unfold mkT; rw [if_neg h0]
  rw [hT]
  obtain ⟨T, hTT⟩ : ∃ T, T = mtF k ByteArray.empty := ⟨_, rfl⟩
  rw [← hTT]
  have HT0 : Hid (mtF k ByteArray.empty = T) := hTT.symm
  clear hT hTT
  go_enter Try.func62, Try.ntmps62
  go_wp2
  go_loopw [0, 3] (fun r o wr => ∃ (m : Nat) (s : ByteArray), r = .int .i64 (m : Int) ∧ o = .string s ∧ m + s.size ≤ 16777216 ∧ Hid (mtF m s = T) ∧ Hid (Below W.heap.size W wr)) (fun r _ _ => (intOf r).toNat)
  case atStart => exact ⟨k, ByteArray.empty, rfl, rfl, by show k + 0 ≤ _; omega, HT0, Below.refl _ _⟩
  case round =>
    obtain ⟨m, s, rfl, rfl, hm, HF, HB⟩ := hrel
    have lw : W.heap.size ≤ wr.heap.size := HB.out.size
    by_cases hp : m = 0
    · subst hp
      have hsT : s = T := by have := HF.out; rwa [mtF_zero] at this
      subst hsT
      have ha : ∀ V : World, (Op.stringOp .add (ByteArray.mk #[109]) s).run Try.prog V = .ok (.string (ByteArray.mk #[109] ++ s)) V := fun V => run_string_add_sum V _ _ (by show 1 + s.size ≤ _; omega)
      clear HF HT0
      go_wp2
      go_ret
      exact ⟨rfl, HB.out⟩
    · have hpI : 0 < (m : Int) := by omega
      have HF2 : Hid (mtF (m / 10) (str [dgt m] ++ s) = T) := by have := HF.out; rwa [mtF_step m s hp] at this
      have hx := dgt_is m
      obtain ⟨x, hxx⟩ : ∃ x, x = dgt m := ⟨_, rfl⟩
      rw [← hxx] at hx HF2
      obtain ⟨d, hd⟩ : ∃ d, d = m % 10 := ⟨_, rfl⟩
      rw [← hd] at hx
      have hd9 : d ≤ 9 := by omega
      have hmod : (m : Int).tmod 10 = (d : Int) := by rw [Int.tmod_eq_emod_of_nonneg (by omega)]; omega
      have hdiv : (m : Int).tdiv 10 = ((m / 10 : Nat) : Int) := by rw [Int.tdiv_eq_ediv_of_nonneg (by omega)]; omega
      have hw : IntKind.i64.wrap (48 + (d : Int)) = 48 + (d : Int) := IntWalk.i64_in _ (by omega)
      have hu : IntKind.u8.wrap (48 + (d : Int)) = (x.toNat : Int) := by rw [hx]; exact IntWalk.u8_in _ (by omega)
      have hcv : ∀ (V : World) (b : Nat), V.cell? ⟨b, 0, none⟩ = some (.int .u8 (x.toNat : Int)) → (convert 22 9 (.slice (some ⟨b, 0, none⟩) 1 1)).run Try.prog V = .ok (.string (str [x])) V := fun V b h => run_str_one V b x h
      have ha : ∀ V : World, (Op.stringOp .add (str [x]) s).run Try.prog V = .ok (.string (str [x] ++ s)) V := fun V => run_string_add_sum V _ _ (by show 1 + s.size ≤ _; omega)
      obtain ⟨y, hy⟩ : ∃ y, y = str [x] ++ s := ⟨_, rfl⟩
      rw [← hy] at ha HF2
      have hys : y.size = 1 + s.size := by rw [hy]; show (str [x] ++ s).size = _; rw [ByteArray.size_append]; rfl
      have HQ : Hid (m / 10 + y.size ≤ 16777216 ∧ m / 10 < m) := ⟨by omega, by omega⟩
      clear hy hys hx hd hxx HF HT0
      go_wp2
      refine ⟨⟨m / 10, y, ?_, rfl, HQ.out.1, HF2, HB.out.alloc lw _⟩, ?_⟩
      · first | rfl | rw [hdiv]
      · have := HQ.out.2
        simp only [intOf]; first | omega | (rw [hdiv]; omega)
end Go.Proofs.Ytiipfedjjhpbpaa

/-
  The places of the letters to a node, by the program.
-/
namespace Go.Proofs.Ytiipfedjjhpbpaa
open Go.RowKit

set_option maxRecDepth 20000 in
set_option maxHeartbeats 1000000 in
theorem bfor_impl (W : World) (m node : Int) (v : Value) (L : List Lt) (h : Lts W v L) (hs : ∀ l ∈ L, l.s.size ≤ maxLen) :
    Calls Try.prog 22 #[.agg #[.int .i64 m, v], .int .i64 node] W fun e w' => ∃ u, e = .returned u ∧ w'.ownsRow W.heap.size 3 1 u (bagFor m L node).length (ics (bagFor m L node)) ∧ Below W.heap.size W w' := by
  have hb0 : Below W.heap.size W (W.alloc (.cells #[.int .i64 m, v] 25)) := (by repeat' (first | (with_reducible exact Below.refl _ _) | (with_reducible assumption) | (with_reducible refine below_drewN ?_ _) | (with_reducible refine Below.setCell ?_ ?_ _) | (with_reducible refine Below.alloc ?_ ?_ _) | (with_reducible refine Below.drew ?_) | go_size))
  have hcx := C2.new W (.int .i64 m) v 25
  have ho0 : (W.alloc (.cells #[.int .i64 m, v] 25)).ownsRow (W.heap.size + 1) 3 1 (.slice none 0 0) 0 [] := by
    exact World.ownsRow_nil _ _ _ _
  have cb := bagok_impl _ m v L (h.call hb0) hs
  obtain ⟨oa, cap, rfl, hl⟩ := h.len
  have hcell := h.cells
  clear h
  cases hbk : bagOk m L with
  | false =>
    have e0 : bagFor m L node = [] := by unfold bagFor; rw [if_neg (by rw [hbk]; decide)]
    rw [hbk] at cb
    rw [e0]
    clear hcell hcx e0 hbk
    go_enter Try.func22, Try.ntmps22
    go_wp2_with (go_at_call 34; refine cb.mono ?_; rintro e w1 ⟨rfl, hb1⟩; clear cb)
    go_ret
    exact ⟨_, rfl, own_down (own_callI ho0 hb1) (by omega), below_after hb0 hb1 hb0.size⟩
  | true =>
    have hl64 := bagOk_len hbk
    have e0 : bagFor m L node = posn node L L.length := by unfold bagFor; rw [if_pos hbk]
    rw [hbk] at cb
    rw [e0]
    have HB0 : Hid (Below W.heap.size W (W.alloc (.cells #[.int .i64 m, .slice oa L.length cap] 25)) ∧ C2 W.heap.size (.int .i64 m) (.slice oa L.length cap) (W.alloc (.cells #[.int .i64 m, .slice oa L.length cap] 25)) ∧ (W.alloc (.cells #[.int .i64 m, .slice oa L.length cap] 25)).ownsRow (W.heap.size + 1) 3 1 (.slice none 0 0) 0 []) := ⟨hb0, hcx, ho0⟩
    clear e0 hbk hb0 hcx ho0 hs
    go_enter Try.func22, Try.ntmps22
    go_wp2_with (go_at_call 34; refine cb.mono ?_; rintro e w1 ⟨rfl, hb1⟩; obtain ⟨-, y0, y1, -, -⟩ := HB0.out.2.1.call hb1; clear cb)
    have HB1 : Hid (Below W.heap.size W w1 ∧ C2 W.heap.size (.int .i64 m) (.slice oa L.length cap) w1 ∧ w1.ownsRow (W.heap.size + 1) 3 1 (.slice none 0 0) 0 []) := ⟨below_after HB0.out.1 hb1 HB0.out.1.size, HB0.out.2.1.call hb1, own_callI HB0.out.2.2 hb1⟩
    clear HB0 hb1 y0 y1
    go_loopw [5, 14] (fun u i wr => ∃ (k : Nat) (ob : Option Addr) (cb : Nat), k ≤ L.length ∧ i = .int .i64 (k : Int) ∧ u = .slice ob (posn node L k).length cb ∧ Hid (Below W.heap.size W wr ∧ C2 W.heap.size (.int .i64 m) (.slice oa L.length cap) wr ∧ wr.ownsRow (W.heap.size + 1) 3 1 (.slice ob (posn node L k).length cb) (posn node L k).length (ics (posn node L k)))) (fun _ i _ => L.length - (intOf i).toNat)
    case atStart => exact ⟨0, _, _, by omega, rfl, rfl, HB1⟩
    case round =>
      obtain ⟨k, ob, cq, hk, rfl, rfl, HW⟩ := hrel
      obtain ⟨hb, hc2, ho⟩ := HW.out
      obtain ⟨x0, x1, x2, -, -⟩ := id hc2
      by_cases hlt : k < L.length
      · obtain ⟨a, rfl, hbl, hc⟩ := hcell k hlt
        have hd : LAt wr (a.add (k * 3)) L[k] := (hc k hlt).below hb (by rw [add_block]; exact hbl)
        have hpl := posn_len node L k
        have lw := hb.size
        have eg : L.getD k ⟨0, 0, ByteArray.empty⟩ = L[k] := by simp [List.getD, List.getElem?_eq_getElem hlt]
        have hn1 : posn node L (k + 1) = if (L[k]).t = node then posn node L k ++ [(k : Int)] else posn node L k := by
          show (if (L.getD k ⟨0, 0, ByteArray.empty⟩).t = node then _ else _) = _
          rw [eg]
        obtain ⟨l, hq⟩ : ∃ q, q = L[k] := ⟨_, rfl⟩
        rw [← hq] at hd hn1
        obtain ⟨d0, d1, d2⟩ := hd
        have hk0 : (0 : Int) ≤ (k : Int) := by omega
        have hkI : (k : Int) < (L.length : Int) := by omega
        obtain ⟨X, hX⟩ : ∃ X, X = posn node L k := ⟨_, rfl⟩
        rw [← hX] at hpl ho hn1 ⊢
        clear hq hc hcell HB1 HW eg
        by_cases ht : l.t = node
        · rw [if_pos ht] at hn1
          rw [ht] at d1
          have HX : Hid (posn node L (k + 1) = X ++ [(k : Int)] ∧ X.length ≤ 64) := ⟨hn1, by omega⟩
          have hO : Hid (wr.ownsRow (W.heap.size + 1) 3 1 (.slice ob X.length cq) X.length (ics X)) := ho
          have lx : W.heap.size + 1 ≤ wr.heap.size := by omega
          clear hX hn1 ht ho
          go_wp2_with (at_builtin; refine wpList_append_int rfl _ _ rfl (W.heap.size + 1) _ X (k : Int) rfl ((hO.out.alloc _).alloc _) (wr.heap.size + 1) rfl (by simp [go_sem]) (by have := HX.out.2; omega) (by simp only [World.size_alloc]; omega) ?_; intro v' w3 ho3 hg3; obtain ⟨oc, cp, hv3⟩ := owi_len ho3; subst hv3)
          refine ⟨⟨k + 1, oc, cp, by omega, by go_num, by rw [HX.out.1, List.length_append]; rfl, ?_, ?_, ?_⟩, by simp only [intOf]; omega⟩
          · exact ((hb.alloc lw _).alloc (by simp only [World.size_alloc]; omega) _).grown hg3 (by simp only [World.size_alloc]; omega) (fun j e => Nat.le_of_lt (hO.out.lt j e).1)
          · refine ((hc2.alloc _).alloc _).grown hg3 (fun e => absurd (hO.out.lt _ e).1 (by omega))
          · rw [HX.out.1]; exact ho3
        · rw [if_neg ht] at hn1
          have htI : (l.t == node) = false := by simp [ht]
          have HX : Hid (posn node L (k + 1) = X) := hn1
          have hO : Hid (wr.ownsRow (W.heap.size + 1) 3 1 (.slice ob X.length cq) X.length (ics X)) := ho
          clear hX hn1 ho
          go_wp2_with fail
          refine ⟨⟨k + 1, ob, cq, by omega, by go_num, by rw [HX.out], hb.alloc lw _, hc2.alloc _, ?_⟩, by simp only [intOf]; omega⟩
          rw [HX.out]; exact hO.out.alloc _
      · have hkk : k = L.length := by omega
        subst hkk
        clear hcell HB1
        go_wp2_with fail
        go_ret
        exact ⟨_, rfl, own_down ho (by omega), hb⟩
end Go.Proofs.Ytiipfedjjhpbpaa
