/-
  A list of texts is marked.
-/
import Derived.Test.YtegihccdpohnnaaTxt
import Derived.Test.YtegihccdpohnnaaMark
import Derived.Test.YtegihccdpohnnaaWalks11
namespace Go.Proofs.Ytegihccdpohnnaa
open Go.RowKit

/-- The block B has n places that may be written. -/
def SR (B n : Nat) (W : World) : Prop := B < W.heap.size ∧ ∀ i, i < n → (W.cell? ⟨B, i, none⟩).isSome = true ∧ W.frozen? ⟨B, i, none⟩ = false
theorem SR.call {B n : Nat} {W W' : World} (h : SR B n W) (hb : Below W.heap.size W W') : SR B n W' :=
  ⟨Nat.lt_of_lt_of_le h.1 hb.size, fun i hi => ⟨by rw [hb.cell (p := ⟨B, i, none⟩) h.1]; exact (h.2 i hi).1, (hb.frozen (p := ⟨B, i, none⟩) h.1).trans (h.2 i hi).2⟩⟩
theorem SR.set {B n : Nat} {W : World} (h : SR B n W) (j : Nat) (x : Value) : SR B n (W.setCell ⟨B, j, none⟩ x) := by
  refine ⟨by simp only [World.size_setCell]; exact h.1, fun i hi => ⟨?_, by rw [World.frozen?_setCell]; exact (h.2 i hi).2⟩⟩
  by_cases e : j = i
  · subst e; rw [set_same (h.2 j hi).1]; rfl
  · rw [set_off e]; exact (h.2 i hi).1
set_option maxRecDepth 20000 in
set_option maxHeartbeats 1000000 in
theorem tos_at (W : World) (v : Value) (S : List ByteArray) (h : Txt W v S) (hlen : S.length ≤ 1048576) :
    Calls Try.prog 14 #[v] W fun e w' => e = .returned (.slice (some ⟨W.heap.size, 0, none⟩) S.length S.length) ∧ Below W.heap.size W w' ∧ SR W.heap.size S.length w' ∧ Txt w' (.slice (some ⟨W.heap.size, 0, none⟩) S.length S.length) S := by
  obtain ⟨i0, hi, hz0, hz1, hz2⟩ := info_parts info9
  have hmk : (Instr.makeSlice 22 (.int .i64 (S.length : Int)) (.int .i64 (S.length : Int))).run Try.prog W = .ok (.slice (some ⟨W.heap.size, 0, none⟩) S.length S.length) (W.alloc (.cells (madeCells (Value.string ByteArray.empty).cells (S.length * i0.size)) 9)) := by
    have h1 := run_make (P := Try.prog) W 22 9 i0 (.string ByteArray.empty) Try.underlying22 hi hz0 .i64 .i64 (S.length : Int) (S.length : Int) (by omega) (Int.le_refl _) (by rw [hz2]; omega) (by omega)
    simpa using h1
  obtain ⟨A, hA⟩ : ∃ A, A = madeCells (Value.string ByteArray.empty).cells (S.length * i0.size) := ⟨_, rfl⟩
  have hAs : A.size = S.length := by rw [hA, size_madeCells, hz1, Nat.mul_one]
  rw [← hA] at hmk
  have HT : Hid (TRel W S 0 (W.alloc (.cells A 9))) := ⟨by simp, (Below.refl _ _).alloc (Nat.le_refl _) _, A, heap_alloc_last W _, hAs, fun i _ h => by omega⟩
  clear hA hAs hi hz0 hz1 hz2
  have hlI : (S.length : Int) ≤ 1048576 := by omega
  have hv : ∃ a cap, v = .slice a S.length cap := by
    rcases h with ⟨rfl, rfl⟩ | ⟨a, cap, rfl, _⟩
    · exact ⟨none, 0, rfl⟩
    · exact ⟨some a, cap, rfl⟩
  have hcell : ∀ k, k < S.length → ∃ a cap, v = .slice (some a) S.length cap ∧ a.block < W.heap.size ∧ ∀ (i : Nat) (h : i < S.length), W.cell? (a.add i) = some (.string S[i]) := by
    intro k hk
    rcases h with ⟨rfl, rfl⟩ | ⟨a, cap, rfl, _, _, hb, hc⟩
    · simp at hk
    · exact ⟨a, cap, rfl, hb (by omega), hc⟩
  clear h
  obtain ⟨oa, cap, rfl⟩ := hv
  go_enter Try.func14, Try.ntmps14
  go_wp2_with fail
  go_loopw [4] (fun i wr => ∃ k : Nat, k ≤ S.length ∧ i = .int .i64 (k : Int) ∧ Hid (TRel W S k wr)) (fun i _ => S.length - (intOf i).toNat)
  case atStart => exact ⟨0, by omega, rfl, HT⟩
  case round =>
    obtain ⟨k, hk, rfl, HR⟩ := hrel
    by_cases hlt : k < S.length
    · obtain ⟨a, cap', he, hbl, hc⟩ := hcell k hlt
      obtain ⟨rfl, _, rfl⟩ : oa = some a ∧ S.length = S.length ∧ cap = cap' := by simpa using he
      have hci : wr.cell? (a.add k) = some (.string S[k]) := (HR.out.2.1.cell (by rw [add_block]; exact hbl)).trans (hc k hlt)
      obtain ⟨_, _, B, hB, hBl, _⟩ := HR.out
      have bk : k < B.size := by omega
      have hco : wr.cell? ⟨W.heap.size, k, none⟩ = some B[k] := by
        rw [cell_of_row wr W.heap.size k _ 9 (0, 0) hB]
        exact Array.getElem?_eq_getElem bk
      have hfo : wr.frozen? ⟨W.heap.size, k, none⟩ = false := frozen_of_row wr W.heap.size k _ 9 hB
      have HN : Hid (TRel W S (k + 1) (wr.setCell ⟨W.heap.size, k, none⟩ (.string S[k]))) := HR.out.step hlt
      obtain ⟨s, hs⟩ : ∃ s, s = S[k] := ⟨_, rfl⟩
      rw [← hs] at hci HN
      have hk0 : (0 : Int) ≤ (k : Int) := by omega
      have hkI : (k : Int) < (S.length : Int) := by omega
      clear hs hc he hcell HT hmk HR
      go_wp2_with fail
      exact ⟨⟨k + 1, by omega, by go_num, HN⟩, by simp [intOf]; omega⟩
    · have hkk : k = S.length := by omega
      subst hkk
      clear hcell HT hmk
      go_wp2
      go_ret
      obtain ⟨hz, hB, C, hC, hCl, hcc⟩ := HR.out
      refine ⟨rfl, hB, ⟨hz, fun i hi => ⟨?_, frozen_of_row wr W.heap.size i _ 9 hC⟩⟩, .inr ⟨⟨W.heap.size, 0, none⟩, S.length, rfl, Nat.le_refl _, by unfold maxLen; omega, fun _ => hz, fun i hi => ?_⟩⟩
      · rw [cell_of_row wr W.heap.size _ _ 9 (0, 0) hC, Array.getElem?_eq_getElem (by omega)]
        rfl
      · rw [Addr.add_mid, cell_of_row wr W.heap.size _ _ 9 (0, 0) hC, Nat.zero_add]
        exact hcc i hi hi

set_option maxRecDepth 20000 in
set_option maxHeartbeats 1000000 in
theorem markText_is (k : Nat) (hk : k ≤ 16777216) (W : World) : Calls Try.prog 25 #[.int .i64 (k : Int)] W fun e w' => ∃ s, e = .returned (.string s) ∧ Below W.heap.size W w' := by
  by_cases h0 : k = 0
  · subst h0
    go_enter Try.func25, Try.ntmps25
    go_wp2
    go_ret
    exact ⟨_, rfl, Below.refl _ _⟩
  have hkI : ¬ (k : Int) ≤ 0 := by omega
  go_enter Try.func25, Try.ntmps25
  go_wp2
  go_loopw [0, 3] (fun r o wr => ∃ (m : Nat) (s : ByteArray), r = .int .i64 (m : Int) ∧ o = .string s ∧ m + s.size ≤ 16777216 ∧ Hid (Below W.heap.size W wr)) (fun r _ _ => (intOf r).toNat)
  case atStart => exact ⟨k, ByteArray.empty, rfl, rfl, by show k + 0 ≤ _; omega, Below.refl _ _⟩
  case round =>
    obtain ⟨m, s, rfl, rfl, hm, HB⟩ := hrel
    have lw : W.heap.size ≤ wr.heap.size := HB.out.size
    by_cases hp : m = 0
    · subst hp
      have ha : ∀ V : World, (Op.stringOp .add (ByteArray.mk #[109]) s).run Try.prog V = .ok (.string (ByteArray.mk #[109] ++ s)) V := fun V => run_string_add_sum V _ _ (by show 1 + s.size ≤ _; omega)
      go_wp2
      go_ret
      exact ⟨_, rfl, HB.out⟩
    · have hpI : 0 < (m : Int) := by omega
      obtain ⟨d, hd⟩ : ∃ d, d = m % 10 := ⟨_, rfl⟩
      have hd9 : d ≤ 9 := by omega
      have hmod : (m : Int).tmod 10 = (d : Int) := by rw [Int.tmod_eq_emod_of_nonneg (by omega)]; omega
      have hdiv : (m : Int).tdiv 10 = ((m / 10 : Nat) : Int) := by rw [Int.tdiv_eq_ediv_of_nonneg (by omega)]; omega
      have hw : IntKind.i64.wrap (48 + (d : Int)) = 48 + (d : Int) := IntWalk.i64_in _ (by omega)
      obtain ⟨x, hx⟩ : ∃ x : UInt8, (x.toNat : Int) = 48 + (d : Int) := ⟨UInt8.ofNat (48 + d), by rw [UInt8.toNat_ofNat', Nat.mod_eq_of_lt (by omega)]; omega⟩
      have hu : IntKind.u8.wrap (48 + (d : Int)) = (x.toNat : Int) := by rw [hx]; exact IntWalk.u8_in _ (by omega)
      have hcv : ∀ (V : World) (b : Nat), V.cell? ⟨b, 0, none⟩ = some (.int .u8 (x.toNat : Int)) → (convert 45 9 (.slice (some ⟨b, 0, none⟩) 1 1)).run Try.prog V = .ok (.string (str [x])) V := fun V b h => run_str_one V b x h
      have ha : ∀ V : World, (Op.stringOp .add (str [x]) s).run Try.prog V = .ok (.string (str [x] ++ s)) V := fun V => run_string_add_sum V _ _ (by show 1 + s.size ≤ _; omega)
      obtain ⟨y, hy⟩ : ∃ y, y = str [x] ++ s := ⟨_, rfl⟩
      rw [← hy] at ha
      have hys : y.size = 1 + s.size := by rw [hy]; show (str [x] ++ s).size = _; rw [ByteArray.size_append]; rfl
      have HQ : Hid (m / 10 + y.size ≤ 16777216 ∧ m / 10 < m) := ⟨by omega, by omega⟩
      clear hy hys hx hd
      go_wp2
      refine ⟨⟨m / 10, y, ?_, rfl, HQ.out.1, HB.out.alloc lw _⟩, ?_⟩
      · first | rfl | rw [hdiv]
      · have := HQ.out.2
        simp only [intOf]; first | omega | (rw [hdiv]; omega)
set_option maxRecDepth 20000 in
set_option maxHeartbeats 1000000 in
theorem markS_is (W : World) (B n cap : Nat) (h : SR B n W) (hn : n ≤ 1048576) :
    Calls Try.prog 20 #[.slice (some ⟨B, 0, none⟩) n cap, .int .i64 1] W fun e w' => ∃ r : Nat, e = .returned (.int .i64 (r : Int)) ∧ W.grownBy w' (some B) := by
  have HS : Hid (W.grownBy W (some B) ∧ SR B n W) := ⟨⟨rfl, rfl, rfl, Nat.le_refl _, fun _ _ _ => rfl⟩, h⟩
  clear h
  go_enter Try.func20, Try.ntmps20
  go_wp2_with fail
  go_loopw [1, 5] (fun m i wr => ∃ j : Nat, j ≤ n ∧ m = .int .i64 ((j + 1 : Nat) : Int) ∧ i = .int .i64 (j : Int) ∧ Hid (W.grownBy wr (some B) ∧ SR B n wr)) (fun _ i _ => n - (intOf i).toNat)
  case atStart => exact ⟨0, by omega, rfl, rfl, HS⟩
  case round =>
    obtain ⟨j, hj, rfl, rfl, HR⟩ := hrel
    by_cases hlt : j < n
    · obtain ⟨m, hm⟩ : ∃ m, m = j + 1 := ⟨_, rfl⟩
      rw [← hm]
      have cm := fun V : World => markText_is m (by omega) V
      have HM : Hid (m = j + 1) := hm
      have hmI : (m : Int) ≤ 1048577 := by omega
      have hm0 : 0 ≤ (m : Int) := by omega
      have a1 : IntKind.i64.wrap ((m : Int) + 1) = (m : Int) + 1 := IntWalk.i64_in _ (by omega)
      have b1 : IntKind.i64.wrap ((j : Int) + 1) = (j : Int) + 1 := IntWalk.i64_in _ (by omega)
      have hj0 : (0 : Int) ≤ (j : Int) := by omega
      have hjI : (j : Int) < (n : Int) := by omega
      obtain ⟨g1, g2⟩ := HR.out
      clear HS HR hm
      go_wp2_with (go_at_call 25; refine (cm _).mono ?_; rintro e w1 ⟨s, rfl, hb1⟩; have q2 := g2.call hb1; have q1 := grown_below g1 hb1; obtain ⟨u, hu⟩ := Option.isSome_iff_exists.1 (q2.2 j hlt).1; have hfz := (q2.2 j hlt).2; clear g1 g2 hb1)
      exact ⟨⟨j + 1, by omega, congrArg (Value.int IntKind.i64) (by have := HM.out; omega), rfl, grown_trans q1 (grown_set _ _ _ _), q2.set j _⟩, by simp only [intOf]; omega⟩
    · have hkk : j = n := by omega
      subst hkk
      clear HS
      go_wp2_with fail
      go_ret
      exact ⟨_, rfl, HR.out.1⟩
end Go.Proofs.Ytegihccdpohnnaa
