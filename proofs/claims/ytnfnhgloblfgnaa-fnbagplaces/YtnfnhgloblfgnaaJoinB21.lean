/-
  BagSend of the program, where bag and letter are ok.
-/
import Derived.Test.YtnfnhgloblfgnaaNet5
import Derived.Test.YtnfnhgloblfgnaaMarkS
namespace Go.Proofs.Ytnfnhgloblfgnaa
open Go.RowKit

theorem own_parts {W : World} {base n cap : Nat} {oa : Option Addr} {xs : List Value} (h : W.ownsRow base 32 3 (.slice oa n cap) n xs) :
    n ≤ cap ∧ cap ≤ maxLen ∧ (oa = none → cap = 0) ∧ ∀ b, oa = some b → (Value.slice oa n cap).ownBlock = some b.block := by
  rcases h.2 with ⟨hv, h0⟩ | ⟨g, cap', cur, hv, _, _, hn, hm, _⟩
  · injection hv with e1 e2 e3
    subst e1 e2 e3
    exact ⟨Nat.le_refl _, by unfold maxLen; omega, (fun _ => rfl), (fun b e => by cases e)⟩
  · injection hv with e1 e2 e3
    subst e1 e3
    exact ⟨hn, hm, (fun e => by cases e), (fun b e => by injection e with e; subst e; rfl)⟩
theorem bagOk_sizes {m : Int} {L : List Lt} (h : bagOk m L = true) : (∀ l ∈ L, l.s.size ≤ 600) ∧ L.length ≤ 64 ∧ 1 ≤ m ∧ m ≤ 64 ∧ (L.length : Int) ≤ m := by
  unfold bagOk at h
  rw [Bool.and_eq_true, decide_eq_true_iff, List.all_eq_true] at h
  refine ⟨fun l hl => ?_, by omega, by omega, by omega, h.1.2.2⟩
  have := h.2 l hl
  unfold letOk at this
  rw [Bool.and_eq_true, decide_eq_true_iff] at this
  exact this.2
theorem letOk_size {f t : Int} {n : Nat} (h : letOk f t n = true) : n ≤ 600 := by
  unfold letOk at h
  rw [Bool.and_eq_true, decide_eq_true_iff] at h
  exact h.2
end Go.Proofs.Ytnfnhgloblfgnaa

/-
  BagSend of the program, where the bag is full.
-/
namespace Go.Proofs.Ytnfnhgloblfgnaa
open Go.RowKit

end Go.Proofs.Ytnfnhgloblfgnaa

/-
  A letter doubled in a network: the place, the letter put once more.
-/
namespace Go.Proofs.Ytnfnhgloblfgnaa
open Go.RowKit

/-- k modulo n, as a place. -/
def bpos (k : Int) (n : Nat) : Nat := (k % (n : Int)).toNat
theorem bpos_lt (k : Int) (n : Nat) (hn : 0 < n) : bpos k n < n := by
  unfold bpos
  have h1 := Int.emod_nonneg k (show (n : Int) ≠ 0 by omega)
  have h2 := Int.emod_lt_of_pos k (show (0 : Int) < (n : Int) by omega)
  omega
theorem tmod_bpos (k : Int) (n : Nat) (hn : 0 < n) : (if k.tmod (n : Int) < 0 then k.tmod (n : Int) + n else k.tmod (n : Int)) = (bpos k n : Int) ∧ -(n : Int) < k.tmod (n : Int) ∧ k.tmod (n : Int) < (n : Int) := by
  have h1 := Int.emod_nonneg k (show (n : Int) ≠ 0 by omega)
  have h2 := Int.emod_lt_of_pos k (show (0 : Int) < (n : Int) by omega)
  have e : ((bpos k n : Nat) : Int) = k % (n : Int) := by unfold bpos; omega
  have h3 := Int.tmod_lt_of_pos k (show (0 : Int) < (n : Int) by omega)
  have h4 := Int.lt_tmod_of_pos k (show (0 : Int) < (n : Int) by omega)
  refine ⟨?_, h4, h3⟩
  have h5 : k % (n : Int) = k.tmod (n : Int) % (n : Int) := by
    conv => lhs; rw [← Int.tmod_add_mul_tdiv k (n : Int)]
    rw [Int.add_mul_emod_self_left]
  rw [e, h5]
  split
  · rw [← Int.add_emod_right, Int.emod_eq_of_lt (by omega) (by omega)]
  · rw [Int.emod_eq_of_lt (by omega) (by omega)]
set_option maxRecDepth 20000 in
set_option maxHeartbeats 1000000 in
theorem place_some (N : Nat) (l m c : Int) (oa : Option Addr) (n cap : Nat) (k : Int) (w : World) (h : Nw N l m (.slice oa n cap) c w) (hn : 0 < n) (hn2 : n ≤ 1048576) :
    Calls Try.prog 37 #[.pointer (some ⟨N, 0, none⟩), .int .i64 k] w fun e w' => e = .returned (.tuple #[.int .i64 (bpos k n : Int), .bool true]) ∧ w' = w := by
  obtain ⟨-, ⟨x0, x1, x2, x3, x4⟩, -, -, -⟩ := id h
  obtain ⟨e1, e2, e3⟩ := tmod_bpos k n hn
  have hpos : (0 : Int) < (n : Int) := by omega
  have hle : (n : Int) ≤ 1048576 := by omega
  generalize hr : k.tmod (n : Int) = r at e1 e2 e3
  clear h
  go_enter Try.func37, Try.ntmps37
  go_wp2
  · have hv : r + (n : Int) = (bpos k n : Int) := by rw [← e1, if_pos (by assumption)]
    rw [hv]
    go_ret2
    exact ⟨rfl, rfl⟩
  · have hv : r = (bpos k n : Int) := by rw [← e1, if_neg (by omega)]
    rw [hv]
    go_ret2
    exact ⟨rfl, rfl⟩
theorem place_none (N : Nat) (l m c : Int) (oa : Option Addr) (cap : Nat) (k : Int) (w : World) (h : Nw N l m (.slice oa 0 cap) c w) :
    Calls Try.prog 37 #[.pointer (some ⟨N, 0, none⟩), .int .i64 k] w fun e w' => e = .returned (.tuple #[.int .i64 0, .bool false]) ∧ w' = w := by
  obtain ⟨-, ⟨x0, x1, x2, x3, x4⟩, -, -, -⟩ := id h
  clear h
  go_enter Try.func37, Try.ntmps37
  go_wp2
  go_ret2
  exact ⟨rfl, rfl⟩
theorem LAt.far {W : World} {p : Addr} {l : Lt} (h : LAt W p l) (N o : Nat) (x : Value) (hN : p.block ≠ N) : LAt (W.setCell ⟨N, o, none⟩ x) p l :=
  ⟨c_set h.1 (fun e => hN e.symm), c_set h.2.1 (fun e => hN e.symm), c_set h.2.2 (fun e => hN e.symm)⟩
end Go.Proofs.Ytnfnhgloblfgnaa

/-
  A mark's text, as a function of its number.
-/
namespace Go.Proofs.Ytnfnhgloblfgnaa
open Go.RowKit

def dgt (k : Nat) : UInt8 := UInt8.ofNat (48 + k % 10)
theorem dgt_is (k : Nat) : ((dgt k).toNat : Int) = 48 + ((k % 10 : Nat) : Int) := by
  unfold dgt
  rw [UInt8.toNat_ofNat', Nat.mod_eq_of_lt (by omega)]
  omega
/-- The digits of k ahead of s. -/
def mtF (k : Nat) (s : ByteArray) : ByteArray := if _h : k = 0 then s else mtF (k / 10) (str [dgt k] ++ s)
termination_by k
decreasing_by omega
theorem mtF_zero (s : ByteArray) : mtF 0 s = s := by unfold mtF; rw [dif_pos rfl]
theorem mtF_step (k : Nat) (s : ByteArray) (h : k ≠ 0) : mtF k s = mtF (k / 10) (str [dgt k] ++ s) := by
  rw [mtF, dif_neg h]
def mkT (k : Nat) : ByteArray := if k = 0 then ByteArray.mk #[109, 48] else ByteArray.mk #[109] ++ mtF k ByteArray.empty

set_option maxRecDepth 20000 in
set_option maxHeartbeats 1000000 in
theorem markT_is (k : Nat) (hk : k ≤ 16777216) (W : World) : Calls Try.prog 42 #[.int .i64 (k : Int)] W fun e w' => e = .returned (.string (mkT k)) ∧ Below W.heap.size W w' := by
  by_cases h0 : k = 0
  · subst h0
    go_enter Try.func42, Try.ntmps42
    go_wp2
    go_ret
    exact ⟨rfl, Below.refl _ _⟩
  have hkI : ¬ (k : Int) ≤ 0 := by omega
  have hT : mkT k = ByteArray.mk #[109] ++ mtF k ByteArray.empty := by unfold mkT; rw [if_neg h0]
  rw [hT]
  obtain ⟨T, hTT⟩ : ∃ T, T = mtF k ByteArray.empty := ⟨_, rfl⟩
  rw [← hTT]
  have HT0 : Hid (mtF k ByteArray.empty = T) := hTT.symm
  clear hT hTT
  go_enter Try.func42, Try.ntmps42
  go_wp2
  go_loopw [0, 3] (fun r o wr => ∃ (m : Nat) (s : ByteArray), r = .int .i64 (m : Int) ∧ o = .string s ∧ m + s.size ≤ 16777216 ∧ Hid (mtF m s = T) ∧ Hid (Below W.heap.size W wr)) (fun r _ _ => (intOf r).toNat)
  case atStart => exact ⟨k, ByteArray.empty, rfl, rfl, by show k + 0 ≤ _; omega, HT0, Below.refl _ _⟩
  case round =>
    obtain ⟨m, s, rfl, rfl, hm, HF, HB⟩ := hrel
    have lw : W.heap.size ≤ wr.heap.size := HB.out.size
    by_cases hp : m = 0
    · subst hp
      have hsT : s = T := by have := HF.out; rwa [mtF_zero] at this
      subst hsT
      have ha : ∀ V : World, (Op.stringOp .add (ByteArray.mk #[109]) s).run Try.prog V = .ok (.string (ByteArray.mk #[109] ++ s)) V := fun V => run_string_add_sum V _ _ (by show 1 + s.size ≤ _; omega)
      clear HF HT0
      go_wp2
      go_ret
      exact ⟨rfl, HB.out⟩
    · have hpI : 0 < (m : Int) := by omega
      have HF2 : Hid (mtF (m / 10) (str [dgt m] ++ s) = T) := by have := HF.out; rwa [mtF_step m s hp] at this
      have hx := dgt_is m
      obtain ⟨x, hxx⟩ : ∃ x, x = dgt m := ⟨_, rfl⟩
      rw [← hxx] at hx HF2
      obtain ⟨d, hd⟩ : ∃ d, d = m % 10 := ⟨_, rfl⟩
      rw [← hd] at hx
      have hd9 : d ≤ 9 := by omega
      have hmod : (m : Int).tmod 10 = (d : Int) := by rw [Int.tmod_eq_emod_of_nonneg (by omega)]; omega
      have hdiv : (m : Int).tdiv 10 = ((m / 10 : Nat) : Int) := by rw [Int.tdiv_eq_ediv_of_nonneg (by omega)]; omega
      have hw : IntKind.i64.wrap (48 + (d : Int)) = 48 + (d : Int) := IntWalk.i64_in _ (by omega)
      have hu : IntKind.u8.wrap (48 + (d : Int)) = (x.toNat : Int) := by rw [hx]; exact IntWalk.u8_in _ (by omega)
      have hcv : ∀ (V : World) (b : Nat), V.cell? ⟨b, 0, none⟩ = some (.int .u8 (x.toNat : Int)) → (convert 22 9 (.slice (some ⟨b, 0, none⟩) 1 1)).run Try.prog V = .ok (.string (str [x])) V := fun V b h => run_str_one V b x h
      have ha : ∀ V : World, (Op.stringOp .add (str [x]) s).run Try.prog V = .ok (.string (str [x] ++ s)) V := fun V => run_string_add_sum V _ _ (by show 1 + s.size ≤ _; omega)
      obtain ⟨y, hy⟩ : ∃ y, y = str [x] ++ s := ⟨_, rfl⟩
      rw [← hy] at ha HF2
      have hys : y.size = 1 + s.size := by rw [hy]; show (str [x] ++ s).size = _; rw [ByteArray.size_append]; rfl
      have HQ : Hid (m / 10 + y.size ≤ 16777216 ∧ m / 10 < m) := ⟨by omega, by omega⟩
      clear hy hys hx hd hxx HF HT0
      go_wp2
      refine ⟨⟨m / 10, y, ?_, rfl, HQ.out.1, HF2, HB.out.alloc lw _⟩, ?_⟩
      · first | rfl | rw [hdiv]
      · have := HQ.out.2
        simp only [intOf]; first | omega | (rw [hdiv]; omega)
end Go.Proofs.Ytnfnhgloblfgnaa
