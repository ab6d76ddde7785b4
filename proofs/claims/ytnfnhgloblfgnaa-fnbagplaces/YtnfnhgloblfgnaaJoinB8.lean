/-
  A bag that is ok, by the program; the law of BagOk, walked.
-/
import Derived.Test.YtnfnhgloblfgnaaBag3
import Derived.Test.YtnfnhgloblfgnaaLet
import Derived.Shelf.Pu.Clone
import Derived.Conc.RwLib
import Derived.Conc.MuData
import Derived.Conc.MuLone
import Derived.KernelRfl
import Derived.Deep.RegionHeld3
namespace Go.Proofs.Ytnfnhgloblfgnaa
open Go.RowKit

set_option maxRecDepth 20000 in
set_option maxHeartbeats 1000000 in
theorem bagok_impl (W : World) (m : Int) (v : Value) (L : List Lt) (h : Lts W v L) (hs : ∀ l ∈ L, l.s.size ≤ maxLen) :
    Calls Try.prog 23 #[.agg #[.int .i64 m, v]] W fun e w' => e = .returned (.bool (bagOk m L)) ∧ Below W.heap.size W w' := by
  have hb0 : Below W.heap.size W (W.alloc (.cells #[.int .i64 m, v] 25)) := (Below.refl _ _).alloc (Nat.le_refl _) _
  have hcx := C2.new W (.int .i64 m) v 25
  obtain ⟨oa, cap, rfl, hl⟩ := h.len
  have hcell := h.cells
  clear h
  by_cases h1 : 1 ≤ m ∧ m ≤ 64
  · obtain ⟨g1, g2⟩ := id h1
    have n1 : ¬ m < 1 := by omega
    have n2 : ¬ 64 < m := by omega
    by_cases h2 : m < (L.length : Int)
    · have HR : Hid (bagOk m L = false) := bagOk_room (by omega)
      clear hcell hcx
      go_enter Try.func23, Try.ntmps23
      go_wp2_with fail
      go_ret
      exact ⟨by rw [HR.out]; rfl, hb0⟩
    · obtain ⟨R, hR⟩ : ∃ R, R = bagOk m L := ⟨_, rfl⟩
      rw [← hR]
      have HR : Hid (R = L.all (fun l => letOk l.f l.t l.s.size)) := by show _ = _; rw [hR, bagOk_all (by omega)]
      clear hR h1
      have HB0 : Hid (Below W.heap.size W (W.alloc (.cells #[.int .i64 m, .slice oa L.length cap] 25)) ∧ C2 W.heap.size (.int .i64 m) (.slice oa L.length cap) (W.alloc (.cells #[.int .i64 m, .slice oa L.length cap] 25))) := ⟨hb0, hcx⟩
      clear hb0 hcx
      go_enter Try.func23, Try.ntmps23
      go_wp2_with fail
      go_loopw [24] (fun i wr => ∃ k : Nat, k ≤ L.length ∧ i = .int .i64 (k : Int) ∧ Hid ((L.take k).all (fun l => letOk l.f l.t l.s.size) = true) ∧ Hid (Below W.heap.size W wr ∧ C2 W.heap.size (.int .i64 m) (.slice oa L.length cap) wr)) (fun i _ => L.length - (intOf i).toNat)
      case atStart => exact ⟨0, by omega, rfl, rfl, HB0⟩
      case round =>
        obtain ⟨k, hk, rfl, HA, HW⟩ := hrel
        obtain ⟨hb, hc2⟩ := HW.out
        obtain ⟨x0, x1, x2, -, -⟩ := id hc2
        by_cases hlt : k < L.length
        · obtain ⟨a, rfl, hbl, hc⟩ := hcell k hlt
          have hd : LAt wr (a.add (k * 3)) L[k] := (hc k hlt).below hb (by rw [add_block]; exact hbl)
          have hsl := hs L[k] (List.getElem_mem _)
          obtain ⟨l, hq⟩ : ∃ q, q = L[k] := ⟨_, rfl⟩
          have HT : Hid (L.take (k + 1) = L.take k ++ [l]) := by
            show _ = _
            rw [List.take_succ_eq_append_getElem hlt, hq]
          have hmem : l ∈ L := by rw [hq]; exact List.getElem_mem _
          rw [← hq] at hd hsl
          obtain ⟨d0, d1, d2⟩ := hd
          have cl := fun V : World => letok_impl l.f l.t l.s hsl V
          have hk0 : (0 : Int) ≤ (k : Int) := by omega
          have hkI : (k : Int) < (L.length : Int) := by omega
          clear hq hc hcell hsl HB0
          cases hb2 : letOk l.f l.t l.s.size with
          | false =>
            rw [hb2] at cl
            have HN : Hid (R = false) := by
              show _ = _
              rw [HR.out, List.all_eq_false]
              exact ⟨l, hmem, by rw [hb2]; decide⟩
            clear hb2
            go_wp2_with (go_at_call 33; refine (cl _).mono ?_; rintro e w1 ⟨rfl, hb1⟩)
            go_ret
            exact ⟨by rw [HN.out]; rfl, below_after (hb.alloc hb.size _) hb1 (hb.alloc hb.size _).size⟩
          | true =>
            rw [hb2] at cl
            have HA2 : Hid ((L.take (k + 1)).all (fun l => letOk l.f l.t l.s.size) = true) := by
              show _ = _
              rw [HT.out, List.all_append, HA.out]
              simp [hb2]
            clear hb2
            go_wp2_with (go_at_call 33; refine (cl _).mono ?_; rintro e w1 ⟨rfl, hb1⟩)
            exact ⟨⟨k + 1, by omega, by go_num, HA2, below_after (hb.alloc hb.size _) hb1 (hb.alloc hb.size _).size, (hc2.alloc _).call hb1⟩, by simp [intOf]; omega⟩
        · have HN : Hid (R = true) := by
            show _ = _
            have ht : L.take k = L := List.take_of_length_le (by omega)
            have := HA.out
            rw [ht] at this
            rw [HR.out]
            exact this
          clear hcell HB0
          go_wp2
          go_ret
          exact ⟨by rw [HN.out]; rfl, hb⟩
  · have HR : Hid (bagOk m L = false) := bagOk_room (by omega)
    clear hcell hcx
    by_cases n1 : m < 1
    · go_enter Try.func23, Try.ntmps23
      go_wp2
      go_ret
      exact ⟨by rw [HR.out]; rfl, hb0⟩
    · have n2 : 64 < m := by omega
      go_enter Try.func23, Try.ntmps23
      go_wp2
      go_ret
      exact ⟨by rw [HR.out]; rfl, hb0⟩
end Go.Proofs.Ytnfnhgloblfgnaa

/-
  The locks' functions and types of this program; a text cloned; a letter of one's own.
-/
namespace Go.Proofs.Ytnfnhgloblfgnaa
open Go.RowKit

/-- The numbers of a cloned text's functions and types. -/
def cloneRen : Go.Shelf.Ren := ⟨fun _ => 49, fun k => if k = 37 then 22 else if k = 47 then 99 else k, fun g => g⟩
theorem cloneLays : LaysPu.n25 Try.prog cloneRen :=
  ⟨by kernel_rfl, by kernel_rfl, Try.underlying0, Try.isAgg0, Try.sizeOf0, Try.zeroValue0, by kernel_rfl, Try.underlying3, Try.isAgg3, Try.sizeOf3, Try.zeroValue3, by kernel_rfl, Try.underlying4, Try.isAgg4, Try.sizeOf4, Try.zeroValue4, by kernel_rfl, Try.underlying5, Try.isAgg5, Try.sizeOf5, Try.zeroValue5, by kernel_rfl, Try.underlying9, Try.isAgg9, Try.sizeOf9, Try.zeroValue9, by kernel_rfl, Try.underlying22, Try.isAgg22, Try.sizeOf22, Try.zeroValue22, by kernel_rfl, Try.underlying99, Try.isAgg99, Try.sizeOf99, Try.zeroValue99, by kernel_rfl⟩
theorem clone_is (s : ByteArray) (w : World) (hs : s.size ≤ 1048576) : Calls Try.prog 49 #[.string s] w fun e w' => e = .returned (.string s) ∧ Below w.heap.size w w' :=
  AnyPu.stringslite_Clone cloneLays s w (by omega)
theorem sclone_is (s : ByteArray) (w : World) (hs : s.size ≤ 1048576) : Calls Try.prog 46 #[.string s] w fun e w' => e = .returned (.string s) ∧ Below w.heap.size w w' := by
  have c := fun W : World => clone_is s W hs
  go_enter Try.func46, Try.ntmps46
  go_wp2_with (go_at_call 49; refine (c _).mono ?_; rintro e w1 ⟨rfl, hb1⟩)
  go_ret
  exact ⟨rfl, hb1⟩
/-- A letter in the block B, that may be written over. -/
def L3 (B : Nat) (f t : Int) (s : ByteArray) (W : World) : Prop := Le B f t s W ∧ W.frozen? ⟨B, 0, none⟩ = false ∧ W.frozen? ⟨B, 1, none⟩ = false ∧ W.frozen? ⟨B, 2, none⟩ = false
theorem L3.new (W : World) (f t : Int) (s : ByteArray) (y : TypeId) : L3 W.heap.size f t s (W.alloc (.cells #[.int .i64 f, .int .i64 t, .string s] y)) := by
  refine ⟨Le.new W f t s y, ?_, ?_, ?_⟩ <;> simp [go_sem]
theorem L3.call {B : Nat} {f t : Int} {s : ByteArray} {W W' : World} (h : L3 B f t s W) (hb : Below W.heap.size W W') : L3 B f t s W' :=
  ⟨h.1.call hb, (hb.frozen (p := ⟨B, 0, none⟩) h.1.1).trans h.2.1, (hb.frozen (p := ⟨B, 1, none⟩) h.1.1).trans h.2.2.1, (hb.frozen (p := ⟨B, 2, none⟩) h.1.1).trans h.2.2.2⟩
set_option maxRecDepth 20000 in
set_option maxHeartbeats 1000000 in
theorem ownlet_is (f t : Int) (s : ByteArray) (w : World) (hs : s.size ≤ 1048576) :
    Calls Try.prog 34 #[.agg #[.int .i64 f, .int .i64 t, .string s]] w fun e w' => e = .returned (.agg #[.int .i64 f, .int .i64 t, .string s]) ∧ Below w.heap.size w w' := by
  have c := fun W : World => sclone_is s W hs
  have hb0 : Below w.heap.size w ((w.alloc (.cells #[.int .i64 f, .int .i64 t, .string s] 32)).alloc (.cells #[.int .i64 0, .int .i64 0, .string ByteArray.empty] 32)) := (by repeat' (first | (with_reducible exact Below.refl _ _) | (with_reducible assumption) | (with_reducible refine below_drewN ?_ _) | (with_reducible refine Below.setCell ?_ ?_ _) | (with_reducible refine Below.alloc ?_ ?_ _) | (with_reducible refine Below.drew ?_) | go_size))
  have x1 : L3 w.heap.size f t s ((w.alloc (.cells #[.int .i64 f, .int .i64 t, .string s] 32)).alloc (.cells #[.int .i64 0, .int .i64 0, .string ByteArray.empty] 32)) := (L3.new w f t s 32).call ((Below.refl _ _).alloc (Nat.le_refl _) _)
  have x2 : L3 (w.heap.size + 1) 0 0 ByteArray.empty ((w.alloc (.cells #[.int .i64 f, .int .i64 t, .string s] 32)).alloc (.cells #[.int .i64 0, .int .i64 0, .string ByteArray.empty] 32)) := by
    have := L3.new (w.alloc (.cells #[.int .i64 f, .int .i64 t, .string s] 32)) 0 0 ByteArray.empty 32
    rwa [World.size_alloc] at this
  go_enter Try.func34, Try.ntmps34
  go_wp2_with (go_at_call 46; refine (c _).mono ?_; rintro e w1 ⟨rfl, hb1⟩; obtain ⟨⟨l1, a0, a1, a2⟩, f0, f1, f2⟩ := x1.call hb1; obtain ⟨⟨l2, b0, b1, b2⟩, g0, g1, g2⟩ := x2.call hb1; have z1 := below_after hb0 hb1 hb0.size)
  refine bodyPost_ret (v := .agg #[.int .i64 f, .int .i64 t, .string s]) (by simp [results, Try.results34, go_sem, b0, b1, b2]) rfl ⟨rfl, ?_⟩
  repeat' (first | (with_reducible exact z1) | (with_reducible refine Below.setCell ?_ ?_ _))
  all_goals (first | exact Nat.le_refl _ | exact Nat.le_succ _)
end Go.Proofs.Ytnfnhgloblfgnaa
