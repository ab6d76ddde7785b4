/-
  The law of a disk that is mended, walked.
-/
import Derived.Test.YtepgmdgcappfpaaJoinB45
import Derived.Test.YtepgmdgcappfpaaDMend
namespace Go.Proofs.Ytepgmdgcappfpaa
open Go.RowKit Go.MuLone

theorem u0_zero : (((0 : UInt64).toNat : Nat) : Int) = 0 := rfl
theorem cells14 {E : Nat} {W : World} {a0 a1 a2 a3 a4 a5 a6 a7 a8 a9 a10 a11 a12 a13 : Value} (h : Lies E 0 [a0, a1, a2, a3, a4, a5, a6, a7, a8, a9, a10, a11, a12, a13] W) :
    W.cell? ⟨E, 0, none⟩ = some a0 ∧ W.cell? ⟨E, 1, none⟩ = some a1 ∧ W.cell? ⟨E, 2, none⟩ = some a2 ∧ W.cell? ⟨E, 3, none⟩ = some a3 ∧ W.cell? ⟨E, 4, none⟩ = some a4 ∧ W.cell? ⟨E, 5, none⟩ = some a5 ∧ W.cell? ⟨E, 6, none⟩ = some a6 ∧ W.cell? ⟨E, 7, none⟩ = some a7 ∧ W.cell? ⟨E, 8, none⟩ = some a8 ∧ W.cell? ⟨E, 9, none⟩ = some a9 ∧ W.cell? ⟨E, 10, none⟩ = some a10 ∧ W.cell? ⟨E, 11, none⟩ = some a11 ∧ W.cell? ⟨E, 12, none⟩ = some a12 ∧ W.cell? ⟨E, 13, none⟩ = some a13 := by
  have hc := fun j v (hj : ([a0, a1, a2, a3, a4, a5, a6, a7, a8, a9, a10, a11, a12, a13] : List Value)[j]? = some v) => by
    have := h j v hj
    rwa [Nat.zero_add] at this
  exact ⟨hc 0 _ rfl, hc 1 _ rfl, hc 2 _ rfl, hc 3 _ rfl, hc 4 _ rfl, hc 5 _ rfl, hc 6 _ rfl, hc 7 _ rfl, hc 8 _ rfl, hc 9 _ rfl, hc 10 _ rfl, hc 11 _ rfl, hc 12 _ rfl, hc 13 _ rfl⟩
set_option maxRecDepth 200000 in
set_option maxHeartbeats 8000000 in
theorem lawMend (v : Value) (L : List UInt8) (w : World) (hV : Byt w v L) :
    Calls Try.prog 3 #[v] w fun e w' => e = .returned (.bool true) ∧ Below w.heap.size w w' := by
  obtain ⟨oa, cap, hv⟩ : ∃ a cap, v = .slice a L.length cap := by
    rcases hV with ⟨rfl, rfl⟩ | ⟨a, cap, rfl, _⟩
    · exact ⟨none, 0, rfl⟩
    · exact ⟨some a, cap, rfl⟩
  by_cases hbig : 1048576 < L.length
  · have hbI : (1048576 : Int) < (L.length : Int) := by omega
    subst hv
    clear hV
    go_enter Try.func3, Try.ntmps3
    go_wp2_with fail
    go_ret
    exact ⟨rfl, Below.refl _ _⟩
  · have hbI : ¬ (1048576 : Int) < (L.length : Int) := by omega
    have co := drawMend_is w v L hV
    subst hv
    clear hV hbig
    go_enter Try.func3, Try.ntmps3
    go_upto_region 4 with (go_at_call 5; refine co.mono ?_; rintro e w1 ⟨d, rfl, b1⟩; clear co)
    have T2 : Lies w1.heap.size 0 [.int .u64 ((d.1).m.toNat : Int), .int .u64 ((d.1).q.toNat : Int), .int .u64 ((d.1).z.toNat : Int), .int .u64 ((d.1).r.a.toNat : Int), .int .u64 ((d.1).r.b.toNat : Int), .int .u64 ((d.1).r.c.toNat : Int), .int .u64 ((d.1).r.d.toNat : Int), .int .u64 ((d.2).m.toNat : Int), .int .u64 ((d.2).q.toNat : Int), .int .u64 ((d.2).z.toNat : Int), .int .u64 ((d.2).r.a.toNat : Int), .int .u64 ((d.2).r.b.toNat : Int), .int .u64 ((d.2).r.c.toNat : Int), .int .u64 ((d.2).r.d.toNat : Int)] (w1.alloc (.cells #[.int .u64 ((d.1).m.toNat : Int), .int .u64 ((d.1).q.toNat : Int), .int .u64 ((d.1).z.toNat : Int), .int .u64 ((d.1).r.a.toNat : Int), .int .u64 ((d.1).r.b.toNat : Int), .int .u64 ((d.1).r.c.toNat : Int), .int .u64 ((d.1).r.d.toNat : Int), .int .u64 ((d.2).m.toNat : Int), .int .u64 ((d.2).q.toNat : Int), .int .u64 ((d.2).z.toNat : Int), .int .u64 ((d.2).r.a.toNat : Int), .int .u64 ((d.2).r.b.toNat : Int), .int .u64 ((d.2).r.c.toNat : Int), .int .u64 ((d.2).r.d.toNat : Int)] 29)) := Lies.new w1 [.int .u64 ((d.1).m.toNat : Int), .int .u64 ((d.1).q.toNat : Int), .int .u64 ((d.1).z.toNat : Int), .int .u64 ((d.1).r.a.toNat : Int), .int .u64 ((d.1).r.b.toNat : Int), .int .u64 ((d.1).r.c.toNat : Int), .int .u64 ((d.1).r.d.toNat : Int), .int .u64 ((d.2).m.toNat : Int), .int .u64 ((d.2).q.toNat : Int), .int .u64 ((d.2).z.toNat : Int), .int .u64 ((d.2).r.a.toNat : Int), .int .u64 ((d.2).r.b.toNat : Int), .int .u64 ((d.2).r.c.toNat : Int), .int .u64 ((d.2).r.d.toNat : Int)] 29
    have lD2 : w1.heap.size < (w1.alloc (.cells #[.int .u64 ((d.1).m.toNat : Int), .int .u64 ((d.1).q.toNat : Int), .int .u64 ((d.1).z.toNat : Int), .int .u64 ((d.1).r.a.toNat : Int), .int .u64 ((d.1).r.b.toNat : Int), .int .u64 ((d.1).r.c.toNat : Int), .int .u64 ((d.1).r.d.toNat : Int), .int .u64 ((d.2).m.toNat : Int), .int .u64 ((d.2).q.toNat : Int), .int .u64 ((d.2).z.toNat : Int), .int .u64 ((d.2).r.a.toNat : Int), .int .u64 ((d.2).r.b.toNat : Int), .int .u64 ((d.2).r.c.toNat : Int), .int .u64 ((d.2).r.d.toNat : Int)] 29)).heap.size := by simp
    have z2 : Below w.heap.size w (w1.alloc (.cells #[.int .u64 ((d.1).m.toNat : Int), .int .u64 ((d.1).q.toNat : Int), .int .u64 ((d.1).z.toNat : Int), .int .u64 ((d.1).r.a.toNat : Int), .int .u64 ((d.1).r.b.toNat : Int), .int .u64 ((d.1).r.c.toNat : Int), .int .u64 ((d.1).r.d.toNat : Int), .int .u64 ((d.2).m.toNat : Int), .int .u64 ((d.2).q.toNat : Int), .int .u64 ((d.2).z.toNat : Int), .int .u64 ((d.2).r.a.toNat : Int), .int .u64 ((d.2).r.b.toNat : Int), .int .u64 ((d.2).r.c.toNat : Int), .int .u64 ((d.2).r.d.toNat : Int)] 29)) := b1.alloc b1.size _
    generalize w1.alloc (.cells #[.int .u64 ((d.1).m.toNat : Int), .int .u64 ((d.1).q.toNat : Int), .int .u64 ((d.1).z.toNat : Int), .int .u64 ((d.1).r.a.toNat : Int), .int .u64 ((d.1).r.b.toNat : Int), .int .u64 ((d.1).r.c.toNat : Int), .int .u64 ((d.1).r.d.toNat : Int), .int .u64 ((d.2).m.toNat : Int), .int .u64 ((d.2).q.toNat : Int), .int .u64 ((d.2).z.toNat : Int), .int .u64 ((d.2).r.a.toNat : Int), .int .u64 ((d.2).r.b.toNat : Int), .int .u64 ((d.2).r.c.toNat : Int), .int .u64 ((d.2).r.d.toNat : Int)] 29) = w2 at T2 lD2 z2 ⊢
    generalize w1.heap.size = D at T2 lD2 ⊢
    clear b1 w1 hbI
    have cm := fun V : World => rmend_impl d.1 d.2 V
    have cs := fun V : World => rmend_spec d.1 d.2 V
    have cr := fun V : World => rread_spec d.1 d.2 V
    have hrd := rread_mend d.1 d.2
    have hml := rmend_len d.1 d.2
    have hw := rmend_whole d.1 d.2
    generalize rread d.1 d.2 = x at cr hrd
    generalize rmend d.1 d.2 = M at cm cs hrd hml hw
    go_upto_region 5 with (first
      | (with_reducible refine wpl_load agg_disk D 0 [.int .u64 ((d.1).m.toNat : Int), .int .u64 ((d.1).q.toNat : Int), .int .u64 ((d.1).z.toNat : Int), .int .u64 ((d.1).r.a.toNat : Int), .int .u64 ((d.1).r.b.toNat : Int), .int .u64 ((d.1).r.c.toNat : Int), .int .u64 ((d.1).r.d.toNat : Int), .int .u64 ((d.2).m.toNat : Int), .int .u64 ((d.2).q.toNat : Int), .int .u64 ((d.2).z.toNat : Int), .int .u64 ((d.2).r.a.toNat : Int), .int .u64 ((d.2).r.b.toNat : Int), .int .u64 ((d.2).r.c.toNat : Int), .int .u64 ((d.2).r.d.toNat : Int)] (by kernel_rfl) (by kernel_rfl) T2 ?_)
      | (go_at_call 6; refine (cm _).mono ?_; rintro e w3 ⟨v3, rfl, ho3, b3⟩; have T3 := T2.call b3 lD2; have lD3 := Nat.lt_of_lt_of_le lD2 b3.size; have O3 := owr_rws ho3; have z3 := below_after z2 b3 z2.size; clear T2 lD2 z2 ho3 b3 cm))
    obtain ⟨a3, c3, rfl, hl3⟩ := O3.len
    have h14 : ¬ (14 : Int) < (M.length : Int) := by omega
    go_upto_region 7 with (first
      | (with_reducible refine wpl_load agg_disk D 0 [.int .u64 ((d.1).m.toNat : Int), .int .u64 ((d.1).q.toNat : Int), .int .u64 ((d.1).z.toNat : Int), .int .u64 ((d.1).r.a.toNat : Int), .int .u64 ((d.1).r.b.toNat : Int), .int .u64 ((d.1).r.c.toNat : Int), .int .u64 ((d.1).r.d.toNat : Int), .int .u64 ((d.2).m.toNat : Int), .int .u64 ((d.2).q.toNat : Int), .int .u64 ((d.2).z.toNat : Int), .int .u64 ((d.2).r.a.toNat : Int), .int .u64 ((d.2).r.b.toNat : Int), .int .u64 ((d.2).r.c.toNat : Int), .int .u64 ((d.2).r.d.toNat : Int)] (by kernel_rfl) (by kernel_rfl) T3 ?_)
      | (go_at_call 7; refine (cs _).mono ?_; rintro e w4 ⟨v4, rfl, ho4, b4⟩; have T4 := T3.call b4 lD3; have lD4 := Nat.lt_of_lt_of_le lD3 b4.size; have O4 := O3.call b4; have z4 := below_after z3 b4 z3.size; obtain ⟨a4, c4, rfl, hl4⟩ := (owr_rws ho4).len; clear T3 lD3 O3 z3 ho4 b4 cs))
    clear h14
    go_upto_region 8 with (first
      | (with_reducible refine wpl_load agg_disk D 0 [.int .u64 ((d.1).m.toNat : Int), .int .u64 ((d.1).q.toNat : Int), .int .u64 ((d.1).z.toNat : Int), .int .u64 ((d.1).r.a.toNat : Int), .int .u64 ((d.1).r.b.toNat : Int), .int .u64 ((d.1).r.c.toNat : Int), .int .u64 ((d.1).r.d.toNat : Int), .int .u64 ((d.2).m.toNat : Int), .int .u64 ((d.2).q.toNat : Int), .int .u64 ((d.2).z.toNat : Int), .int .u64 ((d.2).r.a.toNat : Int), .int .u64 ((d.2).r.b.toNat : Int), .int .u64 ((d.2).r.c.toNat : Int), .int .u64 ((d.2).r.d.toNat : Int)] (by kernel_rfl) (by kernel_rfl) T4 ?_)
      | (go_at_call 8; refine (cr _).mono ?_; rintro e w5 ⟨rfl, b5⟩; have T5 := T4.call b5 lD4; have lD5 := Nat.lt_of_lt_of_le lD4 b5.size; have O5 := O4.call b5; have z5 := below_after z4 b5 z4.size; clear T4 lD4 O4 z4 b5 cr))
    have ba := (Below.refl w5.heap.size w5).alloc (Nat.le_refl _) (.cells #[.int .i64 ((x.1).q.toNat : Int), .int .i64 ((x.1).z.toNat : Int), .int .u64 (((x.1).r.a).toNat : Int), .int .u64 (((x.1).r.b).toNat : Int), .int .u64 (((x.1).r.c).toNat : Int), .int .u64 (((x.1).r.d).toNat : Int)] 34)
    have T6 := T5.call ba lD5
    have lD6 := Nat.lt_of_lt_of_le lD5 ba.size
    have O6 := O5.call ba
    have z6 := z5.alloc z5.size (.cells #[.int .i64 ((x.1).q.toNat : Int), .int .i64 ((x.1).z.toNat : Int), .int .u64 (((x.1).r.a).toNat : Int), .int .u64 (((x.1).r.b).toNat : Int), .int .u64 (((x.1).r.c).toNat : Int), .int .u64 (((x.1).r.d).toNat : Int)] 34)
    have X6 : Lies w5.heap.size 0 [.int .i64 ((x.1).q.toNat : Int), .int .i64 ((x.1).z.toNat : Int), .int .u64 (((x.1).r.a).toNat : Int), .int .u64 (((x.1).r.b).toNat : Int), .int .u64 (((x.1).r.c).toNat : Int), .int .u64 (((x.1).r.d).toNat : Int)] (w5.alloc (.cells #[.int .i64 ((x.1).q.toNat : Int), .int .i64 ((x.1).z.toNat : Int), .int .u64 (((x.1).r.a).toNat : Int), .int .u64 (((x.1).r.b).toNat : Int), .int .u64 (((x.1).r.c).toNat : Int), .int .u64 (((x.1).r.d).toNat : Int)] 34)) := Lies.new w5 [.int .i64 ((x.1).q.toNat : Int), .int .i64 ((x.1).z.toNat : Int), .int .u64 (((x.1).r.a).toNat : Int), .int .u64 (((x.1).r.b).toNat : Int), .int .u64 (((x.1).r.c).toNat : Int), .int .u64 (((x.1).r.d).toNat : Int)] 34
    have lX6 : w5.heap.size < (w5.alloc (.cells #[.int .i64 ((x.1).q.toNat : Int), .int .i64 ((x.1).z.toNat : Int), .int .u64 (((x.1).r.a).toNat : Int), .int .u64 (((x.1).r.b).toNat : Int), .int .u64 (((x.1).r.c).toNat : Int), .int .u64 (((x.1).r.d).toNat : Int)] 34)).heap.size := by simp
    clear T5 lD5 O5 z5 ba
    generalize w5.alloc (.cells #[.int .i64 ((x.1).q.toNat : Int), .int .i64 ((x.1).z.toNat : Int), .int .u64 (((x.1).r.a).toNat : Int), .int .u64 (((x.1).r.b).toNat : Int), .int .u64 (((x.1).r.c).toNat : Int), .int .u64 (((x.1).r.d).toNat : Int)] 34) = w6 at T6 lD6 O6 z6 X6 lX6 ⊢
    generalize w5.heap.size = X at X6 lX6 ⊢
    go_upto_region 9 with fail
    go_loopw [7, 8, 9, 10] (fun i _ _ _ wr => ∃ (k : Nat), i = .int .i64 (k : Int) ∧ k ≤ M.length + 1 ∧ Hid (Lies D 0 [.int .u64 ((d.1).m.toNat : Int), .int .u64 ((d.1).q.toNat : Int), .int .u64 ((d.1).z.toNat : Int), .int .u64 ((d.1).r.a.toNat : Int), .int .u64 ((d.1).r.b.toNat : Int), .int .u64 ((d.1).r.c.toNat : Int), .int .u64 ((d.1).r.d.toNat : Int), .int .u64 ((d.2).m.toNat : Int), .int .u64 ((d.2).q.toNat : Int), .int .u64 ((d.2).z.toNat : Int), .int .u64 ((d.2).r.a.toNat : Int), .int .u64 ((d.2).r.b.toNat : Int), .int .u64 ((d.2).r.c.toNat : Int), .int .u64 ((d.2).r.d.toNat : Int)] wr ∧ D < wr.heap.size ∧ Rws wr (.slice a3 M.length c3) M ∧ Lies X 0 [.int .i64 ((x.1).q.toNat : Int), .int .i64 ((x.1).z.toNat : Int), .int .u64 (((x.1).r.a).toNat : Int), .int .u64 (((x.1).r.b).toNat : Int), .int .u64 (((x.1).r.c).toNat : Int), .int .u64 (((x.1).r.d).toNat : Int)] wr ∧ X < wr.heap.size ∧ Below w.heap.size w wr)) (fun i _ _ _ _ => ((M.length : Int) + 1 - intOf i).toNat)
    case atStart => exact ⟨0, rfl, by omega, T6, lD6, O6, X6, lX6, z6⟩
    case round =>
      obtain ⟨k, rfl, hk9, HW⟩ := hrel
      obtain ⟨T7, lD7, O7, X7, lX7, z7⟩ := HW.out
      clear HW T6 lD6 O6 X6 lX6 z6
      by_cases hk8 : k ≤ M.length
      · have hkI : (k : Int) ≤ (M.length : Int) := by omega
        have hrk := hrd (ncut (k : Int) M.length)
        have cc := fun V : World => fun hV => cut_impl V d.1 d.2 (.slice a3 M.length c3) M (k : Int) hV (by omega)
        generalize dws (d.1, d.2) (M.take (ncut (k : Int) M.length)) = dk at cc hrk
        have ci := fun V : World => rread_impl dk.1 dk.2 V
        rw [hrk] at ci
        have hwk : IntKind.i64.wrap ((k : Int) + 1) = ((k + 1 : Nat) : Int) := by rw [IntWalk.i64_in _ (by omega)]; omega
        clear hrk hrd hw
        go_upto_region 12 with (first
          | (with_reducible refine wpl_load agg_disk D 0 [.int .u64 ((d.1).m.toNat : Int), .int .u64 ((d.1).q.toNat : Int), .int .u64 ((d.1).z.toNat : Int), .int .u64 ((d.1).r.a.toNat : Int), .int .u64 ((d.1).r.b.toNat : Int), .int .u64 ((d.1).r.c.toNat : Int), .int .u64 ((d.1).r.d.toNat : Int), .int .u64 ((d.2).m.toNat : Int), .int .u64 ((d.2).q.toNat : Int), .int .u64 ((d.2).z.toNat : Int), .int .u64 ((d.2).r.a.toNat : Int), .int .u64 ((d.2).r.b.toNat : Int), .int .u64 ((d.2).r.c.toNat : Int), .int .u64 ((d.2).r.d.toNat : Int)] (by kernel_rfl) (by kernel_rfl) T7 ?_)
          | (go_at_call 9; refine (cc _ O7).mono ?_; rintro e w8 ⟨rfl, b8⟩; have T8 := T7.call b8 lD7; have lD8 := Nat.lt_of_lt_of_le lD7 b8.size; have O8 := O7.call b8; have X8 := X7.call b8 lX7; have lX8 := Nat.lt_of_lt_of_le lX7 b8.size; have z8 := below_after z7 b8 z7.size; clear T7 lD7 O7 X7 lX7 z7 b8))
        have ba := (Below.refl w8.heap.size w8).alloc (Nat.le_refl _) (.cells #[.int .u64 ((dk.1).m.toNat : Int), .int .u64 ((dk.1).q.toNat : Int), .int .u64 ((dk.1).z.toNat : Int), .int .u64 ((dk.1).r.a.toNat : Int), .int .u64 ((dk.1).r.b.toNat : Int), .int .u64 ((dk.1).r.c.toNat : Int), .int .u64 ((dk.1).r.d.toNat : Int), .int .u64 ((dk.2).m.toNat : Int), .int .u64 ((dk.2).q.toNat : Int), .int .u64 ((dk.2).z.toNat : Int), .int .u64 ((dk.2).r.a.toNat : Int), .int .u64 ((dk.2).r.b.toNat : Int), .int .u64 ((dk.2).r.c.toNat : Int), .int .u64 ((dk.2).r.d.toNat : Int)] 29)
        have T9 := T8.call ba lD8
        have lD9 := Nat.lt_of_lt_of_le lD8 ba.size
        have O9 := O8.call ba
        have X9 := X8.call ba lX8
        have lX9 := Nat.lt_of_lt_of_le lX8 ba.size
        have z9 := z8.alloc z8.size (.cells #[.int .u64 ((dk.1).m.toNat : Int), .int .u64 ((dk.1).q.toNat : Int), .int .u64 ((dk.1).z.toNat : Int), .int .u64 ((dk.1).r.a.toNat : Int), .int .u64 ((dk.1).r.b.toNat : Int), .int .u64 ((dk.1).r.c.toNat : Int), .int .u64 ((dk.1).r.d.toNat : Int), .int .u64 ((dk.2).m.toNat : Int), .int .u64 ((dk.2).q.toNat : Int), .int .u64 ((dk.2).z.toNat : Int), .int .u64 ((dk.2).r.a.toNat : Int), .int .u64 ((dk.2).r.b.toNat : Int), .int .u64 ((dk.2).r.c.toNat : Int), .int .u64 ((dk.2).r.d.toNat : Int)] 29)
        have E9 : Lies w8.heap.size 0 [.int .u64 ((dk.1).m.toNat : Int), .int .u64 ((dk.1).q.toNat : Int), .int .u64 ((dk.1).z.toNat : Int), .int .u64 ((dk.1).r.a.toNat : Int), .int .u64 ((dk.1).r.b.toNat : Int), .int .u64 ((dk.1).r.c.toNat : Int), .int .u64 ((dk.1).r.d.toNat : Int), .int .u64 ((dk.2).m.toNat : Int), .int .u64 ((dk.2).q.toNat : Int), .int .u64 ((dk.2).z.toNat : Int), .int .u64 ((dk.2).r.a.toNat : Int), .int .u64 ((dk.2).r.b.toNat : Int), .int .u64 ((dk.2).r.c.toNat : Int), .int .u64 ((dk.2).r.d.toNat : Int)] (w8.alloc (.cells #[.int .u64 ((dk.1).m.toNat : Int), .int .u64 ((dk.1).q.toNat : Int), .int .u64 ((dk.1).z.toNat : Int), .int .u64 ((dk.1).r.a.toNat : Int), .int .u64 ((dk.1).r.b.toNat : Int), .int .u64 ((dk.1).r.c.toNat : Int), .int .u64 ((dk.1).r.d.toNat : Int), .int .u64 ((dk.2).m.toNat : Int), .int .u64 ((dk.2).q.toNat : Int), .int .u64 ((dk.2).z.toNat : Int), .int .u64 ((dk.2).r.a.toNat : Int), .int .u64 ((dk.2).r.b.toNat : Int), .int .u64 ((dk.2).r.c.toNat : Int), .int .u64 ((dk.2).r.d.toNat : Int)] 29)) := Lies.new w8 [.int .u64 ((dk.1).m.toNat : Int), .int .u64 ((dk.1).q.toNat : Int), .int .u64 ((dk.1).z.toNat : Int), .int .u64 ((dk.1).r.a.toNat : Int), .int .u64 ((dk.1).r.b.toNat : Int), .int .u64 ((dk.1).r.c.toNat : Int), .int .u64 ((dk.1).r.d.toNat : Int), .int .u64 ((dk.2).m.toNat : Int), .int .u64 ((dk.2).q.toNat : Int), .int .u64 ((dk.2).z.toNat : Int), .int .u64 ((dk.2).r.a.toNat : Int), .int .u64 ((dk.2).r.b.toNat : Int), .int .u64 ((dk.2).r.c.toNat : Int), .int .u64 ((dk.2).r.d.toNat : Int)] 29
        clear ba T8 lD8 O8 X8 lX8 z8 cc
        generalize w8.alloc (.cells #[.int .u64 ((dk.1).m.toNat : Int), .int .u64 ((dk.1).q.toNat : Int), .int .u64 ((dk.1).z.toNat : Int), .int .u64 ((dk.1).r.a.toNat : Int), .int .u64 ((dk.1).r.b.toNat : Int), .int .u64 ((dk.1).r.c.toNat : Int), .int .u64 ((dk.1).r.d.toNat : Int), .int .u64 ((dk.2).m.toNat : Int), .int .u64 ((dk.2).q.toNat : Int), .int .u64 ((dk.2).z.toNat : Int), .int .u64 ((dk.2).r.a.toNat : Int), .int .u64 ((dk.2).r.b.toNat : Int), .int .u64 ((dk.2).r.c.toNat : Int), .int .u64 ((dk.2).r.d.toNat : Int)] 29) = w9 at T9 lD9 O9 X9 lX9 z9 E9 ⊢
        generalize w8.heap.size = E at E9 ⊢
        go_upto_region 13 with (first
          | (with_reducible refine wpl_load agg_disk E 0 [.int .u64 ((dk.1).m.toNat : Int), .int .u64 ((dk.1).q.toNat : Int), .int .u64 ((dk.1).z.toNat : Int), .int .u64 ((dk.1).r.a.toNat : Int), .int .u64 ((dk.1).r.b.toNat : Int), .int .u64 ((dk.1).r.c.toNat : Int), .int .u64 ((dk.1).r.d.toNat : Int), .int .u64 ((dk.2).m.toNat : Int), .int .u64 ((dk.2).q.toNat : Int), .int .u64 ((dk.2).z.toNat : Int), .int .u64 ((dk.2).r.a.toNat : Int), .int .u64 ((dk.2).r.b.toNat : Int), .int .u64 ((dk.2).r.c.toNat : Int), .int .u64 ((dk.2).r.d.toNat : Int)] (by kernel_rfl) (by kernel_rfl) E9 ?_)
          | (go_at_call 10; refine (ci _).mono ?_; rintro e wa ⟨rfl, ba⟩; have Ta := T9.call ba lD9; have lDa := Nat.lt_of_lt_of_le lD9 ba.size; have Oa := O9.call ba; have Xa := X9.call ba lX9; have lXa := Nat.lt_of_lt_of_le lX9 ba.size; have za := below_after z9 ba z9.size; clear T9 lD9 O9 X9 lX9 z9 E9 ba))
        have ba := (Below.refl wa.heap.size wa).alloc (Nat.le_refl _) (.cells #[.int .i64 ((x.1).q.toNat : Int), .int .i64 ((x.1).z.toNat : Int), .int .u64 (((x.1).r.a).toNat : Int), .int .u64 (((x.1).r.b).toNat : Int), .int .u64 (((x.1).r.c).toNat : Int), .int .u64 (((x.1).r.d).toNat : Int)] 34)
        have Tb := Ta.call ba lDa
        have lDb := Nat.lt_of_lt_of_le lDa ba.size
        have Ob := Oa.call ba
        have Xb := Xa.call ba lXa
        have lXb := Nat.lt_of_lt_of_le lXa ba.size
        have zb := za.alloc za.size (.cells #[.int .i64 ((x.1).q.toNat : Int), .int .i64 ((x.1).z.toNat : Int), .int .u64 (((x.1).r.a).toNat : Int), .int .u64 (((x.1).r.b).toNat : Int), .int .u64 (((x.1).r.c).toNat : Int), .int .u64 (((x.1).r.d).toNat : Int)] 34)
        have Nb : Lies wa.heap.size 0 [.int .i64 ((x.1).q.toNat : Int), .int .i64 ((x.1).z.toNat : Int), .int .u64 (((x.1).r.a).toNat : Int), .int .u64 (((x.1).r.b).toNat : Int), .int .u64 (((x.1).r.c).toNat : Int), .int .u64 (((x.1).r.d).toNat : Int)] (wa.alloc (.cells #[.int .i64 ((x.1).q.toNat : Int), .int .i64 ((x.1).z.toNat : Int), .int .u64 (((x.1).r.a).toNat : Int), .int .u64 (((x.1).r.b).toNat : Int), .int .u64 (((x.1).r.c).toNat : Int), .int .u64 (((x.1).r.d).toNat : Int)] 34)) := Lies.new wa [.int .i64 ((x.1).q.toNat : Int), .int .i64 ((x.1).z.toNat : Int), .int .u64 (((x.1).r.a).toNat : Int), .int .u64 (((x.1).r.b).toNat : Int), .int .u64 (((x.1).r.c).toNat : Int), .int .u64 (((x.1).r.d).toNat : Int)] 34
        clear ba Ta lDa Oa Xa lXa za ci
        generalize wa.alloc (.cells #[.int .i64 ((x.1).q.toNat : Int), .int .i64 ((x.1).z.toNat : Int), .int .u64 (((x.1).r.a).toNat : Int), .int .u64 (((x.1).r.b).toNat : Int), .int .u64 (((x.1).r.c).toNat : Int), .int .u64 (((x.1).r.d).toNat : Int)] 34) = wb at Tb lDb Ob Xb lXb zb Nb ⊢
        generalize wa.heap.size = N at Nb ⊢
        go_wp2_with (first
          | (with_reducible refine wpl_load agg_rec N 0 [.int .i64 ((x.1).q.toNat : Int), .int .i64 ((x.1).z.toNat : Int), .int .u64 (((x.1).r.a).toNat : Int), .int .u64 (((x.1).r.b).toNat : Int), .int .u64 (((x.1).r.c).toNat : Int), .int .u64 (((x.1).r.d).toNat : Int)] (by kernel_rfl) ?_ Nb ?_; · (simp [Act.eval]; done))
          | (with_reducible refine wpl_load agg_rec X 0 [.int .i64 ((x.1).q.toNat : Int), .int .i64 ((x.1).z.toNat : Int), .int .u64 (((x.1).r.a).toNat : Int), .int .u64 (((x.1).r.b).toNat : Int), .int .u64 (((x.1).r.c).toNat : Int), .int .u64 (((x.1).r.d).toNat : Int)] (by kernel_rfl) ?_ Xb ?_; · (simp [Act.eval, Act.put]; done)))
        go_roundw
        case measure => simp [intOf]; omega
        case rel => exact ⟨k + 1, (by first | rfl | go_num), by omega, Tb, lDb, Ob, Xb, lXb, zb⟩
      · have hkI : ¬ (k : Int) ≤ (M.length : Int) := by omega
        have cw := fun V : World => fun hV => dw_impl V d.1 d.2 (.slice a3 M.length c3) M hV (by omega)
        rw [hw] at cw
        have c2 := fun V : World => rmend_impl (fixd d.1) (fixd d.2) V
        rw [rmend_fixd] at c2
        have f1 := fixd_or d.1
        have f2 := fixd_or d.2
        have k1 := fun V : World => sok_impl (fixd d.1) V
        have k2 := fun V : World => sok_impl (fixd d.2) V
        clear hw hrd hk8 hk9 hml
        generalize fixd d.1 = s at cw c2 f1 k1
        generalize fixd d.2 = t at cw c2 f2 k2
        rcases f1 with f1 | f1 <;> rcases f2 with f2 | f2
        · rw [f1] at k1
          rw [f2] at k2
          go_upto_region 16 with (first
            | (with_reducible refine wpl_load agg_disk D 0 [.int .u64 ((d.1).m.toNat : Int), .int .u64 ((d.1).q.toNat : Int), .int .u64 ((d.1).z.toNat : Int), .int .u64 ((d.1).r.a.toNat : Int), .int .u64 ((d.1).r.b.toNat : Int), .int .u64 ((d.1).r.c.toNat : Int), .int .u64 ((d.1).r.d.toNat : Int), .int .u64 ((d.2).m.toNat : Int), .int .u64 ((d.2).q.toNat : Int), .int .u64 ((d.2).z.toNat : Int), .int .u64 ((d.2).r.a.toNat : Int), .int .u64 ((d.2).r.b.toNat : Int), .int .u64 ((d.2).r.c.toNat : Int), .int .u64 ((d.2).r.d.toNat : Int)] (by kernel_rfl) (by kernel_rfl) T7 ?_)
            | (go_at_call 11; refine (cw _ O7).mono ?_; rintro e w8 ⟨rfl, b8⟩; have z8 := below_after z7 b8 z7.size; clear T7 lD7 O7 X7 lX7 z7 b8 cw))
          have E9 : Lies w8.heap.size 0 [.int .u64 ((s).m.toNat : Int), .int .u64 ((s).q.toNat : Int), .int .u64 ((s).z.toNat : Int), .int .u64 ((s).r.a.toNat : Int), .int .u64 ((s).r.b.toNat : Int), .int .u64 ((s).r.c.toNat : Int), .int .u64 ((s).r.d.toNat : Int), .int .u64 ((t).m.toNat : Int), .int .u64 ((t).q.toNat : Int), .int .u64 ((t).z.toNat : Int), .int .u64 ((t).r.a.toNat : Int), .int .u64 ((t).r.b.toNat : Int), .int .u64 ((t).r.c.toNat : Int), .int .u64 ((t).r.d.toNat : Int)] (w8.alloc (.cells #[.int .u64 ((s).m.toNat : Int), .int .u64 ((s).q.toNat : Int), .int .u64 ((s).z.toNat : Int), .int .u64 ((s).r.a.toNat : Int), .int .u64 ((s).r.b.toNat : Int), .int .u64 ((s).r.c.toNat : Int), .int .u64 ((s).r.d.toNat : Int), .int .u64 ((t).m.toNat : Int), .int .u64 ((t).q.toNat : Int), .int .u64 ((t).z.toNat : Int), .int .u64 ((t).r.a.toNat : Int), .int .u64 ((t).r.b.toNat : Int), .int .u64 ((t).r.c.toNat : Int), .int .u64 ((t).r.d.toNat : Int)] 29)) := Lies.new w8 [.int .u64 ((s).m.toNat : Int), .int .u64 ((s).q.toNat : Int), .int .u64 ((s).z.toNat : Int), .int .u64 ((s).r.a.toNat : Int), .int .u64 ((s).r.b.toNat : Int), .int .u64 ((s).r.c.toNat : Int), .int .u64 ((s).r.d.toNat : Int), .int .u64 ((t).m.toNat : Int), .int .u64 ((t).q.toNat : Int), .int .u64 ((t).z.toNat : Int), .int .u64 ((t).r.a.toNat : Int), .int .u64 ((t).r.b.toNat : Int), .int .u64 ((t).r.c.toNat : Int), .int .u64 ((t).r.d.toNat : Int)] 29
          have lE9 : w8.heap.size < (w8.alloc (.cells #[.int .u64 ((s).m.toNat : Int), .int .u64 ((s).q.toNat : Int), .int .u64 ((s).z.toNat : Int), .int .u64 ((s).r.a.toNat : Int), .int .u64 ((s).r.b.toNat : Int), .int .u64 ((s).r.c.toNat : Int), .int .u64 ((s).r.d.toNat : Int), .int .u64 ((t).m.toNat : Int), .int .u64 ((t).q.toNat : Int), .int .u64 ((t).z.toNat : Int), .int .u64 ((t).r.a.toNat : Int), .int .u64 ((t).r.b.toNat : Int), .int .u64 ((t).r.c.toNat : Int), .int .u64 ((t).r.d.toNat : Int)] 29)).heap.size := by simp
          have z9 := z8.alloc z8.size (.cells #[.int .u64 ((s).m.toNat : Int), .int .u64 ((s).q.toNat : Int), .int .u64 ((s).z.toNat : Int), .int .u64 ((s).r.a.toNat : Int), .int .u64 ((s).r.b.toNat : Int), .int .u64 ((s).r.c.toNat : Int), .int .u64 ((s).r.d.toNat : Int), .int .u64 ((t).m.toNat : Int), .int .u64 ((t).q.toNat : Int), .int .u64 ((t).z.toNat : Int), .int .u64 ((t).r.a.toNat : Int), .int .u64 ((t).r.b.toNat : Int), .int .u64 ((t).r.c.toNat : Int), .int .u64 ((t).r.d.toNat : Int)] 29)
          clear z8
          generalize w8.alloc (.cells #[.int .u64 ((s).m.toNat : Int), .int .u64 ((s).q.toNat : Int), .int .u64 ((s).z.toNat : Int), .int .u64 ((s).r.a.toNat : Int), .int .u64 ((s).r.b.toNat : Int), .int .u64 ((s).r.c.toNat : Int), .int .u64 ((s).r.d.toNat : Int), .int .u64 ((t).m.toNat : Int), .int .u64 ((t).q.toNat : Int), .int .u64 ((t).z.toNat : Int), .int .u64 ((t).r.a.toNat : Int), .int .u64 ((t).r.b.toNat : Int), .int .u64 ((t).r.c.toNat : Int), .int .u64 ((t).r.d.toNat : Int)] 29) = w9 at E9 lE9 z9 ⊢
          generalize w8.heap.size = E at E9 lE9 ⊢
          go_wp2_with (first
            | (with_reducible refine wpl_load agg_disk E 0 [.int .u64 ((s).m.toNat : Int), .int .u64 ((s).q.toNat : Int), .int .u64 ((s).z.toNat : Int), .int .u64 ((s).r.a.toNat : Int), .int .u64 ((s).r.b.toNat : Int), .int .u64 ((s).r.c.toNat : Int), .int .u64 ((s).r.d.toNat : Int), .int .u64 ((t).m.toNat : Int), .int .u64 ((t).q.toNat : Int), .int .u64 ((t).z.toNat : Int), .int .u64 ((t).r.a.toNat : Int), .int .u64 ((t).r.b.toNat : Int), .int .u64 ((t).r.c.toNat : Int), .int .u64 ((t).r.d.toNat : Int)] (by kernel_rfl) (by kernel_rfl) E9 ?_)
            | (with_reducible refine wpl_build #[.int .u64 0, .int .u64 0, .int .u64 0, .int .u64 0, .int .u64 0, .int .u64 0, .int .u64 0] (by kernel_rfl) ?_)
            | (go_at_call 6; refine (c2 _).mono ?_; rintro e wa ⟨va, rfl, hoa, ba⟩; obtain ⟨aa, ca, rfl, hla⟩ := (owr_rws hoa).len; have Ea := E9.call ba lE9; have lEa := Nat.lt_of_lt_of_le lE9 ba.size; have za := below_after z9 ba z9.size; obtain ⟨e0, e1, e2, e3, e4, e5, e6, e7, e8, e9, e10, e11, e12, e13⟩ := cells14 Ea; clear E9 lE9 z9 hoa ba c2)
            | (go_at_call 12; refine (k1 _).mono ?_; rintro e wb ⟨rfl, bb⟩; have Eb := Ea.call bb lEa; have lEb := Nat.lt_of_lt_of_le lEa bb.size; have zb := below_after za bb za.size; clear e0 e1 e2 e3 e4 e5 e6 e7 e8 e9 e10 e11 e12 e13; obtain ⟨e0, e1, e2, e3, e4, e5, e6, e7, e8, e9, e10, e11, e12, e13⟩ := cells14 Eb; clear Ea lEa za bb)
            | (go_at_call 12; refine (k2 _).mono ?_; rintro e wc ⟨rfl, bc⟩; have zc := below_after zb bc zb.size; clear e0 e1 e2 e3 e4 e5 e6 e7 e8 e9 e10 e11 e12 e13; have Ec := Eb.call bc lEb; obtain ⟨e0, e1, e2, e3, e4, e5, e6, e7, e8, e9, e10, e11, e12, e13⟩ := cells14 Ec; clear Eb lEb zb bc))
          go_ret
          exact ⟨rfl, zc⟩
        · rw [f1] at k1
          subst f2
          rw [slok_m0 zro rfl] at k2
          simp only [zro, u0_zero] at cw c2 k1 k2
          go_upto_region 16 with (first
            | (with_reducible refine wpl_load agg_disk D 0 [.int .u64 ((d.1).m.toNat : Int), .int .u64 ((d.1).q.toNat : Int), .int .u64 ((d.1).z.toNat : Int), .int .u64 ((d.1).r.a.toNat : Int), .int .u64 ((d.1).r.b.toNat : Int), .int .u64 ((d.1).r.c.toNat : Int), .int .u64 ((d.1).r.d.toNat : Int), .int .u64 ((d.2).m.toNat : Int), .int .u64 ((d.2).q.toNat : Int), .int .u64 ((d.2).z.toNat : Int), .int .u64 ((d.2).r.a.toNat : Int), .int .u64 ((d.2).r.b.toNat : Int), .int .u64 ((d.2).r.c.toNat : Int), .int .u64 ((d.2).r.d.toNat : Int)] (by kernel_rfl) (by kernel_rfl) T7 ?_)
            | (go_at_call 11; refine (cw _ O7).mono ?_; rintro e w8 ⟨rfl, b8⟩; have z8 := below_after z7 b8 z7.size; clear T7 lD7 O7 X7 lX7 z7 b8 cw))
          have E9 : Lies w8.heap.size 0 [.int .u64 ((s).m.toNat : Int), .int .u64 ((s).q.toNat : Int), .int .u64 ((s).z.toNat : Int), .int .u64 ((s).r.a.toNat : Int), .int .u64 ((s).r.b.toNat : Int), .int .u64 ((s).r.c.toNat : Int), .int .u64 ((s).r.d.toNat : Int), .int .u64 0, .int .u64 0, .int .u64 0, .int .u64 0, .int .u64 0, .int .u64 0, .int .u64 0] (w8.alloc (.cells #[.int .u64 ((s).m.toNat : Int), .int .u64 ((s).q.toNat : Int), .int .u64 ((s).z.toNat : Int), .int .u64 ((s).r.a.toNat : Int), .int .u64 ((s).r.b.toNat : Int), .int .u64 ((s).r.c.toNat : Int), .int .u64 ((s).r.d.toNat : Int), .int .u64 0, .int .u64 0, .int .u64 0, .int .u64 0, .int .u64 0, .int .u64 0, .int .u64 0] 29)) := Lies.new w8 [.int .u64 ((s).m.toNat : Int), .int .u64 ((s).q.toNat : Int), .int .u64 ((s).z.toNat : Int), .int .u64 ((s).r.a.toNat : Int), .int .u64 ((s).r.b.toNat : Int), .int .u64 ((s).r.c.toNat : Int), .int .u64 ((s).r.d.toNat : Int), .int .u64 0, .int .u64 0, .int .u64 0, .int .u64 0, .int .u64 0, .int .u64 0, .int .u64 0] 29
          have lE9 : w8.heap.size < (w8.alloc (.cells #[.int .u64 ((s).m.toNat : Int), .int .u64 ((s).q.toNat : Int), .int .u64 ((s).z.toNat : Int), .int .u64 ((s).r.a.toNat : Int), .int .u64 ((s).r.b.toNat : Int), .int .u64 ((s).r.c.toNat : Int), .int .u64 ((s).r.d.toNat : Int), .int .u64 0, .int .u64 0, .int .u64 0, .int .u64 0, .int .u64 0, .int .u64 0, .int .u64 0] 29)).heap.size := by simp
          have z9 := z8.alloc z8.size (.cells #[.int .u64 ((s).m.toNat : Int), .int .u64 ((s).q.toNat : Int), .int .u64 ((s).z.toNat : Int), .int .u64 ((s).r.a.toNat : Int), .int .u64 ((s).r.b.toNat : Int), .int .u64 ((s).r.c.toNat : Int), .int .u64 ((s).r.d.toNat : Int), .int .u64 0, .int .u64 0, .int .u64 0, .int .u64 0, .int .u64 0, .int .u64 0, .int .u64 0] 29)
          clear z8
          generalize w8.alloc (.cells #[.int .u64 ((s).m.toNat : Int), .int .u64 ((s).q.toNat : Int), .int .u64 ((s).z.toNat : Int), .int .u64 ((s).r.a.toNat : Int), .int .u64 ((s).r.b.toNat : Int), .int .u64 ((s).r.c.toNat : Int), .int .u64 ((s).r.d.toNat : Int), .int .u64 0, .int .u64 0, .int .u64 0, .int .u64 0, .int .u64 0, .int .u64 0, .int .u64 0] 29) = w9 at E9 lE9 z9 ⊢
          generalize w8.heap.size = E at E9 lE9 ⊢
          go_wp2_with (first
            | (with_reducible refine wpl_load agg_disk E 0 [.int .u64 ((s).m.toNat : Int), .int .u64 ((s).q.toNat : Int), .int .u64 ((s).z.toNat : Int), .int .u64 ((s).r.a.toNat : Int), .int .u64 ((s).r.b.toNat : Int), .int .u64 ((s).r.c.toNat : Int), .int .u64 ((s).r.d.toNat : Int), .int .u64 0, .int .u64 0, .int .u64 0, .int .u64 0, .int .u64 0, .int .u64 0, .int .u64 0] (by kernel_rfl) (by kernel_rfl) E9 ?_)
            | (with_reducible refine wpl_build #[.int .u64 0, .int .u64 0, .int .u64 0, .int .u64 0, .int .u64 0, .int .u64 0, .int .u64 0] (by kernel_rfl) ?_)
            | (go_at_call 6; refine (c2 _).mono ?_; rintro e wa ⟨va, rfl, hoa, ba⟩; obtain ⟨aa, ca, rfl, hla⟩ := (owr_rws hoa).len; have Ea := E9.call ba lE9; have lEa := Nat.lt_of_lt_of_le lE9 ba.size; have za := below_after z9 ba z9.size; obtain ⟨e0, e1, e2, e3, e4, e5, e6, e7, e8, e9, e10, e11, e12, e13⟩ := cells14 Ea; clear E9 lE9 z9 hoa ba c2)
            | (go_at_call 12; refine (k1 _).mono ?_; rintro e wb ⟨rfl, bb⟩; have Eb := Ea.call bb lEa; have lEb := Nat.lt_of_lt_of_le lEa bb.size; have zb := below_after za bb za.size; clear e0 e1 e2 e3 e4 e5 e6 e7 e8 e9 e10 e11 e12 e13; obtain ⟨e0, e1, e2, e3, e4, e5, e6, e7, e8, e9, e10, e11, e12, e13⟩ := cells14 Eb; clear Ea lEa za bb)
            | (go_at_call 12; refine (k2 _).mono ?_; rintro e wc ⟨rfl, bc⟩; have zc := below_after zb bc zb.size; clear e0 e1 e2 e3 e4 e5 e6 e7 e8 e9 e10 e11 e12 e13; have Ec := Eb.call bc lEb; obtain ⟨e0, e1, e2, e3, e4, e5, e6, e7, e8, e9, e10, e11, e12, e13⟩ := cells14 Ec; clear Eb lEb zb bc))
          go_ret
          exact ⟨rfl, zc⟩
        · subst f1
          rw [slok_m0 zro rfl] at k1
          rw [f2] at k2
          simp only [zro, u0_zero] at cw c2 k1 k2
          go_upto_region 16 with (first
            | (with_reducible refine wpl_load agg_disk D 0 [.int .u64 ((d.1).m.toNat : Int), .int .u64 ((d.1).q.toNat : Int), .int .u64 ((d.1).z.toNat : Int), .int .u64 ((d.1).r.a.toNat : Int), .int .u64 ((d.1).r.b.toNat : Int), .int .u64 ((d.1).r.c.toNat : Int), .int .u64 ((d.1).r.d.toNat : Int), .int .u64 ((d.2).m.toNat : Int), .int .u64 ((d.2).q.toNat : Int), .int .u64 ((d.2).z.toNat : Int), .int .u64 ((d.2).r.a.toNat : Int), .int .u64 ((d.2).r.b.toNat : Int), .int .u64 ((d.2).r.c.toNat : Int), .int .u64 ((d.2).r.d.toNat : Int)] (by kernel_rfl) (by kernel_rfl) T7 ?_)
            | (go_at_call 11; refine (cw _ O7).mono ?_; rintro e w8 ⟨rfl, b8⟩; have z8 := below_after z7 b8 z7.size; clear T7 lD7 O7 X7 lX7 z7 b8 cw))
          have E9 : Lies w8.heap.size 0 [.int .u64 0, .int .u64 0, .int .u64 0, .int .u64 0, .int .u64 0, .int .u64 0, .int .u64 0, .int .u64 ((t).m.toNat : Int), .int .u64 ((t).q.toNat : Int), .int .u64 ((t).z.toNat : Int), .int .u64 ((t).r.a.toNat : Int), .int .u64 ((t).r.b.toNat : Int), .int .u64 ((t).r.c.toNat : Int), .int .u64 ((t).r.d.toNat : Int)] (w8.alloc (.cells #[.int .u64 0, .int .u64 0, .int .u64 0, .int .u64 0, .int .u64 0, .int .u64 0, .int .u64 0, .int .u64 ((t).m.toNat : Int), .int .u64 ((t).q.toNat : Int), .int .u64 ((t).z.toNat : Int), .int .u64 ((t).r.a.toNat : Int), .int .u64 ((t).r.b.toNat : Int), .int .u64 ((t).r.c.toNat : Int), .int .u64 ((t).r.d.toNat : Int)] 29)) := Lies.new w8 [.int .u64 0, .int .u64 0, .int .u64 0, .int .u64 0, .int .u64 0, .int .u64 0, .int .u64 0, .int .u64 ((t).m.toNat : Int), .int .u64 ((t).q.toNat : Int), .int .u64 ((t).z.toNat : Int), .int .u64 ((t).r.a.toNat : Int), .int .u64 ((t).r.b.toNat : Int), .int .u64 ((t).r.c.toNat : Int), .int .u64 ((t).r.d.toNat : Int)] 29
          have lE9 : w8.heap.size < (w8.alloc (.cells #[.int .u64 0, .int .u64 0, .int .u64 0, .int .u64 0, .int .u64 0, .int .u64 0, .int .u64 0, .int .u64 ((t).m.toNat : Int), .int .u64 ((t).q.toNat : Int), .int .u64 ((t).z.toNat : Int), .int .u64 ((t).r.a.toNat : Int), .int .u64 ((t).r.b.toNat : Int), .int .u64 ((t).r.c.toNat : Int), .int .u64 ((t).r.d.toNat : Int)] 29)).heap.size := by simp
          have z9 := z8.alloc z8.size (.cells #[.int .u64 0, .int .u64 0, .int .u64 0, .int .u64 0, .int .u64 0, .int .u64 0, .int .u64 0, .int .u64 ((t).m.toNat : Int), .int .u64 ((t).q.toNat : Int), .int .u64 ((t).z.toNat : Int), .int .u64 ((t).r.a.toNat : Int), .int .u64 ((t).r.b.toNat : Int), .int .u64 ((t).r.c.toNat : Int), .int .u64 ((t).r.d.toNat : Int)] 29)
          clear z8
          generalize w8.alloc (.cells #[.int .u64 0, .int .u64 0, .int .u64 0, .int .u64 0, .int .u64 0, .int .u64 0, .int .u64 0, .int .u64 ((t).m.toNat : Int), .int .u64 ((t).q.toNat : Int), .int .u64 ((t).z.toNat : Int), .int .u64 ((t).r.a.toNat : Int), .int .u64 ((t).r.b.toNat : Int), .int .u64 ((t).r.c.toNat : Int), .int .u64 ((t).r.d.toNat : Int)] 29) = w9 at E9 lE9 z9 ⊢
          generalize w8.heap.size = E at E9 lE9 ⊢
          go_wp2_with (first
            | (with_reducible refine wpl_load agg_disk E 0 [.int .u64 0, .int .u64 0, .int .u64 0, .int .u64 0, .int .u64 0, .int .u64 0, .int .u64 0, .int .u64 ((t).m.toNat : Int), .int .u64 ((t).q.toNat : Int), .int .u64 ((t).z.toNat : Int), .int .u64 ((t).r.a.toNat : Int), .int .u64 ((t).r.b.toNat : Int), .int .u64 ((t).r.c.toNat : Int), .int .u64 ((t).r.d.toNat : Int)] (by kernel_rfl) (by kernel_rfl) E9 ?_)
            | (with_reducible refine wpl_build #[.int .u64 0, .int .u64 0, .int .u64 0, .int .u64 0, .int .u64 0, .int .u64 0, .int .u64 0] (by kernel_rfl) ?_)
            | (go_at_call 6; refine (c2 _).mono ?_; rintro e wa ⟨va, rfl, hoa, ba⟩; obtain ⟨aa, ca, rfl, hla⟩ := (owr_rws hoa).len; have Ea := E9.call ba lE9; have lEa := Nat.lt_of_lt_of_le lE9 ba.size; have za := below_after z9 ba z9.size; obtain ⟨e0, e1, e2, e3, e4, e5, e6, e7, e8, e9, e10, e11, e12, e13⟩ := cells14 Ea; clear E9 lE9 z9 hoa ba c2)
            | (go_at_call 12; refine (k1 _).mono ?_; rintro e wb ⟨rfl, bb⟩; have Eb := Ea.call bb lEa; have lEb := Nat.lt_of_lt_of_le lEa bb.size; have zb := below_after za bb za.size; clear e0 e1 e2 e3 e4 e5 e6 e7 e8 e9 e10 e11 e12 e13; obtain ⟨e0, e1, e2, e3, e4, e5, e6, e7, e8, e9, e10, e11, e12, e13⟩ := cells14 Eb; clear Ea lEa za bb)
            | (go_at_call 12; refine (k2 _).mono ?_; rintro e wc ⟨rfl, bc⟩; have zc := below_after zb bc zb.size; clear e0 e1 e2 e3 e4 e5 e6 e7 e8 e9 e10 e11 e12 e13; have Ec := Eb.call bc lEb; obtain ⟨e0, e1, e2, e3, e4, e5, e6, e7, e8, e9, e10, e11, e12, e13⟩ := cells14 Ec; clear Eb lEb zb bc))
          go_ret
          exact ⟨rfl, zc⟩
        · subst f1
          rw [slok_m0 zro rfl] at k1
          subst f2
          rw [slok_m0 zro rfl] at k2
          simp only [zro, u0_zero] at cw c2 k1 k2
          go_upto_region 16 with (first
            | (with_reducible refine wpl_load agg_disk D 0 [.int .u64 ((d.1).m.toNat : Int), .int .u64 ((d.1).q.toNat : Int), .int .u64 ((d.1).z.toNat : Int), .int .u64 ((d.1).r.a.toNat : Int), .int .u64 ((d.1).r.b.toNat : Int), .int .u64 ((d.1).r.c.toNat : Int), .int .u64 ((d.1).r.d.toNat : Int), .int .u64 ((d.2).m.toNat : Int), .int .u64 ((d.2).q.toNat : Int), .int .u64 ((d.2).z.toNat : Int), .int .u64 ((d.2).r.a.toNat : Int), .int .u64 ((d.2).r.b.toNat : Int), .int .u64 ((d.2).r.c.toNat : Int), .int .u64 ((d.2).r.d.toNat : Int)] (by kernel_rfl) (by kernel_rfl) T7 ?_)
            | (go_at_call 11; refine (cw _ O7).mono ?_; rintro e w8 ⟨rfl, b8⟩; have z8 := below_after z7 b8 z7.size; clear T7 lD7 O7 X7 lX7 z7 b8 cw))
          have E9 : Lies w8.heap.size 0 [.int .u64 0, .int .u64 0, .int .u64 0, .int .u64 0, .int .u64 0, .int .u64 0, .int .u64 0, .int .u64 0, .int .u64 0, .int .u64 0, .int .u64 0, .int .u64 0, .int .u64 0, .int .u64 0] (w8.alloc (.cells #[.int .u64 0, .int .u64 0, .int .u64 0, .int .u64 0, .int .u64 0, .int .u64 0, .int .u64 0, .int .u64 0, .int .u64 0, .int .u64 0, .int .u64 0, .int .u64 0, .int .u64 0, .int .u64 0] 29)) := Lies.new w8 [.int .u64 0, .int .u64 0, .int .u64 0, .int .u64 0, .int .u64 0, .int .u64 0, .int .u64 0, .int .u64 0, .int .u64 0, .int .u64 0, .int .u64 0, .int .u64 0, .int .u64 0, .int .u64 0] 29
          have lE9 : w8.heap.size < (w8.alloc (.cells #[.int .u64 0, .int .u64 0, .int .u64 0, .int .u64 0, .int .u64 0, .int .u64 0, .int .u64 0, .int .u64 0, .int .u64 0, .int .u64 0, .int .u64 0, .int .u64 0, .int .u64 0, .int .u64 0] 29)).heap.size := by simp
          have z9 := z8.alloc z8.size (.cells #[.int .u64 0, .int .u64 0, .int .u64 0, .int .u64 0, .int .u64 0, .int .u64 0, .int .u64 0, .int .u64 0, .int .u64 0, .int .u64 0, .int .u64 0, .int .u64 0, .int .u64 0, .int .u64 0] 29)
          clear z8
          generalize w8.alloc (.cells #[.int .u64 0, .int .u64 0, .int .u64 0, .int .u64 0, .int .u64 0, .int .u64 0, .int .u64 0, .int .u64 0, .int .u64 0, .int .u64 0, .int .u64 0, .int .u64 0, .int .u64 0, .int .u64 0] 29) = w9 at E9 lE9 z9 ⊢
          generalize w8.heap.size = E at E9 lE9 ⊢
          go_wp2_with (first
            | (with_reducible refine wpl_load agg_disk E 0 [.int .u64 0, .int .u64 0, .int .u64 0, .int .u64 0, .int .u64 0, .int .u64 0, .int .u64 0, .int .u64 0, .int .u64 0, .int .u64 0, .int .u64 0, .int .u64 0, .int .u64 0, .int .u64 0] (by kernel_rfl) (by kernel_rfl) E9 ?_)
            | (with_reducible refine wpl_build #[.int .u64 0, .int .u64 0, .int .u64 0, .int .u64 0, .int .u64 0, .int .u64 0, .int .u64 0] (by kernel_rfl) ?_)
            | (go_at_call 6; refine (c2 _).mono ?_; rintro e wa ⟨va, rfl, hoa, ba⟩; obtain ⟨aa, ca, rfl, hla⟩ := (owr_rws hoa).len; have Ea := E9.call ba lE9; have lEa := Nat.lt_of_lt_of_le lE9 ba.size; have za := below_after z9 ba z9.size; obtain ⟨e0, e1, e2, e3, e4, e5, e6, e7, e8, e9, e10, e11, e12, e13⟩ := cells14 Ea; clear E9 lE9 z9 hoa ba c2)
            | (go_at_call 12; refine (k1 _).mono ?_; rintro e wb ⟨rfl, bb⟩; have Eb := Ea.call bb lEa; have lEb := Nat.lt_of_lt_of_le lEa bb.size; have zb := below_after za bb za.size; clear e0 e1 e2 e3 e4 e5 e6 e7 e8 e9 e10 e11 e12 e13; obtain ⟨e0, e1, e2, e3, e4, e5, e6, e7, e8, e9, e10, e11, e12, e13⟩ := cells14 Eb; clear Ea lEa za bb)
            | (go_at_call 12; refine (k2 _).mono ?_; rintro e wc ⟨rfl, bc⟩; have zc := below_after zb bc zb.size; clear e0 e1 e2 e3 e4 e5 e6 e7 e8 e9 e10 e11 e12 e13; have Ec := Eb.call bc lEb; obtain ⟨e0, e1, e2, e3, e4, e5, e6, e7, e8, e9, e10, e11, e12, e13⟩ := cells14 Ec; clear Eb lEb zb bc))
          go_ret
          exact ⟨rfl, zc⟩end Go.Proofs.Ytepgmdgcappfpaa
