/-
  The law of a witness that is ok.
-/
import Derived.Test.YteaaaojafipllaaDoorWi4
namespace Go.Proofs.YteaaaojafipllaaDoor
open Go.RowKit Go.MuLone

set_option maxRecDepth 20000 in
set_option maxHeartbeats 4000000 in
theorem lawWitnessOk (d : Sl × Sl) (v : Value) (L : List Wh) (w : World) (hT : Whs w v L) (hG : Gw w) :
    Calls Tryd.prog 3 #[.agg #[.int .u64 ((d.1).m.toNat : Int), .int .u64 ((d.1).q.toNat : Int), .int .u64 ((d.1).z.toNat : Int), .int .u64 ((d.1).r.a.toNat : Int), .int .u64 ((d.1).r.b.toNat : Int), .int .u64 ((d.1).r.c.toNat : Int), .int .u64 ((d.1).r.d.toNat : Int), .int .u64 ((d.2).m.toNat : Int), .int .u64 ((d.2).q.toNat : Int), .int .u64 ((d.2).z.toNat : Int), .int .u64 ((d.2).r.a.toNat : Int), .int .u64 ((d.2).r.b.toNat : Int), .int .u64 ((d.2).r.c.toNat : Int), .int .u64 ((d.2).r.d.toNat : Int), v]] w fun e w' => e = .returned (.bool true) ∧ Below w.heap.size w w' := by
  have HT : Hid (Whs w v L) := hT
  have HG : Hid (Gw w) := hG
  clear hT hG
  have TA0 : Lies w.heap.size 0 [.int .u64 ((d.1).m.toNat : Int), .int .u64 ((d.1).q.toNat : Int), .int .u64 ((d.1).z.toNat : Int), .int .u64 ((d.1).r.a.toNat : Int), .int .u64 ((d.1).r.b.toNat : Int), .int .u64 ((d.1).r.c.toNat : Int), .int .u64 ((d.1).r.d.toNat : Int), .int .u64 ((d.2).m.toNat : Int), .int .u64 ((d.2).q.toNat : Int), .int .u64 ((d.2).z.toNat : Int), .int .u64 ((d.2).r.a.toNat : Int), .int .u64 ((d.2).r.b.toNat : Int), .int .u64 ((d.2).r.c.toNat : Int), .int .u64 ((d.2).r.d.toNat : Int), v] (w.alloc (.cells #[.int .u64 ((d.1).m.toNat : Int), .int .u64 ((d.1).q.toNat : Int), .int .u64 ((d.1).z.toNat : Int), .int .u64 ((d.1).r.a.toNat : Int), .int .u64 ((d.1).r.b.toNat : Int), .int .u64 ((d.1).r.c.toNat : Int), .int .u64 ((d.1).r.d.toNat : Int), .int .u64 ((d.2).m.toNat : Int), .int .u64 ((d.2).q.toNat : Int), .int .u64 ((d.2).z.toNat : Int), .int .u64 ((d.2).r.a.toNat : Int), .int .u64 ((d.2).r.b.toNat : Int), .int .u64 ((d.2).r.c.toNat : Int), .int .u64 ((d.2).r.d.toNat : Int), v] 31)) := Lies.new w [.int .u64 ((d.1).m.toNat : Int), .int .u64 ((d.1).q.toNat : Int), .int .u64 ((d.1).z.toNat : Int), .int .u64 ((d.1).r.a.toNat : Int), .int .u64 ((d.1).r.b.toNat : Int), .int .u64 ((d.1).r.c.toNat : Int), .int .u64 ((d.1).r.d.toNat : Int), .int .u64 ((d.2).m.toNat : Int), .int .u64 ((d.2).q.toNat : Int), .int .u64 ((d.2).z.toNat : Int), .int .u64 ((d.2).r.a.toNat : Int), .int .u64 ((d.2).r.b.toNat : Int), .int .u64 ((d.2).r.c.toNat : Int), .int .u64 ((d.2).r.d.toNat : Int), v] 31
  have lA0 : w.heap.size < (w.alloc (.cells #[.int .u64 ((d.1).m.toNat : Int), .int .u64 ((d.1).q.toNat : Int), .int .u64 ((d.1).z.toNat : Int), .int .u64 ((d.1).r.a.toNat : Int), .int .u64 ((d.1).r.b.toNat : Int), .int .u64 ((d.1).r.c.toNat : Int), .int .u64 ((d.1).r.d.toNat : Int), .int .u64 ((d.2).m.toNat : Int), .int .u64 ((d.2).q.toNat : Int), .int .u64 ((d.2).z.toNat : Int), .int .u64 ((d.2).r.a.toNat : Int), .int .u64 ((d.2).r.b.toNat : Int), .int .u64 ((d.2).r.c.toNat : Int), .int .u64 ((d.2).r.d.toNat : Int), v] 31)).heap.size := by simp
  have z0 : Below w.heap.size w (w.alloc (.cells #[.int .u64 ((d.1).m.toNat : Int), .int .u64 ((d.1).q.toNat : Int), .int .u64 ((d.1).z.toNat : Int), .int .u64 ((d.1).r.a.toNat : Int), .int .u64 ((d.1).r.b.toNat : Int), .int .u64 ((d.1).r.c.toNat : Int), .int .u64 ((d.1).r.d.toNat : Int), .int .u64 ((d.2).m.toNat : Int), .int .u64 ((d.2).q.toNat : Int), .int .u64 ((d.2).z.toNat : Int), .int .u64 ((d.2).r.a.toNat : Int), .int .u64 ((d.2).r.b.toNat : Int), .int .u64 ((d.2).r.c.toNat : Int), .int .u64 ((d.2).r.d.toNat : Int), v] 31)) := (Below.refl _ _).alloc (Nat.le_refl _) _
  go_enter Tryd.func3, Tryd.ntmps3
  go_upto_region 1 with fail
  generalize w.alloc (.cells #[.int .u64 ((d.1).m.toNat : Int), .int .u64 ((d.1).q.toNat : Int), .int .u64 ((d.1).z.toNat : Int), .int .u64 ((d.1).r.a.toNat : Int), .int .u64 ((d.1).r.b.toNat : Int), .int .u64 ((d.1).r.c.toNat : Int), .int .u64 ((d.1).r.d.toNat : Int), .int .u64 ((d.2).m.toNat : Int), .int .u64 ((d.2).q.toNat : Int), .int .u64 ((d.2).z.toNat : Int), .int .u64 ((d.2).r.a.toNat : Int), .int .u64 ((d.2).r.b.toNat : Int), .int .u64 ((d.2).r.c.toNat : Int), .int .u64 ((d.2).r.d.toNat : Int), v] 31) = w0 at TA0 lA0 z0 ⊢
  obtain ⟨A, hA⟩ : ∃ A, A = w.heap.size := ⟨_, rfl⟩
  rw [← hA] at TA0 lA0 ⊢
  clear hA
  have cs := szwt_is w0 d v L (HT.out.call z0)
  go_upto_region 3 with (first
    | (with_reducible refine wpl_load agg_wtl A 0 [.int .u64 ((d.1).m.toNat : Int), .int .u64 ((d.1).q.toNat : Int), .int .u64 ((d.1).z.toNat : Int), .int .u64 ((d.1).r.a.toNat : Int), .int .u64 ((d.1).r.b.toNat : Int), .int .u64 ((d.1).r.c.toNat : Int), .int .u64 ((d.1).r.d.toNat : Int), .int .u64 ((d.2).m.toNat : Int), .int .u64 ((d.2).q.toNat : Int), .int .u64 ((d.2).z.toNat : Int), .int .u64 ((d.2).r.a.toNat : Int), .int .u64 ((d.2).r.b.toNat : Int), .int .u64 ((d.2).r.c.toNat : Int), .int .u64 ((d.2).r.d.toNat : Int), v] (by kernel_rfl) (by kernel_rfl) TA0 ?_)
    | (go_at_call 4; refine cs.mono ?_; rintro e w1 ⟨r, rfl, b1, hr⟩; have TA1 := TA0.call b1 lA0; have lA1 := Nat.lt_of_lt_of_le lA0 b1.size; have z1 := below_after z0 b1 z0.size; clear TA0 lA0 z0 b1 cs))
  by_cases hneg : r < 0
  · go_wp2_with fail
    go_ret
    exact ⟨rfl, z1⟩
  · have hlen := hr (by omega)
    clear hr
    have ct := fun (V : World) (h : Whs V v L) => towt_is V d v L h hlen
    go_upto_region 6 with (first
      | (with_reducible refine wpl_load agg_wtl A 0 [.int .u64 ((d.1).m.toNat : Int), .int .u64 ((d.1).q.toNat : Int), .int .u64 ((d.1).z.toNat : Int), .int .u64 ((d.1).r.a.toNat : Int), .int .u64 ((d.1).r.b.toNat : Int), .int .u64 ((d.1).r.c.toNat : Int), .int .u64 ((d.1).r.d.toNat : Int), .int .u64 ((d.2).m.toNat : Int), .int .u64 ((d.2).q.toNat : Int), .int .u64 ((d.2).z.toNat : Int), .int .u64 ((d.2).r.a.toNat : Int), .int .u64 ((d.2).r.b.toNat : Int), .int .u64 ((d.2).r.c.toNat : Int), .int .u64 ((d.2).r.d.toNat : Int), v] (by kernel_rfl) (by kernel_rfl) TA1 ?_)
      | (go_at_call 6; refine (ct _ (HT.out.call z1)).mono ?_; rintro e w2 ⟨g1, rfl, b2, I2⟩; have TA2 := TA1.call b2 lA1; have lA2 := Nat.lt_of_lt_of_le lA1 b2.size; have z2 := below_after z1 b2 z1.size; clear TA1 lA1 z1 b2)
      | (go_at_call 5; refine (wok_spec _ d g1 L I2 hlen).mono ?_; rintro e w3 ⟨r1, rfl, b3, hr1⟩; have TA3 := TA2.call b3 lA2; have lA3 := Nat.lt_of_lt_of_le lA2 b3.size; have z3 := below_after z2 b3 z2.size; clear TA2 lA2 z2 I2 b3))
    go_upto_region 7 with (first
      | (with_reducible refine wpl_load agg_wtl A 0 [.int .u64 ((d.1).m.toNat : Int), .int .u64 ((d.1).q.toNat : Int), .int .u64 ((d.1).z.toNat : Int), .int .u64 ((d.1).r.a.toNat : Int), .int .u64 ((d.1).r.b.toNat : Int), .int .u64 ((d.1).r.c.toNat : Int), .int .u64 ((d.1).r.d.toNat : Int), .int .u64 ((d.2).m.toNat : Int), .int .u64 ((d.2).q.toNat : Int), .int .u64 ((d.2).z.toNat : Int), .int .u64 ((d.2).r.a.toNat : Int), .int .u64 ((d.2).r.b.toNat : Int), .int .u64 ((d.2).r.c.toNat : Int), .int .u64 ((d.2).r.d.toNat : Int), v] (by kernel_rfl) (by kernel_rfl) TA3 ?_)
      | (go_at_call 6; refine (ct _ (HT.out.call z3)).mono ?_; rintro e w4 ⟨g2, rfl, b4, J4⟩; have TA4 := TA3.call b4 lA3; have lA4 := Nat.lt_of_lt_of_le lA3 b4.size; have z4 := below_after z3 b4 z3.size; clear TA3 lA3 z3 b4))
    have ba := (Below.refl w4.heap.size w4).alloc (Nat.le_refl _) (.cells #[.int .u64 ((d.1).m.toNat : Int), .int .u64 ((d.1).q.toNat : Int), .int .u64 ((d.1).z.toNat : Int), .int .u64 ((d.1).r.a.toNat : Int), .int .u64 ((d.1).r.b.toNat : Int), .int .u64 ((d.1).r.c.toNat : Int), .int .u64 ((d.1).r.d.toNat : Int), .int .u64 ((d.2).m.toNat : Int), .int .u64 ((d.2).q.toNat : Int), .int .u64 ((d.2).z.toNat : Int), .int .u64 ((d.2).r.a.toNat : Int), .int .u64 ((d.2).r.b.toNat : Int), .int .u64 ((d.2).r.c.toNat : Int), .int .u64 ((d.2).r.d.toNat : Int), (.slice (some ⟨g2, 0, none⟩) L.length L.length)] 41)
    have TA5 := TA4.call ba lA4
    have lA5 := Nat.lt_of_lt_of_le lA4 ba.size
    have J5 := J4.call ba
    have z5 := z4.alloc z4.size (.cells #[.int .u64 ((d.1).m.toNat : Int), .int .u64 ((d.1).q.toNat : Int), .int .u64 ((d.1).z.toNat : Int), .int .u64 ((d.1).r.a.toNat : Int), .int .u64 ((d.1).r.b.toNat : Int), .int .u64 ((d.1).r.c.toNat : Int), .int .u64 ((d.1).r.d.toNat : Int), .int .u64 ((d.2).m.toNat : Int), .int .u64 ((d.2).q.toNat : Int), .int .u64 ((d.2).z.toNat : Int), .int .u64 ((d.2).r.a.toNat : Int), .int .u64 ((d.2).r.b.toNat : Int), .int .u64 ((d.2).r.c.toNat : Int), .int .u64 ((d.2).r.d.toNat : Int), (.slice (some ⟨g2, 0, none⟩) L.length L.length)] 41)
    have TN5 : Lies w4.heap.size 0 [.int .u64 ((d.1).m.toNat : Int), .int .u64 ((d.1).q.toNat : Int), .int .u64 ((d.1).z.toNat : Int), .int .u64 ((d.1).r.a.toNat : Int), .int .u64 ((d.1).r.b.toNat : Int), .int .u64 ((d.1).r.c.toNat : Int), .int .u64 ((d.1).r.d.toNat : Int), .int .u64 ((d.2).m.toNat : Int), .int .u64 ((d.2).q.toNat : Int), .int .u64 ((d.2).z.toNat : Int), .int .u64 ((d.2).r.a.toNat : Int), .int .u64 ((d.2).r.b.toNat : Int), .int .u64 ((d.2).r.c.toNat : Int), .int .u64 ((d.2).r.d.toNat : Int), (.slice (some ⟨g2, 0, none⟩) L.length L.length)] (w4.alloc (.cells #[.int .u64 ((d.1).m.toNat : Int), .int .u64 ((d.1).q.toNat : Int), .int .u64 ((d.1).z.toNat : Int), .int .u64 ((d.1).r.a.toNat : Int), .int .u64 ((d.1).r.b.toNat : Int), .int .u64 ((d.1).r.c.toNat : Int), .int .u64 ((d.1).r.d.toNat : Int), .int .u64 ((d.2).m.toNat : Int), .int .u64 ((d.2).q.toNat : Int), .int .u64 ((d.2).z.toNat : Int), .int .u64 ((d.2).r.a.toNat : Int), .int .u64 ((d.2).r.b.toNat : Int), .int .u64 ((d.2).r.c.toNat : Int), .int .u64 ((d.2).r.d.toNat : Int), (.slice (some ⟨g2, 0, none⟩) L.length L.length)] 41)) := Lies.new w4 [.int .u64 ((d.1).m.toNat : Int), .int .u64 ((d.1).q.toNat : Int), .int .u64 ((d.1).z.toNat : Int), .int .u64 ((d.1).r.a.toNat : Int), .int .u64 ((d.1).r.b.toNat : Int), .int .u64 ((d.1).r.c.toNat : Int), .int .u64 ((d.1).r.d.toNat : Int), .int .u64 ((d.2).m.toNat : Int), .int .u64 ((d.2).q.toNat : Int), .int .u64 ((d.2).z.toNat : Int), .int .u64 ((d.2).r.a.toNat : Int), .int .u64 ((d.2).r.b.toNat : Int), .int .u64 ((d.2).r.c.toNat : Int), .int .u64 ((d.2).r.d.toNat : Int), (.slice (some ⟨g2, 0, none⟩) L.length L.length)] 41
    have lN5 : w4.heap.size < (w4.alloc (.cells #[.int .u64 ((d.1).m.toNat : Int), .int .u64 ((d.1).q.toNat : Int), .int .u64 ((d.1).z.toNat : Int), .int .u64 ((d.1).r.a.toNat : Int), .int .u64 ((d.1).r.b.toNat : Int), .int .u64 ((d.1).r.c.toNat : Int), .int .u64 ((d.1).r.d.toNat : Int), .int .u64 ((d.2).m.toNat : Int), .int .u64 ((d.2).q.toNat : Int), .int .u64 ((d.2).z.toNat : Int), .int .u64 ((d.2).r.a.toNat : Int), .int .u64 ((d.2).r.b.toNat : Int), .int .u64 ((d.2).r.c.toNat : Int), .int .u64 ((d.2).r.d.toNat : Int), (.slice (some ⟨g2, 0, none⟩) L.length L.length)] 41)).heap.size := by simp
    clear ba TA4 lA4 J4 z4
    generalize w4.alloc (.cells #[.int .u64 ((d.1).m.toNat : Int), .int .u64 ((d.1).q.toNat : Int), .int .u64 ((d.1).z.toNat : Int), .int .u64 ((d.1).r.a.toNat : Int), .int .u64 ((d.1).r.b.toNat : Int), .int .u64 ((d.1).r.c.toNat : Int), .int .u64 ((d.1).r.d.toNat : Int), .int .u64 ((d.2).m.toNat : Int), .int .u64 ((d.2).q.toNat : Int), .int .u64 ((d.2).z.toNat : Int), .int .u64 ((d.2).r.a.toNat : Int), .int .u64 ((d.2).r.b.toNat : Int), .int .u64 ((d.2).r.c.toNat : Int), .int .u64 ((d.2).r.d.toNat : Int), (.slice (some ⟨g2, 0, none⟩) L.length L.length)] 41) = w5 at TA5 lA5 J5 z5 TN5 lN5 ⊢
    generalize w4.heap.size = N at TN5 lN5 ⊢
    go_upto_region 8 with (first
      | (with_reducible refine wpl_load agg_wti N 0 [.int .u64 ((d.1).m.toNat : Int), .int .u64 ((d.1).q.toNat : Int), .int .u64 ((d.1).z.toNat : Int), .int .u64 ((d.1).r.a.toNat : Int), .int .u64 ((d.1).r.b.toNat : Int), .int .u64 ((d.1).r.c.toNat : Int), .int .u64 ((d.1).r.d.toNat : Int), .int .u64 ((d.2).m.toNat : Int), .int .u64 ((d.2).q.toNat : Int), .int .u64 ((d.2).z.toNat : Int), .int .u64 ((d.2).r.a.toNat : Int), .int .u64 ((d.2).r.b.toNat : Int), .int .u64 ((d.2).r.c.toNat : Int), .int .u64 ((d.2).r.d.toNat : Int), (.slice (some ⟨g2, 0, none⟩) L.length L.length)] (by kernel_rfl) (by kernel_rfl) TN5 ?_)
      | (go_at_call 7; refine (wok_impl _ d g2 L J5 hlen (HG.out.call z5)).mono ?_; rintro e w6 ⟨r2, rfl, b6, hr2⟩; have TA6 := TA5.call b6 lA5; have lA6 := Nat.lt_of_lt_of_le lA5 b6.size; have TN6 := TN5.call b6 lN5; have lN6 := Nat.lt_of_lt_of_le lN5 b6.size; have J6 := J5.call b6; have z6 := below_after z5 b6 z5.size; clear TA5 lA5 TN5 lN5 J5 z5 b6))
    have hgg : r2 = r1 := by
      cases r1 <;> cases r2 <;> simp_all
    subst hgg
    clear hr1 hr2
    have hne : (r2 != r2) = false := by cases r2 <;> rfl
    go_upto_region 10 with fail
    have bd := (Below.refl w6.heap.size w6).drew
    have TA7 := TA6.call bd lA6
    have lA7 := Nat.lt_of_lt_of_le lA6 bd.size
    have TN7 := TN6.call bd lN6
    have lN7 := Nat.lt_of_lt_of_le lN6 bd.size
    have J7 := J6.call bd
    have z7 := below_after z6 bd z6.size
    clear TA6 lA6 TN6 lN6 J6 z6 bd
    refine wp_region_held_drew (S := fun w' => Lies A 0 [.int .u64 ((d.1).m.toNat : Int), .int .u64 ((d.1).q.toNat : Int), .int .u64 ((d.1).z.toNat : Int), .int .u64 ((d.1).r.a.toNat : Int), .int .u64 ((d.1).r.b.toNat : Int), .int .u64 ((d.1).r.c.toNat : Int), .int .u64 ((d.1).r.d.toNat : Int), .int .u64 ((d.2).m.toNat : Int), .int .u64 ((d.2).q.toNat : Int), .int .u64 ((d.2).z.toNat : Int), .int .u64 ((d.2).r.a.toNat : Int), .int .u64 ((d.2).r.b.toNat : Int), .int .u64 ((d.2).r.c.toNat : Int), .int .u64 ((d.2).r.d.toNat : Int), v] w' ∧ Lies N 0 [.int .u64 ((d.1).m.toNat : Int), .int .u64 ((d.1).q.toNat : Int), .int .u64 ((d.1).z.toNat : Int), .int .u64 ((d.1).r.a.toNat : Int), .int .u64 ((d.1).r.b.toNat : Int), .int .u64 ((d.1).r.c.toNat : Int), .int .u64 ((d.1).r.d.toNat : Int), .int .u64 ((d.2).m.toNat : Int), .int .u64 ((d.2).q.toNat : Int), .int .u64 ((d.2).z.toNat : Int), .int .u64 ((d.2).r.a.toNat : Int), .int .u64 ((d.2).r.b.toNat : Int), .int .u64 ((d.2).r.c.toNat : Int), .int .u64 ((d.2).r.d.toNat : Int), (.slice (some ⟨g2, 0, none⟩) L.length L.length)] w') (by kernel_rfl) ⟨TA7, TN7⟩ (fun hHeld => ?_)
    refine wpAnyH_take (i := 0) (oi := { dst := some 22, op := Op.load 41 (Operand.tmp 5), type := 41, pos := "exact.go:4890", after := #[], guard := none }) (v := .agg #[.int .u64 ((d.1).m.toNat : Int), .int .u64 ((d.1).q.toNat : Int), .int .u64 ((d.1).z.toNat : Int), .int .u64 ((d.1).r.a.toNat : Int), .int .u64 ((d.1).r.b.toNat : Int), .int .u64 ((d.1).r.c.toNat : Int), .int .u64 ((d.1).r.d.toNat : Int), .int .u64 ((d.2).m.toNat : Int), .int .u64 ((d.2).q.toNat : Int), .int .u64 ((d.2).z.toNat : Int), .int .u64 ((d.2).r.a.toNat : Int), .int .u64 ((d.2).r.b.toNat : Int), .int .u64 ((d.2).r.c.toNat : Int), .int .u64 ((d.2).r.d.toNat : Int), (.slice (some ⟨g2, 0, none⟩) L.length L.length)]) rfl (by kernel_rfl) (by kernel_rfl) (by kernel_rfl) (fun _ _ _ h => h) (Or.inl ⟨by rfl, ?_⟩) (by assumption) ?_
    · (intro wq hq; exact run_load_wi agg_wti N 0 [.int .u64 ((d.1).m.toNat : Int), .int .u64 ((d.1).q.toNat : Int), .int .u64 ((d.1).z.toNat : Int), .int .u64 ((d.1).r.a.toNat : Int), .int .u64 ((d.1).r.b.toNat : Int), .int .u64 ((d.1).r.c.toNat : Int), .int .u64 ((d.1).r.d.toNat : Int), .int .u64 ((d.2).m.toNat : Int), .int .u64 ((d.2).q.toNat : Int), .int .u64 ((d.2).z.toNat : Int), .int .u64 ((d.2).r.a.toNat : Int), .int .u64 ((d.2).r.b.toNat : Int), .int .u64 ((d.2).r.c.toNat : Int), .int .u64 ((d.2).r.d.toNat : Int), (.slice (some ⟨g2, 0, none⟩) L.length L.length)] (by kernel_rfl) (by kernel_rfl) hq.2)
    try simp only [Act.put, List.setIfInBounds_toArray, List.set_cons_zero, List.set_cons_succ]
    refine wpAnyH_take (i := 1) (oi := { dst := some 23, op := Op.load 31 (Operand.tmp 1), type := 31, pos := "exact.go:4890", after := #[], guard := none }) (v := .agg #[.int .u64 ((d.1).m.toNat : Int), .int .u64 ((d.1).q.toNat : Int), .int .u64 ((d.1).z.toNat : Int), .int .u64 ((d.1).r.a.toNat : Int), .int .u64 ((d.1).r.b.toNat : Int), .int .u64 ((d.1).r.c.toNat : Int), .int .u64 ((d.1).r.d.toNat : Int), .int .u64 ((d.2).m.toNat : Int), .int .u64 ((d.2).q.toNat : Int), .int .u64 ((d.2).z.toNat : Int), .int .u64 ((d.2).r.a.toNat : Int), .int .u64 ((d.2).r.b.toNat : Int), .int .u64 ((d.2).r.c.toNat : Int), .int .u64 ((d.2).r.d.toNat : Int), v]) rfl (by kernel_rfl) (by kernel_rfl) (by kernel_rfl) (fun _ _ _ h => h) (Or.inl ⟨by rfl, ?_⟩) (by assumption) ?_
    · (intro wq hq; exact run_load_wi agg_wtl A 0 [.int .u64 ((d.1).m.toNat : Int), .int .u64 ((d.1).q.toNat : Int), .int .u64 ((d.1).z.toNat : Int), .int .u64 ((d.1).r.a.toNat : Int), .int .u64 ((d.1).r.b.toNat : Int), .int .u64 ((d.1).r.c.toNat : Int), .int .u64 ((d.1).r.d.toNat : Int), .int .u64 ((d.2).m.toNat : Int), .int .u64 ((d.2).q.toNat : Int), .int .u64 ((d.2).z.toNat : Int), .int .u64 ((d.2).r.a.toNat : Int), .int .u64 ((d.2).r.b.toNat : Int), .int .u64 ((d.2).r.c.toNat : Int), .int .u64 ((d.2).r.d.toNat : Int), v] (by kernel_rfl) (by kernel_rfl) hq.1)
    try simp only [Act.put, List.setIfInBounds_toArray, List.set_cons_zero, List.set_cons_succ]
    refine wpAnyH_ready (rs := [2]) (by kernel_rfl) (by simp) ?_
    refine AllReadyH.cons (o := { dst := some 24, op := Op.call { callee := Callee.value (Operand.func 6), args := #[Operand.tmp 23], argTypes := #[31] }, type := 41, pos := "exact.go:4890", after := #[{ on := 1, ground := Ground.data }], guard := none }) rfl (fun K hK => ?_) AllReadyH.nil
    go_simp
    go_at_call 6
    refine (ct _ (HT.out.call z7)).mono ?_
    rintro e w8 ⟨g3, rfl, b8, I8⟩
    have TA8 := TA7.call b8 lA7
    have TN8 := TN7.call b8 lN7
    have J8 := J7.call b8
    have z8 := below_after z7 b8 z7.size
    have hle8 := b8.size
    clear TA7 TN7 J7 b8
    go_simp
    refine hK.out _ _ ⟨TA8, TN8⟩ (fun hHeld => ?_)
    clear hK K
    refine wpAnyH_ready (rs := [3]) (by kernel_rfl) (by simp) ?_
    refine AllReadyH.cons (o := { dst := some 25, op := Op.call { callee := Callee.value (Operand.func 8), args := #[Operand.tmp 22, Operand.tmp 24], argTypes := #[41, 41] }, type := 4, pos := "exact.go:4890", after := #[{ on := 0, ground := Ground.data }, { on := 2, ground := Ground.data }, { on := 2, ground := Ground.chain }], guard := none }) rfl (fun K hK => ?_) AllReadyH.nil
    go_simp
    go_at_call 8
    refine (eqwt_is _ d g2 g3 L J8 I8 hlen).mono ?_
    rintro e w9 ⟨rfl, b9⟩
    have TA9 := TA8.call b9 (Nat.lt_of_lt_of_le lA7 hle8)
    have TN9 := TN8.call b9 (Nat.lt_of_lt_of_le lN7 hle8)
    have z9 := below_after z8 b9 z8.size
    go_simp
    refine hK.out _ _ ⟨TA9, TN9⟩ (fun hHeld => ?_)
    clear hK K
    refine wpAnyH_take (i := 4) (oi := { dst := some 26, op := Op.unOp UnOp.not 4 (Operand.tmp 25), type := 4, pos := "exact.go:4890", after := #[{ on := 3, ground := Ground.data }], guard := none }) (v := .bool false) rfl (by kernel_rfl) (by kernel_rfl) (by kernel_rfl) (fun _ _ _ h => h) (Or.inl ⟨by rfl, ?_⟩) (by assumption) ?_
    · (intro wq hq; first | (go_simp; done) | (go_simp; rfl))
    try simp only [Act.put, List.setIfInBounds_toArray, List.set_cons_zero, List.set_cons_succ]
    refine wpAnyH_done (by kernel_rfl) ?_ _
    clear hHeld
    go_wp2_with fail
    go_ret
    exact ⟨rfl, z9⟩
end Go.Proofs.YteaaaojafipllaaDoor
