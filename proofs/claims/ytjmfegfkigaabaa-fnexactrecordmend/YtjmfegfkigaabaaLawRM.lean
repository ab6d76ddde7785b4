/-
  The law of RecordMend, walked.
-/
import Derived.Test.YtjmfegfkigaabaaRMark2
namespace Go.Proofs.Ytjmfegfkigaabaa
open Go.RowKit Go.MuLone

set_option maxRecDepth 20000 in
set_option maxHeartbeats 4000000 in
theorem lawRecordMend (s t : Sl) (w : World) :
    Calls Try.prog 4 #[.agg #[.int .u64 ((s).m.toNat : Int), .int .u64 ((s).q.toNat : Int), .int .u64 ((s).z.toNat : Int), .int .u64 ((s).r.a.toNat : Int), .int .u64 ((s).r.b.toNat : Int), .int .u64 ((s).r.c.toNat : Int), .int .u64 ((s).r.d.toNat : Int), .int .u64 ((t).m.toNat : Int), .int .u64 ((t).q.toNat : Int), .int .u64 ((t).z.toNat : Int), .int .u64 ((t).r.a.toNat : Int), .int .u64 ((t).r.b.toNat : Int), .int .u64 ((t).r.c.toNat : Int), .int .u64 ((t).r.d.toNat : Int)]] w fun e w' => e = .returned (.bool true) ∧ Below w.heap.size w w' := by
  have ct := fun W : World => todk_is s t W
  have c1 := fun V : World => rmend_spec s t V
  have c2 := fun V : World => rmend_impl s t V
  have hn : (rmend s t).length ≤ 1000 := by
    have h1 := lclear_len 1 s
    have h2 := lclear_len 2 t
    unfold rmend
    rw [List.length_append]
    omega
  generalize rmend s t = L at c1 c2 hn
  have z0 : Below w.heap.size w (w.alloc (.cells #[.int .u64 ((s).m.toNat : Int), .int .u64 ((s).q.toNat : Int), .int .u64 ((s).z.toNat : Int), .int .u64 ((s).r.a.toNat : Int), .int .u64 ((s).r.b.toNat : Int), .int .u64 ((s).r.c.toNat : Int), .int .u64 ((s).r.d.toNat : Int), .int .u64 ((t).m.toNat : Int), .int .u64 ((t).q.toNat : Int), .int .u64 ((t).z.toNat : Int), .int .u64 ((t).r.a.toNat : Int), .int .u64 ((t).r.b.toNat : Int), .int .u64 ((t).r.c.toNat : Int), .int .u64 ((t).r.d.toNat : Int)] 28)) := (Below.refl _ _).alloc (Nat.le_refl _) _
  have A0 : Lies w.heap.size 0 [.int .u64 ((s).m.toNat : Int), .int .u64 ((s).q.toNat : Int), .int .u64 ((s).z.toNat : Int), .int .u64 ((s).r.a.toNat : Int), .int .u64 ((s).r.b.toNat : Int), .int .u64 ((s).r.c.toNat : Int), .int .u64 ((s).r.d.toNat : Int), .int .u64 ((t).m.toNat : Int), .int .u64 ((t).q.toNat : Int), .int .u64 ((t).z.toNat : Int), .int .u64 ((t).r.a.toNat : Int), .int .u64 ((t).r.b.toNat : Int), .int .u64 ((t).r.c.toNat : Int), .int .u64 ((t).r.d.toNat : Int)] (w.alloc (.cells #[.int .u64 ((s).m.toNat : Int), .int .u64 ((s).q.toNat : Int), .int .u64 ((s).z.toNat : Int), .int .u64 ((s).r.a.toNat : Int), .int .u64 ((s).r.b.toNat : Int), .int .u64 ((s).r.c.toNat : Int), .int .u64 ((s).r.d.toNat : Int), .int .u64 ((t).m.toNat : Int), .int .u64 ((t).q.toNat : Int), .int .u64 ((t).z.toNat : Int), .int .u64 ((t).r.a.toNat : Int), .int .u64 ((t).r.b.toNat : Int), .int .u64 ((t).r.c.toNat : Int), .int .u64 ((t).r.d.toNat : Int)] 28)) := Lies.new w [.int .u64 ((s).m.toNat : Int), .int .u64 ((s).q.toNat : Int), .int .u64 ((s).z.toNat : Int), .int .u64 ((s).r.a.toNat : Int), .int .u64 ((s).r.b.toNat : Int), .int .u64 ((s).r.c.toNat : Int), .int .u64 ((s).r.d.toNat : Int), .int .u64 ((t).m.toNat : Int), .int .u64 ((t).q.toNat : Int), .int .u64 ((t).z.toNat : Int), .int .u64 ((t).r.a.toNat : Int), .int .u64 ((t).r.b.toNat : Int), .int .u64 ((t).r.c.toNat : Int), .int .u64 ((t).r.d.toNat : Int)] 28
  have l0 : w.heap.size < (w.alloc (.cells #[.int .u64 ((s).m.toNat : Int), .int .u64 ((s).q.toNat : Int), .int .u64 ((s).z.toNat : Int), .int .u64 ((s).r.a.toNat : Int), .int .u64 ((s).r.b.toNat : Int), .int .u64 ((s).r.c.toNat : Int), .int .u64 ((s).r.d.toNat : Int), .int .u64 ((t).m.toNat : Int), .int .u64 ((t).q.toNat : Int), .int .u64 ((t).z.toNat : Int), .int .u64 ((t).r.a.toNat : Int), .int .u64 ((t).r.b.toNat : Int), .int .u64 ((t).r.c.toNat : Int), .int .u64 ((t).r.d.toNat : Int)] 28)).heap.size := by simp
  go_enter Try.func4, Try.ntmps4
  go_wp2_with (first
    | (have hh := z9; go_at_call 13; refine (held_own _ v4 L.length M9 hn).mono ?_; rintro e w10 ⟨rfl, hw10⟩; subst hw10)
    | (have hh := ho8; go_at_call 11; refine (eqraws_is _ _ _ L (owr_rws ho8) (owr_rws ho28)).mono ?_; rintro e w9 ⟨rfl, hb9⟩; have z9 := below_after z8 hb9 z8.size; have M9 := M8.call hb9)
    | (have hh := z7; go_at_call 15; refine (c2 _).mono ?_; rintro e w8 ⟨v8, rfl, ho8, hb8⟩; have z8 := below_after z7 hb8 z7.size; have M8 := M7.call hb8; have ho28 := own_callR ho27 hb8)
    | (have hh := M6; go_at_call 8; refine (ct _).mono ?_; rintro e w7 ⟨rfl, hb7⟩; have z7 := below_after z6 hb7 z6.size; have M7 := M6.call hb7; have ho27 := own_callR ho26 hb7)
    | (have hh := M6; go_at_call 13; refine (held_own _ v4 L.length M6 hn).mono ?_; rintro e w6h ⟨rfl, hw6⟩; subst hw6)
    | (go_at_call 12; refine (mark_own _ _ v4 L ho45 hn).mono ?_; rintro e w6 ⟨rfl, hg6, M6⟩; have z6 := z5.grown hg6 z5.size (fun k hk => Nat.le_trans z3.size (ho45.lt k hk).1); have ho26 := own_grownR (r := w2.heap.size) ho25 hg6 hlt2 (fun k hk => Nat.le_trans hb3.size (ho45.lt k hk).1); have A6 := A5.grown hg6 (Nat.lt_of_lt_of_le l0 l05) (fun e => by have h1 := (ho45.lt _ e).1; have h2 := z3.size; have h3 := Nat.lt_of_lt_of_le l0 l03; omega))
    | (have hh := ho4; go_at_call 11; refine (eqraws_is _ _ _ L (owr_rws ho4) (owr_rws ho24)).mono ?_; rintro e w5 ⟨rfl, hb5⟩; have z5 := below_after z4 hb5 z4.size; have ho45 := own_callR ho4 hb5; have ho25 := own_callR ho24 hb5; have A5 := A4.call hb5 (Nat.lt_of_lt_of_le l0 l04); have l05 := Nat.le_trans l04 hb5.size)
    | (go_at_call 15; refine (c2 _).mono ?_; rintro e w4 ⟨v4, rfl, ho4, hb4⟩; have z4 := below_after z3 hb4 z3.size; have ho24 := own_callR ho23 hb4; have A4 := A3.call hb4 (Nat.lt_of_lt_of_le l0 l03); have l04 := Nat.le_trans l03 hb4.size)
    | (have hh := ho2; go_at_call 8; refine (ct _).mono ?_; rintro e w3 ⟨rfl, hb3⟩; have z3 := below_after z2 hb3 z2.size; have ho23 := own_callR ho2 hb3; have A3 := A2.call hb3 (Nat.lt_of_lt_of_le l0 l02); have l03 := Nat.le_trans l02 hb3.size; have hlt2 : ∀ k, v2.ownBlock = some k → k < w2.heap.size := fun k hk => (ho2.lt k hk).2)
    | (go_at_call 14; refine (c1 _).mono ?_; rintro e w2 ⟨v2, rfl, ho2, hb2⟩; have z2 := below_after z1 hb2 z1.size; have A2 := A1.call hb2 (Nat.lt_of_lt_of_le l0 l01); have l02 := Nat.le_trans l01 hb2.size)
    | (go_at_call 8; refine (ct _).mono ?_; rintro e w1 ⟨rfl, hb1⟩; have z1 := below_after z0 hb1 z0.size; have A1 := A0.call hb1 l0; have l01 := hb1.size)
    | (have hh := M6; with_reducible refine wpl_load agg_dkl2 w.heap.size 0 [.int .u64 ((s).m.toNat : Int), .int .u64 ((s).q.toNat : Int), .int .u64 ((s).z.toNat : Int), .int .u64 ((s).r.a.toNat : Int), .int .u64 ((s).r.b.toNat : Int), .int .u64 ((s).r.c.toNat : Int), .int .u64 ((s).r.d.toNat : Int), .int .u64 ((t).m.toNat : Int), .int .u64 ((t).q.toNat : Int), .int .u64 ((t).z.toNat : Int), .int .u64 ((t).r.a.toNat : Int), .int .u64 ((t).r.b.toNat : Int), .int .u64 ((t).r.c.toNat : Int), .int .u64 ((t).r.d.toNat : Int)] (by kernel_rfl) ?_ A6 ?_; · (first | (simp [Act.eval]; done) | (simp [Act.eval, Act.put]; done)))
    | (with_reducible refine wpl_load agg_dkl2 w.heap.size 0 [.int .u64 ((s).m.toNat : Int), .int .u64 ((s).q.toNat : Int), .int .u64 ((s).z.toNat : Int), .int .u64 ((s).r.a.toNat : Int), .int .u64 ((s).r.b.toNat : Int), .int .u64 ((s).r.c.toNat : Int), .int .u64 ((s).r.d.toNat : Int), .int .u64 ((t).m.toNat : Int), .int .u64 ((t).q.toNat : Int), .int .u64 ((t).z.toNat : Int), .int .u64 ((t).r.a.toNat : Int), .int .u64 ((t).r.b.toNat : Int), .int .u64 ((t).r.c.toNat : Int), .int .u64 ((t).r.d.toNat : Int)] (by kernel_rfl) ?_ A2 ?_; · (first | (simp [Act.eval]; done) | (simp [Act.eval, Act.put]; done)))
    | (with_reducible refine wpl_load agg_dkl2 w.heap.size 0 [.int .u64 ((s).m.toNat : Int), .int .u64 ((s).q.toNat : Int), .int .u64 ((s).z.toNat : Int), .int .u64 ((s).r.a.toNat : Int), .int .u64 ((s).r.b.toNat : Int), .int .u64 ((s).r.c.toNat : Int), .int .u64 ((s).r.d.toNat : Int), .int .u64 ((t).m.toNat : Int), .int .u64 ((t).q.toNat : Int), .int .u64 ((t).z.toNat : Int), .int .u64 ((t).r.a.toNat : Int), .int .u64 ((t).r.b.toNat : Int), .int .u64 ((t).r.c.toNat : Int), .int .u64 ((t).r.d.toNat : Int)] (by kernel_rfl) ?_ A0 ?_; · (first | (simp [Act.eval]; done) | (simp [Act.eval, Act.put]; done))))
  go_ret
  exact ⟨rfl, z9⟩
end Go.Proofs.Ytjmfegfkigaabaa
