/-
  RecordRaws on both sides.
-/
import Derived.Test.YtbmkknbbikoilaaKeep2
import Derived.Test.YtbmkknbbikoilaaRRead2
import Derived.Test.YtbmkknbbikoilaaJoinB15
import Derived.Test.YtbmkknbbikoilaaJoinB43
namespace Go.Proofs.Ytbmkknbbikoilaa
open Go.RowKit Go.MuLone

/-- A number as a word of 64 bits. -/
def toU (n : Int) : UInt64 := UInt64.ofNat (n % 18446744073709551616).toNat
theorem toU_nat (n : Int) : ((toU n).toNat : Int) = n % 18446744073709551616 := by
  unfold toU
  rw [UInt64.toNat_ofNat']
  have h1 := Int.emod_nonneg n (show (18446744073709551616 : Int) ≠ 0 by decide)
  have h2 := Int.emod_lt_of_pos n (show (0 : Int) < 18446744073709551616 by decide)
  rw [show (2 : Nat) ^ 64 = 18446744073709551616 from rfl, Nat.mod_eq_of_lt (by omega)]
  omega
/-- The slot that is wanted. -/
def want (x : Sl) (size : Int) (root : Qd) : Sl := ⟨0, toU ((x.q.toNat : Int) + 1), toU size, root⟩
/-- The raw writes that keep a size and a root. -/
def rraws (s t : Sl) (size : Int) (root : Qd) : List Rw := kraws (if (rread s t).2 = 1 then 2 else 1) (want (rread s t).1 size root)
theorem rread_bnd (s t : Sl) : ((rread s t).1.q.toNat : Int) ≤ 1000000000 ∧ ((rread s t).2 = 0 ∨ (rread s t).2 = 1 ∨ (rread s t).2 = 2) := by
  refine ⟨?_, ?_⟩
  · have := (rst_bnd s t 2).1
    rwa [rst_is] at this
  · unfold rread
    split
    · exact .inr (.inl rfl)
    · split
      · exact .inr (.inr rfl)
      · exact .inl rfl
set_option maxRecDepth 20000 in
set_option maxHeartbeats 2000000 in
theorem playOnN_is (d : Sl × Sl) (W : World) :
    Calls Try.prog 25 #[.agg #[.int .u64 ((d.1).m.toNat : Int), .int .u64 ((d.1).q.toNat : Int), .int .u64 ((d.1).z.toNat : Int), .int .u64 ((d.1).r.a.toNat : Int), .int .u64 ((d.1).r.b.toNat : Int), .int .u64 ((d.1).r.c.toNat : Int), .int .u64 ((d.1).r.d.toNat : Int), .int .u64 ((d.2).m.toNat : Int), .int .u64 ((d.2).q.toNat : Int), .int .u64 ((d.2).z.toNat : Int), .int .u64 ((d.2).r.a.toNat : Int), .int .u64 ((d.2).r.b.toNat : Int), .int .u64 ((d.2).r.c.toNat : Int), .int .u64 ((d.2).r.d.toNat : Int)]] W fun e w' => ∃ B, e = .returned (.pointer (some ⟨B, 0, none⟩)) ∧ PK B d (.slice none 0 0) w' ∧ Below W.heap.size W w' ∧ W.heap.size ≤ B := by
  have cl := fun V : World => layers_is V
  have hD0 := DK.new W d 35
  go_enter Try.func25, Try.ntmps25
  go_wp2_with fail
  obtain ⟨⟨l0, a0, a1, a2, a3, a4, a5, a6⟩, ⟨b0, b1, b2, b3, b4, b5, b6⟩, -⟩ := id hD0
  go_region_with (go_at_call 40; refine (cl _).mono ?_; rintro e w1 ⟨rfl, hb1⟩; have hD1 := (hD0.call ((Below.refl _ _).drew)).call hb1; obtain ⟨⟨k0, c0, c1, c2, c3, c4, c5, c6⟩, ⟨e0, e1, e2, e3, e4, e5, e6⟩, -⟩ := id hD1; clear hD1)
  all_goals (go_wp2_with fail)
  all_goals go_ret
  all_goals (refine ⟨w1.heap.size, rfl, ⟨by simp, Lies.new w1 (pcs d (.slice none 0 0)) 66, Room.new w1 (pcs d (.slice none 0 0)).toArray 66 22 rfl⟩, ?_, ?_⟩)
  all_goals (have hz1 := hb1.size; simp only [World.size_drew, World.size_alloc] at hz1)
  all_goals first
    | omega
    | exact Below.alloc (below_after (((Below.refl _ W).alloc (Nat.le_refl _) _).drew) hb1 (by simp)) (by omega) _
theorem keep_one (B : Nat) (y : Sl) (d : Sl × Sl) (W : World) (h : PK B d (.slice none 0 0) W) :
    Calls Try.prog 26 #[.pointer (some ⟨B, 0, none⟩), .int .i64 1, .agg #[.int .u64 ((y).m.toNat : Int), .int .u64 ((y).q.toNat : Int), .int .u64 ((y).z.toNat : Int), .int .u64 ((y).r.a.toNat : Int), .int .u64 ((y).r.b.toNat : Int), .int .u64 ((y).r.c.toNat : Int), .int .u64 ((y).r.d.toNat : Int)]] W fun e w' => e = .returned (.tuple #[]) ∧ (∃ d' v', PK B d' v' w' ∧ w'.ownsRow (B + 1) 56 3 v' (kraws 1 y).length (rcs (kraws 1 y))) ∧ Below B W w' := by
  have hcs := fun V : World => pslot_is B 1 V
  simp only [if_true] at hcs
  exact keep_is B 0 1 (.inl rfl) Prod.fst y d W h rfl rfl (fun d' v V hV => hV.one') hcs
theorem keep_two (B : Nat) (y : Sl) (d : Sl × Sl) (W : World) (h : PK B d (.slice none 0 0) W) :
    Calls Try.prog 26 #[.pointer (some ⟨B, 0, none⟩), .int .i64 2, .agg #[.int .u64 ((y).m.toNat : Int), .int .u64 ((y).q.toNat : Int), .int .u64 ((y).z.toNat : Int), .int .u64 ((y).r.a.toNat : Int), .int .u64 ((y).r.b.toNat : Int), .int .u64 ((y).r.c.toNat : Int), .int .u64 ((y).r.d.toNat : Int)]] W fun e w' => e = .returned (.tuple #[]) ∧ (∃ d' v', PK B d' v' w' ∧ w'.ownsRow (B + 1) 56 3 v' (kraws 2 y).length (rcs (kraws 2 y))) ∧ Below B W w' := by
  have hcs := fun V : World => pslot_is B 2 V
  simp only [show ((2 : Int) = 1) = False from by simp, if_false, if_true] at hcs
  exact keep_is B 7 2 (.inr rfl) Prod.snd y d W h rfl rfl (fun d' v V hV => hV.two') hcs
theorem keep_oneZ (B : Nat) (yq yz : UInt64) (root : Qd) (d : Sl × Sl) (W : World) (h : PK B d (.slice none 0 0) W) :
    Calls Try.prog 26 #[.pointer (some ⟨B, 0, none⟩), .int .i64 1, .agg #[.int .u64 0, .int .u64 ((yq).toNat : Int), .int .u64 ((yz).toNat : Int), .int .u64 ((root.a).toNat : Int), .int .u64 ((root.b).toNat : Int), .int .u64 ((root.c).toNat : Int), .int .u64 ((root.d).toNat : Int)]] W fun e w' => e = .returned (.tuple #[]) ∧ (∃ d' v', PK B d' v' w' ∧ w'.ownsRow (B + 1) 56 3 v' (kraws 1 ⟨0, yq, yz, root⟩).length (rcs (kraws 1 ⟨0, yq, yz, root⟩))) ∧ Below B W w' := by
  have := keep_one B ⟨0, yq, yz, root⟩ d W h
  have e0 : (((0 : UInt64).toNat : Nat) : Int) = 0 := rfl
  simp only [e0] at this
  exact this
theorem keep_twoZ (B : Nat) (yq yz : UInt64) (root : Qd) (d : Sl × Sl) (W : World) (h : PK B d (.slice none 0 0) W) :
    Calls Try.prog 26 #[.pointer (some ⟨B, 0, none⟩), .int .i64 2, .agg #[.int .u64 0, .int .u64 ((yq).toNat : Int), .int .u64 ((yz).toNat : Int), .int .u64 ((root.a).toNat : Int), .int .u64 ((root.b).toNat : Int), .int .u64 ((root.c).toNat : Int), .int .u64 ((root.d).toNat : Int)]] W fun e w' => e = .returned (.tuple #[]) ∧ (∃ d' v', PK B d' v' w' ∧ w'.ownsRow (B + 1) 56 3 v' (kraws 2 ⟨0, yq, yz, root⟩).length (rcs (kraws 2 ⟨0, yq, yz, root⟩))) ∧ Below B W w' := by
  have := keep_two B ⟨0, yq, yz, root⟩ d W h
  have e0 : (((0 : UInt64).toNat : Nat) : Int) = 0 := rfl
  simp only [e0] at this
  exact this
set_option maxRecDepth 20000 in
theorem agg_dig : AggTy 31 4 := ⟨⟨_, Try.underlying31, rfl⟩, by kernel_rfl⟩
set_option maxRecDepth 20000 in
set_option maxHeartbeats 4000000 in
theorem rraws_impl (s t : Sl) (size : Int) (root : Qd) (W : World) :
    Calls Try.prog 10 #[.agg #[.int .u64 ((s).m.toNat : Int), .int .u64 ((s).q.toNat : Int), .int .u64 ((s).z.toNat : Int), .int .u64 ((s).r.a.toNat : Int), .int .u64 ((s).r.b.toNat : Int), .int .u64 ((s).r.c.toNat : Int), .int .u64 ((s).r.d.toNat : Int), .int .u64 ((t).m.toNat : Int), .int .u64 ((t).q.toNat : Int), .int .u64 ((t).z.toNat : Int), .int .u64 ((t).r.a.toNat : Int), .int .u64 ((t).r.b.toNat : Int), .int .u64 ((t).r.c.toNat : Int), .int .u64 ((t).r.d.toNat : Int)], .int .i64 size, .agg #[.int .u64 ((root.a).toNat : Int), .int .u64 ((root.b).toNat : Int), .int .u64 ((root.c).toNat : Int), .int .u64 ((root.d).toNat : Int)]] W fun e w' => ∃ v, e = .returned v ∧ w'.ownsRow W.heap.size 56 3 v (rraws s t size root).length (rcs (rraws s t size root)) ∧ Below W.heap.size W w' := by
  have c1 := fun V : World => rread_impl s t V
  have cp := fun V : World => playOnN_is (s, t) V
  simp only at cp
  obtain ⟨hq, hk⟩ := rread_bnd s t
  unfold rraws want
  generalize rread s t = X at c1 hq hk ⊢
  obtain ⟨x, k⟩ := X
  simp only at c1 hq hk ⊢
  have hw0 : IntKind.u64.wrap (x.q.toNat : Int) = (x.q.toNat : Int) := IntWalk.u64_in _ (by omega)
  have hw1 : IntKind.u64.wrap ((x.q.toNat : Int) + 1) = ((toU ((x.q.toNat : Int) + 1)).toNat : Int) := by rw [toU_nat]; exact (IntWalk.u64_in _ (by omega)).trans (by omega)
  have hw2 : IntKind.u64.wrap size = ((toU size).toNat : Int) := by rw [toU_nat]; rfl
  generalize toU ((x.q.toNat : Int) + 1) = yq at hw1 ⊢
  generalize toU size = yz at hw2 ⊢
  have z0 : Below W.heap.size W ((W.alloc (.cells #[.int .u64 ((s).m.toNat : Int), .int .u64 ((s).q.toNat : Int), .int .u64 ((s).z.toNat : Int), .int .u64 ((s).r.a.toNat : Int), .int .u64 ((s).r.b.toNat : Int), .int .u64 ((s).r.c.toNat : Int), .int .u64 ((s).r.d.toNat : Int), .int .u64 ((t).m.toNat : Int), .int .u64 ((t).q.toNat : Int), .int .u64 ((t).z.toNat : Int), .int .u64 ((t).r.a.toNat : Int), .int .u64 ((t).r.b.toNat : Int), .int .u64 ((t).r.c.toNat : Int), .int .u64 ((t).r.d.toNat : Int)] 35)).alloc (.cells #[.int .u64 ((root.a).toNat : Int), .int .u64 ((root.b).toNat : Int), .int .u64 ((root.c).toNat : Int), .int .u64 ((root.d).toNat : Int)] 31)) := (by repeat' (first | (with_reducible exact Below.refl _ _) | (with_reducible assumption) | (with_reducible refine below_drewN ?_ _) | (with_reducible refine Below.setCell ?_ ?_ _) | (with_reducible refine Below.alloc ?_ ?_ _) | (with_reducible refine Below.drew ?_) | go_size))
  have A0 : Lies W.heap.size 0 [.int .u64 ((s).m.toNat : Int), .int .u64 ((s).q.toNat : Int), .int .u64 ((s).z.toNat : Int), .int .u64 ((s).r.a.toNat : Int), .int .u64 ((s).r.b.toNat : Int), .int .u64 ((s).r.c.toNat : Int), .int .u64 ((s).r.d.toNat : Int), .int .u64 ((t).m.toNat : Int), .int .u64 ((t).q.toNat : Int), .int .u64 ((t).z.toNat : Int), .int .u64 ((t).r.a.toNat : Int), .int .u64 ((t).r.b.toNat : Int), .int .u64 ((t).r.c.toNat : Int), .int .u64 ((t).r.d.toNat : Int)] ((W.alloc (.cells #[.int .u64 ((s).m.toNat : Int), .int .u64 ((s).q.toNat : Int), .int .u64 ((s).z.toNat : Int), .int .u64 ((s).r.a.toNat : Int), .int .u64 ((s).r.b.toNat : Int), .int .u64 ((s).r.c.toNat : Int), .int .u64 ((s).r.d.toNat : Int), .int .u64 ((t).m.toNat : Int), .int .u64 ((t).q.toNat : Int), .int .u64 ((t).z.toNat : Int), .int .u64 ((t).r.a.toNat : Int), .int .u64 ((t).r.b.toNat : Int), .int .u64 ((t).r.c.toNat : Int), .int .u64 ((t).r.d.toNat : Int)] 35)).alloc (.cells #[.int .u64 ((root.a).toNat : Int), .int .u64 ((root.b).toNat : Int), .int .u64 ((root.c).toNat : Int), .int .u64 ((root.d).toNat : Int)] 31)) := (Lies.new W [.int .u64 ((s).m.toNat : Int), .int .u64 ((s).q.toNat : Int), .int .u64 ((s).z.toNat : Int), .int .u64 ((s).r.a.toNat : Int), .int .u64 ((s).r.b.toNat : Int), .int .u64 ((s).r.c.toNat : Int), .int .u64 ((s).r.d.toNat : Int), .int .u64 ((t).m.toNat : Int), .int .u64 ((t).q.toNat : Int), .int .u64 ((t).z.toNat : Int), .int .u64 ((t).r.a.toNat : Int), .int .u64 ((t).r.b.toNat : Int), .int .u64 ((t).r.c.toNat : Int), .int .u64 ((t).r.d.toNat : Int)] 35).call ((Below.refl _ _).alloc (Nat.le_refl _) _) (by first | (simp; done) | (simp; omega) | omega)
  have R0 : Lies (W.heap.size + 1) 0 [.int .u64 ((root.a).toNat : Int), .int .u64 ((root.b).toNat : Int), .int .u64 ((root.c).toNat : Int), .int .u64 ((root.d).toNat : Int)] ((W.alloc (.cells #[.int .u64 ((s).m.toNat : Int), .int .u64 ((s).q.toNat : Int), .int .u64 ((s).z.toNat : Int), .int .u64 ((s).r.a.toNat : Int), .int .u64 ((s).r.b.toNat : Int), .int .u64 ((s).r.c.toNat : Int), .int .u64 ((s).r.d.toNat : Int), .int .u64 ((t).m.toNat : Int), .int .u64 ((t).q.toNat : Int), .int .u64 ((t).z.toNat : Int), .int .u64 ((t).r.a.toNat : Int), .int .u64 ((t).r.b.toNat : Int), .int .u64 ((t).r.c.toNat : Int), .int .u64 ((t).r.d.toNat : Int)] 35)).alloc (.cells #[.int .u64 ((root.a).toNat : Int), .int .u64 ((root.b).toNat : Int), .int .u64 ((root.c).toNat : Int), .int .u64 ((root.d).toNat : Int)] 31)) := by
    have := Lies.new (W.alloc (.cells #[.int .u64 ((s).m.toNat : Int), .int .u64 ((s).q.toNat : Int), .int .u64 ((s).z.toNat : Int), .int .u64 ((s).r.a.toNat : Int), .int .u64 ((s).r.b.toNat : Int), .int .u64 ((s).r.c.toNat : Int), .int .u64 ((s).r.d.toNat : Int), .int .u64 ((t).m.toNat : Int), .int .u64 ((t).q.toNat : Int), .int .u64 ((t).z.toNat : Int), .int .u64 ((t).r.a.toNat : Int), .int .u64 ((t).r.b.toNat : Int), .int .u64 ((t).r.c.toNat : Int), .int .u64 ((t).r.d.toNat : Int)] 35)) [.int .u64 ((root.a).toNat : Int), .int .u64 ((root.b).toNat : Int), .int .u64 ((root.c).toNat : Int), .int .u64 ((root.d).toNat : Int)] 31
    simp only [World.size_alloc] at this
    exact this
  by_cases hk1 : k = 1
  · subst hk1
    simp only [if_true]
    go_enter Try.func10, Try.ntmps10
    go_wp2_with (first
      | (have hh := z3; go_at_call 26; refine (keep_twoZ B yq yz root (s, t) _ h3).mono ?_; rintro e w4 ⟨rfl, ⟨d4, v4, hp4, ho4⟩, hb4⟩; have z4 := z3.trans (hb4.mono hB); have c21 := hp4.cell 21 v4 rfl)
      | (go_at_call 25; refine (cp _).mono ?_; rintro e w3 ⟨B, rfl, h3, hb3, hB3⟩; have z3 := below_after z2 hb3 z2.size; have hB : W.heap.size ≤ B := Nat.le_trans z2.size hB3; have rc := (hb3.cell (p := ⟨w1.heap.size, 0, none⟩) (by simp)).trans r0; have R3 := R2.call hb3 l2)
      | (go_at_call 18; refine (c1 _).mono ?_; rintro e w1 ⟨rfl, hb1⟩; have z1 := below_after z0 hb1 z0.size; have z2 := z1.alloc z1.size (.cells #[.int .i64 (x.q.toNat : Int), .int .i64 (x.z.toNat : Int), .int .u64 ((x.r.a).toNat : Int), .int .u64 ((x.r.b).toNat : Int), .int .u64 ((x.r.c).toNat : Int), .int .u64 ((x.r.d).toNat : Int)] 47); have hy : Below w1.heap.size w1 (w1.alloc (.cells #[.int .i64 (x.q.toNat : Int), .int .i64 (x.z.toNat : Int), .int .u64 ((x.r.a).toNat : Int), .int .u64 ((x.r.b).toNat : Int), .int .u64 ((x.r.c).toNat : Int), .int .u64 ((x.r.d).toNat : Int)] 47)) := (Below.refl _ _).alloc (Nat.le_refl _) _; have A2 := (A0.call hb1 (by first | (simp; done) | (simp; omega) | omega)).call hy (Nat.lt_of_lt_of_le (by first | (simp; done) | (simp; omega) | omega) hb1.size); have R2 := (R0.call hb1 (by first | (simp; done) | (simp; omega) | omega)).call hy (Nat.lt_of_lt_of_le (by first | (simp; done) | (simp; omega) | omega) hb1.size); have l2 : W.heap.size + 1 < (w1.alloc (.cells #[.int .i64 (x.q.toNat : Int), .int .i64 (x.z.toNat : Int), .int .u64 ((x.r.a).toNat : Int), .int .u64 ((x.r.b).toNat : Int), .int .u64 ((x.r.c).toNat : Int), .int .u64 ((x.r.d).toNat : Int)] 47)).heap.size := Nat.lt_of_lt_of_le (by first | (simp; done) | (simp; omega) | omega) (Nat.le_trans hb1.size hy.size); have r0 : (w1.alloc (.cells #[.int .i64 (x.q.toNat : Int), .int .i64 (x.z.toNat : Int), .int .u64 ((x.r.a).toNat : Int), .int .u64 ((x.r.b).toNat : Int), .int .u64 ((x.r.c).toNat : Int), .int .u64 ((x.r.d).toNat : Int)] 47)).cell? ⟨w1.heap.size, 0, none⟩ = some (.int .i64 (x.q.toNat : Int)) := (by simp [go_sem]))
      | (have hh := R3; with_reducible refine wpl_load agg_dig (W.heap.size + 1) 0 [.int .u64 ((root.a).toNat : Int), .int .u64 ((root.b).toNat : Int), .int .u64 ((root.c).toNat : Int), .int .u64 ((root.d).toNat : Int)] (by kernel_rfl) (by kernel_rfl) R3 ?_)
      | (with_reducible refine wpl_build #[.int .u64 0, .int .u64 ((yq).toNat : Int), .int .u64 ((yz).toNat : Int), .int .u64 ((root.a).toNat : Int), .int .u64 ((root.b).toNat : Int), .int .u64 ((root.c).toNat : Int), .int .u64 ((root.d).toNat : Int)] (by kernel_rfl) ?_)
      | (with_reducible refine wpl_load agg_disk W.heap.size 0 [.int .u64 ((s).m.toNat : Int), .int .u64 ((s).q.toNat : Int), .int .u64 ((s).z.toNat : Int), .int .u64 ((s).r.a.toNat : Int), .int .u64 ((s).r.b.toNat : Int), .int .u64 ((s).r.c.toNat : Int), .int .u64 ((s).r.d.toNat : Int), .int .u64 ((t).m.toNat : Int), .int .u64 ((t).q.toNat : Int), .int .u64 ((t).z.toNat : Int), .int .u64 ((t).r.a.toNat : Int), .int .u64 ((t).r.b.toNat : Int), .int .u64 ((t).r.c.toNat : Int), .int .u64 ((t).r.d.toNat : Int)] (by kernel_rfl) (by kernel_rfl) A2 ?_)
      | (with_reducible refine wpl_load agg_disk W.heap.size 0 [.int .u64 ((s).m.toNat : Int), .int .u64 ((s).q.toNat : Int), .int .u64 ((s).z.toNat : Int), .int .u64 ((s).r.a.toNat : Int), .int .u64 ((s).r.b.toNat : Int), .int .u64 ((s).r.c.toNat : Int), .int .u64 ((s).r.d.toNat : Int), .int .u64 ((t).m.toNat : Int), .int .u64 ((t).q.toNat : Int), .int .u64 ((t).z.toNat : Int), .int .u64 ((t).r.a.toNat : Int), .int .u64 ((t).r.b.toNat : Int), .int .u64 ((t).r.c.toNat : Int), .int .u64 ((t).r.d.toNat : Int)] (by kernel_rfl) (by kernel_rfl) A0 ?_))
    go_ret
    exact ⟨_, rfl, own_downR ho4 (by omega), z4⟩
  · rw [if_neg hk1]
    have hkb : ((k : Int) == 1) = false := by simpa using hk1
    go_enter Try.func10, Try.ntmps10
    go_wp2_with (first
      | (have hh := z3; go_at_call 26; refine (keep_oneZ B yq yz root (s, t) _ h3).mono ?_; rintro e w4 ⟨rfl, ⟨d4, v4, hp4, ho4⟩, hb4⟩; have z4 := z3.trans (hb4.mono hB); have c21 := hp4.cell 21 v4 rfl)
      | (go_at_call 25; refine (cp _).mono ?_; rintro e w3 ⟨B, rfl, h3, hb3, hB3⟩; have z3 := below_after z2 hb3 z2.size; have hB : W.heap.size ≤ B := Nat.le_trans z2.size hB3; have rc := (hb3.cell (p := ⟨w1.heap.size, 0, none⟩) (by simp)).trans r0; have R3 := R2.call hb3 l2)
      | (go_at_call 18; refine (c1 _).mono ?_; rintro e w1 ⟨rfl, hb1⟩; have z1 := below_after z0 hb1 z0.size; have z2 := z1.alloc z1.size (.cells #[.int .i64 (x.q.toNat : Int), .int .i64 (x.z.toNat : Int), .int .u64 ((x.r.a).toNat : Int), .int .u64 ((x.r.b).toNat : Int), .int .u64 ((x.r.c).toNat : Int), .int .u64 ((x.r.d).toNat : Int)] 47); have hy : Below w1.heap.size w1 (w1.alloc (.cells #[.int .i64 (x.q.toNat : Int), .int .i64 (x.z.toNat : Int), .int .u64 ((x.r.a).toNat : Int), .int .u64 ((x.r.b).toNat : Int), .int .u64 ((x.r.c).toNat : Int), .int .u64 ((x.r.d).toNat : Int)] 47)) := (Below.refl _ _).alloc (Nat.le_refl _) _; have A2 := (A0.call hb1 (by first | (simp; done) | (simp; omega) | omega)).call hy (Nat.lt_of_lt_of_le (by first | (simp; done) | (simp; omega) | omega) hb1.size); have R2 := (R0.call hb1 (by first | (simp; done) | (simp; omega) | omega)).call hy (Nat.lt_of_lt_of_le (by first | (simp; done) | (simp; omega) | omega) hb1.size); have l2 : W.heap.size + 1 < (w1.alloc (.cells #[.int .i64 (x.q.toNat : Int), .int .i64 (x.z.toNat : Int), .int .u64 ((x.r.a).toNat : Int), .int .u64 ((x.r.b).toNat : Int), .int .u64 ((x.r.c).toNat : Int), .int .u64 ((x.r.d).toNat : Int)] 47)).heap.size := Nat.lt_of_lt_of_le (by first | (simp; done) | (simp; omega) | omega) (Nat.le_trans hb1.size hy.size); have r0 : (w1.alloc (.cells #[.int .i64 (x.q.toNat : Int), .int .i64 (x.z.toNat : Int), .int .u64 ((x.r.a).toNat : Int), .int .u64 ((x.r.b).toNat : Int), .int .u64 ((x.r.c).toNat : Int), .int .u64 ((x.r.d).toNat : Int)] 47)).cell? ⟨w1.heap.size, 0, none⟩ = some (.int .i64 (x.q.toNat : Int)) := (by simp [go_sem]))
      | (have hh := R3; with_reducible refine wpl_load agg_dig (W.heap.size + 1) 0 [.int .u64 ((root.a).toNat : Int), .int .u64 ((root.b).toNat : Int), .int .u64 ((root.c).toNat : Int), .int .u64 ((root.d).toNat : Int)] (by kernel_rfl) (by kernel_rfl) R3 ?_)
      | (with_reducible refine wpl_build #[.int .u64 0, .int .u64 ((yq).toNat : Int), .int .u64 ((yz).toNat : Int), .int .u64 ((root.a).toNat : Int), .int .u64 ((root.b).toNat : Int), .int .u64 ((root.c).toNat : Int), .int .u64 ((root.d).toNat : Int)] (by kernel_rfl) ?_)
      | (with_reducible refine wpl_load agg_disk W.heap.size 0 [.int .u64 ((s).m.toNat : Int), .int .u64 ((s).q.toNat : Int), .int .u64 ((s).z.toNat : Int), .int .u64 ((s).r.a.toNat : Int), .int .u64 ((s).r.b.toNat : Int), .int .u64 ((s).r.c.toNat : Int), .int .u64 ((s).r.d.toNat : Int), .int .u64 ((t).m.toNat : Int), .int .u64 ((t).q.toNat : Int), .int .u64 ((t).z.toNat : Int), .int .u64 ((t).r.a.toNat : Int), .int .u64 ((t).r.b.toNat : Int), .int .u64 ((t).r.c.toNat : Int), .int .u64 ((t).r.d.toNat : Int)] (by kernel_rfl) (by kernel_rfl) A2 ?_)
      | (with_reducible refine wpl_load agg_disk W.heap.size 0 [.int .u64 ((s).m.toNat : Int), .int .u64 ((s).q.toNat : Int), .int .u64 ((s).z.toNat : Int), .int .u64 ((s).r.a.toNat : Int), .int .u64 ((s).r.b.toNat : Int), .int .u64 ((s).r.c.toNat : Int), .int .u64 ((s).r.d.toNat : Int), .int .u64 ((t).m.toNat : Int), .int .u64 ((t).q.toNat : Int), .int .u64 ((t).z.toNat : Int), .int .u64 ((t).r.a.toNat : Int), .int .u64 ((t).r.b.toNat : Int), .int .u64 ((t).r.c.toNat : Int), .int .u64 ((t).r.d.toNat : Int)] (by kernel_rfl) (by kernel_rfl) A0 ?_))
    go_ret
    exact ⟨_, rfl, own_downR ho4 (by omega), z4⟩
end Go.Proofs.Ytbmkknbbikoilaa
