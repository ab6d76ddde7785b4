/-
  What a keep does at its end: it looks whether all was done.
-/
import Derived.Test.YtbmkknbbikoilaaRMend
import Derived.Test.YtbmkknbbikoilaaCuts
import Derived.Test.YtbmkknbbikoilaaJoinB32
namespace Go.Proofs.Ytbmkknbbikoilaa
open Go.RowKit Go.MuLone

theorem PK.disk {B : Nat} {d : Sl × Sl} {v : Value} {W : World} (h : PK B d v W) (e : Sl × Sl) : PK B e v (W.setCells B 0 [.int .u64 ((e.1).m.toNat : Int), .int .u64 ((e.1).q.toNat : Int), .int .u64 ((e.1).z.toNat : Int), .int .u64 ((e.1).r.a.toNat : Int), .int .u64 ((e.1).r.b.toNat : Int), .int .u64 ((e.1).r.c.toNat : Int), .int .u64 ((e.1).r.d.toNat : Int), .int .u64 ((e.2).m.toNat : Int), .int .u64 ((e.2).q.toNat : Int), .int .u64 ((e.2).z.toNat : Int), .int .u64 ((e.2).r.a.toNat : Int), .int .u64 ((e.2).r.b.toNat : Int), .int .u64 ((e.2).r.c.toNat : Int), .int .u64 ((e.2).r.d.toNat : Int)]) := by
  obtain ⟨h1, h2, h3⟩ := h
  have hr : Room B 0 14 W := h3.part 0 14 (by omega)
  have hl : Lies B 0 [.int .u64 ((e.1).m.toNat : Int), .int .u64 ((e.1).q.toNat : Int), .int .u64 ((e.1).z.toNat : Int), .int .u64 ((e.1).r.a.toNat : Int), .int .u64 ((e.1).r.b.toNat : Int), .int .u64 ((e.1).r.c.toNat : Int), .int .u64 ((e.1).r.d.toNat : Int), .int .u64 ((e.2).m.toNat : Int), .int .u64 ((e.2).q.toNat : Int), .int .u64 ((e.2).z.toNat : Int), .int .u64 ((e.2).r.a.toNat : Int), .int .u64 ((e.2).r.b.toNat : Int), .int .u64 ((e.2).r.c.toNat : Int), .int .u64 ((e.2).r.d.toNat : Int)] (W.setCells B 0 [.int .u64 ((e.1).m.toNat : Int), .int .u64 ((e.1).q.toNat : Int), .int .u64 ((e.1).z.toNat : Int), .int .u64 ((e.1).r.a.toNat : Int), .int .u64 ((e.1).r.b.toNat : Int), .int .u64 ((e.1).r.c.toNat : Int), .int .u64 ((e.1).r.d.toNat : Int), .int .u64 ((e.2).m.toNat : Int), .int .u64 ((e.2).q.toNat : Int), .int .u64 ((e.2).z.toNat : Int), .int .u64 ((e.2).r.a.toNat : Int), .int .u64 ((e.2).r.b.toNat : Int), .int .u64 ((e.2).r.c.toNat : Int), .int .u64 ((e.2).r.d.toNat : Int)]) := Lies.sc (by kernel_rfl) hr
  have out := fun (j : Nat) (hj : 14 ≤ j) => World.cell?_setCells_out B [.int .u64 ((e.1).m.toNat : Int), .int .u64 ((e.1).q.toNat : Int), .int .u64 ((e.1).z.toNat : Int), .int .u64 ((e.1).r.a.toNat : Int), .int .u64 ((e.1).r.b.toNat : Int), .int .u64 ((e.1).r.c.toNat : Int), .int .u64 ((e.1).r.d.toNat : Int), .int .u64 ((e.2).m.toNat : Int), .int .u64 ((e.2).q.toNat : Int), .int .u64 ((e.2).z.toNat : Int), .int .u64 ((e.2).r.a.toNat : Int), .int .u64 ((e.2).r.b.toNat : Int), .int .u64 ((e.2).r.c.toNat : Int), .int .u64 ((e.2).r.d.toNat : Int)] 0 W ⟨B, 0 + j, none⟩ (fun _ _ => Or.inr (by show 0 + 14 ≤ 0 + j; omega))
  refine ⟨by rw [sc_size]; exact h1, fun j x hj => ?_, fun j hj => ?_, fun j hj => by rw [World.frozen?_setCells]; exact h3.2 j hj⟩
  · by_cases h14 : j < 14
    · refine hl j x ?_
      rw [← hj]
      show ([.int .u64 ((e.1).m.toNat : Int), .int .u64 ((e.1).q.toNat : Int), .int .u64 ((e.1).z.toNat : Int), .int .u64 ((e.1).r.a.toNat : Int), .int .u64 ((e.1).r.b.toNat : Int), .int .u64 ((e.1).r.c.toNat : Int), .int .u64 ((e.1).r.d.toNat : Int), .int .u64 ((e.2).m.toNat : Int), .int .u64 ((e.2).q.toNat : Int), .int .u64 ((e.2).z.toNat : Int), .int .u64 ((e.2).r.a.toNat : Int), .int .u64 ((e.2).r.b.toNat : Int), .int .u64 ((e.2).r.c.toNat : Int), .int .u64 ((e.2).r.d.toNat : Int)] : List Value)[j]? = ([.int .u64 ((e.1).m.toNat : Int), .int .u64 ((e.1).q.toNat : Int), .int .u64 ((e.1).z.toNat : Int), .int .u64 ((e.1).r.a.toNat : Int), .int .u64 ((e.1).r.b.toNat : Int), .int .u64 ((e.1).r.c.toNat : Int), .int .u64 ((e.1).r.d.toNat : Int), .int .u64 ((e.2).m.toNat : Int), .int .u64 ((e.2).q.toNat : Int), .int .u64 ((e.2).z.toNat : Int), .int .u64 ((e.2).r.a.toNat : Int), .int .u64 ((e.2).r.b.toNat : Int), .int .u64 ((e.2).r.c.toNat : Int), .int .u64 ((e.2).r.d.toNat : Int)] ++ (pcs e v).drop 14)[j]?
      rw [List.getElem?_append_left (by exact h14)]
    · rw [out j (by omega)]
      refine h2 j x ?_
      rw [← hj]
      show ([.int .u64 ((d.1).m.toNat : Int), .int .u64 ((d.1).q.toNat : Int), .int .u64 ((d.1).z.toNat : Int), .int .u64 ((d.1).r.a.toNat : Int), .int .u64 ((d.1).r.b.toNat : Int), .int .u64 ((d.1).r.c.toNat : Int), .int .u64 ((d.1).r.d.toNat : Int), .int .u64 ((d.2).m.toNat : Int), .int .u64 ((d.2).q.toNat : Int), .int .u64 ((d.2).z.toNat : Int), .int .u64 ((d.2).r.a.toNat : Int), .int .u64 ((d.2).r.b.toNat : Int), .int .u64 ((d.2).r.c.toNat : Int), .int .u64 ((d.2).r.d.toNat : Int)] ++ (pcs d v).drop 14)[j]? = ([.int .u64 ((e.1).m.toNat : Int), .int .u64 ((e.1).q.toNat : Int), .int .u64 ((e.1).z.toNat : Int), .int .u64 ((e.1).r.a.toNat : Int), .int .u64 ((e.1).r.b.toNat : Int), .int .u64 ((e.1).r.c.toNat : Int), .int .u64 ((e.1).r.d.toNat : Int), .int .u64 ((e.2).m.toNat : Int), .int .u64 ((e.2).q.toNat : Int), .int .u64 ((e.2).z.toNat : Int), .int .u64 ((e.2).r.a.toNat : Int), .int .u64 ((e.2).r.b.toNat : Int), .int .u64 ((e.2).r.c.toNat : Int), .int .u64 ((e.2).r.d.toNat : Int)] ++ (pcs e v).drop 14)[j]?
      rw [List.getElem?_append_right (by show 14 ≤ j; omega), List.getElem?_append_right (by show 14 ≤ j; omega)]
      rfl
  · by_cases h14 : j < 14
    · have hx := hl j (([.int .u64 ((e.1).m.toNat : Int), .int .u64 ((e.1).q.toNat : Int), .int .u64 ((e.1).z.toNat : Int), .int .u64 ((e.1).r.a.toNat : Int), .int .u64 ((e.1).r.b.toNat : Int), .int .u64 ((e.1).r.c.toNat : Int), .int .u64 ((e.1).r.d.toNat : Int), .int .u64 ((e.2).m.toNat : Int), .int .u64 ((e.2).q.toNat : Int), .int .u64 ((e.2).z.toNat : Int), .int .u64 ((e.2).r.a.toNat : Int), .int .u64 ((e.2).r.b.toNat : Int), .int .u64 ((e.2).r.c.toNat : Int), .int .u64 ((e.2).r.d.toNat : Int)] : List Value)[j]'(by exact h14)) (List.getElem?_eq_getElem _)
      rw [hx]
      rfl
    · rw [out j (by omega)]
      exact h3.1 j hj
theorem grownBy_dr {W W' : World} {r : Option Nat} (h : W.drew.grownBy W' r) : W.grownBy W' r := ⟨h.os, h.tape, h.output, h.size, h.block⟩
set_option maxRecDepth 20000 in
set_option maxHeartbeats 2000000 in
theorem kdef_same (B P N Y A o : Nat) (n : Int) (y : Sl) (u : FrameMode) (w : World) (hp0 : w.cell? ⟨P, 0, none⟩ = some (.pointer (some ⟨B, 0, none⟩))) (hn0 : w.cell? ⟨N, 0, none⟩ = some (.int .i64 n)) (LX0 : Lies B o [.int .u64 ((y).m.toNat : Int), .int .u64 ((y).q.toNat : Int), .int .u64 ((y).z.toNat : Int), .int .u64 ((y).r.a.toNat : Int), .int .u64 ((y).r.b.toNat : Int), .int .u64 ((y).r.c.toNat : Int), .int .u64 ((y).r.d.toNat : Int)] w) (LY0 : Lies Y 0 [.int .u64 ((y).m.toNat : Int), .int .u64 ((y).q.toNat : Int), .int .u64 ((y).z.toNat : Int), .int .u64 ((y).r.a.toNat : Int), .int .u64 ((y).r.b.toNat : Int), .int .u64 ((y).r.c.toNat : Int), .int .u64 ((y).r.d.toNat : Int)] w)
    (hcs : ∀ V : World, Calls Try.prog 43 #[.pointer (some ⟨B, 0, none⟩), .int .i64 n] V fun e w' => e = .returned (.pointer (some ⟨B, o, none⟩)) ∧ V = w') :
    CallsD Try.prog 42 #[.pointer (some ⟨P, 0, none⟩), .pointer (some ⟨N, 0, none⟩), .pointer (some ⟨Y, 0, none⟩), .pointer (some ⟨A, 0, none⟩)] u w fun e u' w' => u' = u ∧ (e = .returned (.tuple #[]) ∧ w' = w.drew) := by
  have hp := c_drew hp0
  have hn := c_drew hn0
  have LX : Lies B o [.int .u64 ((y).m.toNat : Int), .int .u64 ((y).q.toNat : Int), .int .u64 ((y).z.toNat : Int), .int .u64 ((y).r.a.toNat : Int), .int .u64 ((y).r.b.toNat : Int), .int .u64 ((y).r.c.toNat : Int), .int .u64 ((y).r.d.toNat : Int)] w.drew := LX0
  have LY : Lies Y 0 [.int .u64 ((y).m.toNat : Int), .int .u64 ((y).q.toNat : Int), .int .u64 ((y).z.toNat : Int), .int .u64 ((y).r.a.toNat : Int), .int .u64 ((y).r.b.toNat : Int), .int .u64 ((y).r.c.toNat : Int), .int .u64 ((y).r.d.toNat : Int)] w.drew := LY0
  go_enter_d Try.func42, Try.ntmps42
  go_upto_region 0 with fail
  refine wp_region_held_drew (S := fun w' => w'.cell? ⟨P, 0, none⟩ = some (.pointer (some ⟨B, 0, none⟩)) ∧ w'.cell? ⟨N, 0, none⟩ = some (.int .i64 n) ∧ Lies B o [.int .u64 ((y).m.toNat : Int), .int .u64 ((y).q.toNat : Int), .int .u64 ((y).z.toNat : Int), .int .u64 ((y).r.a.toNat : Int), .int .u64 ((y).r.b.toNat : Int), .int .u64 ((y).r.c.toNat : Int), .int .u64 ((y).r.d.toNat : Int)] w' ∧ Lies Y 0 [.int .u64 ((y).m.toNat : Int), .int .u64 ((y).q.toNat : Int), .int .u64 ((y).z.toNat : Int), .int .u64 ((y).r.a.toNat : Int), .int .u64 ((y).r.b.toNat : Int), .int .u64 ((y).r.c.toNat : Int), .int .u64 ((y).r.d.toNat : Int)] w') (by kernel_rfl) ⟨hp, hn, LX, LY⟩ (fun hHeld => ?_)
  refine wpAnyH_take (i := 0) (oi := { dst := some 4, op := Op.load 59 (Operand.tmp 0), type := 59, pos := "l7_record.go:158", after := #[], guard := none }) (v := .pointer (some ⟨B, 0, none⟩)) rfl (by kernel_rfl) (by kernel_rfl) (by kernel_rfl) (fun _ _ _ h => h) (Or.inl ⟨by rfl, ?_⟩) (by assumption) ?_
  · (intro wq hq; obtain ⟨q0, q1, -, -⟩ := hq; go_simp)
  try simp only [Act.put, List.setIfInBounds_toArray, List.set_cons_zero, List.set_cons_succ]
  refine wpAnyH_take (i := 1) (oi := { dst := some 5, op := Op.load 3 (Operand.tmp 1), type := 3, pos := "l7_record.go:158", after := #[], guard := none }) (v := .int .i64 n) rfl (by kernel_rfl) (by kernel_rfl) (by kernel_rfl) (fun _ _ _ h => h) (Or.inl ⟨by rfl, ?_⟩) (by assumption) ?_
  · (intro wq hq; obtain ⟨q0, q1, -, -⟩ := hq; go_simp)
  try simp only [Act.put, List.setIfInBounds_toArray, List.set_cons_zero, List.set_cons_succ]
  refine wpAnyH_take (i := 5) (oi := { dst := some 9, op := Op.load 33 (Operand.tmp 2), type := 33, pos := "l7_record.go:158", after := #[], guard := none }) (v := .agg #[.int .u64 ((y).m.toNat : Int), .int .u64 ((y).q.toNat : Int), .int .u64 ((y).z.toNat : Int), .int .u64 ((y).r.a.toNat : Int), .int .u64 ((y).r.b.toNat : Int), .int .u64 ((y).r.c.toNat : Int), .int .u64 ((y).r.d.toNat : Int)]) rfl (by kernel_rfl) (by kernel_rfl) (by kernel_rfl) (fun _ _ _ h => h) (Or.inl ⟨by rfl, ?_⟩) (by assumption) ?_
  · (intro wq hq; exact run_load_op agg_slot Y 0 [.int .u64 ((y).m.toNat : Int), .int .u64 ((y).q.toNat : Int), .int .u64 ((y).z.toNat : Int), .int .u64 ((y).r.a.toNat : Int), .int .u64 ((y).r.b.toNat : Int), .int .u64 ((y).r.c.toNat : Int), .int .u64 ((y).r.d.toNat : Int)] (by kernel_rfl) (by kernel_rfl) hq.2.2.2)
  try simp only [Act.put, List.setIfInBounds_toArray, List.set_cons_zero, List.set_cons_succ]
  refine wpAnyH_ready (rs := [2]) (by kernel_rfl) (by simp) ?_
  refine AllReadyH.cons (o := { dst := some 6, op := Op.call { callee := Callee.value (Operand.func 43), args := #[Operand.tmp 4, Operand.tmp 5], argTypes := #[59, 3] }, type := 83, pos := "l7_record.go:158", after := #[{ on := 0, ground := Ground.data }, { on := 1, ground := Ground.data }], guard := none }) rfl (fun K hK => ?_) AllReadyH.nil
  go_simp
  go_at_call 43
  refine (hcs _).mono ?_
  rintro e w0 ⟨rfl, hw0⟩
  replace hw0 := hw0.symm
  subst hw0
  go_simp
  refine hK.out _ _ hHeld (fun hHeld => ?_)
  clear hK K
  refine wpAnyH_take (i := 3) (oi := { dst := some 7, op := Op.nilCheck (Operand.tmp 6), type := 0, pos := "l7_record.go:158", after := #[{ on := 2, ground := Ground.data }], guard := none }) (v := .pointer (some ⟨B, o, none⟩)) rfl (by kernel_rfl) (by kernel_rfl) (by kernel_rfl) (fun _ _ _ h => h) (Or.inl ⟨by rfl, ?_⟩) (by assumption) ?_
  · (intro wq hq; go_simp)
  try simp only [Act.put, List.setIfInBounds_toArray, List.set_cons_zero, List.set_cons_succ]
  refine wpAnyH_take (i := 4) (oi := { dst := some 8, op := Op.load 33 (Operand.tmp 7), type := 33, pos := "l7_record.go:158", after := #[{ on := 3, ground := Ground.data }], guard := none }) (v := .agg #[.int .u64 ((y).m.toNat : Int), .int .u64 ((y).q.toNat : Int), .int .u64 ((y).z.toNat : Int), .int .u64 ((y).r.a.toNat : Int), .int .u64 ((y).r.b.toNat : Int), .int .u64 ((y).r.c.toNat : Int), .int .u64 ((y).r.d.toNat : Int)]) rfl (by kernel_rfl) (by kernel_rfl) (by kernel_rfl) (fun _ _ _ h => h) (Or.inl ⟨by rfl, ?_⟩) (by assumption) ?_
  · (intro wq hq; exact run_load_op agg_slot B o [.int .u64 ((y).m.toNat : Int), .int .u64 ((y).q.toNat : Int), .int .u64 ((y).z.toNat : Int), .int .u64 ((y).r.a.toNat : Int), .int .u64 ((y).r.b.toNat : Int), .int .u64 ((y).r.c.toNat : Int), .int .u64 ((y).r.d.toNat : Int)] (by kernel_rfl) (by kernel_rfl) hq.2.2.1)
  try simp only [Act.put, List.setIfInBounds_toArray, List.set_cons_zero, List.set_cons_succ]
  refine wpAnyH_take (i := 6) (oi := { dst := some 10, op := Op.binOp BinOp.neq 33 (Operand.tmp 8) (Operand.tmp 9) 33, type := 4, pos := "l7_record.go:158", after := #[{ on := 4, ground := Ground.data }, { on := 5, ground := Ground.data }], guard := none }) (v := .bool false) rfl (by kernel_rfl) (by kernel_rfl) (by kernel_rfl) (fun _ _ _ h => h) (Or.inl ⟨by rfl, ?_⟩) (by assumption) ?_
  · (intro wq hq; go_simp)
  try simp only [Act.put, List.setIfInBounds_toArray, List.set_cons_zero, List.set_cons_succ]
  refine wpAnyH_done (by kernel_rfl) ?_ _
  go_wp2_with fail
  all_goals (go_end0; exact ⟨rfl, rfl⟩)
set_option maxRecDepth 20000 in
set_option maxHeartbeats 2000000 in
theorem kdef_undo (B P N Y A o : Nat) (n : Int) (y : Sl) (d d0 : Sl × Sl) (v : Value) (u : FrameMode) (w : World) (hK : PK B d v w) (hp0 : w.cell? ⟨P, 0, none⟩ = some (.pointer (some ⟨B, 0, none⟩))) (hn0 : w.cell? ⟨N, 0, none⟩ = some (.int .i64 n)) (LX0 : Lies B o [.int .u64 (((0 : UInt64)).toNat : Int), .int .u64 ((y.q).toNat : Int), .int .u64 ((y.z).toNat : Int), .int .u64 ((y.r.a).toNat : Int), .int .u64 ((y.r.b).toNat : Int), .int .u64 ((y.r.c).toNat : Int), .int .u64 ((y.r.d).toNat : Int)] w) (LY0 : Lies Y 0 [.int .u64 ((y).m.toNat : Int), .int .u64 ((y).q.toNat : Int), .int .u64 ((y).z.toNat : Int), .int .u64 ((y).r.a.toNat : Int), .int .u64 ((y).r.b.toNat : Int), .int .u64 ((y).r.c.toNat : Int), .int .u64 ((y).r.d.toNat : Int)] w)
    (hy : y.m ≠ 0) (LA0 : Lies A 0 [.int .u64 ((d0.1).m.toNat : Int), .int .u64 ((d0.1).q.toNat : Int), .int .u64 ((d0.1).z.toNat : Int), .int .u64 ((d0.1).r.a.toNat : Int), .int .u64 ((d0.1).r.b.toNat : Int), .int .u64 ((d0.1).r.c.toNat : Int), .int .u64 ((d0.1).r.d.toNat : Int), .int .u64 ((d0.2).m.toNat : Int), .int .u64 ((d0.2).q.toNat : Int), .int .u64 ((d0.2).z.toNat : Int), .int .u64 ((d0.2).r.a.toNat : Int), .int .u64 ((d0.2).r.b.toNat : Int), .int .u64 ((d0.2).r.c.toNat : Int), .int .u64 ((d0.2).r.d.toNat : Int)] w) (hPB : P ≠ B)
    (hcs : ∀ V : World, Calls Try.prog 43 #[.pointer (some ⟨B, 0, none⟩), .int .i64 n] V fun e w' => e = .returned (.pointer (some ⟨B, o, none⟩)) ∧ V = w') :
    CallsD Try.prog 42 #[.pointer (some ⟨P, 0, none⟩), .pointer (some ⟨N, 0, none⟩), .pointer (some ⟨Y, 0, none⟩), .pointer (some ⟨A, 0, none⟩)] u w fun e u' w' => u' = u ∧ (e = .returned (.tuple #[]) ∧ PK B d0 (.slice none 0 0) w' ∧ w.grownBy w' (some B)) := by
  have hp := c_drew hp0
  have hn := c_drew hn0
  have LX : Lies B o [.int .u64 (((0 : UInt64)).toNat : Int), .int .u64 ((y.q).toNat : Int), .int .u64 ((y.z).toNat : Int), .int .u64 ((y.r.a).toNat : Int), .int .u64 ((y.r.b).toNat : Int), .int .u64 ((y.r.c).toNat : Int), .int .u64 ((y.r.d).toNat : Int)] w.drew := LX0
  have LY : Lies Y 0 [.int .u64 ((y).m.toNat : Int), .int .u64 ((y).q.toNat : Int), .int .u64 ((y).z.toNat : Int), .int .u64 ((y).r.a.toNat : Int), .int .u64 ((y).r.b.toNat : Int), .int .u64 ((y).r.c.toNat : Int), .int .u64 ((y).r.d.toNat : Int)] w.drew := LY0
  have LA : Lies A 0 [.int .u64 ((d0.1).m.toNat : Int), .int .u64 ((d0.1).q.toNat : Int), .int .u64 ((d0.1).z.toNat : Int), .int .u64 ((d0.1).r.a.toNat : Int), .int .u64 ((d0.1).r.b.toNat : Int), .int .u64 ((d0.1).r.c.toNat : Int), .int .u64 ((d0.1).r.d.toNat : Int), .int .u64 ((d0.2).m.toNat : Int), .int .u64 ((d0.2).q.toNat : Int), .int .u64 ((d0.2).z.toNat : Int), .int .u64 ((d0.2).r.a.toNat : Int), .int .u64 ((d0.2).r.b.toNat : Int), .int .u64 ((d0.2).r.c.toNat : Int), .int .u64 ((d0.2).r.d.toNat : Int)] w.drew := LA0
  have hm : ¬ (0 : Int) = (y.m.toNat : Int) := fun e => hy (UInt64.toNat_inj.1 (by simpa using e.symm))
  have hm2 : ¬ 0 = y.m.toNat := fun e => hm (by rw [← e]; rfl)
  have hm3 : ¬ (0 : UInt64) = y.m := fun e => hy e.symm
  have hK1 := hK.call ((Below.refl w.heap.size w).drew)
  have hR : Room B 0 14 w.drew := hK1.2.2.part 0 14 (by omega)
  have hKD := hK1.disk d0
  have hgr : w.grownBy (w.drew.setCells B 0 [.int .u64 ((d0.1).m.toNat : Int), .int .u64 ((d0.1).q.toNat : Int), .int .u64 ((d0.1).z.toNat : Int), .int .u64 ((d0.1).r.a.toNat : Int), .int .u64 ((d0.1).r.b.toNat : Int), .int .u64 ((d0.1).r.c.toNat : Int), .int .u64 ((d0.1).r.d.toNat : Int), .int .u64 ((d0.2).m.toNat : Int), .int .u64 ((d0.2).q.toNat : Int), .int .u64 ((d0.2).z.toNat : Int), .int .u64 ((d0.2).r.a.toNat : Int), .int .u64 ((d0.2).r.b.toNat : Int), .int .u64 ((d0.2).r.c.toNat : Int), .int .u64 ((d0.2).r.d.toNat : Int)]) (some B) := grownBy_dr (sc_grown w.drew B 0 _)
  have hpz : (w.drew.setCells B 0 [.int .u64 ((d0.1).m.toNat : Int), .int .u64 ((d0.1).q.toNat : Int), .int .u64 ((d0.1).z.toNat : Int), .int .u64 ((d0.1).r.a.toNat : Int), .int .u64 ((d0.1).r.b.toNat : Int), .int .u64 ((d0.1).r.c.toNat : Int), .int .u64 ((d0.1).r.d.toNat : Int), .int .u64 ((d0.2).m.toNat : Int), .int .u64 ((d0.2).q.toNat : Int), .int .u64 ((d0.2).z.toNat : Int), .int .u64 ((d0.2).r.a.toNat : Int), .int .u64 ((d0.2).r.b.toNat : Int), .int .u64 ((d0.2).r.c.toNat : Int), .int .u64 ((d0.2).r.d.toNat : Int)]).cell? ⟨P, 0, none⟩ = some (.pointer (some ⟨B, 0, none⟩)) := (World.cell?_setCells_out B _ 0 w.drew ⟨P, 0, none⟩ (fun e _ => absurd e hPB)).trans hp
  go_enter_d Try.func42, Try.ntmps42
  go_upto_region 0 with fail
  refine wp_region_held_drew (S := fun w' => w'.cell? ⟨P, 0, none⟩ = some (.pointer (some ⟨B, 0, none⟩)) ∧ w'.cell? ⟨N, 0, none⟩ = some (.int .i64 n) ∧ Lies B o [.int .u64 (((0 : UInt64)).toNat : Int), .int .u64 ((y.q).toNat : Int), .int .u64 ((y.z).toNat : Int), .int .u64 ((y.r.a).toNat : Int), .int .u64 ((y.r.b).toNat : Int), .int .u64 ((y.r.c).toNat : Int), .int .u64 ((y.r.d).toNat : Int)] w' ∧ Lies Y 0 [.int .u64 ((y).m.toNat : Int), .int .u64 ((y).q.toNat : Int), .int .u64 ((y).z.toNat : Int), .int .u64 ((y).r.a.toNat : Int), .int .u64 ((y).r.b.toNat : Int), .int .u64 ((y).r.c.toNat : Int), .int .u64 ((y).r.d.toNat : Int)] w') (by kernel_rfl) ⟨hp, hn, LX, LY⟩ (fun hHeld => ?_)
  refine wpAnyH_take (i := 0) (oi := { dst := some 4, op := Op.load 59 (Operand.tmp 0), type := 59, pos := "l7_record.go:158", after := #[], guard := none }) (v := .pointer (some ⟨B, 0, none⟩)) rfl (by kernel_rfl) (by kernel_rfl) (by kernel_rfl) (fun _ _ _ h => h) (Or.inl ⟨by rfl, ?_⟩) (by assumption) ?_
  · (intro wq hq; obtain ⟨q0, q1, -, -⟩ := hq; go_simp)
  try simp only [Act.put, List.setIfInBounds_toArray, List.set_cons_zero, List.set_cons_succ]
  refine wpAnyH_take (i := 1) (oi := { dst := some 5, op := Op.load 3 (Operand.tmp 1), type := 3, pos := "l7_record.go:158", after := #[], guard := none }) (v := .int .i64 n) rfl (by kernel_rfl) (by kernel_rfl) (by kernel_rfl) (fun _ _ _ h => h) (Or.inl ⟨by rfl, ?_⟩) (by assumption) ?_
  · (intro wq hq; obtain ⟨q0, q1, -, -⟩ := hq; go_simp)
  try simp only [Act.put, List.setIfInBounds_toArray, List.set_cons_zero, List.set_cons_succ]
  refine wpAnyH_take (i := 5) (oi := { dst := some 9, op := Op.load 33 (Operand.tmp 2), type := 33, pos := "l7_record.go:158", after := #[], guard := none }) (v := .agg #[.int .u64 ((y).m.toNat : Int), .int .u64 ((y).q.toNat : Int), .int .u64 ((y).z.toNat : Int), .int .u64 ((y).r.a.toNat : Int), .int .u64 ((y).r.b.toNat : Int), .int .u64 ((y).r.c.toNat : Int), .int .u64 ((y).r.d.toNat : Int)]) rfl (by kernel_rfl) (by kernel_rfl) (by kernel_rfl) (fun _ _ _ h => h) (Or.inl ⟨by rfl, ?_⟩) (by assumption) ?_
  · (intro wq hq; exact run_load_op agg_slot Y 0 [.int .u64 ((y).m.toNat : Int), .int .u64 ((y).q.toNat : Int), .int .u64 ((y).z.toNat : Int), .int .u64 ((y).r.a.toNat : Int), .int .u64 ((y).r.b.toNat : Int), .int .u64 ((y).r.c.toNat : Int), .int .u64 ((y).r.d.toNat : Int)] (by kernel_rfl) (by kernel_rfl) hq.2.2.2)
  try simp only [Act.put, List.setIfInBounds_toArray, List.set_cons_zero, List.set_cons_succ]
  refine wpAnyH_ready (rs := [2]) (by kernel_rfl) (by simp) ?_
  refine AllReadyH.cons (o := { dst := some 6, op := Op.call { callee := Callee.value (Operand.func 43), args := #[Operand.tmp 4, Operand.tmp 5], argTypes := #[59, 3] }, type := 83, pos := "l7_record.go:158", after := #[{ on := 0, ground := Ground.data }, { on := 1, ground := Ground.data }], guard := none }) rfl (fun K hK => ?_) AllReadyH.nil
  go_simp
  go_at_call 43
  refine (hcs _).mono ?_
  rintro e w0 ⟨rfl, hw0⟩
  replace hw0 := hw0.symm
  subst hw0
  go_simp
  refine hK.out _ _ hHeld (fun hHeld => ?_)
  clear hK K
  refine wpAnyH_take (i := 3) (oi := { dst := some 7, op := Op.nilCheck (Operand.tmp 6), type := 0, pos := "l7_record.go:158", after := #[{ on := 2, ground := Ground.data }], guard := none }) (v := .pointer (some ⟨B, o, none⟩)) rfl (by kernel_rfl) (by kernel_rfl) (by kernel_rfl) (fun _ _ _ h => h) (Or.inl ⟨by rfl, ?_⟩) (by assumption) ?_
  · (intro wq hq; go_simp)
  try simp only [Act.put, List.setIfInBounds_toArray, List.set_cons_zero, List.set_cons_succ]
  refine wpAnyH_take (i := 4) (oi := { dst := some 8, op := Op.load 33 (Operand.tmp 7), type := 33, pos := "l7_record.go:158", after := #[{ on := 3, ground := Ground.data }], guard := none }) (v := .agg #[.int .u64 (((0 : UInt64)).toNat : Int), .int .u64 ((y.q).toNat : Int), .int .u64 ((y.z).toNat : Int), .int .u64 ((y.r.a).toNat : Int), .int .u64 ((y.r.b).toNat : Int), .int .u64 ((y.r.c).toNat : Int), .int .u64 ((y.r.d).toNat : Int)]) rfl (by kernel_rfl) (by kernel_rfl) (by kernel_rfl) (fun _ _ _ h => h) (Or.inl ⟨by rfl, ?_⟩) (by assumption) ?_
  · (intro wq hq; exact run_load_op agg_slot B o [.int .u64 (((0 : UInt64)).toNat : Int), .int .u64 ((y.q).toNat : Int), .int .u64 ((y.z).toNat : Int), .int .u64 ((y.r.a).toNat : Int), .int .u64 ((y.r.b).toNat : Int), .int .u64 ((y.r.c).toNat : Int), .int .u64 ((y.r.d).toNat : Int)] (by kernel_rfl) (by kernel_rfl) hq.2.2.1)
  try simp only [Act.put, List.setIfInBounds_toArray, List.set_cons_zero, List.set_cons_succ]
  refine wpAnyH_take (i := 6) (oi := { dst := some 10, op := Op.binOp BinOp.neq 33 (Operand.tmp 8) (Operand.tmp 9) 33, type := 4, pos := "l7_record.go:158", after := #[{ on := 4, ground := Ground.data }, { on := 5, ground := Ground.data }], guard := none }) (v := .bool true) rfl (by kernel_rfl) (by kernel_rfl) (by kernel_rfl) (fun _ _ _ h => h) (Or.inl ⟨by rfl, ?_⟩) (by assumption) ?_
  · (intro wq hq; go_simp)
  try simp only [Act.put, List.setIfInBounds_toArray, List.set_cons_zero, List.set_cons_succ]
  refine wpAnyH_done (by kernel_rfl) ?_ _
  clear hHeld
  go_wp2_with (first
    | (with_reducible refine wpl_load agg_disk A 0 [.int .u64 ((d0.1).m.toNat : Int), .int .u64 ((d0.1).q.toNat : Int), .int .u64 ((d0.1).z.toNat : Int), .int .u64 ((d0.1).r.a.toNat : Int), .int .u64 ((d0.1).r.b.toNat : Int), .int .u64 ((d0.1).r.c.toNat : Int), .int .u64 ((d0.1).r.d.toNat : Int), .int .u64 ((d0.2).m.toNat : Int), .int .u64 ((d0.2).q.toNat : Int), .int .u64 ((d0.2).z.toNat : Int), .int .u64 ((d0.2).r.a.toNat : Int), .int .u64 ((d0.2).r.b.toNat : Int), .int .u64 ((d0.2).r.c.toNat : Int), .int .u64 ((d0.2).r.d.toNat : Int)] (by kernel_rfl) (by kernel_rfl) LA ?_)
    | (with_reducible refine wpl_store agg_disk B 0 [.int .u64 ((d0.1).m.toNat : Int), .int .u64 ((d0.1).q.toNat : Int), .int .u64 ((d0.1).z.toNat : Int), .int .u64 ((d0.1).r.a.toNat : Int), .int .u64 ((d0.1).r.b.toNat : Int), .int .u64 ((d0.1).r.c.toNat : Int), .int .u64 ((d0.1).r.d.toNat : Int), .int .u64 ((d0.2).m.toNat : Int), .int .u64 ((d0.2).q.toNat : Int), .int .u64 ((d0.2).z.toNat : Int), .int .u64 ((d0.2).r.a.toNat : Int), .int .u64 ((d0.2).r.b.toNat : Int), .int .u64 ((d0.2).r.c.toNat : Int), .int .u64 ((d0.2).r.d.toNat : Int)] (by kernel_rfl) (by kernel_rfl) (by kernel_rfl) (by kernel_rfl) hR ?_; generalize w.drew.setCells B 0 [.int .u64 ((d0.1).m.toNat : Int), .int .u64 ((d0.1).q.toNat : Int), .int .u64 ((d0.1).z.toNat : Int), .int .u64 ((d0.1).r.a.toNat : Int), .int .u64 ((d0.1).r.b.toNat : Int), .int .u64 ((d0.1).r.c.toNat : Int), .int .u64 ((d0.1).r.d.toNat : Int), .int .u64 ((d0.2).m.toNat : Int), .int .u64 ((d0.2).q.toNat : Int), .int .u64 ((d0.2).z.toNat : Int), .int .u64 ((d0.2).r.a.toNat : Int), .int .u64 ((d0.2).r.b.toNat : Int), .int .u64 ((d0.2).r.c.toNat : Int), .int .u64 ((d0.2).r.d.toNat : Int)] = wz at hKD hgr hpz ⊢; have c21 := hKD.cell 21 v rfl; have f21 := hKD.free 21 (by omega)))
  all_goals go_end0
  all_goals exact ⟨rfl, hKD.done _, hgr.trans2B (sc_grown wz B 21 [.slice none 0 0])⟩
end Go.Proofs.Ytbmkknbbikoilaa
