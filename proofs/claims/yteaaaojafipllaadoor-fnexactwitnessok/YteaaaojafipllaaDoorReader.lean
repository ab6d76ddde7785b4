/-
  The reader of a slot's sum: its block, and its table, which is made once.
-/
import Derived.Test.YteaaaojafipllaaDoorJoinB34
import Derived.Laws.LoneSync
import Derived.RegionTactic
import Derived.RegionCalls
import Derived.ChangeAlike
import Derived.Laws.NewBlocks
namespace Go.Proofs.YteaaaojafipllaaDoor
open Go.RowKit Go.MuLone

/-- The block B has a reader of the slot s: the Once's word k, its lock's word l, the table t. -/
def Rr (B : Nat) (s : Sl) (k l : Int) (t : Sl) (W : World) : Prop :=
  SB B s W ∧ W.cell? ⟨B, 7, none⟩ = some (.int .u32 k) ∧ W.cell? ⟨B, 8, none⟩ = some (.int .i32 l) ∧
    (W.cell? ⟨B, 10, none⟩ = some (.int .u64 ((t.m).toNat : Int)) ∧ W.cell? ⟨B, 11, none⟩ = some (.int .u64 ((t.q).toNat : Int)) ∧ W.cell? ⟨B, 12, none⟩ = some (.int .u64 ((t.z).toNat : Int)) ∧ W.cell? ⟨B, 13, none⟩ = some (.int .u64 ((t.r.a).toNat : Int)) ∧ W.cell? ⟨B, 14, none⟩ = some (.int .u64 ((t.r.b).toNat : Int)) ∧ W.cell? ⟨B, 15, none⟩ = some (.int .u64 ((t.r.c).toNat : Int)) ∧ W.cell? ⟨B, 16, none⟩ = some (.int .u64 ((t.r.d).toNat : Int))) ∧
    ∀ i, i < 17 → W.frozen? ⟨B, i, none⟩ = false
theorem Rr.grown {B : Nat} {s t : Sl} {k l : Int} {W W' : World} {row : Option Nat} (h : Rr B s k l t W) (hg : W.grownBy W' row) (hr : row ≠ some B) : Rr B s k l t W' := by
  obtain ⟨⟨h0, a0, a1, a2, a3, a4, a5, a6⟩, h7, h8, ⟨t0, t1, t2, t3, t4, t5, t6⟩, hf⟩ := h
  have hb : W'.heap[B]? = W.heap[B]? := hg.block B h0 (fun e => hr e.symm)
  have e : ∀ i, W'.cell? ⟨B, i, none⟩ = W.cell? ⟨B, i, none⟩ := fun i => World.cell?_of_block (w := W) (a := ⟨B, i, none⟩) hb
  have f : ∀ i, W'.frozen? ⟨B, i, none⟩ = W.frozen? ⟨B, i, none⟩ := fun i => World.frozen?_of_block (w := W) (a := ⟨B, i, none⟩) hb
  exact ⟨⟨Nat.lt_of_lt_of_le h0 hg.size, (e _).trans a0, (e _).trans a1, (e _).trans a2, (e _).trans a3, (e _).trans a4, (e _).trans a5, (e _).trans a6⟩, (e _).trans h7, (e _).trans h8, ⟨(e _).trans t0, (e _).trans t1, (e _).trans t2, (e _).trans t3, (e _).trans t4, (e _).trans t5, (e _).trans t6⟩, fun i hi => (f i).trans (hf i hi)⟩
theorem Rr.call {B : Nat} {s t : Sl} {k l : Int} {W W' : World} (h : Rr B s k l t W) (hb : Below W.heap.size W W') : Rr B s k l t W' :=
  h.grown (row := none) ⟨hb.os, hb.tape, hb.output, hb.size, fun k hk _ => hb.block k hk⟩ (fun e => by cases e)
theorem Rr.word {B : Nat} {s t : Sl} {k l : Int} {W : World} (h : Rr B s k l t W) (k' : Int) : Rr B s k' l t (W.setCell ⟨B, 7, none⟩ (.int .u32 k')) := by
  obtain ⟨⟨h0, a0, a1, a2, a3, a4, a5, a6⟩, h7, h8, ⟨t0, t1, t2, t3, t4, t5, t6⟩, hf⟩ := h
  exact ⟨⟨by simp only [World.size_setCell]; exact h0, (set_off (by omega)).trans a0, (set_off (by omega)).trans a1, (set_off (by omega)).trans a2, (set_off (by omega)).trans a3, (set_off (by omega)).trans a4, (set_off (by omega)).trans a5, (set_off (by omega)).trans a6⟩, set_same (by rw [h7]; rfl), (set_off (by omega)).trans h8, ⟨(set_off (by omega)).trans t0, (set_off (by omega)).trans t1, (set_off (by omega)).trans t2, (set_off (by omega)).trans t3, (set_off (by omega)).trans t4, (set_off (by omega)).trans t5, (set_off (by omega)).trans t6⟩, fun i hi => by rw [World.frozen?_setCell]; exact hf i hi⟩
theorem Rr.lock {B : Nat} {s t : Sl} {k l : Int} {W : World} (h : Rr B s k l t W) (l' : Int) : Rr B s k l' t (W.setCell ⟨B, 8, none⟩ (.int .i32 l')) := by
  obtain ⟨⟨h0, a0, a1, a2, a3, a4, a5, a6⟩, h7, h8, ⟨t0, t1, t2, t3, t4, t5, t6⟩, hf⟩ := h
  exact ⟨⟨by simp only [World.size_setCell]; exact h0, (set_off (by omega)).trans a0, (set_off (by omega)).trans a1, (set_off (by omega)).trans a2, (set_off (by omega)).trans a3, (set_off (by omega)).trans a4, (set_off (by omega)).trans a5, (set_off (by omega)).trans a6⟩, (set_off (by omega)).trans h7, set_same (by rw [h8]; rfl), ⟨(set_off (by omega)).trans t0, (set_off (by omega)).trans t1, (set_off (by omega)).trans t2, (set_off (by omega)).trans t3, (set_off (by omega)).trans t4, (set_off (by omega)).trans t5, (set_off (by omega)).trans t6⟩, fun i hi => by rw [World.frozen?_setCell]; exact hf i hi⟩
theorem Rr.drew {B : Nat} {s t : Sl} {k l : Int} {W : World} (h : Rr B s k l t W) : Rr B s k l t W.drew := h.call ((Below.refl _ _).drew)
theorem c_off {w : World} {b i j : Nat} {v x : Value} (h : w.cell? ⟨b, j, none⟩ = some v) (hb : i ≠ j) : (w.setCell ⟨b, i, none⟩ x).cell? ⟨b, j, none⟩ = some v := (set_off hb).trans h
theorem Rr.table {B : Nat} {s t : Sl} {k l : Int} {W : World} (h : Rr B s k l t W) (y : Sl) :
    Rr B s k l y (((((((W.setCell ⟨B, 10, none⟩ (.int .u64 ((y.m).toNat : Int))).setCell ⟨B, 11, none⟩ (.int .u64 ((y.q).toNat : Int))).setCell ⟨B, 12, none⟩ (.int .u64 ((y.z).toNat : Int))).setCell ⟨B, 13, none⟩ (.int .u64 ((y.r.a).toNat : Int))).setCell ⟨B, 14, none⟩ (.int .u64 ((y.r.b).toNat : Int))).setCell ⟨B, 15, none⟩ (.int .u64 ((y.r.c).toNat : Int))).setCell ⟨B, 16, none⟩ (.int .u64 ((y.r.d).toNat : Int))) := by
  obtain ⟨⟨h0, a0, a1, a2, a3, a4, a5, a6⟩, h7, h8, ⟨t0, t1, t2, t3, t4, t5, t6⟩, hf⟩ := h
  have keep : ∀ j v, j < 10 → W.cell? ⟨B, j, none⟩ = some v → (((((((W.setCell ⟨B, 10, none⟩ (.int .u64 ((y.m).toNat : Int))).setCell ⟨B, 11, none⟩ (.int .u64 ((y.q).toNat : Int))).setCell ⟨B, 12, none⟩ (.int .u64 ((y.z).toNat : Int))).setCell ⟨B, 13, none⟩ (.int .u64 ((y.r.a).toNat : Int))).setCell ⟨B, 14, none⟩ (.int .u64 ((y.r.b).toNat : Int))).setCell ⟨B, 15, none⟩ (.int .u64 ((y.r.c).toNat : Int))).setCell ⟨B, 16, none⟩ (.int .u64 ((y.r.d).toNat : Int))).cell? ⟨B, j, none⟩ = some v := fun j v hj hv =>
    c_off (c_off (c_off (c_off (c_off (c_off (c_off hv (by omega)) (by omega)) (by omega)) (by omega)) (by omega)) (by omega)) (by omega)
  refine ⟨⟨by simp only [World.size_setCell]; exact h0, keep _ _ (by omega) a0, keep _ _ (by omega) a1, keep _ _ (by omega) a2, keep _ _ (by omega) a3, keep _ _ (by omega) a4, keep _ _ (by omega) a5, keep _ _ (by omega) a6⟩, keep _ _ (by omega) h7, keep _ _ (by omega) h8, ⟨?_, ?_, ?_, ?_, ?_, ?_, ?_⟩, fun i hi => by simp only [World.frozen?_setCell]; exact hf i hi⟩
  · exact c_off (c_off (c_off (c_off (c_off (c_off (set_same (by rw [t0]; rfl)) (by omega)) (by omega)) (by omega)) (by omega)) (by omega)) (by omega)
  · exact c_off (c_off (c_off (c_off (c_off (set_same (by rw [set_off (by omega), t1]; rfl)) (by omega)) (by omega)) (by omega)) (by omega)) (by omega)
  · exact c_off (c_off (c_off (c_off (set_same (by rw [set_off (by omega), set_off (by omega), t2]; rfl)) (by omega)) (by omega)) (by omega)) (by omega)
  · exact c_off (c_off (c_off (set_same (by rw [set_off (by omega), set_off (by omega), set_off (by omega), t3]; rfl)) (by omega)) (by omega)) (by omega)
  · exact c_off (c_off (set_same (by rw [set_off (by omega), set_off (by omega), set_off (by omega), set_off (by omega), t4]; rfl)) (by omega)) (by omega)
  · exact c_off (set_same (by rw [set_off (by omega), set_off (by omega), set_off (by omega), set_off (by omega), set_off (by omega), t5]; rfl)) (by omega)
  · exact set_same (by rw [set_off (by omega), set_off (by omega), set_off (by omega), set_off (by omega), set_off (by omega), set_off (by omega), t6]; rfl)
theorem grownB_drew {W W' : World} {r : Option Nat} (h : W.grownBy W' r) : W.grownBy W'.drew r := ⟨h.os, h.tape, h.output, h.size, h.block⟩
theorem _root_.Go.World.grownBy.trans2B {W W1 W2 : World} {r : Option Nat} (h : W.grownBy W1 r) (h' : W1.grownBy W2 r) : W.grownBy W2 r :=
  ⟨h'.os.trans h.os, h'.tape.trans h.tape, h'.output.trans h.output, Nat.le_trans h.size h'.size, fun k hk hne => (h'.block k (Nat.lt_of_lt_of_le hk h.size) hne).trans (h.block k hk hne)⟩
theorem grownB_set {W0 W : World} {B : Nat} (h : W0.grownBy W (some B)) (o : Nat) (x : Value) : W0.grownBy (W.setCell ⟨B, o, none⟩ x) (some B) :=
  ⟨h.os, h.tape, h.output, by simp only [World.size_setCell]; exact h.size, fun k hk hne => (Below.heap_setCell _ _ _ _ (fun e => hne (by rw [e]))).trans (h.block k hk hne)⟩
theorem Rr.cell {B : Nat} {s t : Sl} {k l : Int} {W : World} (h : Rr B s k l t W) : B < W.heap.size := h.1.1

set_option maxHeartbeats 1000000 in
/-- A reader made of a slot. -/
theorem reader_is (s : Sl) (w : World) :
    Calls Tryd.prog 44 #[.agg #[.int .u64 ((s).m.toNat : Int), .int .u64 ((s).q.toNat : Int), .int .u64 ((s).z.toNat : Int), .int .u64 ((s).r.a.toNat : Int), .int .u64 ((s).r.b.toNat : Int), .int .u64 ((s).r.c.toNat : Int), .int .u64 ((s).r.d.toNat : Int)]] w fun e w' => ∃ B : Nat, e = .returned (.pointer (some ⟨B, 0, none⟩)) ∧ w.heap.size ≤ B ∧ Rr B s 0 0 ⟨0, 0, 0, ⟨0, 0, 0, 0⟩⟩ w' ∧ Below w.heap.size w w' := by
  go_enter Tryd.func44, Tryd.ntmps44
  go_wp2
  go_ret
  refine ⟨_, rfl, by omega, ⟨⟨?_, ?_, ?_, ?_, ?_, ?_, ?_, ?_⟩, ?_, ?_, ⟨?_, ?_, ?_, ?_, ?_, ?_, ?_⟩, fun i hi => ?_⟩, (by repeat' (first | (with_reducible exact Below.refl _ _) | (with_reducible assumption) | (with_reducible refine below_drewN ?_ _) | (with_reducible refine Below.setCell ?_ ?_ _) | (with_reducible refine Below.alloc ?_ ?_ _) | (with_reducible refine Below.drew ?_) | go_size))⟩ <;> first | (simp [go_sem]; done) | (simp [go_sem]; omega) | skip
/-- The Once's word, read. -/
theorem bload_is (B : Nat) (k : Int) (b : Bool) (hb : b = (k != 0)) (w : World) (hc : w.cell? ⟨B, 7, none⟩ = some (.int .u32 k)) :
    Calls Tryd.prog 66 #[.pointer (some ⟨B, 7, none⟩)] w fun e w' => e = .returned (.bool b) ∧ w' = w := by
  subst hb
  have hd := run_call_load (P := Tryd.prog) Tryd.func73 (by kernel_rfl) (by kernel_rfl) (by kernel_rfl) .u32 (by kernel_rfl) hc
  go_enter Tryd.func66, Tryd.ntmps66
  go_wp2
  go_ret
  exact ⟨rfl, rfl⟩
/-- The Once's word is laid by a deferred call. -/
theorem store_deferred (B : Nat) (x : Value) (u : FrameMode) (w : World) (hc : w.cell? ⟨B, 7, none⟩ = some x) (hz : w.frozen? ⟨B, 7, none⟩ = false) :
    CallsD Tryd.prog 76 #[.pointer (some ⟨B, 7, none⟩), .bool true] u w fun e u' w' => u' = u ∧ (e = .returned (.tuple #[]) ∧ w' = w.drew.setCell ⟨B, 7, none⟩ (.int .u32 1)) := by
  have hc' : w.drew.cell? ⟨B, 7, none⟩ = some x := by go_simp
  have hz' : w.drew.frozen? ⟨B, 7, none⟩ = false := by go_simp
  have hst := run_call_store (P := Tryd.prog) Tryd.func81 (by kernel_rfl) (by kernel_rfl) (by kernel_rfl) (by kernel_rfl) (k := .u32) (y := 1) hc' hz'
  go_enter_d Tryd.func76, Tryd.ntmps76
  go_wp2
  go_region_calls
  all_goals (go_end0; exact ⟨rfl, rfl⟩)

set_option maxRecDepth 20000 in
set_option maxHeartbeats 2000000 in
/-- The table is made, by the function that the Once is handed. -/
theorem wclos_is (B P : Nat) (s t : Sl) (w : World) (h : Rr B s 0 1 t w) (hp : w.cell? ⟨P, 0, none⟩ = some (.pointer (some ⟨B, 0, none⟩))) (hne : P ≠ B) (hP : P < w.heap.size) :
    Calls Tryd.prog 57 #[.pointer (some ⟨P, 0, none⟩)] w fun e w' => e = .returned (.tuple #[]) ∧ Rr B s 0 1 s w' ∧ w.grownBy w' (some B) := by
  have hb0 : Below w.heap.size w (w.alloc (.cells #[Value.int IntKind.u64 ((s.r).a.toNat : Int), Value.int IntKind.u64 ((s.r).b.toNat : Int), Value.int IntKind.u64 ((s.r).c.toNat : Int), Value.int IntKind.u64 ((s.r).d.toNat : Int)] 34)) := (Below.refl _ _).alloc (Nat.le_refl _) _
  have hR := h.call hb0
  have hp' := (hb0.cell (p := ⟨P, 0, none⟩) hP).trans hp
  have hg : w.grownBy (w.alloc (.cells #[Value.int IntKind.u64 ((s.r).a.toNat : Int), Value.int IntKind.u64 ((s.r).b.toNat : Int), Value.int IntKind.u64 ((s.r).c.toNat : Int), Value.int IntKind.u64 ((s.r).d.toNat : Int)] 34)) (some B) := World.grownBy_alloc w _ _
  have hr : (w.alloc (.cells #[Value.int IntKind.u64 ((s.r).a.toNat : Int), Value.int IntKind.u64 ((s.r).b.toNat : Int), Value.int IntKind.u64 ((s.r).c.toNat : Int), Value.int IntKind.u64 ((s.r).d.toNat : Int)] 34)).cell? ⟨w.heap.size, 0, none⟩ = some (.int .u64 ((s.r.a).toNat : Int)) ∧ (w.alloc (.cells #[Value.int IntKind.u64 ((s.r).a.toNat : Int), Value.int IntKind.u64 ((s.r).b.toNat : Int), Value.int IntKind.u64 ((s.r).c.toNat : Int), Value.int IntKind.u64 ((s.r).d.toNat : Int)] 34)).cell? ⟨w.heap.size, 1, none⟩ = some (.int .u64 ((s.r.b).toNat : Int)) ∧ (w.alloc (.cells #[Value.int IntKind.u64 ((s.r).a.toNat : Int), Value.int IntKind.u64 ((s.r).b.toNat : Int), Value.int IntKind.u64 ((s.r).c.toNat : Int), Value.int IntKind.u64 ((s.r).d.toNat : Int)] 34)).cell? ⟨w.heap.size, 2, none⟩ = some (.int .u64 ((s.r.c).toNat : Int)) ∧ (w.alloc (.cells #[Value.int IntKind.u64 ((s.r).a.toNat : Int), Value.int IntKind.u64 ((s.r).b.toNat : Int), Value.int IntKind.u64 ((s.r).c.toNat : Int), Value.int IntKind.u64 ((s.r).d.toNat : Int)] 34)).cell? ⟨w.heap.size, 3, none⟩ = some (.int .u64 ((s.r.d).toNat : Int)) := by
    refine ⟨?_, ?_, ?_, ?_⟩ <;> simp [go_sem]
  obtain ⟨⟨h0, a0, a1, a2, a3, a4, a5, a6⟩, -⟩ := id h
  go_enter Tryd.func57, Tryd.ntmps57
  go_wp2
  clear a0 a1 a2 a3 a4 a5 a6 hb0 hp h
  generalize w.alloc (.cells #[Value.int IntKind.u64 ((s.r).a.toNat : Int), Value.int IntKind.u64 ((s.r).b.toNat : Int), Value.int IntKind.u64 ((s.r).c.toNat : Int), Value.int IntKind.u64 ((s.r).d.toNat : Int)] 34) = V at hR hp' hg hr ⊢
  obtain ⟨⟨h0', a0, a1, a2, a3, a4, a5, a6⟩, h7, h8, ⟨t0, t1, t2, t3, t4, t5, t6⟩, hf⟩ := id hR
  obtain ⟨r0, r1, r2, r3⟩ := hr
  have f0 := hf 10 (by omega)
  have f1 := hf 11 (by omega)
  have f2 := hf 12 (by omega)
  have f3 := hf 13 (by omega)
  have f4 := hf 14 (by omega)
  have f5 := hf 15 (by omega)
  have f6 := hf 16 (by omega)
  have nb : w.heap.size ≠ B := by omega
  have nb' : B ≠ w.heap.size := by omega
  have nP' : B ≠ P := fun e => hne e.symm
  clear hf a3 a4 a5 a6 h7 h8
  go_region_held3 (fun w' => w'.cell? ⟨P, 0, none⟩ = some (.pointer (some ⟨B, 0, none⟩)) ∧ w'.cell? ⟨B, 0, none⟩ = some (.int .u64 ((s.m).toNat : Int)) ∧ w'.cell? ⟨B, 1, none⟩ = some (.int .u64 ((s.q).toNat : Int)) ∧ w'.cell? ⟨B, 2, none⟩ = some (.int .u64 ((s.z).toNat : Int)) ∧ w'.cell? ⟨w.heap.size, 0, none⟩ = some (.int .u64 ((s.r.a).toNat : Int)) ∧ w'.cell? ⟨w.heap.size, 1, none⟩ = some (.int .u64 ((s.r.b).toNat : Int)) ∧ w'.cell? ⟨w.heap.size, 2, none⟩ = some (.int .u64 ((s.r.c).toNat : Int)) ∧ w'.cell? ⟨w.heap.size, 3, none⟩ = some (.int .u64 ((s.r.d).toNat : Int))) ((refine ⟨?_, ?_, ?_, ?_, ?_, ?_, ?_, ?_⟩ <;> (repeat (first | (with_reducible assumption) | (with_reducible refine c_off ?_ (by omega)) | (with_reducible refine c_set ?_ (by with_reducible assumption)) | (with_reducible refine c_drew ?_))))) (fail)
  go_wp2
  go_end0
  have hgg := grownB_set (grownB_set (grownB_set (grownB_set (grownB_set (grownB_set (grownB_set hg 10 (.int .u64 ((s.m).toNat : Int))) 11 (.int .u64 ((s.q).toNat : Int))) 12 (.int .u64 ((s.z).toNat : Int))) 13 (.int .u64 ((s.r.a).toNat : Int))) 14 (.int .u64 ((s.r.b).toNat : Int))) 15 (.int .u64 ((s.r.c).toNat : Int))) 16 (.int .u64 ((s.r.d).toNat : Int))
  have hT := (hR.table s).drew
  exact ⟨rfl, hT, grownB_drew hgg⟩
end Go.Proofs.YteaaaojafipllaaDoor
