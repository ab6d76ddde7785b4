/-
  The Once of a reader, and its words.
-/
import Derived.Test.YteaaaojafipllaaDoorReader
namespace Go.Proofs.YteaaaojafipllaaDoor
open Go.RowKit Go.MuLone

set_option maxRecDepth 100000 in
set_option maxHeartbeats 1600000 in
theorem slow_is (B P : Nat) (s t : Sl) (w : World) (h : Rr B s 0 0 t w) (hp : w.cell? ⟨P, 0, none⟩ = some (.pointer (some ⟨B, 0, none⟩))) (hne : P ≠ B) (hP : P < w.heap.size) :
    Calls Tryd.prog 67 #[.pointer (some ⟨B, 7, none⟩), .func (.func 57) #[] #[.pointer (some ⟨P, 0, none⟩)]] w fun e w' => e = .returned (.tuple #[]) ∧ Rr B s 1 0 s w' ∧ w.grownBy w' (some B) := by
  have h1 := h.lock 1
  have g1 : w.grownBy (w.setCell ⟨B, 8, none⟩ (.int .i32 1)) (some B) := grownB_set ⟨rfl, rfl, rfl, Nat.le_refl _, fun _ _ _ => rfl⟩ 8 _
  have cl := lock_free muLib ⟨B, 8, none⟩ w h.2.2.1 (h.2.2.2.2 8 (by omega))
  have cb := bload_is B 0 false rfl (w.setCell ⟨B, 8, none⟩ (.int .i32 1)) h1.2.1
  have cc := wclos_is B P s t (w.setCell ⟨B, 8, none⟩ (.int .i32 1)) h1 (c_set hp (by show B ≠ P; exact fun e => hne e.symm)) hne (by simp only [World.size_setCell]; exact hP)
  generalize hW : w.setCell ⟨B, 8, none⟩ (.int .i32 1) = W at h1 g1 cl cb cc
  have hnot : ∀ (x : Bool) (w : World), (Op.unary .not (.bool x)).run Tryd.prog w = .ok (.bool (!x)) w := fun _ _ => rfl
  clear hW h hp
  go_enter_defers Tryd.func67, Tryd.ntmps67
  go_wp2_with (first
    | (go_at_call 74; refine cl.mono ?_; rintro e w1 ⟨rfl, hw⟩; subst hw)
    | (go_at_call 66; refine cb.mono ?_; rintro e w1 ⟨rfl, hw⟩; subst hw)
    | (go_at_call 57; refine cc.mono ?_; rintro e w2 ⟨rfl, h2, g2⟩))
  have h3 := h2.drew.word 1
  have h4 := h3.lock 0
  have g4 := grownB_set (grownB_set (grownB_drew (g1.trans2B g2)) 7 (.int .u32 1)) 8 (.int .i32 0)
  refine leaves_cons (f := 76) (args := #[.pointer (some ⟨B, 7, none⟩), .bool true]) (by simp) (by simp [go_sem]) ?_
  refine (store_deferred B _ .returning _ h2.2.1 (h2.2.2.2.2 7 (by omega))).mono ?_
  rintro e u' w'' ⟨rfl, rfl, rfl⟩
  refine leaves_cons (f := 75) (args := #[.pointer (some ⟨B, 8, none⟩)]) (by simp [settle]) (by simp [go_sem]) ?_
  refine (unlock_deferred muLib ⟨B, 8, none⟩ _ _ h3.2.2.1 (h3.2.2.2.2 8 (by omega))).mono ?_
  rintro e u' w'' ⟨rfl, rfl, rfl⟩
  simp [Leaves, settle, results, Tryd.results67]
  exact ⟨h4, g4⟩

set_option maxRecDepth 100000 in
set_option maxHeartbeats 1600000 in
theorem do_first (B P : Nat) (s t : Sl) (w : World) (h : Rr B s 0 0 t w) (hp : w.cell? ⟨P, 0, none⟩ = some (.pointer (some ⟨B, 0, none⟩))) (hne : P ≠ B) (hP : P < w.heap.size) :
    Calls Tryd.prog 56 #[.pointer (some ⟨B, 7, none⟩), .func (.func 57) #[] #[.pointer (some ⟨P, 0, none⟩)]] w fun e w' => e = .returned (.tuple #[]) ∧ Rr B s 1 0 s w' ∧ w.grownBy w' (some B) := by
  have cb := bload_is B 0 false rfl w h.2.1
  have cs := slow_is B P s t w h hp hne hP
  have hnot : ∀ (x : Bool) (w : World), (Op.unary .not (.bool x)).run Tryd.prog w = .ok (.bool (!x)) w := fun _ _ => rfl
  clear h hp
  go_enter Tryd.func56, Tryd.ntmps56
  go_wp2_with (first
    | (go_at_call 66; refine cb.mono ?_; rintro e w1 ⟨rfl, hw⟩; replace hw := hw.symm; subst hw)
    | (go_at_call 67; refine cs.mono ?_; rintro e w2 ⟨rfl, h2, g2⟩))
  go_end0
  exact ⟨rfl, h2, g2⟩
theorem do_done (B : Nat) (s t : Sl) (fv : Value) (w : World) (h : Rr B s 1 0 t w) :
    Calls Tryd.prog 56 #[.pointer (some ⟨B, 7, none⟩), fv] w fun e w' => e = .returned (.tuple #[]) ∧ w' = w := by
  have cb := bload_is B 1 true rfl w h.2.1
  have hnot : ∀ (x : Bool) (w : World), (Op.unary .not (.bool x)).run Tryd.prog w = .ok (.bool (!x)) w := fun _ _ => rfl
  clear h
  go_enter Tryd.func56, Tryd.ntmps56
  go_wp2_with (go_at_call 66; refine cb.mono ?_; rintro e w1 ⟨rfl, hw⟩; replace hw := hw.symm; subst hw)
  go_end0
  exact ⟨rfl, rfl⟩
theorem Rr.far {B X : Nat} {s t : Sl} {k l : Int} {W : World} (h : Rr B s k l t W) (hX : X ≠ B) (o : Nat) (x : Value) : Rr B s k l t (W.setCell ⟨X, o, none⟩ x) :=
  h.grown (grownB_set ⟨rfl, rfl, rfl, Nat.le_refl _, fun _ _ _ => rfl⟩ o x) (fun e => by injection e with e; exact hX e)
theorem grown_far {W0 W : World} {r : Option Nat} (h : W0.grownBy W r) {X : Nat} (hX : W0.heap.size ≤ X) (o : Nat) (x : Value) : W0.grownBy (W.setCell ⟨X, o, none⟩ x) r :=
  ⟨h.os, h.tape, h.output, by simp only [World.size_setCell]; exact h.size, fun k hk hne => (Below.heap_setCell _ _ _ _ (by show k ≠ X; omega)).trans (h.block k hk hne)⟩
theorem gg7 {W0 W : World} {r : Option Nat} (h : W0.grownBy W r) {X : Nat} (hX : W0.heap.size ≤ X) (x0 x1 x2 x3 x4 x5 x6 : Value) :
    W0.grownBy (((((((W.setCell ⟨X, 0, none⟩ x0).setCell ⟨X, 1, none⟩ x1).setCell ⟨X, 2, none⟩ x2).setCell ⟨X, 3, none⟩ x3).setCell ⟨X, 4, none⟩ x4).setCell ⟨X, 5, none⟩ x5).setCell ⟨X, 6, none⟩ x6) r :=
  grown_far (grown_far (grown_far (grown_far (grown_far (grown_far (grown_far h hX _ _) hX _ _) hX _ _) hX _ _) hX _ _) hX _ _) hX _ _
set_option maxRecDepth 100000 in
set_option maxHeartbeats 1600000 in
/-- The words of a reader, asked for first. -/
theorem words_first (B : Nat) (s t : Sl) (w : World) (h : Rr B s 0 0 t w) :
    Calls Tryd.prog 49 #[.pointer (some ⟨B, 0, none⟩)] w fun e w' => e = .returned (.agg #[.int .u64 ((s).m.toNat : Int), .int .u64 ((s).q.toNat : Int), .int .u64 ((s).z.toNat : Int), .int .u64 ((s).r.a.toNat : Int), .int .u64 ((s).r.b.toNat : Int), .int .u64 ((s).r.c.toNat : Int), .int .u64 ((s).r.d.toNat : Int)]) ∧ Rr B s 1 0 s w' ∧ w.grownBy w' (some B) := by
  have hmf : ∀ (fn : Fn) (first cap : Array Value) (w : World), (Instr.makeFunc fn first cap).run Tryd.prog w = .ok (.func fn first cap) w := fun _ _ _ _ => rfl
  have hlt := h.cell
  obtain ⟨V, hV⟩ : ∃ V, V = (w.alloc (.cells #[.pointer (some ⟨B, 0, none⟩)] 92)).alloc (.cells #[Value.int IntKind.u64 0, Value.int IntKind.u64 0, Value.int IntKind.u64 0, Value.int IntKind.u64 0, Value.int IntKind.u64 0, Value.int IntKind.u64 0, Value.int IntKind.u64 0] 112) := ⟨_, rfl⟩
  have hb0 : Below w.heap.size w V := by rw [hV]; exact (by repeat' (first | (with_reducible exact Below.refl _ _) | (with_reducible assumption) | (with_reducible refine below_drewN ?_ _) | (with_reducible refine Below.setCell ?_ ?_ _) | (with_reducible refine Below.alloc ?_ ?_ _) | (with_reducible refine Below.drew ?_) | go_size))
  have hp : V.cell? ⟨w.heap.size, 0, none⟩ = some (.pointer (some ⟨B, 0, none⟩)) := by rw [hV]; simp [go_sem]
  have hsz : V.heap.size = w.heap.size + 1 + 1 := by rw [hV]; simp
  have hz : ∀ i, i < 7 → V.cell? ⟨w.heap.size + 1, i, none⟩ = some (.int .u64 0) := by
    intro i hi
    rw [hV]
    obtain rfl | rfl | rfl | rfl | rfl | rfl | rfl : i = 0 ∨ i = 1 ∨ i = 2 ∨ i = 3 ∨ i = 4 ∨ i = 5 ∨ i = 6 := by omega
    all_goals simp [go_sem]
  have hfz : ∀ i, i < 7 → V.frozen? ⟨w.heap.size + 1, i, none⟩ = false := by
    intro i hi
    rw [hV]
    simp [go_sem]
  have hg0 : w.grownBy V (some B) := ⟨hb0.os, hb0.tape, hb0.output, hb0.size, fun k hk _ => hb0.block k hk⟩
  have cd := do_first B w.heap.size s t V (h.call hb0) hp (by omega) (by omega)
  have hk : ∀ w2 : World, V.grownBy w2 (some B) → w2.cell? ⟨w.heap.size, 0, none⟩ = some (.pointer (some ⟨B, 0, none⟩)) ∧ (∀ i, i < 7 → w2.cell? ⟨w.heap.size + 1, i, none⟩ = some (.int .u64 0)) ∧ (∀ i, i < 7 → w2.frozen? ⟨w.heap.size + 1, i, none⟩ = false) ∧ w.grownBy w2 (some B) := fun w2 g => by
    have e0 : w2.heap[w.heap.size]? = V.heap[w.heap.size]? := g.block _ (by omega) (by intro e; injection e with e; omega)
    have e1 : w2.heap[w.heap.size + 1]? = V.heap[w.heap.size + 1]? := g.block _ (by omega) (by intro e; injection e with e; omega)
    exact ⟨(World.cell?_of_block (w := V) (a := ⟨w.heap.size, 0, none⟩) e0).trans hp, fun i hi => (World.cell?_of_block (w := V) (a := ⟨w.heap.size + 1, i, none⟩) e1).trans (hz i hi), fun i hi => (World.frozen?_of_block (w := V) (a := ⟨w.heap.size + 1, i, none⟩) e1).trans (hfz i hi), hg0.trans2B g⟩
  rw [hV] at cd hk
  clear hz hfz hp h hb0 hsz hV hg0
  go_enter Tryd.func49, Tryd.ntmps49
  go_wp2_with (go_at_call 56; refine cd.mono ?_; rintro e w2 ⟨rfl, h2, g2⟩; obtain ⟨p2, z2, f2, gg⟩ := hk w2 g2; have z20 := z2 0 (by omega); have z21 := z2 1 (by omega); have z22 := z2 2 (by omega); have z23 := z2 3 (by omega); have z24 := z2 4 (by omega); have z25 := z2 5 (by omega); have z26 := z2 6 (by omega); have f20 := f2 0 (by omega); have f21 := f2 1 (by omega); have f22 := f2 2 (by omega); have f23 := f2 3 (by omega); have f24 := f2 4 (by omega); have f25 := f2 5 (by omega); have f26 := f2 6 (by omega); obtain ⟨k0, k1, k2, k3, k4, k5, k6⟩ := id h2.2.2.2.1; clear z2 f2 hk g2 cd)
  have hx : w.heap.size + 1 ≠ B := by omega
  refine bodyPost_ret (v := .agg #[.int .u64 ((s).m.toNat : Int), .int .u64 ((s).q.toNat : Int), .int .u64 ((s).z.toNat : Int), .int .u64 ((s).r.a.toNat : Int), .int .u64 ((s).r.b.toNat : Int), .int .u64 ((s).r.c.toNat : Int), .int .u64 ((s).r.d.toNat : Int)]) (by simp [results, Tryd.results49, go_sem, z20, z21, z22, z23, z24, z25, z26]) rfl ⟨rfl, ?_, ?_⟩
  · exact ((((((h2.far hx 0 _).far hx 1 _).far hx 2 _).far hx 3 _).far hx 4 _).far hx 5 _).far hx 6 _
  · exact gg7 gg (Nat.le_succ _) _ _ _ _ _ _ _
set_option maxRecDepth 100000 in
set_option maxHeartbeats 1600000 in
/-- The words of a reader whose table stands. -/
theorem words_again (B : Nat) (s : Sl) (w : World) (h : Rr B s 1 0 s w) :
    Calls Tryd.prog 49 #[.pointer (some ⟨B, 0, none⟩)] w fun e w' => e = .returned (.agg #[.int .u64 ((s).m.toNat : Int), .int .u64 ((s).q.toNat : Int), .int .u64 ((s).z.toNat : Int), .int .u64 ((s).r.a.toNat : Int), .int .u64 ((s).r.b.toNat : Int), .int .u64 ((s).r.c.toNat : Int), .int .u64 ((s).r.d.toNat : Int)]) ∧ Below w.heap.size w w' := by
  have hmf : ∀ (fn : Fn) (first cap : Array Value) (w : World), (Instr.makeFunc fn first cap).run Tryd.prog w = .ok (.func fn first cap) w := fun _ _ _ _ => rfl
  have hlt := h.cell
  have hb0 : Below w.heap.size w ((w.alloc (.cells #[.pointer (some ⟨B, 0, none⟩)] 92)).alloc (.cells #[Value.int IntKind.u64 0, Value.int IntKind.u64 0, Value.int IntKind.u64 0, Value.int IntKind.u64 0, Value.int IntKind.u64 0, Value.int IntKind.u64 0, Value.int IntKind.u64 0] 112)) := (by repeat' (first | (with_reducible exact Below.refl _ _) | (with_reducible assumption) | (with_reducible refine below_drewN ?_ _) | (with_reducible refine Below.setCell ?_ ?_ _) | (with_reducible refine Below.alloc ?_ ?_ _) | (with_reducible refine Below.drew ?_) | go_size))
  have cd := fun fv => do_done B s s fv _ (h.call hb0)
  obtain ⟨k0, k1, k2, k3, k4, k5, k6⟩ := id h.2.2.2.1
  clear h hb0
  go_enter Tryd.func49, Tryd.ntmps49
  go_wp2_with (go_at_call 56; refine (cd _).mono ?_; rintro e w2 ⟨rfl, rfl⟩)
  refine bodyPost_ret (v := .agg #[.int .u64 ((s).m.toNat : Int), .int .u64 ((s).q.toNat : Int), .int .u64 ((s).z.toNat : Int), .int .u64 ((s).r.a.toNat : Int), .int .u64 ((s).r.b.toNat : Int), .int .u64 ((s).r.c.toNat : Int), .int .u64 ((s).r.d.toNat : Int)]) (by simp [results, Tryd.results49, go_sem]) rfl ⟨rfl, (by repeat' (first | (with_reducible exact Below.refl _ _) | (with_reducible assumption) | (with_reducible refine below_drewN ?_ _) | (with_reducible refine Below.setCell ?_ ?_ _) | (with_reducible refine Below.alloc ?_ ?_ _) | (with_reducible refine Below.drew ?_) | go_size))⟩
/-- The words of a reader, at any time. -/
theorem words_any (B : Nat) (s t : Sl) (k : Int) (w : World) (h : Rr B s k 0 t w) (hk : k = 0 ∨ k = 1 ∧ t = s) :
    Calls Tryd.prog 49 #[.pointer (some ⟨B, 0, none⟩)] w fun e w' => e = .returned (.agg #[.int .u64 ((s).m.toNat : Int), .int .u64 ((s).q.toNat : Int), .int .u64 ((s).z.toNat : Int), .int .u64 ((s).r.a.toNat : Int), .int .u64 ((s).r.b.toNat : Int), .int .u64 ((s).r.c.toNat : Int), .int .u64 ((s).r.d.toNat : Int)]) ∧ Rr B s 1 0 s w' ∧ w.grownBy w' (some B) := by
  rcases hk with rfl | ⟨rfl, rfl⟩
  · exact words_first B s t w h
  · exact (words_again B t w h).mono (fun e w' ⟨he, hb⟩ => ⟨he, h.call hb, ⟨hb.os, hb.tape, hb.output, hb.size, fun k hk _ => hb.block k hk⟩⟩)
end Go.Proofs.YteaaaojafipllaaDoor
