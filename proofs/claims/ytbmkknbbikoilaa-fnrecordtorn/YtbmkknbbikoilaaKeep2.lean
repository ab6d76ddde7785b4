/-
  A record kept, by the program.
-/
import Derived.Test.YtbmkknbbikoilaaKeep
import Derived.Test.YtbmkknbbikoilaaPlay6
namespace Go.Proofs.Ytbmkknbbikoilaa
open Go.RowKit Go.MuLone

/-- A slot with the sum that it must have. -/
def y1 (y : Sl) : Sl := ⟨sumOf y, y.q, y.z, y.r⟩
/-- The first seven raw writes of a keep. -/
def k7 (n : Int) (y : Sl) : List Rw := [⟨n, 0, 0⟩, ⟨n, 1, y.q⟩, ⟨n, 2, y.z⟩, ⟨n, 3, y.r.a⟩, ⟨n, 4, y.r.b⟩, ⟨n, 5, y.r.c⟩, ⟨n, 6, y.r.d⟩]
def k8 (n : Int) (y : Sl) : List Rw := k7 n y ++ [⟨n, 0, sumOf y⟩]
/-- What a keep leaves as done. -/
def kraws (n : Int) (y : Sl) : List Rw := if slok (y1 y) then k8 n y else []
theorem sum_ne (y : Sl) : sumOf y ≠ 0 := by
  unfold sumOf
  intro h
  have h1 : ((dg (str (six y))).a ||| 1).toNat % 2 = 1 := by
    rw [UInt64.toNat_or]
    show ((dg (str (six y))).a.toNat ||| 1) % 2 = 1
    simp
  rw [h] at h1
  exact absurd h1 (by decide)
theorem k7_at (n : Int) (y : Sl) (k : Nat) (h1 : 1 ≤ k) (hk : k < 7) : (k7 n y).take (k + 1) = (k7 n y).take k ++ [⟨n, (k : Int), (ws7 (y1 y)).getD k 0⟩] := by
  obtain rfl | rfl | rfl | rfl | rfl | rfl : k = 1 ∨ k = 2 ∨ k = 3 ∨ k = 4 ∨ k = 5 ∨ k = 6 := by omega
  all_goals rfl
theorem dws_one (d : Sl × Sl) (L : List Rw) (l : Rw) : dws d (L ++ [l]) = dput (dws d L) l := by
  unfold dws
  rw [List.foldl_append]
  rfl
theorem run_build_op {a : Act} {dst : Option Tmp} {ty ty2 : TypeId} {parts : Array (Nat × Operand)} {pos : String} {after : Array Edge} {g : Option (Nat × Bool)} {w : World} (cells : Array Value)
    (hb : Try.prog.built ty (parts.map fun (i, x) => (i, a.eval x)).toList = some cells) : (execOp a.eval ⟨dst, .build ty parts, ty2, pos, after, g⟩).run Try.prog w = .ok (.value (.agg cells)) w := by
  unfold execOp
  simp only [Sem.run_bind, run_build w ty _ _ hb, Result.andThen_ok]
  rfl
def p4 (W : World) : Nat → Prop := fun k => k < W.heap.size + 4
/-- The four boxes of a keep: the play, the number, the slot that is wanted, the disk ahead of it. -/
def KP (W : World) (B : Nat) (n : Int) (y : Sl) (d : Sl × Sl) (wr : World) : Prop :=
  (wr.cell? ⟨W.heap.size, 0, none⟩ = some (.pointer (some ⟨B, 0, none⟩)) ∧ wr.cell? ⟨W.heap.size + 1, 0, none⟩ = some (.int .i64 n) ∧ Lies (W.heap.size + 2) 0 [.int .u64 ((y).m.toNat : Int), .int .u64 ((y).q.toNat : Int), .int .u64 ((y).z.toNat : Int), .int .u64 ((y).r.a.toNat : Int), .int .u64 ((y).r.b.toNat : Int), .int .u64 ((y).r.c.toNat : Int), .int .u64 ((y).r.d.toNat : Int)] wr ∧ wr.frozen? ⟨W.heap.size + 2, 0, none⟩ = false ∧ Lies (W.heap.size + 3) 0 [.int .u64 ((d.1).m.toNat : Int), .int .u64 ((d.1).q.toNat : Int), .int .u64 ((d.1).z.toNat : Int), .int .u64 ((d.1).r.a.toNat : Int), .int .u64 ((d.1).r.b.toNat : Int), .int .u64 ((d.1).r.c.toNat : Int), .int .u64 ((d.1).r.d.toNat : Int), .int .u64 ((d.2).m.toNat : Int), .int .u64 ((d.2).q.toNat : Int), .int .u64 ((d.2).z.toNat : Int), .int .u64 ((d.2).r.a.toNat : Int), .int .u64 ((d.2).r.b.toNat : Int), .int .u64 ((d.2).r.c.toNat : Int), .int .u64 ((d.2).r.d.toNat : Int)] wr) ∧ W.heap.size + 4 ≤ wr.heap.size ∧ Far (fun k => k < W.heap.size) B W wr ∧ B < W.heap.size
theorem KP.far {W w1 w2 : World} {B : Nat} {n : Int} {y : Sl} {d : Sl × Sl} (h : KP W B n y d w1) {p : Nat → Prop} (hp : ∀ k, k < W.heap.size + 4 → p k) (hf : Far p B w1 w2) : KP W B n y d w2 := by
  obtain ⟨⟨h1, h2, h3, h4, h5⟩, h6, h7, hB⟩ := h
  exact ⟨⟨(hf.cell (a := ⟨W.heap.size, 0, none⟩) (hp _ (by show W.heap.size < _; omega)) (by show W.heap.size ≠ B; omega)).trans h1, (hf.cell (a := ⟨W.heap.size + 1, 0, none⟩) (hp _ (by show W.heap.size + 1 < _; omega)) (by show W.heap.size + 1 ≠ B; omega)).trans h2, hf.lies h3 (hp _ (by omega)) (by omega), (hf.frozen (a := ⟨W.heap.size + 2, 0, none⟩) (hp _ (by show W.heap.size + 2 < _; omega)) (by show W.heap.size + 2 ≠ B; omega)).trans h4, hf.lies h5 (hp _ (by omega)) (by omega)⟩,
    Nat.le_trans h6 hf.2.1, h7.trans (hf.mono (fun k hk => hp k (by omega))), hB⟩
theorem KP.call {W w1 w2 : World} {B : Nat} {n : Int} {y : Sl} {d : Sl × Sl} (h : KP W B n y d w1) (hb : Below w1.heap.size w1 w2) : KP W B n y d w2 :=
  h.far (p := p4 W) (fun k hk => hk) (Far.of_below hb (fun k hk => by unfold p4 at hk; have := h.2.1; omega))
theorem KP.sum {W w1 : World} {B : Nat} {n : Int} {y : Sl} {d : Sl × Sl} (h : KP W B n y d w1) (x : UInt64) : KP W B n ⟨x, y.q, y.z, y.r⟩ d (w1.setCell ⟨W.heap.size + 2, 0, none⟩ (.int .u64 ((x).toNat : Int))) := by
  obtain ⟨⟨h1, h2, h3, h4, h5⟩, h6, h7, hB⟩ := h
  refine ⟨⟨?_, ?_, ?_, by rw [World.frozen?_setCell]; exact h4, ?_⟩, by simp only [World.size_setCell]; exact h6, h7.trans (Far.of_grown (sc_grown w1 (W.heap.size + 2) 0 [.int .u64 ((x).toNat : Int)]) (fun k hk hne => ⟨by omega, fun e => by injection e with e; omega⟩)), hB⟩
  · rw [World.cell?_setCell_other _ _ _ _ (fun e => by injection e with e; omega)]; exact h1
  · rw [World.cell?_setCell_other _ _ _ _ (fun e => by injection e with e; omega)]; exact h2
  · exact h3.set 0 (by simp) (.int .u64 ((x).toNat : Int))
  · exact h5.grown (sc_grown w1 (W.heap.size + 2) 0 [.int .u64 ((x).toNat : Int)]) (by omega) (fun e => by injection e with e; omega)
theorem KP.new (W : World) (B : Nat) (n : Int) (y : Sl) (d : Sl × Sl) (hB : B < W.heap.size) : KP W B n y d ((((W.alloc (.cells #[.pointer (some ⟨B, 0, none⟩)] 59)).alloc (.cells #[.int .i64 n] 3)).alloc (.cells #[Value.int IntKind.u64 ((y).m.toNat : Int), Value.int IntKind.u64 ((y).q.toNat : Int), Value.int IntKind.u64 ((y).z.toNat : Int), Value.int IntKind.u64 ((y).r.a.toNat : Int), Value.int IntKind.u64 ((y).r.b.toNat : Int), Value.int IntKind.u64 ((y).r.c.toNat : Int), Value.int IntKind.u64 ((y).r.d.toNat : Int)] 33)).alloc (.cells #[.int .u64 ((d.1).m.toNat : Int), .int .u64 ((d.1).q.toNat : Int), .int .u64 ((d.1).z.toNat : Int), .int .u64 ((d.1).r.a.toNat : Int), .int .u64 ((d.1).r.b.toNat : Int), .int .u64 ((d.1).r.c.toNat : Int), .int .u64 ((d.1).r.d.toNat : Int), .int .u64 ((d.2).m.toNat : Int), .int .u64 ((d.2).q.toNat : Int), .int .u64 ((d.2).z.toNat : Int), .int .u64 ((d.2).r.a.toNat : Int), .int .u64 ((d.2).r.b.toNat : Int), .int .u64 ((d.2).r.c.toNat : Int), .int .u64 ((d.2).r.d.toNat : Int)] 35)) := by
  refine ⟨⟨by simp [go_sem], by simp [go_sem], ?_, by simp [go_sem], ?_⟩, by simp, Far.of_below (c := W.heap.size) (by repeat' (first | (with_reducible exact Below.refl _ _) | (with_reducible assumption) | (with_reducible refine below_drewN ?_ _) | (with_reducible refine Below.setCell ?_ ?_ _) | (with_reducible refine Below.alloc ?_ ?_ _) | (with_reducible refine Below.drew ?_) | go_size)) (fun k hk => hk), hB⟩
  · have := (Lies.new ((W.alloc (.cells #[.pointer (some ⟨B, 0, none⟩)] 59)).alloc (.cells #[.int .i64 n] 3)) [.int .u64 ((y).m.toNat : Int), .int .u64 ((y).q.toNat : Int), .int .u64 ((y).z.toNat : Int), .int .u64 ((y).r.a.toNat : Int), .int .u64 ((y).r.b.toNat : Int), .int .u64 ((y).r.c.toNat : Int), .int .u64 ((y).r.d.toNat : Int)] 33).call ((Below.refl _ _).alloc (Nat.le_refl _) (.cells #[.int .u64 ((d.1).m.toNat : Int), .int .u64 ((d.1).q.toNat : Int), .int .u64 ((d.1).z.toNat : Int), .int .u64 ((d.1).r.a.toNat : Int), .int .u64 ((d.1).r.b.toNat : Int), .int .u64 ((d.1).r.c.toNat : Int), .int .u64 ((d.1).r.d.toNat : Int), .int .u64 ((d.2).m.toNat : Int), .int .u64 ((d.2).q.toNat : Int), .int .u64 ((d.2).z.toNat : Int), .int .u64 ((d.2).r.a.toNat : Int), .int .u64 ((d.2).r.b.toNat : Int), .int .u64 ((d.2).r.c.toNat : Int), .int .u64 ((d.2).r.d.toNat : Int)] 35)) (by simp)
    simp only [World.size_alloc] at this
    exact this
  · have := Lies.new (((W.alloc (.cells #[.pointer (some ⟨B, 0, none⟩)] 59)).alloc (.cells #[.int .i64 n] 3)).alloc (.cells #[Value.int IntKind.u64 ((y).m.toNat : Int), Value.int IntKind.u64 ((y).q.toNat : Int), Value.int IntKind.u64 ((y).z.toNat : Int), Value.int IntKind.u64 ((y).r.a.toNat : Int), Value.int IntKind.u64 ((y).r.b.toNat : Int), Value.int IntKind.u64 ((y).r.c.toNat : Int), Value.int IntKind.u64 ((y).r.d.toNat : Int)] 33)) [.int .u64 ((d.1).m.toNat : Int), .int .u64 ((d.1).q.toNat : Int), .int .u64 ((d.1).z.toNat : Int), .int .u64 ((d.1).r.a.toNat : Int), .int .u64 ((d.1).r.b.toNat : Int), .int .u64 ((d.1).r.c.toNat : Int), .int .u64 ((d.1).r.d.toNat : Int), .int .u64 ((d.2).m.toNat : Int), .int .u64 ((d.2).q.toNat : Int), .int .u64 ((d.2).z.toNat : Int), .int .u64 ((d.2).r.a.toNat : Int), .int .u64 ((d.2).r.b.toNat : Int), .int .u64 ((d.2).r.c.toNat : Int), .int .u64 ((d.2).r.d.toNat : Int)] 35
    simp only [World.size_alloc] at this
    exact this
def pT (W : World) (T : Nat) : Nat → Prop := fun k => p4 W k ∨ k = T
/-- What stands while the words are written. -/
def LW (W : World) (B : Nat) (n : Int) (y : Sl) (d : Sl × Sl) (T k : Nat) (wr : World) : Prop :=
  KP W B n (y1 y) d wr ∧ PLB (pT W T) B (dws d ((k7 n y).take k)) ((k7 n y).take k) wr ∧ Lies T 0 [.int .u64 (((y1 y)).m.toNat : Int), .int .u64 (((y1 y)).q.toNat : Int), .int .u64 (((y1 y)).z.toNat : Int), .int .u64 (((y1 y)).r.a.toNat : Int), .int .u64 (((y1 y)).r.b.toNat : Int), .int .u64 (((y1 y)).r.c.toNat : Int), .int .u64 (((y1 y)).r.d.toNat : Int)] wr ∧ W.heap.size + 4 ≤ T
set_option maxRecDepth 20000 in
set_option maxHeartbeats 8000000 in
theorem keep_is (B o : Nat) (n : Int) (hn : n = 1 ∨ n = 2) (sel : Sl × Sl → Sl) (y : Sl) (d : Sl × Sl) (W : World) (h : PK B d (.slice none 0 0) W)
    (hs7 : sel (dws d (k7 n y)) = ⟨0, y.q, y.z, y.r⟩) (hs8 : sel (dws d (k8 n y)) = y1 y) (hl : ∀ d' v V, PK B d' v V → Lies B o [.int .u64 (((sel d')).m.toNat : Int), .int .u64 (((sel d')).q.toNat : Int), .int .u64 (((sel d')).z.toNat : Int), .int .u64 (((sel d')).r.a.toNat : Int), .int .u64 (((sel d')).r.b.toNat : Int), .int .u64 (((sel d')).r.c.toNat : Int), .int .u64 (((sel d')).r.d.toNat : Int)] V)
    (hcs : ∀ V : World, Calls Try.prog 43 #[.pointer (some ⟨B, 0, none⟩), .int .i64 n] V fun e w' => e = .returned (.pointer (some ⟨B, o, none⟩)) ∧ V = w') :
    Calls Try.prog 26 #[.pointer (some ⟨B, 0, none⟩), .int .i64 n, .agg #[.int .u64 ((y).m.toNat : Int), .int .u64 ((y).q.toNat : Int), .int .u64 ((y).z.toNat : Int), .int .u64 ((y).r.a.toNat : Int), .int .u64 ((y).r.b.toNat : Int), .int .u64 ((y).r.c.toNat : Int), .int .u64 ((y).r.d.toNat : Int)]] W fun e w' => e = .returned (.tuple #[]) ∧ (∃ d' v', PK B d' v' w' ∧ w'.ownsRow (B + 1) 56 3 v' (kraws n y).length (rcs (kraws n y))) ∧ Below B W w' := by
  have hB := h.1
  have AB : Lies B 0 [.int .u64 ((d.1).m.toNat : Int), .int .u64 ((d.1).q.toNat : Int), .int .u64 ((d.1).z.toNat : Int), .int .u64 ((d.1).r.a.toNat : Int), .int .u64 ((d.1).r.b.toNat : Int), .int .u64 ((d.1).r.c.toNat : Int), .int .u64 ((d.1).r.d.toNat : Int), .int .u64 ((d.2).m.toNat : Int), .int .u64 ((d.2).q.toNat : Int), .int .u64 ((d.2).z.toNat : Int), .int .u64 ((d.2).r.a.toNat : Int), .int .u64 ((d.2).r.b.toNat : Int), .int .u64 ((d.2).r.c.toNat : Int), .int .u64 ((d.2).r.d.toNat : Int)] (((W.alloc (.cells #[.pointer (some ⟨B, 0, none⟩)] 59)).alloc (.cells #[.int .i64 n] 3)).alloc (.cells #[Value.int IntKind.u64 ((y).m.toNat : Int), Value.int IntKind.u64 ((y).q.toNat : Int), Value.int IntKind.u64 ((y).z.toNat : Int), Value.int IntKind.u64 ((y).r.a.toNat : Int), Value.int IntKind.u64 ((y).r.b.toNat : Int), Value.int IntKind.u64 ((y).r.c.toNat : Int), Value.int IntKind.u64 ((y).r.d.toNat : Int)] 33)) := ((h.2.1.part 0 14).call (w' := (((W.alloc (.cells #[.pointer (some ⟨B, 0, none⟩)] 59)).alloc (.cells #[.int .i64 n] 3)).alloc (.cells #[Value.int IntKind.u64 ((y).m.toNat : Int), Value.int IntKind.u64 ((y).q.toNat : Int), Value.int IntKind.u64 ((y).z.toNat : Int), Value.int IntKind.u64 ((y).r.a.toNat : Int), Value.int IntKind.u64 ((y).r.b.toNat : Int), Value.int IntKind.u64 ((y).r.c.toNat : Int), Value.int IntKind.u64 ((y).r.d.toNat : Int)] 33))) (by repeat' (first | (with_reducible exact Below.refl _ _) | (with_reducible assumption) | (with_reducible refine below_drewN ?_ _) | (with_reducible refine Below.setCell ?_ ?_ _) | (with_reducible refine Below.alloc ?_ ?_ _) | (with_reducible refine Below.drew ?_) | go_size)) h.1)
  have K0 := KP.new W B n y d hB
  have P0 : PLB (p4 W) B d [] ((((W.alloc (.cells #[.pointer (some ⟨B, 0, none⟩)] 59)).alloc (.cells #[.int .i64 n] 3)).alloc (.cells #[Value.int IntKind.u64 ((y).m.toNat : Int), Value.int IntKind.u64 ((y).q.toNat : Int), Value.int IntKind.u64 ((y).z.toNat : Int), Value.int IntKind.u64 ((y).r.a.toNat : Int), Value.int IntKind.u64 ((y).r.b.toNat : Int), Value.int IntKind.u64 ((y).r.c.toNat : Int), Value.int IntKind.u64 ((y).r.d.toNat : Int)] 33)).alloc (.cells #[.int .u64 ((d.1).m.toNat : Int), .int .u64 ((d.1).q.toNat : Int), .int .u64 ((d.1).z.toNat : Int), .int .u64 ((d.1).r.a.toNat : Int), .int .u64 ((d.1).r.b.toNat : Int), .int .u64 ((d.1).r.c.toNat : Int), .int .u64 ((d.1).r.d.toNat : Int), .int .u64 ((d.2).m.toNat : Int), .int .u64 ((d.2).q.toNat : Int), .int .u64 ((d.2).z.toNat : Int), .int .u64 ((d.2).r.a.toNat : Int), .int .u64 ((d.2).r.b.toNat : Int), .int .u64 ((d.2).r.c.toNat : Int), .int .u64 ((d.2).r.d.toNat : Int)] 35)) := ⟨.slice none 0 0, h.call (by repeat' (first | (with_reducible exact Below.refl _ _) | (with_reducible assumption) | (with_reducible refine below_drewN ?_ _) | (with_reducible refine Below.setCell ?_ ?_ _) | (with_reducible refine Below.alloc ?_ ?_ _) | (with_reducible refine Below.drew ?_) | go_size)), World.ownsRow_nil _ _ _ _, fun k hk => ⟨by unfold p4 at hk; simp; omega, fun e => by cases e⟩⟩
  have cs := fun V : World => ssum_impl y V
  have HK1 : Hid (∀ w1, Below ((((W.alloc (.cells #[.pointer (some ⟨B, 0, none⟩)] 59)).alloc (.cells #[.int .i64 n] 3)).alloc (.cells #[Value.int IntKind.u64 ((y).m.toNat : Int), Value.int IntKind.u64 ((y).q.toNat : Int), Value.int IntKind.u64 ((y).z.toNat : Int), Value.int IntKind.u64 ((y).r.a.toNat : Int), Value.int IntKind.u64 ((y).r.b.toNat : Int), Value.int IntKind.u64 ((y).r.c.toNat : Int), Value.int IntKind.u64 ((y).r.d.toNat : Int)] 33)).alloc (.cells #[.int .u64 ((d.1).m.toNat : Int), .int .u64 ((d.1).q.toNat : Int), .int .u64 ((d.1).z.toNat : Int), .int .u64 ((d.1).r.a.toNat : Int), .int .u64 ((d.1).r.b.toNat : Int), .int .u64 ((d.1).r.c.toNat : Int), .int .u64 ((d.1).r.d.toNat : Int), .int .u64 ((d.2).m.toNat : Int), .int .u64 ((d.2).q.toNat : Int), .int .u64 ((d.2).z.toNat : Int), .int .u64 ((d.2).r.a.toNat : Int), .int .u64 ((d.2).r.b.toNat : Int), .int .u64 ((d.2).r.c.toNat : Int), .int .u64 ((d.2).r.d.toNat : Int)] 35)).heap.size ((((W.alloc (.cells #[.pointer (some ⟨B, 0, none⟩)] 59)).alloc (.cells #[.int .i64 n] 3)).alloc (.cells #[Value.int IntKind.u64 ((y).m.toNat : Int), Value.int IntKind.u64 ((y).q.toNat : Int), Value.int IntKind.u64 ((y).z.toNat : Int), Value.int IntKind.u64 ((y).r.a.toNat : Int), Value.int IntKind.u64 ((y).r.b.toNat : Int), Value.int IntKind.u64 ((y).r.c.toNat : Int), Value.int IntKind.u64 ((y).r.d.toNat : Int)] 33)).alloc (.cells #[.int .u64 ((d.1).m.toNat : Int), .int .u64 ((d.1).q.toNat : Int), .int .u64 ((d.1).z.toNat : Int), .int .u64 ((d.1).r.a.toNat : Int), .int .u64 ((d.1).r.b.toNat : Int), .int .u64 ((d.1).r.c.toNat : Int), .int .u64 ((d.1).r.d.toNat : Int), .int .u64 ((d.2).m.toNat : Int), .int .u64 ((d.2).q.toNat : Int), .int .u64 ((d.2).z.toNat : Int), .int .u64 ((d.2).r.a.toNat : Int), .int .u64 ((d.2).r.b.toNat : Int), .int .u64 ((d.2).r.c.toNat : Int), .int .u64 ((d.2).r.d.toNat : Int)] 35)) w1 → KP W B n (y1 y) d (w1.setCell ⟨W.heap.size + 2, 0, none⟩ (.int .u64 ((sumOf y).toNat : Int))) ∧ PLB (p4 W) B d [] (w1.setCell ⟨W.heap.size + 2, 0, none⟩ (.int .u64 ((sumOf y).toNat : Int)))) := fun w1 hb => by
    have hK := K0.call hb
    refine ⟨hK.sum (sumOf y), ?_⟩
    obtain ⟨v, a1, a2, a3⟩ := P0.call hb
    have hlt := a1.1
    refine ⟨.slice none 0 0, ?_, World.ownsRow_nil _ _ _ _, fun k hk => ⟨by simp only [World.size_setCell]; exact (a3 k hk).1, fun e => by cases e⟩⟩
    exact ((h.call (by repeat' (first | (with_reducible exact Below.refl _ _) | (with_reducible assumption) | (with_reducible refine below_drewN ?_ _) | (with_reducible refine Below.setCell ?_ ?_ _) | (with_reducible refine Below.alloc ?_ ?_ _) | (with_reducible refine Below.drew ?_) | go_size)) : PK B d (.slice none 0 0) ((((W.alloc (.cells #[.pointer (some ⟨B, 0, none⟩)] 59)).alloc (.cells #[.int .i64 n] 3)).alloc (.cells #[Value.int IntKind.u64 ((y).m.toNat : Int), Value.int IntKind.u64 ((y).q.toNat : Int), Value.int IntKind.u64 ((y).z.toNat : Int), Value.int IntKind.u64 ((y).r.a.toNat : Int), Value.int IntKind.u64 ((y).r.b.toNat : Int), Value.int IntKind.u64 ((y).r.c.toNat : Int), Value.int IntKind.u64 ((y).r.d.toNat : Int)] 33)).alloc (.cells #[.int .u64 ((d.1).m.toNat : Int), .int .u64 ((d.1).q.toNat : Int), .int .u64 ((d.1).z.toNat : Int), .int .u64 ((d.1).r.a.toNat : Int), .int .u64 ((d.1).r.b.toNat : Int), .int .u64 ((d.1).r.c.toNat : Int), .int .u64 ((d.1).r.d.toNat : Int), .int .u64 ((d.2).m.toNat : Int), .int .u64 ((d.2).q.toNat : Int), .int .u64 ((d.2).z.toNat : Int), .int .u64 ((d.2).r.a.toNat : Int), .int .u64 ((d.2).r.b.toNat : Int), .int .u64 ((d.2).r.c.toNat : Int), .int .u64 ((d.2).r.d.toNat : Int)] 35))).call hb).grown (sc_grown w1 (W.heap.size + 2) 0 [.int .u64 ((sumOf y).toNat : Int)]) (fun e => by injection e with e; omega)
  have hk0 : wok ⟨n, 0, 0⟩ := ⟨hn, by simp, by simp⟩
  have c0 := K0.1.1
  have L0 := K0.1.2.2.1
  go_enter_defers Try.func26, Try.ntmps26
  go_wp2_with (first
    | (with_reducible refine wpl_load agg_disk B 0 [.int .u64 ((d.1).m.toNat : Int), .int .u64 ((d.1).q.toNat : Int), .int .u64 ((d.1).z.toNat : Int), .int .u64 ((d.1).r.a.toNat : Int), .int .u64 ((d.1).r.b.toNat : Int), .int .u64 ((d.1).r.c.toNat : Int), .int .u64 ((d.1).r.d.toNat : Int), .int .u64 ((d.2).m.toNat : Int), .int .u64 ((d.2).q.toNat : Int), .int .u64 ((d.2).z.toNat : Int), .int .u64 ((d.2).r.a.toNat : Int), .int .u64 ((d.2).r.b.toNat : Int), .int .u64 ((d.2).r.c.toNat : Int), .int .u64 ((d.2).r.d.toNat : Int)] (by kernel_rfl) (by kernel_rfl) AB ?_)
    | (with_reducible refine wpl_load agg_slot (W.heap.size + 2) 0 [.int .u64 ((y).m.toNat : Int), .int .u64 ((y).q.toNat : Int), .int .u64 ((y).z.toNat : Int), .int .u64 ((y).r.a.toNat : Int), .int .u64 ((y).r.b.toNat : Int), .int .u64 ((y).r.c.toNat : Int), .int .u64 ((y).r.d.toNat : Int)] (by kernel_rfl) (by kernel_rfl) L0 ?_)
    | (go_at_call 41; refine (cs _).mono ?_; rintro e w1 ⟨rfl, hb1⟩; have hKa := K0.call hb1; have ca := sl_at hKa.1.2.2.1 0 (by omega); have fa := hKa.1.2.2.2.1; obtain ⟨K1, P1⟩ := HK1.out w1 hb1; generalize hw1 : w1.setCell ⟨W.heap.size + 2, 0, none⟩ (.int .u64 ((sumOf y).toNat : Int)) = w1' at K1 P1; have cA := K1.1.1; have cB := K1.1.2.1)
    | (have hh := L2; with_reducible refine wpl_load agg_slot (W.heap.size + 2) 0 [.int .u64 (((y1 y)).m.toNat : Int), .int .u64 (((y1 y)).q.toNat : Int), .int .u64 (((y1 y)).z.toNat : Int), .int .u64 (((y1 y)).r.a.toNat : Int), .int .u64 (((y1 y)).r.b.toNat : Int), .int .u64 (((y1 y)).r.c.toNat : Int), .int .u64 (((y1 y)).r.d.toNat : Int)] (by kernel_rfl) (by kernel_rfl) L2 ?_)
    | (with_reducible refine wpl_build #[.int .i64 n, .int .i64 0, .int .u64 0] (by kernel_rfl) ?_)
    | (have hh := K1; go_at_call 36; refine (writeb_is (p4 W) B d [] ⟨n, 0, 0⟩ hk0 w1' P1 (by simp)).mono ?_; rintro e w2 ⟨rfl, P2, F2⟩; have K2 := K1.far (fun k hk => hk) F2; have L2 := K2.1.2.2.1)
    | (have hh := K2; go_at_call 44; refine (reader_is (y1 y) w2).mono ?_; rintro e w3 ⟨R, rfl, hR, hr3, hb3⟩; have K3 := K2.call hb3; have P3 := P2.call hb3)
    | (have hh := K3; go_at_call 45; refine (words_any R (y1 y) _ 0 w3 hr3 (.inl rfl)).mono ?_; rintro e w4 ⟨rfl, hr4, hg4⟩; have F4 : Far (p4 W) B w3 w4 := Far.of_grown hg4 (fun k hk _ => ⟨by have := K3.2.1; unfold p4 at hk; omega, fun e => by injection e with e; have := K2.2.1; unfold p4 at hk; omega⟩); have K4 := K3.far (fun k hk => hk) F4; have P4 : PLB (p4 W) B (dput d ⟨n, 0, 0⟩) [⟨n, 0, 0⟩] w4 := (by
        obtain ⟨v, a1, a2, a3⟩ := P3
        have hBR : B ≠ R := (by have := P2.lt; omega)
        refine ⟨v, a1.grown hg4 (fun e => by injection e with e; exact hBR e.symm), a2.kept hg4 ?_, fun k hk => ⟨Nat.lt_of_lt_of_le (a3 k hk).1 hg4.size, (a3 k hk).2⟩⟩
        cases hv : v.ownBlock with
        | none => exact .inl rfl
        | some k => exact .inr (fun e => by
            injection e with e
            subst e
            obtain ⟨v2, b1, b2, -⟩ := P2
            have := b1.cell 21 v2 rfl
            have h3 := (hb3.cell (p := ⟨B, 21, none⟩) b1.1).trans this
            rw [a1.cell 21 v rfl] at h3
            injection h3 with h3
            subst h3
            have := (b2.lt k hv).2
            omega))))
  have hT4 : W.heap.size + 4 ≤ w4.heap.size := K4.2.1
  have HT : Hid (LW W B n y d w4.heap.size 1 (w4.alloc (.cells #[.int .u64 (((y1 y)).m.toNat : Int), .int .u64 (((y1 y)).q.toNat : Int), .int .u64 (((y1 y)).z.toNat : Int), .int .u64 (((y1 y)).r.a.toNat : Int), .int .u64 (((y1 y)).r.b.toNat : Int), .int .u64 (((y1 y)).r.c.toNat : Int), .int .u64 (((y1 y)).r.d.toNat : Int)] 85))) :=
    ⟨K4.call ((Below.refl _ _).alloc (Nat.le_refl _) _), P4.more ((Below.refl _ _).alloc (Nat.le_refl _) _) (Nat.le_refl _) (by simp), Lies.new w4 [.int .u64 (((y1 y)).m.toNat : Int), .int .u64 (((y1 y)).q.toNat : Int), .int .u64 (((y1 y)).z.toNat : Int), .int .u64 (((y1 y)).r.a.toNat : Int), .int .u64 (((y1 y)).r.b.toNat : Int), .int .u64 (((y1 y)).r.c.toNat : Int), .int .u64 (((y1 y)).r.d.toNat : Int)] 85, hT4⟩
  clear AB K0 P0 HK1 cs c0 L0 hKa ca fa K1 P1 hw1 cA cB P2 F2 K2 L2 hR hr3 hb3 K3 P3 hr4 hg4 F4 K4 P4 hb1
  go_loopw [8] (fun i wr => ∃ k : Nat, 1 ≤ k ∧ k ≤ 7 ∧ i = .int .i64 (k : Int) ∧ Hid (LW W B n y d w4.heap.size k wr)) (fun i _ => 7 - (intOf i).toNat)
  case atStart => exact ⟨1, by omega, by omega, rfl, HT⟩
  case round =>
    obtain ⟨k, hk1, hk, rfl, HR⟩ := hrel
    by_cases hlt : k < 7
    · obtain ⟨hK, hP, hTL, -⟩ := HR.out
      have g0 := hK.1.1
      have g1 := hK.1.2.1
      have g2 := sl_at hTL k hlt
      have hst := k7_at n y k hk1 hlt
      have hkI : (k : Int) < 7 := by omega
      have hk0I : (0 : Int) ≤ (k : Int) := by omega
      obtain ⟨x, hx⟩ : ∃ x, x = (ws7 (y1 y)).getD k 0 := ⟨_, rfl⟩
      rw [← hx] at g2 hst
      have hwk : wok ⟨n, (k : Int), x⟩ := ⟨hn, hk0I, hkI⟩
      have hll : ((k7 n y).take k).length ≤ 1048576 := by rw [List.length_take]; omega
      have cw := fun (V : World) (hV : PLB (pT W w4.heap.size) B (dws d ((k7 n y).take k)) ((k7 n y).take k) V) => writeb_is (pT W w4.heap.size) B _ _ ⟨n, (k : Int), x⟩ hwk V hV hll
      have HP : Hid (PLB (pT W w4.heap.size) B (dws d ((k7 n y).take k)) ((k7 n y).take k) wr.drew) := hP.call ((Below.refl _ _).drew)
      generalize hT : w4.heap.size = T at *
      have HN : Hid (∀ w6, PLB (pT W T) B (dput (dws d ((k7 n y).take k)) ⟨n, (k : Int), x⟩) ((k7 n y).take k ++ [⟨n, (k : Int), x⟩]) w6 → Far (pT W T) B wr.drew w6 →
          w6.cell? ⟨W.heap.size, 0, none⟩ = some (.pointer (some ⟨B, 0, none⟩)) ∧ w6.cell? ⟨W.heap.size + 1, 0, none⟩ = some (.int .i64 n) ∧ w6.cell? ⟨T, k, none⟩ = some (.int .u64 ((x).toNat : Int)) ∧ Hid (LW W B n y d T (k + 1) w6)) := fun w6 hp6 hf6 => by
        have hK6 := (hK.call ((Below.refl _ _).drew)).far (fun k hk => Or.inl hk) hf6
        have hL6 := hf6.lies (hTL.call ((Below.refl _ _).drew) (by obtain ⟨v, -, -, a3⟩ := hP; exact (a3 T (Or.inr rfl)).1)) (Or.inr rfl) (by omega)
        refine ⟨hK6.1.1, hK6.1.2.1, by rw [hx]; exact sl_at hL6 k hlt, hK6, ?_, hL6, hT4⟩
        rw [hst, dws_one]
        exact hp6
      clear HR hK hP hTL hst hx hwk hll HT
      go_upto_region 9 with fail
      refine wp_region_noPanic ?_
      refine wp_region_held_drew (S := fun w' => w'.cell? ⟨W.heap.size, 0, none⟩ = some (.pointer (some ⟨B, 0, none⟩)) ∧ w'.cell? ⟨W.heap.size + 1, 0, none⟩ = some (.int .i64 n) ∧ w'.cell? ⟨T, k, none⟩ = some (.int .u64 ((x).toNat : Int))) (by kernel_rfl) ⟨c_drew g0, c_drew g1, c_drew g2⟩ (fun hHeld => ?_)
      refine wpAnyH_take (i := 0) (oi := { dst := some 28, op := Op.load 59 (Operand.tmp 3), type := 59, pos := "l7_record.go:166", after := #[], guard := none }) (v := .pointer (some ⟨B, 0, none⟩)) rfl (by kernel_rfl) (by kernel_rfl) (by kernel_rfl) (fun _ _ _ h => h) (Or.inl ⟨by rfl, ?_⟩) (by assumption) ?_
      · (intro wq hq; obtain ⟨q0, q1, q2⟩ := hq; go_simp)
      try simp only [Act.put, List.setIfInBounds_toArray, List.set_cons_zero, List.set_cons_succ]
      refine wpAnyH_take (i := 1) (oi := { dst := some 29, op := Op.load 3 (Operand.tmp 4), type := 3, pos := "l7_record.go:166", after := #[], guard := none }) (v := .int .i64 n) rfl (by kernel_rfl) (by kernel_rfl) (by kernel_rfl) (fun _ _ _ h => h) (Or.inl ⟨by rfl, ?_⟩) (by assumption) ?_
      · (intro wq hq; obtain ⟨q0, q1, q2⟩ := hq; go_simp)
      try simp only [Act.put, List.setIfInBounds_toArray, List.set_cons_zero, List.set_cons_succ]
      refine wpAnyH_take (i := 2) (oi := { dst := some 30, op := Op.move (Operand.tmp 8), type := 3, pos := "l7_record.go:166", after := #[], guard := none }) (v := .int .i64 (k : Int)) rfl (by kernel_rfl) (by kernel_rfl) (by kernel_rfl) (fun _ _ _ h => h) (Or.inl ⟨by rfl, ?_⟩) (by assumption) ?_
      · (intro wq hq; obtain ⟨q0, q1, q2⟩ := hq; go_simp)
      try simp only [Act.put, List.setIfInBounds_toArray, List.set_cons_zero, List.set_cons_succ]
      refine wpAnyH_take (i := 3) (oi := { dst := some 31, op := Op.move (Operand.tmp 8), type := 3, pos := "l7_record.go:166", after := #[], guard := none }) (v := .int .i64 (k : Int)) rfl (by kernel_rfl) (by kernel_rfl) (by kernel_rfl) (fun _ _ _ h => h) (Or.inl ⟨by rfl, ?_⟩) (by assumption) ?_
      · (intro wq hq; obtain ⟨q0, q1, q2⟩ := hq; go_simp)
      try simp only [Act.put, List.setIfInBounds_toArray, List.set_cons_zero, List.set_cons_succ]
      refine wpAnyH_take (i := 4) (oi := { dst := some 32, op := Op.indexAddr 85 (Operand.tmp 7) (Operand.tmp 31), type := 0, pos := "l7_record.go:166", after := #[{ on := 3, ground := Ground.data }], guard := none }) (v := .pointer (some ⟨T, k, none⟩)) rfl (by kernel_rfl) (by kernel_rfl) (by kernel_rfl) (fun _ _ _ h => h) (Or.inl ⟨by rfl, ?_⟩) (by assumption) ?_
      · (intro wq hq; obtain ⟨q0, q1, q2⟩ := hq; go_simp)
      try simp only [Act.put, List.setIfInBounds_toArray, List.set_cons_zero, List.set_cons_succ]
      refine wpAnyH_take (i := 5) (oi := { dst := some 33, op := Op.load 22 (Operand.tmp 32), type := 22, pos := "l7_record.go:166", after := #[{ on := 4, ground := Ground.data }], guard := none }) (v := .int .u64 ((x).toNat : Int)) rfl (by kernel_rfl) (by kernel_rfl) (by kernel_rfl) (fun _ _ _ h => h) (Or.inl ⟨by rfl, ?_⟩) (by assumption) ?_
      · (intro wq hq; obtain ⟨q0, q1, q2⟩ := hq; go_simp)
      try simp only [Act.put, List.setIfInBounds_toArray, List.set_cons_zero, List.set_cons_succ]
      refine wpAnyH_take (i := 6) (oi := { dst := some 34, op := Op.build 56 #[(0, Operand.tmp 29), (1, Operand.tmp 30), (2, Operand.tmp 33)], type := 56, pos := "l7_record.go:166", after := #[{ on := 1, ground := Ground.data }, { on := 2, ground := Ground.data }, { on := 5, ground := Ground.data }], guard := none }) (v := .agg #[.int .i64 n, .int .i64 (k : Int), .int .u64 ((x).toNat : Int)]) rfl (by kernel_rfl) (by kernel_rfl) (by kernel_rfl) (fun _ _ _ h => h) (Or.inl ⟨by rfl, ?_⟩) (by assumption) ?_
      · (intro wq hq; exact run_build_op _ (by kernel_rfl))
      try simp only [Act.put, List.setIfInBounds_toArray, List.set_cons_zero, List.set_cons_succ]
      refine wpAnyH_ready (rs := [7]) (by kernel_rfl) (by simp) ?_
      refine AllReadyH.cons (o := { dst := some 35, op := Op.call { callee := Callee.value (Operand.func 36), args := #[Operand.tmp 28, Operand.tmp 34], argTypes := #[59, 56] }, type := 0, pos := "l7_record.go:166", after := #[{ on := 0, ground := Ground.data }, { on := 6, ground := Ground.data }], guard := none }) rfl (fun K hK => ?_) AllReadyH.nil
      go_simp
      go_at_call 36
      refine (cw _ HP.out).mono ?_
      rintro e w6 ⟨rfl, hp6, hf6⟩
      obtain ⟨g0', g1', g2', HN6⟩ := HN.out w6 hp6 hf6
      go_simp
      refine hK.out _ _ ⟨g0', g1', g2'⟩ (fun hHeld => ?_)
      clear hK K
      refine wpAnyH_done (by kernel_rfl) ?_ _
      simp only [NoPanic]
      go_wp2_with fail
      exact ⟨⟨k + 1, by omega, by omega, by go_num, HN6⟩, by simp [intOf]; omega⟩
    · have hkk : k = 7 := by omega
      subst hkk
      obtain ⟨hK, hP, -, -⟩ := HR.out
      rw [show (k7 n y).take 7 = k7 n y from rfl] at hP
      have L5 := hK.1.2.2.1
      have cok := fun V : World => sok_impl (y1 y) V
      clear HR HT
      go_wp2_with (first
        | (have hh := L7; go_at_call 36; refine (writeb_is (pT W w4.heap.size) B (dws d (k7 n y)) (k7 n y) ⟨n, 0, sumOf y⟩ hks w7 P7 (by show 7 ≤ _; omega)).mono ?_; rintro e w8 ⟨rfl, P8, F8⟩; have K8 := K7.far (fun k hk => Or.inl hk) F8)
        | (go_at_call 35; refine (cok _).mono ?_; rintro e w7 ⟨rfl, hb7⟩; have K7 := hK.call hb7; have P7 := hP.call hb7; have L7 := K7.1.2.2.1; have m0 := K7.1.1; have m1 := K7.1.2.1; have m2 := sl_at L7 0 (by omega); have hks : wok ⟨n, 0, sumOf y⟩ := ⟨hn, by simp, by simp⟩; cases hok : slok (y1 y))
        | (with_reducible refine wpl_build #[.int .i64 n, .int .i64 0, .int .u64 ((sumOf y).toNat : Int)] (by kernel_rfl) ?_)
        | (with_reducible refine wpl_load agg_slot (W.heap.size + 2) 0 [.int .u64 (((y1 y)).m.toNat : Int), .int .u64 (((y1 y)).q.toNat : Int), .int .u64 (((y1 y)).z.toNat : Int), .int .u64 (((y1 y)).r.a.toNat : Int), .int .u64 (((y1 y)).r.b.toNat : Int), .int .u64 (((y1 y)).r.c.toNat : Int), .int .u64 (((y1 y)).r.d.toNat : Int)] (by kernel_rfl) (by kernel_rfl) L5 ?_))
      · refine leaves_cons (f := 42) (args := #[.pointer (some ⟨W.heap.size, 0, none⟩), .pointer (some ⟨W.heap.size + 1, 0, none⟩), .pointer (some ⟨W.heap.size + 2, 0, none⟩), .pointer (some ⟨W.heap.size + 3, 0, none⟩)]) (by simp) (by simp [go_sem]) ?_
        obtain ⟨v7, a1, a2, -⟩ := P7
        have LX := hl _ v7 w7 a1
        rw [hs7] at LX
        refine (kdef_undo B W.heap.size (W.heap.size + 1) (W.heap.size + 2) (W.heap.size + 3) o n (y1 y) _ d v7 .returning w7 a1 K7.1.1 K7.1.2.1 LX L7 (sum_ne y) K7.1.2.2.2.2 (by omega) hcs).mono ?_
        rintro e u' w'' ⟨rfl, rfl, hPK, hg⟩
        simp [Leaves, settle, results, Try.results26]
        have ek : kraws n y = [] := by unfold kraws; rw [hok]; rfl
        rw [ek]
        refine ⟨⟨d.1, d.2, .slice none 0 0, hPK, World.ownsRow_nil _ _ _ _⟩, ?_⟩
        have hF := K7.2.2.1.trans (Far.of_grown hg (fun k hk hne => ⟨by have := K7.2.1; omega, fun e => by injection e with e; exact hne e⟩))
        exact ⟨hF.1.1, hF.1.2.1, hF.1.2.2, hF.2.1, fun k hk => hF.2.2 k (by omega) (by omega)⟩
      · refine leaves_cons (f := 42) (args := #[.pointer (some ⟨W.heap.size, 0, none⟩), .pointer (some ⟨W.heap.size + 1, 0, none⟩), .pointer (some ⟨W.heap.size + 2, 0, none⟩), .pointer (some ⟨W.heap.size + 3, 0, none⟩)]) (by simp) (by simp [go_sem]) ?_
        obtain ⟨v8, a1, a2, -⟩ := P8
        rw [← dws_one] at a1
        have LX := hl _ v8 w8 a1
        rw [show dws d (k7 n y ++ [⟨n, 0, sumOf y⟩]) = dws d (k8 n y) from rfl, hs8] at LX
        refine (kdef_same B W.heap.size (W.heap.size + 1) (W.heap.size + 2) (W.heap.size + 3) o n (y1 y) .returning w8 K8.1.1 K8.1.2.1 LX K8.1.2.2.1 hcs).mono ?_
        rintro e u' w'' ⟨rfl, rfl, rfl⟩
        simp [Leaves, settle, results, Try.results26]
        have ek : kraws n y = k7 n y ++ [⟨n, 0, sumOf y⟩] := by unfold kraws k8; rw [hok]; rfl
        rw [ek]
        refine ⟨⟨(dws d (k8 n y)).1, (dws d (k8 n y)).2, v8, a1.call ((Below.refl _ _).drew), a2⟩, ?_⟩
        have hF := K8.2.2.1
        exact ⟨hF.1.1, hF.1.2.1, hF.1.2.2, hF.2.1, fun k hk => hF.2.2 k (by omega) (by omega)⟩
end Go.Proofs.Ytbmkknbbikoilaa
