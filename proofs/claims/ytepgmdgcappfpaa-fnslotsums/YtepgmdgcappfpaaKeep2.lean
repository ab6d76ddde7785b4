/-
  A record kept, by the program.
-/
import Derived.Test.YtepgmdgcappfpaaKeep
import Derived.Test.YtepgmdgcappfpaaPlay6
namespace Go.Proofs.Ytepgmdgcappfpaa
open Go.RowKit Go.MuLone

/-- A slot with the sum that it must have. -/
def y1 (y : Sl) : Sl := ⟨sumOf y, y.q, y.z, y.r⟩
/-- The first seven raw writes of a keep. -/
def k7 (n : Int) (y : Sl) : List Rw := [⟨n, 0, 0⟩, ⟨n, 1, y.q⟩, ⟨n, 2, y.z⟩, ⟨n, 3, y.r.a⟩, ⟨n, 4, y.r.b⟩, ⟨n, 5, y.r.c⟩, ⟨n, 6, y.r.d⟩]
def k8 (n : Int) (y : Sl) : List Rw := k7 n y ++ [⟨n, 0, sumOf y⟩]
/-- What a keep leaves as done. -/
def kraws (n : Int) (y : Sl) : List Rw := if slok (y1 y) then k8 n y else []
theorem sum_ne (y : Sl) : sumOf y ≠ 0 := by
  unfold sumOf
  intro h
  have h1 : ((dg (str (six y))).a ||| 1).toNat % 2 = 1 := by
    rw [UInt64.toNat_or]
    show ((dg (str (six y))).a.toNat ||| 1) % 2 = 1
    simp
  rw [h] at h1
  exact absurd h1 (by decide)
theorem k7_at (n : Int) (y : Sl) (k : Nat) (h1 : 1 ≤ k) (hk : k < 7) : (k7 n y).take (k + 1) = (k7 n y).take k ++ [⟨n, (k : Int), (ws7 (y1 y)).getD k 0⟩] := by
  obtain rfl | rfl | rfl | rfl | rfl | rfl : k = 1 ∨ k = 2 ∨ k = 3 ∨ k = 4 ∨ k = 5 ∨ k = 6 := by omega
  all_goals rfl
theorem dws_one (d : Sl × Sl) (L : List Rw) (l : Rw) : dws d (L ++ [l]) = dput (dws d L) l := by
  unfold dws
  rw [List.foldl_append]
  rfl
theorem run_build_op {a : Act} {dst : Option Tmp} {ty ty2 : TypeId} {parts : Array (Nat × Operand)} {pos : String} {after : Array Edge} {g : Option (Nat × Bool)} {w : World} (cells : Array Value)
    (hb : Try.prog.built ty (parts.map fun (i, x) => (i, a.eval x)).toList = some cells) : (execOp a.eval ⟨dst, .build ty parts, ty2, pos, after, g⟩).run Try.prog w = .ok (.value (.agg cells)) w := by
  unfold execOp
  simp only [Sem.run_bind, run_build w ty _ _ hb, Result.andThen_ok]
  rfl
def p4 (W : World) : Nat → Prop := fun k => k < W.heap.size + 4
/-- The four boxes of a keep: the play, the number, the slot that is wanted, the disk ahead of it. -/
def KP (W : World) (B : Nat) (n : Int) (y : Sl) (d : Sl × Sl) (wr : World) : Prop :=
  (wr.cell? ⟨W.heap.size, 0, none⟩ = some (.pointer (some ⟨B, 0, none⟩)) ∧ wr.cell? ⟨W.heap.size + 1, 0, none⟩ = some (.int .i64 n) ∧ Lies (W.heap.size + 2) 0 [.int .u64 ((y).m.toNat : Int), .int .u64 ((y).q.toNat : Int), .int .u64 ((y).z.toNat : Int), .int .u64 ((y).r.a.toNat : Int), .int .u64 ((y).r.b.toNat : Int), .int .u64 ((y).r.c.toNat : Int), .int .u64 ((y).r.d.toNat : Int)] wr ∧ wr.frozen? ⟨W.heap.size + 2, 0, none⟩ = false ∧ Lies (W.heap.size + 3) 0 [.int .u64 ((d.1).m.toNat : Int), .int .u64 ((d.1).q.toNat : Int), .int .u64 ((d.1).z.toNat : Int), .int .u64 ((d.1).r.a.toNat : Int), .int .u64 ((d.1).r.b.toNat : Int), .int .u64 ((d.1).r.c.toNat : Int), .int .u64 ((d.1).r.d.toNat : Int), .int .u64 ((d.2).m.toNat : Int), .int .u64 ((d.2).q.toNat : Int), .int .u64 ((d.2).z.toNat : Int), .int .u64 ((d.2).r.a.toNat : Int), .int .u64 ((d.2).r.b.toNat : Int), .int .u64 ((d.2).r.c.toNat : Int), .int .u64 ((d.2).r.d.toNat : Int)] wr) ∧ W.heap.size + 4 ≤ wr.heap.size ∧ Far (fun k => k < W.heap.size) B W wr ∧ B < W.heap.size
theorem KP.far {W w1 w2 : World} {B : Nat} {n : Int} {y : Sl} {d : Sl × Sl} (h : KP W B n y d w1) {p : Nat → Prop} (hp : ∀ k, k < W.heap.size + 4 → p k) (hf : Far p B w1 w2) : KP W B n y d w2 := by
  obtain ⟨⟨h1, h2, h3, h4, h5⟩, h6, h7, hB⟩ := h
  exact ⟨⟨(hf.cell (a := ⟨W.heap.size, 0, none⟩) (hp _ (by show W.heap.size < _; omega)) (by show W.heap.size ≠ B; omega)).trans h1, (hf.cell (a := ⟨W.heap.size + 1, 0, none⟩) (hp _ (by show W.heap.size + 1 < _; omega)) (by show W.heap.size + 1 ≠ B; omega)).trans h2, hf.lies h3 (hp _ (by omega)) (by omega), (hf.frozen (a := ⟨W.heap.size + 2, 0, none⟩) (hp _ (by show W.heap.size + 2 < _; omega)) (by show W.heap.size + 2 ≠ B; omega)).trans h4, hf.lies h5 (hp _ (by omega)) (by omega)⟩,
    Nat.le_trans h6 hf.2.1, h7.trans (hf.mono (fun k hk => hp k (by omega))), hB⟩
theorem KP.call {W w1 w2 : World} {B : Nat} {n : Int} {y : Sl} {d : Sl × Sl} (h : KP W B n y d w1) (hb : Below w1.heap.size w1 w2) : KP W B n y d w2 :=
  h.far (p := p4 W) (fun k hk => hk) (Far.of_below hb (fun k hk => by unfold p4 at hk; have := h.2.1; omega))
theorem KP.sum {W w1 : World} {B : Nat} {n : Int} {y : Sl} {d : Sl × Sl} (h : KP W B n y d w1) (x : UInt64) : KP W B n ⟨x, y.q, y.z, y.r⟩ d (w1.setCell ⟨W.heap.size + 2, 0, none⟩ (.int .u64 ((x).toNat : Int))) := by
  obtain ⟨⟨h1, h2, h3, h4, h5⟩, h6, h7, hB⟩ := h
  refine ⟨⟨?_, ?_, ?_, by rw [World.frozen?_setCell]; exact h4, ?_⟩, by simp only [World.size_setCell]; exact h6, h7.trans (Far.of_grown (sc_grown w1 (W.heap.size + 2) 0 [.int .u64 ((x).toNat : Int)]) (fun k hk hne => ⟨by omega, fun e => by injection e with e; omega⟩)), hB⟩
  · rw [World.cell?_setCell_other _ _ _ _ (fun e => by injection e with e; omega)]; exact h1
  · rw [World.cell?_setCell_other _ _ _ _ (fun e => by injection e with e; omega)]; exact h2
  · exact h3.set 0 (by simp) (.int .u64 ((x).toNat : Int))
  · exact h5.grown (sc_grown w1 (W.heap.size + 2) 0 [.int .u64 ((x).toNat : Int)]) (by omega) (fun e => by injection e with e; omega)
theorem KP.new (W : World) (B : Nat) (n : Int) (y : Sl) (d : Sl × Sl) (hB : B < W.heap.size) : KP W B n y d ((((W.alloc (.cells #[.pointer (some ⟨B, 0, none⟩)] 46)).alloc (.cells #[.int .i64 n] 3)).alloc (.cells #[Value.int IntKind.u64 ((y).m.toNat : Int), Value.int IntKind.u64 ((y).q.toNat : Int), Value.int IntKind.u64 ((y).z.toNat : Int), Value.int IntKind.u64 ((y).r.a.toNat : Int), Value.int IntKind.u64 ((y).r.b.toNat : Int), Value.int IntKind.u64 ((y).r.c.toNat : Int), Value.int IntKind.u64 ((y).r.d.toNat : Int)] 27)).alloc (.cells #[.int .u64 ((d.1).m.toNat : Int), .int .u64 ((d.1).q.toNat : Int), .int .u64 ((d.1).z.toNat : Int), .int .u64 ((d.1).r.a.toNat : Int), .int .u64 ((d.1).r.b.toNat : Int), .int .u64 ((d.1).r.c.toNat : Int), .int .u64 ((d.1).r.d.toNat : Int), .int .u64 ((d.2).m.toNat : Int), .int .u64 ((d.2).q.toNat : Int), .int .u64 ((d.2).z.toNat : Int), .int .u64 ((d.2).r.a.toNat : Int), .int .u64 ((d.2).r.b.toNat : Int), .int .u64 ((d.2).r.c.toNat : Int), .int .u64 ((d.2).r.d.toNat : Int)] 29)) := by
  refine ⟨⟨by simp [go_sem], by simp [go_sem], ?_, by simp [go_sem], ?_⟩, by simp, Far.of_below (c := W.heap.size) (by repeat' (first | (with_reducible exact Below.refl _ _) | (with_reducible assumption) | (with_reducible refine below_drewN ?_ _) | (with_reducible refine Below.setCell ?_ ?_ _) | (with_reducible refine Below.alloc ?_ ?_ _) | (with_reducible refine Below.drew ?_) | go_size)) (fun k hk => hk), hB⟩
  · have := (Lies.new ((W.alloc (.cells #[.pointer (some ⟨B, 0, none⟩)] 46)).alloc (.cells #[.int .i64 n] 3)) [.int .u64 ((y).m.toNat : Int), .int .u64 ((y).q.toNat : Int), .int .u64 ((y).z.toNat : Int), .int .u64 ((y).r.a.toNat : Int), .int .u64 ((y).r.b.toNat : Int), .int .u64 ((y).r.c.toNat : Int), .int .u64 ((y).r.d.toNat : Int)] 27).call ((Below.refl _ _).alloc (Nat.le_refl _) (.cells #[.int .u64 ((d.1).m.toNat : Int), .int .u64 ((d.1).q.toNat : Int), .int .u64 ((d.1).z.toNat : Int), .int .u64 ((d.1).r.a.toNat : Int), .int .u64 ((d.1).r.b.toNat : Int), .int .u64 ((d.1).r.c.toNat : Int), .int .u64 ((d.1).r.d.toNat : Int), .int .u64 ((d.2).m.toNat : Int), .int .u64 ((d.2).q.toNat : Int), .int .u64 ((d.2).z.toNat : Int), .int .u64 ((d.2).r.a.toNat : Int), .int .u64 ((d.2).r.b.toNat : Int), .int .u64 ((d.2).r.c.toNat : Int), .int .u64 ((d.2).r.d.toNat : Int)] 29)) (by simp)
    simp only [World.size_alloc] at this
    exact this
  · have := Lies.new (((W.alloc (.cells #[.pointer (some ⟨B, 0, none⟩)] 46)).alloc (.cells #[.int .i64 n] 3)).alloc (.cells #[Value.int IntKind.u64 ((y).m.toNat : Int), Value.int IntKind.u64 ((y).q.toNat : Int), Value.int IntKind.u64 ((y).z.toNat : Int), Value.int IntKind.u64 ((y).r.a.toNat : Int), Value.int IntKind.u64 ((y).r.b.toNat : Int), Value.int IntKind.u64 ((y).r.c.toNat : Int), Value.int IntKind.u64 ((y).r.d.toNat : Int)] 27)) [.int .u64 ((d.1).m.toNat : Int), .int .u64 ((d.1).q.toNat : Int), .int .u64 ((d.1).z.toNat : Int), .int .u64 ((d.1).r.a.toNat : Int), .int .u64 ((d.1).r.b.toNat : Int), .int .u64 ((d.1).r.c.toNat : Int), .int .u64 ((d.1).r.d.toNat : Int), .int .u64 ((d.2).m.toNat : Int), .int .u64 ((d.2).q.toNat : Int), .int .u64 ((d.2).z.toNat : Int), .int .u64 ((d.2).r.a.toNat : Int), .int .u64 ((d.2).r.b.toNat : Int), .int .u64 ((d.2).r.c.toNat : Int), .int .u64 ((d.2).r.d.toNat : Int)] 29
    simp only [World.size_alloc] at this
    exact this
def pT (W : World) (T : Nat) : Nat → Prop := fun k => p4 W k ∨ k = T
/-- What stands while the words are written. -/
def LW (W : World) (B : Nat) (n : Int) (y : Sl) (d : Sl × Sl) (T k : Nat) (wr : World) : Prop :=
  KP W B n (y1 y) d wr ∧ PLB (pT W T) B (dws d ((k7 n y).take k)) ((k7 n y).take k) wr ∧ Lies T 0 [.int .u64 (((y1 y)).m.toNat : Int), .int .u64 (((y1 y)).q.toNat : Int), .int .u64 (((y1 y)).z.toNat : Int), .int .u64 (((y1 y)).r.a.toNat : Int), .int .u64 (((y1 y)).r.b.toNat : Int), .int .u64 (((y1 y)).r.c.toNat : Int), .int .u64 (((y1 y)).r.d.toNat : Int)] wr ∧ W.heap.size + 4 ≤ T
end Go.Proofs.Ytepgmdgcappfpaa
