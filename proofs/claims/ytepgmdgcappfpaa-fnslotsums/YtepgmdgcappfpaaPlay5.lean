/-
  A raw write done to a play: what lies apart stays.
-/
import Derived.Test.YtepgmdgcappfpaaPlay3
namespace Go.Proofs.Ytepgmdgcappfpaa
open Go.RowKit

/-- Of the blocks p, but for the block B, the world is as it was. -/
def Far (p : Nat → Prop) (B : Nat) (W W' : World) : Prop := (W'.os = W.os ∧ W'.tape = W.tape ∧ W'.output = W.output) ∧ W.heap.size ≤ W'.heap.size ∧ ∀ k, p k → k ≠ B → W'.heap[k]? = W.heap[k]?
theorem Far.refl (p : Nat → Prop) (B : Nat) (W : World) : Far p B W W := ⟨⟨rfl, rfl, rfl⟩, Nat.le_refl _, fun _ _ _ => rfl⟩
theorem Far.trans {p : Nat → Prop} {B : Nat} {W W1 W2 : World} (h : Far p B W W1) (h' : Far p B W1 W2) : Far p B W W2 :=
  ⟨⟨h'.1.1.trans h.1.1, h'.1.2.1.trans h.1.2.1, h'.1.2.2.trans h.1.2.2⟩, Nat.le_trans h.2.1 h'.2.1, fun k hk hne => (h'.2.2 k hk hne).trans (h.2.2 k hk hne)⟩
theorem Far.of_below {p : Nat → Prop} {B c : Nat} {W W' : World} (h : Below c W W') (hb : ∀ k, p k → k < c) : Far p B W W' := ⟨⟨h.os, h.tape, h.output⟩, h.size, fun k hk _ => h.block k (hb k hk)⟩
theorem Far.of_grown {p : Nat → Prop} {B : Nat} {W W' : World} {row : Option Nat} (h : W.grownBy W' row) (hp : ∀ k, p k → k ≠ B → k < W.heap.size ∧ some k ≠ row) : Far p B W W' :=
  ⟨⟨h.os, h.tape, h.output⟩, h.size, fun k hk hne => h.block k (hp k hk hne).1 (hp k hk hne).2⟩
theorem Far.cell {p : Nat → Prop} {B : Nat} {W W' : World} (h : Far p B W W') {a : Addr} (hp : p a.block) (hne : a.block ≠ B) : W'.cell? a = W.cell? a := World.cell?_of_block (h.2.2 _ hp hne)
theorem Far.frozen {p : Nat → Prop} {B : Nat} {W W' : World} (h : Far p B W W') {a : Addr} (hp : p a.block) (hne : a.block ≠ B) : W'.frozen? a = W.frozen? a := World.frozen?_of_block (h.2.2 _ hp hne)
theorem Far.lies {p : Nat → Prop} {B g k : Nat} {vs : List Value} {W W' : World} (h : Far p B W W') (hl : Lies g k vs W) (hg : p g) (hne : g ≠ B) : Lies g k vs W' := fun j v hj => (h.cell (a := ⟨g, k + j, none⟩) hg hne).trans (hl j v hj)
theorem Far.mono {p q : Nat → Prop} {B : Nat} {W W' : World} (h : Far p B W W') (hq : ∀ k, q k → p k) : Far q B W W' := ⟨h.1, h.2.1, fun k hk hne => h.2.2 k (hq k hk) hne⟩
/-- The block B is a play on the disk d in which the raw writes L were done; they lie in none of the blocks p. -/
def PLB (p : Nat → Prop) (B : Nat) (d : Sl × Sl) (L : List Rw) (W : World) : Prop := ∃ v, PK B d v W ∧ W.ownsRow (B + 1) 56 3 v L.length (rcs L) ∧ ∀ k, p k → k < W.heap.size ∧ v.ownBlock ≠ some k
theorem PLB.call {p : Nat → Prop} {B : Nat} {d : Sl × Sl} {L : List Rw} {W W' : World} (h : PLB p B d L W) (hb : Below W.heap.size W W') : PLB p B d L W' := by
  obtain ⟨v, h1, h2, h3⟩ := h
  exact ⟨v, h1.call hb, own_callR h2 hb, fun k hk => ⟨Nat.lt_of_lt_of_le (h3 k hk).1 hb.size, (h3 k hk).2⟩⟩
/-- One block more to be spared, made by now. -/
theorem PLB.more {p : Nat → Prop} {B : Nat} {d : Sl × Sl} {L : List Rw} {W W' : World} {g : Nat} (h : PLB p B d L W) (hb : Below W.heap.size W W') (hg : W.heap.size ≤ g) (hg' : g < W'.heap.size) : PLB (fun k => p k ∨ k = g) B d L W' := by
  obtain ⟨v, h1, h2, h3⟩ := h
  refine ⟨v, h1.call hb, own_callR h2 hb, fun k hk => ?_⟩
  rcases hk with hk | rfl
  · exact ⟨Nat.lt_of_lt_of_le (h3 k hk).1 hb.size, (h3 k hk).2⟩
  · exact ⟨hg', fun e => by
      have := (h2.lt _ e).2
      omega⟩
theorem PLB.lt {p : Nat → Prop} {B : Nat} {d : Sl × Sl} {L : List Rw} {W : World} (h : PLB p B d L W) : B < W.heap.size := by
  obtain ⟨v, h1, -⟩ := h
  exact h1.1
set_option maxRecDepth 20000 in
set_option maxHeartbeats 2000000 in
theorem wrb0_is (p : Nat → Prop) (B o : Nat) (n : Int) (x : UInt64) (d d' : Sl × Sl) (v : Value) (L : List Rw) (W : World) (h : PK B d v W) (ho : W.ownsRow (B + 1) 56 3 v L.length (rcs L)) (hav : ∀ k, p k → k < W.heap.size ∧ v.ownBlock ≠ some k) (hL : L.length ≤ 1048576)
    (hcs : ∀ V : World, Calls Try.prog 35 #[.pointer (some ⟨B, 0, none⟩), .int .i64 n] V fun e w' => e = .returned (.pointer (some ⟨B, o, none⟩)) ∧ V = w')
    (hput : ∀ V : World, PK B d v V → PK B d' v (V.setCell ⟨B, o + 0, none⟩ (.int .u64 ((x).toNat : Int)))) (ho22 : o + 0 < 14) :
    Calls Try.prog 22 #[.pointer (some ⟨B, 0, none⟩), .agg #[.int .i64 n, .int .i64 0, .int .u64 ((x).toNat : Int)]] W fun e w' => e = .returned (.tuple #[]) ∧ PLB p B d' (L ++ [⟨n, 0, x⟩]) w' ∧ Far p B W w' := by
  obtain ⟨i0, hi, hz0, hz1, hz2⟩ := info_parts infoRw
  obtain ⟨V, hV⟩ : ∃ V, V = (W.alloc (.cells #[.int .i64 n, .int .i64 0, .int .u64 ((x).toNat : Int)] 56)).drew := ⟨_, rfl⟩
  have hWV : Below W.heap.size W V := by rw [hV]; exact ((Below.refl _ _).alloc (Nat.le_refl _) _).drew
  have hVs : V.heap.size = W.heap.size + 1 := by rw [hV]; simp
  have hPV := h.call hWV
  have HF : Hid (∀ w1 : World, V.setCell ⟨B, o + 0, none⟩ (.int .u64 ((x).toNat : Int)) = w1 → PK B d' v w1 ∧ w1.ownsRow (B + 1) 56 3 v L.length (rcs L) ∧ Below B W w1 ∧ Far p B W w1 ∧ w1.heap.size = W.heap.size + 1 ∧
      (w1.cell? ⟨W.heap.size, 0, none⟩ = some (.int .i64 n) ∧ w1.cell? ⟨W.heap.size, 1, none⟩ = some (.int .i64 0) ∧ w1.cell? ⟨W.heap.size, 2, none⟩ = some (.int .u64 ((x).toNat : Int))) ∧ w1.cell? ⟨B, 14, none⟩ = some (Value.func (.func 47) #[] #[]) ∧ w1.cell? ⟨B, 21, none⟩ = some v ∧ w1.frozen? ⟨B, 21, none⟩ = false) := by
    rintro w1 rfl
    have hP1 := hput V hPV
    have hB := h.1
    refine ⟨hP1, (own_callR ho hWV).kept (sc_grown V B (o + 0) [.int .u64 ((x).toNat : Int)]) (.inr (own_ne ho)), (hWV.mono (Nat.le_of_lt hB)).setCell (p := ⟨B, o + 0, none⟩) (Nat.le_refl _) _, (Far.of_below hWV (fun k hk => (hav k hk).1)).trans (Far.of_grown (sc_grown V B (o + 0) [.int .u64 ((x).toNat : Int)]) (fun k hk hne => ⟨by have := (hav k hk).1; omega, fun e => by injection e with e; omega⟩)), by simp only [World.size_setCell]; exact hVs, ⟨?_, ?_, ?_⟩, hP1.cell 14 _ rfl, hP1.cell 21 v rfl, hP1.free 21 (by omega)⟩
    all_goals (rw [World.cell?_setCell_other _ _ _ _ (fun e => by injection e with e; omega), hV]; simp [go_sem])
  obtain ⟨hB, hL0, hR0⟩ := id hPV
  obtain ⟨u, hu⟩ := Option.isSome_iff_exists.1 (hR0.1 (o + 0) (by omega))
  rw [Nat.zero_add] at hu
  have hfu := hPV.free (o + 0) (by omega)
  have cl := lay0_is B o x V u hu hfu
  have hfn := hPV.cell 14 _ rfl
  have r1 : V.cell? ⟨W.heap.size, 1, none⟩ = some (.int .i64 0) := by rw [hV]; simp [go_sem]
  have r2 : V.cell? ⟨W.heap.size, 2, none⟩ = some (.int .u64 ((x).toNat : Int)) := by rw [hV]; simp [go_sem]
  have hB0 : B < W.heap.size := h.1
  clear h ho hput hPV hL0 hR0 hu hfu hWV hVs hB
  subst hV
  go_enter Try.func22, Try.ntmps22
  go_wp2_with (go_at_call 35; refine (hcs _).mono ?_; rintro e w0 ⟨rfl, hw0⟩; replace hw0 := hw0.symm; subst hw0)
  go_region_held3 (fun w' => w'.cell? ⟨W.heap.size, 1, none⟩ = some (.int .i64 0) ∧ w'.cell? ⟨W.heap.size, 2, none⟩ = some (.int .u64 ((x).toNat : Int)) ∧ w'.cell? ⟨B, 14, none⟩ = some (Value.func (.func 47) #[] #[])) ((refine ⟨?_, ?_, ?_⟩ <;> (with_reducible assumption))) (((try go_simp); go_at_call 47; refine cl.mono ?_; rintro e w1 ⟨rfl, hw1⟩; obtain ⟨hP1, ho1, hb1, hfr, hs1, ⟨q0, q1, q2⟩, cfn, c21, f21⟩ := HF.out w1 hw1; clear hw1))
  have HG : Hid (∀ (w2 w3 : World) (v' : Value), Below w1.heap.size w1 w2 → w3.ownsRow (B + 1) 56 3 v' (L.length + 1) (rcs L ++ rc ⟨n, 0, x⟩) → w2.grownBy w3 v.ownBlock → (∀ k, v'.ownBlock = some k → v.ownBlock = some k ∨ w2.heap.size ≤ k) →
      w3.cell? ⟨B, 21, none⟩ = some v ∧ w3.frozen? ⟨B, 21, none⟩ = false ∧ PLB p B d' (L ++ [⟨n, 0, x⟩]) (w3.setCell ⟨B, 21, none⟩ v') ∧ Far p B W (w3.setCell ⟨B, 21, none⟩ v')) := fun w2 w3 v' hb2 ho3 hg3 hat => by
    have hP3 := (hP1.call hb2).grown hg3 (own_ne ho1)
    refine ⟨hP3.cell 21 v rfl, hP3.free 21 (by omega), ⟨v', hP3.done v', ?_, fun k hk => ⟨by simp only [World.size_setCell]; have := (hav k hk).1; have := hg3.size; have := hb2.size; omega, fun e => by
      rcases hat k e with h | h
      · exact (hav k hk).2 h
      · have := (hav k hk).1; have := hb2.size; omega⟩⟩, ?_⟩
    · have := ho3.kept (w' := w3.setCell ⟨B, 21, none⟩ v') (sc_grown w3 B 21 [v']) (.inr (own_ne ho3))
      rw [rcs_append, List.length_append]
      simpa [rcs] using this
    · have hz2 := hb2.size
      exact ((hfr.trans (Far.of_below hb2 (fun k hk => by have := (hav k hk).1; omega))).trans (Far.of_grown hg3 (fun k hk _ => ⟨by have := (hav k hk).1; omega, fun e => (hav k hk).2 e.symm⟩))).trans (Far.of_grown (sc_grown w3 B 21 [v']) (fun k hk hne => ⟨by have := (hav k hk).1; have := hg3.size; omega, fun e => by injection e with e; omega⟩))
  have HO : Hid (∀ w2 : World, Below w1.heap.size w1 w2 → w2.ownsRow (B + 1) 56 3 v L.length (rcs L)) := fun w2 hb2 => own_callR ho1 hb2
  have hBw : B + 1 ≤ w1.heap.size := by omega
  have hrl : (rcs L).length = L.length * 3 := rcs_len L
  have n1 := World.new_ne w1 ⟨B, 21, none⟩ c21
  have n2 := World.new_ne w1 ⟨W.heap.size, 0, none⟩ q0
  clear hP1 ho1 hb1 hfr hav cfn hcs HF cl hfn r1 r2
  go_wp2_with fail
  go_region_law (refine step_append_lies _ rfl (.tmp 36) (.tmp 38) 31 rfl (B + 1) 56 i0 _ 3 24 Try.underlying31 hi hz0 hz1 hz2 rfl (by decide) v L.length (rcs L) (by simp [Act.eval]) (HO.out _ (by repeat' (first | (with_reducible exact Below.refl _ _) | (with_reducible assumption) | (with_reducible refine below_drewN ?_ _) | (with_reducible refine Below.setCell ?_ ?_ _) | (with_reducible refine Below.alloc ?_ ?_ _) | (with_reducible refine Below.drew ?_) | go_size))) ⟨w1.heap.size, 0, none⟩ 1 1 (rc ⟨n, 0, x⟩) (by simp [Act.eval]) rfl (rc_cells (by simp [go_sem]) (by simp [go_sem]) (by simp [go_sem])) rc_one (by decide) (by unfold maxLen; omega) (by omega) (by simp; omega) _ rfl ?_; intro g cp w3 ho3 hg3 hat3 hlt3; obtain ⟨c3, f3, hP3, hb3⟩ := HG.out _ w3 _ (by repeat' (first | (with_reducible exact Below.refl _ _) | (with_reducible assumption) | (with_reducible refine below_drewN ?_ _) | (with_reducible refine Below.setCell ?_ ?_ _) | (with_reducible refine Below.alloc ?_ ?_ _) | (with_reducible refine Below.drew ?_) | go_size)) ho3 hg3 (fun k hk => by have e : g = k := (by simpa [Value.ownBlock] using hk); subst e; exact hat3.imp id (fun h => Nat.le_of_eq h.symm)); clear hat3)
  all_goals (go_wp2_with fail)
  all_goals go_end0
  all_goals exact ⟨rfl, hP3, hb3⟩
set_option maxRecDepth 20000 in
set_option maxHeartbeats 2000000 in
theorem wrb1_is (p : Nat → Prop) (B o : Nat) (n : Int) (x : UInt64) (d d' : Sl × Sl) (v : Value) (L : List Rw) (W : World) (h : PK B d v W) (ho : W.ownsRow (B + 1) 56 3 v L.length (rcs L)) (hav : ∀ k, p k → k < W.heap.size ∧ v.ownBlock ≠ some k) (hL : L.length ≤ 1048576)
    (hcs : ∀ V : World, Calls Try.prog 35 #[.pointer (some ⟨B, 0, none⟩), .int .i64 n] V fun e w' => e = .returned (.pointer (some ⟨B, o, none⟩)) ∧ V = w')
    (hput : ∀ V : World, PK B d v V → PK B d' v (V.setCell ⟨B, o + 1, none⟩ (.int .u64 ((x).toNat : Int)))) (ho22 : o + 1 < 14) :
    Calls Try.prog 22 #[.pointer (some ⟨B, 0, none⟩), .agg #[.int .i64 n, .int .i64 1, .int .u64 ((x).toNat : Int)]] W fun e w' => e = .returned (.tuple #[]) ∧ PLB p B d' (L ++ [⟨n, 1, x⟩]) w' ∧ Far p B W w' := by
  obtain ⟨i0, hi, hz0, hz1, hz2⟩ := info_parts infoRw
  obtain ⟨V, hV⟩ : ∃ V, V = (W.alloc (.cells #[.int .i64 n, .int .i64 1, .int .u64 ((x).toNat : Int)] 56)).drew := ⟨_, rfl⟩
  have hWV : Below W.heap.size W V := by rw [hV]; exact ((Below.refl _ _).alloc (Nat.le_refl _) _).drew
  have hVs : V.heap.size = W.heap.size + 1 := by rw [hV]; simp
  have hPV := h.call hWV
  have HF : Hid (∀ w1 : World, V.setCell ⟨B, o + 1, none⟩ (.int .u64 ((x).toNat : Int)) = w1 → PK B d' v w1 ∧ w1.ownsRow (B + 1) 56 3 v L.length (rcs L) ∧ Below B W w1 ∧ Far p B W w1 ∧ w1.heap.size = W.heap.size + 1 ∧
      (w1.cell? ⟨W.heap.size, 0, none⟩ = some (.int .i64 n) ∧ w1.cell? ⟨W.heap.size, 1, none⟩ = some (.int .i64 1) ∧ w1.cell? ⟨W.heap.size, 2, none⟩ = some (.int .u64 ((x).toNat : Int))) ∧ w1.cell? ⟨B, 15, none⟩ = some (Value.func (.func 48) #[] #[]) ∧ w1.cell? ⟨B, 21, none⟩ = some v ∧ w1.frozen? ⟨B, 21, none⟩ = false) := by
    rintro w1 rfl
    have hP1 := hput V hPV
    have hB := h.1
    refine ⟨hP1, (own_callR ho hWV).kept (sc_grown V B (o + 1) [.int .u64 ((x).toNat : Int)]) (.inr (own_ne ho)), (hWV.mono (Nat.le_of_lt hB)).setCell (p := ⟨B, o + 1, none⟩) (Nat.le_refl _) _, (Far.of_below hWV (fun k hk => (hav k hk).1)).trans (Far.of_grown (sc_grown V B (o + 1) [.int .u64 ((x).toNat : Int)]) (fun k hk hne => ⟨by have := (hav k hk).1; omega, fun e => by injection e with e; omega⟩)), by simp only [World.size_setCell]; exact hVs, ⟨?_, ?_, ?_⟩, hP1.cell 15 _ rfl, hP1.cell 21 v rfl, hP1.free 21 (by omega)⟩
    all_goals (rw [World.cell?_setCell_other _ _ _ _ (fun e => by injection e with e; omega), hV]; simp [go_sem])
  obtain ⟨hB, hL0, hR0⟩ := id hPV
  obtain ⟨u, hu⟩ := Option.isSome_iff_exists.1 (hR0.1 (o + 1) (by omega))
  rw [Nat.zero_add] at hu
  have hfu := hPV.free (o + 1) (by omega)
  have cl := lay1_is B o x V u hu hfu
  have hfn := hPV.cell 15 _ rfl
  have r1 : V.cell? ⟨W.heap.size, 1, none⟩ = some (.int .i64 1) := by rw [hV]; simp [go_sem]
  have r2 : V.cell? ⟨W.heap.size, 2, none⟩ = some (.int .u64 ((x).toNat : Int)) := by rw [hV]; simp [go_sem]
  have hB0 : B < W.heap.size := h.1
  clear h ho hput hPV hL0 hR0 hu hfu hWV hVs hB
  subst hV
  go_enter Try.func22, Try.ntmps22
  go_wp2_with (go_at_call 35; refine (hcs _).mono ?_; rintro e w0 ⟨rfl, hw0⟩; replace hw0 := hw0.symm; subst hw0)
  go_region_held3 (fun w' => w'.cell? ⟨W.heap.size, 1, none⟩ = some (.int .i64 1) ∧ w'.cell? ⟨W.heap.size, 2, none⟩ = some (.int .u64 ((x).toNat : Int)) ∧ w'.cell? ⟨B, 15, none⟩ = some (Value.func (.func 48) #[] #[])) ((refine ⟨?_, ?_, ?_⟩ <;> (with_reducible assumption))) (((try go_simp); go_at_call 48; refine cl.mono ?_; rintro e w1 ⟨rfl, hw1⟩; obtain ⟨hP1, ho1, hb1, hfr, hs1, ⟨q0, q1, q2⟩, cfn, c21, f21⟩ := HF.out w1 hw1; clear hw1))
  have HG : Hid (∀ (w2 w3 : World) (v' : Value), Below w1.heap.size w1 w2 → w3.ownsRow (B + 1) 56 3 v' (L.length + 1) (rcs L ++ rc ⟨n, 1, x⟩) → w2.grownBy w3 v.ownBlock → (∀ k, v'.ownBlock = some k → v.ownBlock = some k ∨ w2.heap.size ≤ k) →
      w3.cell? ⟨B, 21, none⟩ = some v ∧ w3.frozen? ⟨B, 21, none⟩ = false ∧ PLB p B d' (L ++ [⟨n, 1, x⟩]) (w3.setCell ⟨B, 21, none⟩ v') ∧ Far p B W (w3.setCell ⟨B, 21, none⟩ v')) := fun w2 w3 v' hb2 ho3 hg3 hat => by
    have hP3 := (hP1.call hb2).grown hg3 (own_ne ho1)
    refine ⟨hP3.cell 21 v rfl, hP3.free 21 (by omega), ⟨v', hP3.done v', ?_, fun k hk => ⟨by simp only [World.size_setCell]; have := (hav k hk).1; have := hg3.size; have := hb2.size; omega, fun e => by
      rcases hat k e with h | h
      · exact (hav k hk).2 h
      · have := (hav k hk).1; have := hb2.size; omega⟩⟩, ?_⟩
    · have := ho3.kept (w' := w3.setCell ⟨B, 21, none⟩ v') (sc_grown w3 B 21 [v']) (.inr (own_ne ho3))
      rw [rcs_append, List.length_append]
      simpa [rcs] using this
    · have hz2 := hb2.size
      exact ((hfr.trans (Far.of_below hb2 (fun k hk => by have := (hav k hk).1; omega))).trans (Far.of_grown hg3 (fun k hk _ => ⟨by have := (hav k hk).1; omega, fun e => (hav k hk).2 e.symm⟩))).trans (Far.of_grown (sc_grown w3 B 21 [v']) (fun k hk hne => ⟨by have := (hav k hk).1; have := hg3.size; omega, fun e => by injection e with e; omega⟩))
  have HO : Hid (∀ w2 : World, Below w1.heap.size w1 w2 → w2.ownsRow (B + 1) 56 3 v L.length (rcs L)) := fun w2 hb2 => own_callR ho1 hb2
  have hBw : B + 1 ≤ w1.heap.size := by omega
  have hrl : (rcs L).length = L.length * 3 := rcs_len L
  have n1 := World.new_ne w1 ⟨B, 21, none⟩ c21
  have n2 := World.new_ne w1 ⟨W.heap.size, 0, none⟩ q0
  clear hP1 ho1 hb1 hfr hav cfn hcs HF cl hfn r1 r2
  go_wp2_with fail
  go_region_law (refine step_append_lies _ rfl (.tmp 36) (.tmp 38) 31 rfl (B + 1) 56 i0 _ 3 24 Try.underlying31 hi hz0 hz1 hz2 rfl (by decide) v L.length (rcs L) (by simp [Act.eval]) (HO.out _ (by repeat' (first | (with_reducible exact Below.refl _ _) | (with_reducible assumption) | (with_reducible refine below_drewN ?_ _) | (with_reducible refine Below.setCell ?_ ?_ _) | (with_reducible refine Below.alloc ?_ ?_ _) | (with_reducible refine Below.drew ?_) | go_size))) ⟨w1.heap.size, 0, none⟩ 1 1 (rc ⟨n, 1, x⟩) (by simp [Act.eval]) rfl (rc_cells (by simp [go_sem]) (by simp [go_sem]) (by simp [go_sem])) rc_one (by decide) (by unfold maxLen; omega) (by omega) (by simp; omega) _ rfl ?_; intro g cp w3 ho3 hg3 hat3 hlt3; obtain ⟨c3, f3, hP3, hb3⟩ := HG.out _ w3 _ (by repeat' (first | (with_reducible exact Below.refl _ _) | (with_reducible assumption) | (with_reducible refine below_drewN ?_ _) | (with_reducible refine Below.setCell ?_ ?_ _) | (with_reducible refine Below.alloc ?_ ?_ _) | (with_reducible refine Below.drew ?_) | go_size)) ho3 hg3 (fun k hk => by have e : g = k := (by simpa [Value.ownBlock] using hk); subst e; exact hat3.imp id (fun h => Nat.le_of_eq h.symm)); clear hat3)
  all_goals (go_wp2_with fail)
  all_goals go_end0
  all_goals exact ⟨rfl, hP3, hb3⟩
set_option maxRecDepth 20000 in
set_option maxHeartbeats 2000000 in
theorem wrb2_is (p : Nat → Prop) (B o : Nat) (n : Int) (x : UInt64) (d d' : Sl × Sl) (v : Value) (L : List Rw) (W : World) (h : PK B d v W) (ho : W.ownsRow (B + 1) 56 3 v L.length (rcs L)) (hav : ∀ k, p k → k < W.heap.size ∧ v.ownBlock ≠ some k) (hL : L.length ≤ 1048576)
    (hcs : ∀ V : World, Calls Try.prog 35 #[.pointer (some ⟨B, 0, none⟩), .int .i64 n] V fun e w' => e = .returned (.pointer (some ⟨B, o, none⟩)) ∧ V = w')
    (hput : ∀ V : World, PK B d v V → PK B d' v (V.setCell ⟨B, o + 2, none⟩ (.int .u64 ((x).toNat : Int)))) (ho22 : o + 2 < 14) :
    Calls Try.prog 22 #[.pointer (some ⟨B, 0, none⟩), .agg #[.int .i64 n, .int .i64 2, .int .u64 ((x).toNat : Int)]] W fun e w' => e = .returned (.tuple #[]) ∧ PLB p B d' (L ++ [⟨n, 2, x⟩]) w' ∧ Far p B W w' := by
  obtain ⟨i0, hi, hz0, hz1, hz2⟩ := info_parts infoRw
  obtain ⟨V, hV⟩ : ∃ V, V = (W.alloc (.cells #[.int .i64 n, .int .i64 2, .int .u64 ((x).toNat : Int)] 56)).drew := ⟨_, rfl⟩
  have hWV : Below W.heap.size W V := by rw [hV]; exact ((Below.refl _ _).alloc (Nat.le_refl _) _).drew
  have hVs : V.heap.size = W.heap.size + 1 := by rw [hV]; simp
  have hPV := h.call hWV
  have HF : Hid (∀ w1 : World, V.setCell ⟨B, o + 2, none⟩ (.int .u64 ((x).toNat : Int)) = w1 → PK B d' v w1 ∧ w1.ownsRow (B + 1) 56 3 v L.length (rcs L) ∧ Below B W w1 ∧ Far p B W w1 ∧ w1.heap.size = W.heap.size + 1 ∧
      (w1.cell? ⟨W.heap.size, 0, none⟩ = some (.int .i64 n) ∧ w1.cell? ⟨W.heap.size, 1, none⟩ = some (.int .i64 2) ∧ w1.cell? ⟨W.heap.size, 2, none⟩ = some (.int .u64 ((x).toNat : Int))) ∧ w1.cell? ⟨B, 16, none⟩ = some (Value.func (.func 49) #[] #[]) ∧ w1.cell? ⟨B, 21, none⟩ = some v ∧ w1.frozen? ⟨B, 21, none⟩ = false) := by
    rintro w1 rfl
    have hP1 := hput V hPV
    have hB := h.1
    refine ⟨hP1, (own_callR ho hWV).kept (sc_grown V B (o + 2) [.int .u64 ((x).toNat : Int)]) (.inr (own_ne ho)), (hWV.mono (Nat.le_of_lt hB)).setCell (p := ⟨B, o + 2, none⟩) (Nat.le_refl _) _, (Far.of_below hWV (fun k hk => (hav k hk).1)).trans (Far.of_grown (sc_grown V B (o + 2) [.int .u64 ((x).toNat : Int)]) (fun k hk hne => ⟨by have := (hav k hk).1; omega, fun e => by injection e with e; omega⟩)), by simp only [World.size_setCell]; exact hVs, ⟨?_, ?_, ?_⟩, hP1.cell 16 _ rfl, hP1.cell 21 v rfl, hP1.free 21 (by omega)⟩
    all_goals (rw [World.cell?_setCell_other _ _ _ _ (fun e => by injection e with e; omega), hV]; simp [go_sem])
  obtain ⟨hB, hL0, hR0⟩ := id hPV
  obtain ⟨u, hu⟩ := Option.isSome_iff_exists.1 (hR0.1 (o + 2) (by omega))
  rw [Nat.zero_add] at hu
  have hfu := hPV.free (o + 2) (by omega)
  have cl := lay2_is B o x V u hu hfu
  have hfn := hPV.cell 16 _ rfl
  have r1 : V.cell? ⟨W.heap.size, 1, none⟩ = some (.int .i64 2) := by rw [hV]; simp [go_sem]
  have r2 : V.cell? ⟨W.heap.size, 2, none⟩ = some (.int .u64 ((x).toNat : Int)) := by rw [hV]; simp [go_sem]
  have hB0 : B < W.heap.size := h.1
  clear h ho hput hPV hL0 hR0 hu hfu hWV hVs hB
  subst hV
  go_enter Try.func22, Try.ntmps22
  go_wp2_with (go_at_call 35; refine (hcs _).mono ?_; rintro e w0 ⟨rfl, hw0⟩; replace hw0 := hw0.symm; subst hw0)
  go_region_held3 (fun w' => w'.cell? ⟨W.heap.size, 1, none⟩ = some (.int .i64 2) ∧ w'.cell? ⟨W.heap.size, 2, none⟩ = some (.int .u64 ((x).toNat : Int)) ∧ w'.cell? ⟨B, 16, none⟩ = some (Value.func (.func 49) #[] #[])) ((refine ⟨?_, ?_, ?_⟩ <;> (with_reducible assumption))) (((try go_simp); go_at_call 49; refine cl.mono ?_; rintro e w1 ⟨rfl, hw1⟩; obtain ⟨hP1, ho1, hb1, hfr, hs1, ⟨q0, q1, q2⟩, cfn, c21, f21⟩ := HF.out w1 hw1; clear hw1))
  have HG : Hid (∀ (w2 w3 : World) (v' : Value), Below w1.heap.size w1 w2 → w3.ownsRow (B + 1) 56 3 v' (L.length + 1) (rcs L ++ rc ⟨n, 2, x⟩) → w2.grownBy w3 v.ownBlock → (∀ k, v'.ownBlock = some k → v.ownBlock = some k ∨ w2.heap.size ≤ k) →
      w3.cell? ⟨B, 21, none⟩ = some v ∧ w3.frozen? ⟨B, 21, none⟩ = false ∧ PLB p B d' (L ++ [⟨n, 2, x⟩]) (w3.setCell ⟨B, 21, none⟩ v') ∧ Far p B W (w3.setCell ⟨B, 21, none⟩ v')) := fun w2 w3 v' hb2 ho3 hg3 hat => by
    have hP3 := (hP1.call hb2).grown hg3 (own_ne ho1)
    refine ⟨hP3.cell 21 v rfl, hP3.free 21 (by omega), ⟨v', hP3.done v', ?_, fun k hk => ⟨by simp only [World.size_setCell]; have := (hav k hk).1; have := hg3.size; have := hb2.size; omega, fun e => by
      rcases hat k e with h | h
      · exact (hav k hk).2 h
      · have := (hav k hk).1; have := hb2.size; omega⟩⟩, ?_⟩
    · have := ho3.kept (w' := w3.setCell ⟨B, 21, none⟩ v') (sc_grown w3 B 21 [v']) (.inr (own_ne ho3))
      rw [rcs_append, List.length_append]
      simpa [rcs] using this
    · have hz2 := hb2.size
      exact ((hfr.trans (Far.of_below hb2 (fun k hk => by have := (hav k hk).1; omega))).trans (Far.of_grown hg3 (fun k hk _ => ⟨by have := (hav k hk).1; omega, fun e => (hav k hk).2 e.symm⟩))).trans (Far.of_grown (sc_grown w3 B 21 [v']) (fun k hk hne => ⟨by have := (hav k hk).1; have := hg3.size; omega, fun e => by injection e with e; omega⟩))
  have HO : Hid (∀ w2 : World, Below w1.heap.size w1 w2 → w2.ownsRow (B + 1) 56 3 v L.length (rcs L)) := fun w2 hb2 => own_callR ho1 hb2
  have hBw : B + 1 ≤ w1.heap.size := by omega
  have hrl : (rcs L).length = L.length * 3 := rcs_len L
  have n1 := World.new_ne w1 ⟨B, 21, none⟩ c21
  have n2 := World.new_ne w1 ⟨W.heap.size, 0, none⟩ q0
  clear hP1 ho1 hb1 hfr hav cfn hcs HF cl hfn r1 r2
  go_wp2_with fail
  go_region_law (refine step_append_lies _ rfl (.tmp 36) (.tmp 38) 31 rfl (B + 1) 56 i0 _ 3 24 Try.underlying31 hi hz0 hz1 hz2 rfl (by decide) v L.length (rcs L) (by simp [Act.eval]) (HO.out _ (by repeat' (first | (with_reducible exact Below.refl _ _) | (with_reducible assumption) | (with_reducible refine below_drewN ?_ _) | (with_reducible refine Below.setCell ?_ ?_ _) | (with_reducible refine Below.alloc ?_ ?_ _) | (with_reducible refine Below.drew ?_) | go_size))) ⟨w1.heap.size, 0, none⟩ 1 1 (rc ⟨n, 2, x⟩) (by simp [Act.eval]) rfl (rc_cells (by simp [go_sem]) (by simp [go_sem]) (by simp [go_sem])) rc_one (by decide) (by unfold maxLen; omega) (by omega) (by simp; omega) _ rfl ?_; intro g cp w3 ho3 hg3 hat3 hlt3; obtain ⟨c3, f3, hP3, hb3⟩ := HG.out _ w3 _ (by repeat' (first | (with_reducible exact Below.refl _ _) | (with_reducible assumption) | (with_reducible refine below_drewN ?_ _) | (with_reducible refine Below.setCell ?_ ?_ _) | (with_reducible refine Below.alloc ?_ ?_ _) | (with_reducible refine Below.drew ?_) | go_size)) ho3 hg3 (fun k hk => by have e : g = k := (by simpa [Value.ownBlock] using hk); subst e; exact hat3.imp id (fun h => Nat.le_of_eq h.symm)); clear hat3)
  all_goals (go_wp2_with fail)
  all_goals go_end0
  all_goals exact ⟨rfl, hP3, hb3⟩
set_option maxRecDepth 20000 in
set_option maxHeartbeats 2000000 in
theorem wrb3_is (p : Nat → Prop) (B o : Nat) (n : Int) (x : UInt64) (d d' : Sl × Sl) (v : Value) (L : List Rw) (W : World) (h : PK B d v W) (ho : W.ownsRow (B + 1) 56 3 v L.length (rcs L)) (hav : ∀ k, p k → k < W.heap.size ∧ v.ownBlock ≠ some k) (hL : L.length ≤ 1048576)
    (hcs : ∀ V : World, Calls Try.prog 35 #[.pointer (some ⟨B, 0, none⟩), .int .i64 n] V fun e w' => e = .returned (.pointer (some ⟨B, o, none⟩)) ∧ V = w')
    (hput : ∀ V : World, PK B d v V → PK B d' v (V.setCell ⟨B, o + 3, none⟩ (.int .u64 ((x).toNat : Int)))) (ho22 : o + 3 < 14) :
    Calls Try.prog 22 #[.pointer (some ⟨B, 0, none⟩), .agg #[.int .i64 n, .int .i64 3, .int .u64 ((x).toNat : Int)]] W fun e w' => e = .returned (.tuple #[]) ∧ PLB p B d' (L ++ [⟨n, 3, x⟩]) w' ∧ Far p B W w' := by
  obtain ⟨i0, hi, hz0, hz1, hz2⟩ := info_parts infoRw
  obtain ⟨V, hV⟩ : ∃ V, V = (W.alloc (.cells #[.int .i64 n, .int .i64 3, .int .u64 ((x).toNat : Int)] 56)).drew := ⟨_, rfl⟩
  have hWV : Below W.heap.size W V := by rw [hV]; exact ((Below.refl _ _).alloc (Nat.le_refl _) _).drew
  have hVs : V.heap.size = W.heap.size + 1 := by rw [hV]; simp
  have hPV := h.call hWV
  have HF : Hid (∀ w1 : World, V.setCell ⟨B, o + 3, none⟩ (.int .u64 ((x).toNat : Int)) = w1 → PK B d' v w1 ∧ w1.ownsRow (B + 1) 56 3 v L.length (rcs L) ∧ Below B W w1 ∧ Far p B W w1 ∧ w1.heap.size = W.heap.size + 1 ∧
      (w1.cell? ⟨W.heap.size, 0, none⟩ = some (.int .i64 n) ∧ w1.cell? ⟨W.heap.size, 1, none⟩ = some (.int .i64 3) ∧ w1.cell? ⟨W.heap.size, 2, none⟩ = some (.int .u64 ((x).toNat : Int))) ∧ w1.cell? ⟨B, 17, none⟩ = some (Value.func (.func 50) #[] #[]) ∧ w1.cell? ⟨B, 21, none⟩ = some v ∧ w1.frozen? ⟨B, 21, none⟩ = false) := by
    rintro w1 rfl
    have hP1 := hput V hPV
    have hB := h.1
    refine ⟨hP1, (own_callR ho hWV).kept (sc_grown V B (o + 3) [.int .u64 ((x).toNat : Int)]) (.inr (own_ne ho)), (hWV.mono (Nat.le_of_lt hB)).setCell (p := ⟨B, o + 3, none⟩) (Nat.le_refl _) _, (Far.of_below hWV (fun k hk => (hav k hk).1)).trans (Far.of_grown (sc_grown V B (o + 3) [.int .u64 ((x).toNat : Int)]) (fun k hk hne => ⟨by have := (hav k hk).1; omega, fun e => by injection e with e; omega⟩)), by simp only [World.size_setCell]; exact hVs, ⟨?_, ?_, ?_⟩, hP1.cell 17 _ rfl, hP1.cell 21 v rfl, hP1.free 21 (by omega)⟩
    all_goals (rw [World.cell?_setCell_other _ _ _ _ (fun e => by injection e with e; omega), hV]; simp [go_sem])
  obtain ⟨hB, hL0, hR0⟩ := id hPV
  obtain ⟨u, hu⟩ := Option.isSome_iff_exists.1 (hR0.1 (o + 3) (by omega))
  rw [Nat.zero_add] at hu
  have hfu := hPV.free (o + 3) (by omega)
  have cl := lay3_is B o x V u hu hfu
  have hfn := hPV.cell 17 _ rfl
  have r1 : V.cell? ⟨W.heap.size, 1, none⟩ = some (.int .i64 3) := by rw [hV]; simp [go_sem]
  have r2 : V.cell? ⟨W.heap.size, 2, none⟩ = some (.int .u64 ((x).toNat : Int)) := by rw [hV]; simp [go_sem]
  have hB0 : B < W.heap.size := h.1
  clear h ho hput hPV hL0 hR0 hu hfu hWV hVs hB
  subst hV
  go_enter Try.func22, Try.ntmps22
  go_wp2_with (go_at_call 35; refine (hcs _).mono ?_; rintro e w0 ⟨rfl, hw0⟩; replace hw0 := hw0.symm; subst hw0)
  go_region_held3 (fun w' => w'.cell? ⟨W.heap.size, 1, none⟩ = some (.int .i64 3) ∧ w'.cell? ⟨W.heap.size, 2, none⟩ = some (.int .u64 ((x).toNat : Int)) ∧ w'.cell? ⟨B, 17, none⟩ = some (Value.func (.func 50) #[] #[])) ((refine ⟨?_, ?_, ?_⟩ <;> (with_reducible assumption))) (((try go_simp); go_at_call 50; refine cl.mono ?_; rintro e w1 ⟨rfl, hw1⟩; obtain ⟨hP1, ho1, hb1, hfr, hs1, ⟨q0, q1, q2⟩, cfn, c21, f21⟩ := HF.out w1 hw1; clear hw1))
  have HG : Hid (∀ (w2 w3 : World) (v' : Value), Below w1.heap.size w1 w2 → w3.ownsRow (B + 1) 56 3 v' (L.length + 1) (rcs L ++ rc ⟨n, 3, x⟩) → w2.grownBy w3 v.ownBlock → (∀ k, v'.ownBlock = some k → v.ownBlock = some k ∨ w2.heap.size ≤ k) →
      w3.cell? ⟨B, 21, none⟩ = some v ∧ w3.frozen? ⟨B, 21, none⟩ = false ∧ PLB p B d' (L ++ [⟨n, 3, x⟩]) (w3.setCell ⟨B, 21, none⟩ v') ∧ Far p B W (w3.setCell ⟨B, 21, none⟩ v')) := fun w2 w3 v' hb2 ho3 hg3 hat => by
    have hP3 := (hP1.call hb2).grown hg3 (own_ne ho1)
    refine ⟨hP3.cell 21 v rfl, hP3.free 21 (by omega), ⟨v', hP3.done v', ?_, fun k hk => ⟨by simp only [World.size_setCell]; have := (hav k hk).1; have := hg3.size; have := hb2.size; omega, fun e => by
      rcases hat k e with h | h
      · exact (hav k hk).2 h
      · have := (hav k hk).1; have := hb2.size; omega⟩⟩, ?_⟩
    · have := ho3.kept (w' := w3.setCell ⟨B, 21, none⟩ v') (sc_grown w3 B 21 [v']) (.inr (own_ne ho3))
      rw [rcs_append, List.length_append]
      simpa [rcs] using this
    · have hz2 := hb2.size
      exact ((hfr.trans (Far.of_below hb2 (fun k hk => by have := (hav k hk).1; omega))).trans (Far.of_grown hg3 (fun k hk _ => ⟨by have := (hav k hk).1; omega, fun e => (hav k hk).2 e.symm⟩))).trans (Far.of_grown (sc_grown w3 B 21 [v']) (fun k hk hne => ⟨by have := (hav k hk).1; have := hg3.size; omega, fun e => by injection e with e; omega⟩))
  have HO : Hid (∀ w2 : World, Below w1.heap.size w1 w2 → w2.ownsRow (B + 1) 56 3 v L.length (rcs L)) := fun w2 hb2 => own_callR ho1 hb2
  have hBw : B + 1 ≤ w1.heap.size := by omega
  have hrl : (rcs L).length = L.length * 3 := rcs_len L
  have n1 := World.new_ne w1 ⟨B, 21, none⟩ c21
  have n2 := World.new_ne w1 ⟨W.heap.size, 0, none⟩ q0
  clear hP1 ho1 hb1 hfr hav cfn hcs HF cl hfn r1 r2
  go_wp2_with fail
  go_region_law (refine step_append_lies _ rfl (.tmp 36) (.tmp 38) 31 rfl (B + 1) 56 i0 _ 3 24 Try.underlying31 hi hz0 hz1 hz2 rfl (by decide) v L.length (rcs L) (by simp [Act.eval]) (HO.out _ (by repeat' (first | (with_reducible exact Below.refl _ _) | (with_reducible assumption) | (with_reducible refine below_drewN ?_ _) | (with_reducible refine Below.setCell ?_ ?_ _) | (with_reducible refine Below.alloc ?_ ?_ _) | (with_reducible refine Below.drew ?_) | go_size))) ⟨w1.heap.size, 0, none⟩ 1 1 (rc ⟨n, 3, x⟩) (by simp [Act.eval]) rfl (rc_cells (by simp [go_sem]) (by simp [go_sem]) (by simp [go_sem])) rc_one (by decide) (by unfold maxLen; omega) (by omega) (by simp; omega) _ rfl ?_; intro g cp w3 ho3 hg3 hat3 hlt3; obtain ⟨c3, f3, hP3, hb3⟩ := HG.out _ w3 _ (by repeat' (first | (with_reducible exact Below.refl _ _) | (with_reducible assumption) | (with_reducible refine below_drewN ?_ _) | (with_reducible refine Below.setCell ?_ ?_ _) | (with_reducible refine Below.alloc ?_ ?_ _) | (with_reducible refine Below.drew ?_) | go_size)) ho3 hg3 (fun k hk => by have e : g = k := (by simpa [Value.ownBlock] using hk); subst e; exact hat3.imp id (fun h => Nat.le_of_eq h.symm)); clear hat3)
  all_goals (go_wp2_with fail)
  all_goals go_end0
  all_goals exact ⟨rfl, hP3, hb3⟩
end Go.Proofs.Ytepgmdgcappfpaa
