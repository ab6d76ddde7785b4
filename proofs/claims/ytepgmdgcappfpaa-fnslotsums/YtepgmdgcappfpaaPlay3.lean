/-
  A raw write done to a play: the last three words.
-/
import Derived.Test.YtepgmdgcappfpaaPlay2
namespace Go.Proofs.Ytepgmdgcappfpaa
open Go.RowKit

set_option maxRecDepth 20000 in
set_option maxHeartbeats 2000000 in
theorem wr4_is (B o : Nat) (n : Int) (x : UInt64) (d d' : Sl × Sl) (v : Value) (L : List Rw) (W : World) (h : PK B d v W) (ho : W.ownsRow (B + 1) 56 3 v L.length (rcs L)) (hL : L.length ≤ 1048576)
    (hcs : ∀ V : World, Calls Try.prog 35 #[.pointer (some ⟨B, 0, none⟩), .int .i64 n] V fun e w' => e = .returned (.pointer (some ⟨B, o, none⟩)) ∧ V = w')
    (hput : ∀ V : World, PK B d v V → PK B d' v (V.setCell ⟨B, o + 4, none⟩ (.int .u64 ((x).toNat : Int)))) (ho22 : o + 4 < 14) :
    Calls Try.prog 22 #[.pointer (some ⟨B, 0, none⟩), .agg #[.int .i64 n, .int .i64 4, .int .u64 ((x).toNat : Int)]] W fun e w' => e = .returned (.tuple #[]) ∧ PLY B d' (L ++ [⟨n, 4, x⟩]) w' ∧ Below B W w' := by
  obtain ⟨i0, hi, hz0, hz1, hz2⟩ := info_parts infoRw
  obtain ⟨V, hV⟩ : ∃ V, V = (W.alloc (.cells #[.int .i64 n, .int .i64 4, .int .u64 ((x).toNat : Int)] 56)).drew := ⟨_, rfl⟩
  have hWV : Below W.heap.size W V := by rw [hV]; exact ((Below.refl _ _).alloc (Nat.le_refl _) _).drew
  have hVs : V.heap.size = W.heap.size + 1 := by rw [hV]; simp
  have hPV := h.call hWV
  have HF : Hid (∀ w1 : World, V.setCell ⟨B, o + 4, none⟩ (.int .u64 ((x).toNat : Int)) = w1 → PK B d' v w1 ∧ w1.ownsRow (B + 1) 56 3 v L.length (rcs L) ∧ Below B W w1 ∧ w1.heap.size = W.heap.size + 1 ∧
      (w1.cell? ⟨W.heap.size, 0, none⟩ = some (.int .i64 n) ∧ w1.cell? ⟨W.heap.size, 1, none⟩ = some (.int .i64 4) ∧ w1.cell? ⟨W.heap.size, 2, none⟩ = some (.int .u64 ((x).toNat : Int))) ∧ w1.cell? ⟨B, 18, none⟩ = some (Value.func (.func 51) #[] #[]) ∧ w1.cell? ⟨B, 21, none⟩ = some v ∧ w1.frozen? ⟨B, 21, none⟩ = false) := by
    rintro w1 rfl
    have hP1 := hput V hPV
    have hB := h.1
    refine ⟨hP1, (own_callR ho hWV).kept (sc_grown V B (o + 4) [.int .u64 ((x).toNat : Int)]) (.inr (own_ne ho)), (hWV.mono (Nat.le_of_lt hB)).setCell (p := ⟨B, o + 4, none⟩) (Nat.le_refl _) _, by simp only [World.size_setCell]; exact hVs, ⟨?_, ?_, ?_⟩, hP1.cell 18 _ rfl, hP1.cell 21 v rfl, hP1.free 21 (by omega)⟩
    all_goals (rw [World.cell?_setCell_other _ _ _ _ (fun e => by injection e with e; omega), hV]; simp [go_sem])
  obtain ⟨hB, hL0, hR0⟩ := id hPV
  obtain ⟨u, hu⟩ := Option.isSome_iff_exists.1 (hR0.1 (o + 4) (by omega))
  rw [Nat.zero_add] at hu
  have hfu := hPV.free (o + 4) (by omega)
  have cl := lay4_is B o x V u hu hfu
  have hfn := hPV.cell 18 _ rfl
  have r1 : V.cell? ⟨W.heap.size, 1, none⟩ = some (.int .i64 4) := by rw [hV]; simp [go_sem]
  have r2 : V.cell? ⟨W.heap.size, 2, none⟩ = some (.int .u64 ((x).toNat : Int)) := by rw [hV]; simp [go_sem]
  have hB0 : B < W.heap.size := h.1
  clear h ho hput hPV hL0 hR0 hu hfu hWV hVs hB
  subst hV
  go_enter Try.func22, Try.ntmps22
  go_wp2_with (go_at_call 35; refine (hcs _).mono ?_; rintro e w0 ⟨rfl, hw0⟩; replace hw0 := hw0.symm; subst hw0)
  go_region_held3 (fun w' => w'.cell? ⟨W.heap.size, 1, none⟩ = some (.int .i64 4) ∧ w'.cell? ⟨W.heap.size, 2, none⟩ = some (.int .u64 ((x).toNat : Int)) ∧ w'.cell? ⟨B, 18, none⟩ = some (Value.func (.func 51) #[] #[])) ((refine ⟨?_, ?_, ?_⟩ <;> (with_reducible assumption))) (((try go_simp); go_at_call 51; refine cl.mono ?_; rintro e w1 ⟨rfl, hw1⟩; obtain ⟨hP1, ho1, hb1, hs1, ⟨q0, q1, q2⟩, cfn, c21, f21⟩ := HF.out w1 hw1; clear hw1))
  have HG : Hid (∀ (w2 w3 : World) (v' : Value), Below w1.heap.size w1 w2 → w3.ownsRow (B + 1) 56 3 v' (L.length + 1) (rcs L ++ rc ⟨n, 4, x⟩) → w2.grownBy w3 v.ownBlock →
      w3.cell? ⟨B, 21, none⟩ = some v ∧ w3.frozen? ⟨B, 21, none⟩ = false ∧ PLY B d' (L ++ [⟨n, 4, x⟩]) (w3.setCell ⟨B, 21, none⟩ v') ∧ Below B W (w3.setCell ⟨B, 21, none⟩ v')) := fun w2 w3 v' hb2 ho3 hg3 => by
    have hP3 := (hP1.call hb2).grown hg3 (own_ne ho1)
    refine ⟨hP3.cell 21 v rfl, hP3.free 21 (by omega), ⟨v', hP3.done v', ?_⟩, ?_⟩
    · have := ho3.kept (w' := w3.setCell ⟨B, 21, none⟩ v') (sc_grown w3 B 21 [v']) (.inr (own_ne ho3))
      rw [rcs_append, List.length_append]
      simpa [rcs] using this
    · have hz2 := hb2.size
      refine ((below_after hb1 hb2 (by omega)).grown hg3 (by omega) (fun k hk => ?_)).setCell (p := ⟨B, 21, none⟩) (Nat.le_refl _) _
      have := (ho1.lt _ hk).1
      omega
  have HO : Hid (∀ w2 : World, Below w1.heap.size w1 w2 → w2.ownsRow (B + 1) 56 3 v L.length (rcs L)) := fun w2 hb2 => own_callR ho1 hb2
  have hBw : B + 1 ≤ w1.heap.size := by omega
  have hrl : (rcs L).length = L.length * 3 := rcs_len L
  have n1 := World.new_ne w1 ⟨B, 21, none⟩ c21
  have n2 := World.new_ne w1 ⟨W.heap.size, 0, none⟩ q0
  clear hP1 ho1 hb1 cfn hcs HF cl hfn r1 r2
  go_wp2_with fail
  go_region_law (refine step_append_lies _ rfl (.tmp 36) (.tmp 38) 31 rfl (B + 1) 56 i0 _ 3 24 Try.underlying31 hi hz0 hz1 hz2 rfl (by decide) v L.length (rcs L) (by simp [Act.eval]) (HO.out _ (by repeat' (first | (with_reducible exact Below.refl _ _) | (with_reducible assumption) | (with_reducible refine below_drewN ?_ _) | (with_reducible refine Below.setCell ?_ ?_ _) | (with_reducible refine Below.alloc ?_ ?_ _) | (with_reducible refine Below.drew ?_) | go_size))) ⟨w1.heap.size, 0, none⟩ 1 1 (rc ⟨n, 4, x⟩) (by simp [Act.eval]) rfl (rc_cells (by simp [go_sem]) (by simp [go_sem]) (by simp [go_sem])) rc_one (by decide) (by unfold maxLen; omega) (by omega) (by simp; omega) _ rfl ?_; intro g cp w3 ho3 hg3 hat3 hlt3; obtain ⟨c3, f3, hP3, hb3⟩ := HG.out _ w3 _ (by repeat' (first | (with_reducible exact Below.refl _ _) | (with_reducible assumption) | (with_reducible refine below_drewN ?_ _) | (with_reducible refine Below.setCell ?_ ?_ _) | (with_reducible refine Below.alloc ?_ ?_ _) | (with_reducible refine Below.drew ?_) | go_size)) ho3 hg3; clear hat3)
  all_goals (go_wp2_with fail)
  all_goals go_end0
  all_goals exact ⟨rfl, hP3, hb3⟩
set_option maxRecDepth 20000 in
set_option maxHeartbeats 2000000 in
theorem wr5_is (B o : Nat) (n : Int) (x : UInt64) (d d' : Sl × Sl) (v : Value) (L : List Rw) (W : World) (h : PK B d v W) (ho : W.ownsRow (B + 1) 56 3 v L.length (rcs L)) (hL : L.length ≤ 1048576)
    (hcs : ∀ V : World, Calls Try.prog 35 #[.pointer (some ⟨B, 0, none⟩), .int .i64 n] V fun e w' => e = .returned (.pointer (some ⟨B, o, none⟩)) ∧ V = w')
    (hput : ∀ V : World, PK B d v V → PK B d' v (V.setCell ⟨B, o + 5, none⟩ (.int .u64 ((x).toNat : Int)))) (ho22 : o + 5 < 14) :
    Calls Try.prog 22 #[.pointer (some ⟨B, 0, none⟩), .agg #[.int .i64 n, .int .i64 5, .int .u64 ((x).toNat : Int)]] W fun e w' => e = .returned (.tuple #[]) ∧ PLY B d' (L ++ [⟨n, 5, x⟩]) w' ∧ Below B W w' := by
  obtain ⟨i0, hi, hz0, hz1, hz2⟩ := info_parts infoRw
  obtain ⟨V, hV⟩ : ∃ V, V = (W.alloc (.cells #[.int .i64 n, .int .i64 5, .int .u64 ((x).toNat : Int)] 56)).drew := ⟨_, rfl⟩
  have hWV : Below W.heap.size W V := by rw [hV]; exact ((Below.refl _ _).alloc (Nat.le_refl _) _).drew
  have hVs : V.heap.size = W.heap.size + 1 := by rw [hV]; simp
  have hPV := h.call hWV
  have HF : Hid (∀ w1 : World, V.setCell ⟨B, o + 5, none⟩ (.int .u64 ((x).toNat : Int)) = w1 → PK B d' v w1 ∧ w1.ownsRow (B + 1) 56 3 v L.length (rcs L) ∧ Below B W w1 ∧ w1.heap.size = W.heap.size + 1 ∧
      (w1.cell? ⟨W.heap.size, 0, none⟩ = some (.int .i64 n) ∧ w1.cell? ⟨W.heap.size, 1, none⟩ = some (.int .i64 5) ∧ w1.cell? ⟨W.heap.size, 2, none⟩ = some (.int .u64 ((x).toNat : Int))) ∧ w1.cell? ⟨B, 19, none⟩ = some (Value.func (.func 52) #[] #[]) ∧ w1.cell? ⟨B, 21, none⟩ = some v ∧ w1.frozen? ⟨B, 21, none⟩ = false) := by
    rintro w1 rfl
    have hP1 := hput V hPV
    have hB := h.1
    refine ⟨hP1, (own_callR ho hWV).kept (sc_grown V B (o + 5) [.int .u64 ((x).toNat : Int)]) (.inr (own_ne ho)), (hWV.mono (Nat.le_of_lt hB)).setCell (p := ⟨B, o + 5, none⟩) (Nat.le_refl _) _, by simp only [World.size_setCell]; exact hVs, ⟨?_, ?_, ?_⟩, hP1.cell 19 _ rfl, hP1.cell 21 v rfl, hP1.free 21 (by omega)⟩
    all_goals (rw [World.cell?_setCell_other _ _ _ _ (fun e => by injection e with e; omega), hV]; simp [go_sem])
  obtain ⟨hB, hL0, hR0⟩ := id hPV
  obtain ⟨u, hu⟩ := Option.isSome_iff_exists.1 (hR0.1 (o + 5) (by omega))
  rw [Nat.zero_add] at hu
  have hfu := hPV.free (o + 5) (by omega)
  have cl := lay5_is B o x V u hu hfu
  have hfn := hPV.cell 19 _ rfl
  have r1 : V.cell? ⟨W.heap.size, 1, none⟩ = some (.int .i64 5) := by rw [hV]; simp [go_sem]
  have r2 : V.cell? ⟨W.heap.size, 2, none⟩ = some (.int .u64 ((x).toNat : Int)) := by rw [hV]; simp [go_sem]
  have hB0 : B < W.heap.size := h.1
  clear h ho hput hPV hL0 hR0 hu hfu hWV hVs hB
  subst hV
  go_enter Try.func22, Try.ntmps22
  go_wp2_with (go_at_call 35; refine (hcs _).mono ?_; rintro e w0 ⟨rfl, hw0⟩; replace hw0 := hw0.symm; subst hw0)
  go_region_held3 (fun w' => w'.cell? ⟨W.heap.size, 1, none⟩ = some (.int .i64 5) ∧ w'.cell? ⟨W.heap.size, 2, none⟩ = some (.int .u64 ((x).toNat : Int)) ∧ w'.cell? ⟨B, 19, none⟩ = some (Value.func (.func 52) #[] #[])) ((refine ⟨?_, ?_, ?_⟩ <;> (with_reducible assumption))) (((try go_simp); go_at_call 52; refine cl.mono ?_; rintro e w1 ⟨rfl, hw1⟩; obtain ⟨hP1, ho1, hb1, hs1, ⟨q0, q1, q2⟩, cfn, c21, f21⟩ := HF.out w1 hw1; clear hw1))
  have HG : Hid (∀ (w2 w3 : World) (v' : Value), Below w1.heap.size w1 w2 → w3.ownsRow (B + 1) 56 3 v' (L.length + 1) (rcs L ++ rc ⟨n, 5, x⟩) → w2.grownBy w3 v.ownBlock →
      w3.cell? ⟨B, 21, none⟩ = some v ∧ w3.frozen? ⟨B, 21, none⟩ = false ∧ PLY B d' (L ++ [⟨n, 5, x⟩]) (w3.setCell ⟨B, 21, none⟩ v') ∧ Below B W (w3.setCell ⟨B, 21, none⟩ v')) := fun w2 w3 v' hb2 ho3 hg3 => by
    have hP3 := (hP1.call hb2).grown hg3 (own_ne ho1)
    refine ⟨hP3.cell 21 v rfl, hP3.free 21 (by omega), ⟨v', hP3.done v', ?_⟩, ?_⟩
    · have := ho3.kept (w' := w3.setCell ⟨B, 21, none⟩ v') (sc_grown w3 B 21 [v']) (.inr (own_ne ho3))
      rw [rcs_append, List.length_append]
      simpa [rcs] using this
    · have hz2 := hb2.size
      refine ((below_after hb1 hb2 (by omega)).grown hg3 (by omega) (fun k hk => ?_)).setCell (p := ⟨B, 21, none⟩) (Nat.le_refl _) _
      have := (ho1.lt _ hk).1
      omega
  have HO : Hid (∀ w2 : World, Below w1.heap.size w1 w2 → w2.ownsRow (B + 1) 56 3 v L.length (rcs L)) := fun w2 hb2 => own_callR ho1 hb2
  have hBw : B + 1 ≤ w1.heap.size := by omega
  have hrl : (rcs L).length = L.length * 3 := rcs_len L
  have n1 := World.new_ne w1 ⟨B, 21, none⟩ c21
  have n2 := World.new_ne w1 ⟨W.heap.size, 0, none⟩ q0
  clear hP1 ho1 hb1 cfn hcs HF cl hfn r1 r2
  go_wp2_with fail
  go_region_law (refine step_append_lies _ rfl (.tmp 36) (.tmp 38) 31 rfl (B + 1) 56 i0 _ 3 24 Try.underlying31 hi hz0 hz1 hz2 rfl (by decide) v L.length (rcs L) (by simp [Act.eval]) (HO.out _ (by repeat' (first | (with_reducible exact Below.refl _ _) | (with_reducible assumption) | (with_reducible refine below_drewN ?_ _) | (with_reducible refine Below.setCell ?_ ?_ _) | (with_reducible refine Below.alloc ?_ ?_ _) | (with_reducible refine Below.drew ?_) | go_size))) ⟨w1.heap.size, 0, none⟩ 1 1 (rc ⟨n, 5, x⟩) (by simp [Act.eval]) rfl (rc_cells (by simp [go_sem]) (by simp [go_sem]) (by simp [go_sem])) rc_one (by decide) (by unfold maxLen; omega) (by omega) (by simp; omega) _ rfl ?_; intro g cp w3 ho3 hg3 hat3 hlt3; obtain ⟨c3, f3, hP3, hb3⟩ := HG.out _ w3 _ (by repeat' (first | (with_reducible exact Below.refl _ _) | (with_reducible assumption) | (with_reducible refine below_drewN ?_ _) | (with_reducible refine Below.setCell ?_ ?_ _) | (with_reducible refine Below.alloc ?_ ?_ _) | (with_reducible refine Below.drew ?_) | go_size)) ho3 hg3; clear hat3)
  all_goals (go_wp2_with fail)
  all_goals go_end0
  all_goals exact ⟨rfl, hP3, hb3⟩
set_option maxRecDepth 20000 in
set_option maxHeartbeats 2000000 in
theorem wr6_is (B o : Nat) (n : Int) (x : UInt64) (d d' : Sl × Sl) (v : Value) (L : List Rw) (W : World) (h : PK B d v W) (ho : W.ownsRow (B + 1) 56 3 v L.length (rcs L)) (hL : L.length ≤ 1048576)
    (hcs : ∀ V : World, Calls Try.prog 35 #[.pointer (some ⟨B, 0, none⟩), .int .i64 n] V fun e w' => e = .returned (.pointer (some ⟨B, o, none⟩)) ∧ V = w')
    (hput : ∀ V : World, PK B d v V → PK B d' v (V.setCell ⟨B, o + 6, none⟩ (.int .u64 ((x).toNat : Int)))) (ho22 : o + 6 < 14) :
    Calls Try.prog 22 #[.pointer (some ⟨B, 0, none⟩), .agg #[.int .i64 n, .int .i64 6, .int .u64 ((x).toNat : Int)]] W fun e w' => e = .returned (.tuple #[]) ∧ PLY B d' (L ++ [⟨n, 6, x⟩]) w' ∧ Below B W w' := by
  obtain ⟨i0, hi, hz0, hz1, hz2⟩ := info_parts infoRw
  obtain ⟨V, hV⟩ : ∃ V, V = (W.alloc (.cells #[.int .i64 n, .int .i64 6, .int .u64 ((x).toNat : Int)] 56)).drew := ⟨_, rfl⟩
  have hWV : Below W.heap.size W V := by rw [hV]; exact ((Below.refl _ _).alloc (Nat.le_refl _) _).drew
  have hVs : V.heap.size = W.heap.size + 1 := by rw [hV]; simp
  have hPV := h.call hWV
  have HF : Hid (∀ w1 : World, V.setCell ⟨B, o + 6, none⟩ (.int .u64 ((x).toNat : Int)) = w1 → PK B d' v w1 ∧ w1.ownsRow (B + 1) 56 3 v L.length (rcs L) ∧ Below B W w1 ∧ w1.heap.size = W.heap.size + 1 ∧
      (w1.cell? ⟨W.heap.size, 0, none⟩ = some (.int .i64 n) ∧ w1.cell? ⟨W.heap.size, 1, none⟩ = some (.int .i64 6) ∧ w1.cell? ⟨W.heap.size, 2, none⟩ = some (.int .u64 ((x).toNat : Int))) ∧ w1.cell? ⟨B, 20, none⟩ = some (Value.func (.func 53) #[] #[]) ∧ w1.cell? ⟨B, 21, none⟩ = some v ∧ w1.frozen? ⟨B, 21, none⟩ = false) := by
    rintro w1 rfl
    have hP1 := hput V hPV
    have hB := h.1
    refine ⟨hP1, (own_callR ho hWV).kept (sc_grown V B (o + 6) [.int .u64 ((x).toNat : Int)]) (.inr (own_ne ho)), (hWV.mono (Nat.le_of_lt hB)).setCell (p := ⟨B, o + 6, none⟩) (Nat.le_refl _) _, by simp only [World.size_setCell]; exact hVs, ⟨?_, ?_, ?_⟩, hP1.cell 20 _ rfl, hP1.cell 21 v rfl, hP1.free 21 (by omega)⟩
    all_goals (rw [World.cell?_setCell_other _ _ _ _ (fun e => by injection e with e; omega), hV]; simp [go_sem])
  obtain ⟨hB, hL0, hR0⟩ := id hPV
  obtain ⟨u, hu⟩ := Option.isSome_iff_exists.1 (hR0.1 (o + 6) (by omega))
  rw [Nat.zero_add] at hu
  have hfu := hPV.free (o + 6) (by omega)
  have cl := lay6_is B o x V u hu hfu
  have hfn := hPV.cell 20 _ rfl
  have r1 : V.cell? ⟨W.heap.size, 1, none⟩ = some (.int .i64 6) := by rw [hV]; simp [go_sem]
  have r2 : V.cell? ⟨W.heap.size, 2, none⟩ = some (.int .u64 ((x).toNat : Int)) := by rw [hV]; simp [go_sem]
  have hB0 : B < W.heap.size := h.1
  clear h ho hput hPV hL0 hR0 hu hfu hWV hVs hB
  subst hV
  go_enter Try.func22, Try.ntmps22
  go_wp2_with (go_at_call 35; refine (hcs _).mono ?_; rintro e w0 ⟨rfl, hw0⟩; replace hw0 := hw0.symm; subst hw0)
  go_region_held3 (fun w' => w'.cell? ⟨W.heap.size, 1, none⟩ = some (.int .i64 6) ∧ w'.cell? ⟨W.heap.size, 2, none⟩ = some (.int .u64 ((x).toNat : Int)) ∧ w'.cell? ⟨B, 20, none⟩ = some (Value.func (.func 53) #[] #[])) ((refine ⟨?_, ?_, ?_⟩ <;> (with_reducible assumption))) (((try go_simp); go_at_call 53; refine cl.mono ?_; rintro e w1 ⟨rfl, hw1⟩; obtain ⟨hP1, ho1, hb1, hs1, ⟨q0, q1, q2⟩, cfn, c21, f21⟩ := HF.out w1 hw1; clear hw1))
  have HG : Hid (∀ (w2 w3 : World) (v' : Value), Below w1.heap.size w1 w2 → w3.ownsRow (B + 1) 56 3 v' (L.length + 1) (rcs L ++ rc ⟨n, 6, x⟩) → w2.grownBy w3 v.ownBlock →
      w3.cell? ⟨B, 21, none⟩ = some v ∧ w3.frozen? ⟨B, 21, none⟩ = false ∧ PLY B d' (L ++ [⟨n, 6, x⟩]) (w3.setCell ⟨B, 21, none⟩ v') ∧ Below B W (w3.setCell ⟨B, 21, none⟩ v')) := fun w2 w3 v' hb2 ho3 hg3 => by
    have hP3 := (hP1.call hb2).grown hg3 (own_ne ho1)
    refine ⟨hP3.cell 21 v rfl, hP3.free 21 (by omega), ⟨v', hP3.done v', ?_⟩, ?_⟩
    · have := ho3.kept (w' := w3.setCell ⟨B, 21, none⟩ v') (sc_grown w3 B 21 [v']) (.inr (own_ne ho3))
      rw [rcs_append, List.length_append]
      simpa [rcs] using this
    · have hz2 := hb2.size
      refine ((below_after hb1 hb2 (by omega)).grown hg3 (by omega) (fun k hk => ?_)).setCell (p := ⟨B, 21, none⟩) (Nat.le_refl _) _
      have := (ho1.lt _ hk).1
      omega
  have HO : Hid (∀ w2 : World, Below w1.heap.size w1 w2 → w2.ownsRow (B + 1) 56 3 v L.length (rcs L)) := fun w2 hb2 => own_callR ho1 hb2
  have hBw : B + 1 ≤ w1.heap.size := by omega
  have hrl : (rcs L).length = L.length * 3 := rcs_len L
  have n1 := World.new_ne w1 ⟨B, 21, none⟩ c21
  have n2 := World.new_ne w1 ⟨W.heap.size, 0, none⟩ q0
  clear hP1 ho1 hb1 cfn hcs HF cl hfn r1 r2
  go_wp2_with fail
  go_region_law (refine step_append_lies _ rfl (.tmp 36) (.tmp 38) 31 rfl (B + 1) 56 i0 _ 3 24 Try.underlying31 hi hz0 hz1 hz2 rfl (by decide) v L.length (rcs L) (by simp [Act.eval]) (HO.out _ (by repeat' (first | (with_reducible exact Below.refl _ _) | (with_reducible assumption) | (with_reducible refine below_drewN ?_ _) | (with_reducible refine Below.setCell ?_ ?_ _) | (with_reducible refine Below.alloc ?_ ?_ _) | (with_reducible refine Below.drew ?_) | go_size))) ⟨w1.heap.size, 0, none⟩ 1 1 (rc ⟨n, 6, x⟩) (by simp [Act.eval]) rfl (rc_cells (by simp [go_sem]) (by simp [go_sem]) (by simp [go_sem])) rc_one (by decide) (by unfold maxLen; omega) (by omega) (by simp; omega) _ rfl ?_; intro g cp w3 ho3 hg3 hat3 hlt3; obtain ⟨c3, f3, hP3, hb3⟩ := HG.out _ w3 _ (by repeat' (first | (with_reducible exact Below.refl _ _) | (with_reducible assumption) | (with_reducible refine below_drewN ?_ _) | (with_reducible refine Below.setCell ?_ ?_ _) | (with_reducible refine Below.alloc ?_ ?_ _) | (with_reducible refine Below.drew ?_) | go_size)) ho3 hg3; clear hat3)
  all_goals (go_wp2_with fail)
  all_goals go_end0
  all_goals exact ⟨rfl, hP3, hb3⟩
set_option maxRecDepth 20000 in
set_option maxHeartbeats 2000000 in
theorem wrbad_is (B : Nat) (p : Option Addr) (l : Rw) (W : World)
    (hcs : ∀ V : World, Calls Try.prog 35 #[.pointer (some ⟨B, 0, none⟩), .int .i64 l.f] V fun e w' => e = .returned (.pointer p) ∧ V = w')
    (hbad : p = none ∨ (∃ a, p = some a) ∧ (l.t < 0 ∨ 7 ≤ l.t)) :
    Calls Try.prog 22 #[.pointer (some ⟨B, 0, none⟩), RAG l] W fun e w' => e = .returned (.tuple #[]) ∧ Below W.heap.size W w' := by
  unfold RAG
  rcases hbad with rfl | ⟨⟨a, rfl⟩, h⟩
  · go_enter Try.func22, Try.ntmps22
    go_wp2_with (go_at_call 35; refine (hcs _).mono ?_; rintro e w0 ⟨rfl, hw0⟩; replace hw0 := hw0.symm; subst hw0)
    (refine bodyPost_ret (results_none rfl _ _ _) rfl ?_)
    exact ⟨rfl, (by repeat' (first | (with_reducible exact Below.refl _ _) | (with_reducible assumption) | (with_reducible refine below_drewN ?_ _) | (with_reducible refine Below.setCell ?_ ?_ _) | (with_reducible refine Below.alloc ?_ ?_ _) | (with_reducible refine Below.drew ?_) | go_size))⟩
  · by_cases h0 : l.t < 0
    · clear h
      go_enter Try.func22, Try.ntmps22
      go_wp2_with (go_at_call 35; refine (hcs _).mono ?_; rintro e w0 ⟨rfl, hw0⟩; replace hw0 := hw0.symm; subst hw0)
      (refine bodyPost_ret (results_none rfl _ _ _) rfl ?_)
      exact ⟨rfl, (by repeat' (first | (with_reducible exact Below.refl _ _) | (with_reducible assumption) | (with_reducible refine below_drewN ?_ _) | (with_reducible refine Below.setCell ?_ ?_ _) | (with_reducible refine Below.alloc ?_ ?_ _) | (with_reducible refine Below.drew ?_) | go_size))⟩
    · have h7 : 7 ≤ l.t := by omega
      clear h
      go_enter Try.func22, Try.ntmps22
      go_wp2_with (go_at_call 35; refine (hcs _).mono ?_; rintro e w0 ⟨rfl, hw0⟩; replace hw0 := hw0.symm; subst hw0)
      (refine bodyPost_ret (results_none rfl _ _ _) rfl ?_)
      exact ⟨rfl, (by repeat' (first | (with_reducible exact Below.refl _ _) | (with_reducible assumption) | (with_reducible refine below_drewN ?_ _) | (with_reducible refine Below.setCell ?_ ?_ _) | (with_reducible refine Below.alloc ?_ ?_ _) | (with_reducible refine Below.drew ?_) | go_size))⟩
/-- A raw write that a play does: of a slot and a word that there are. -/
def wok (l : Rw) : Prop := (l.f = 1 ∨ l.f = 2) ∧ 0 ≤ l.t ∧ l.t < 7
instance (l : Rw) : Decidable (wok l) := by unfold wok; exact inferInstance
def wadd (L : List Rw) (l : Rw) : List Rw := if wok l then L ++ [l] else L
theorem sput_bad (s : Sl) (t : Int) (x : UInt64) (h : t < 0 ∨ 7 ≤ t) : sput s t x = s := by
  unfold sput
  rw [if_neg (by omega), if_neg (by omega), if_neg (by omega), if_neg (by omega), if_neg (by omega), if_neg (by omega), if_neg (by omega)]
theorem dput_bad (d : Sl × Sl) (l : Rw) (h : ¬ wok l) : dput d l = d := by
  unfold dput
  unfold wok at h
  by_cases h1 : l.f = 1
  · rw [if_pos h1, sput_bad _ _ _ (by omega)]
  · rw [if_neg h1]
    by_cases h2 : l.f = 2
    · rw [if_pos h2, sput_bad _ _ _ (by omega)]
    · rw [if_neg h2]
theorem write_is (B : Nat) (d : Sl × Sl) (L : List Rw) (l : Rw) (W : World) (h : PLY B d L W) (hL : L.length ≤ 1048576) :
    Calls Try.prog 22 #[.pointer (some ⟨B, 0, none⟩), RAG l] W fun e w' => e = .returned (.tuple #[]) ∧ PLY B (dput d l) (wadd L l) w' ∧ Below B W w' := by
  have hcs := fun V : World => pslot_is B l.f V
  by_cases hw : wok l
  · unfold wadd
    rw [if_pos hw]
    obtain ⟨v, hP, ho⟩ := h
    obtain ⟨n, t, x⟩ := l
    obtain ⟨hn, ht0, ht7⟩ := hw
    simp only at hn ht0 ht7 hcs
    rcases hn with rfl | rfl
    · rw [show dput d ⟨1, t, x⟩ = (sput d.1 t x, d.2) from rfl]
      rw [if_pos rfl] at hcs
      obtain rfl | rfl | rfl | rfl | rfl | rfl | rfl : t = 0 ∨ t = 1 ∨ t = 2 ∨ t = 3 ∨ t = 4 ∨ t = 5 ∨ t = 6 := by omega
      · exact wr0_is B 0 1 x d _ v L W hP ho hL hcs (fun V hV => hV.put1 0 (by omega) x) (by omega)
      · exact wr1_is B 0 1 x d _ v L W hP ho hL hcs (fun V hV => hV.put1 1 (by omega) x) (by omega)
      · exact wr2_is B 0 1 x d _ v L W hP ho hL hcs (fun V hV => hV.put1 2 (by omega) x) (by omega)
      · exact wr3_is B 0 1 x d _ v L W hP ho hL hcs (fun V hV => hV.put1 3 (by omega) x) (by omega)
      · exact wr4_is B 0 1 x d _ v L W hP ho hL hcs (fun V hV => hV.put1 4 (by omega) x) (by omega)
      · exact wr5_is B 0 1 x d _ v L W hP ho hL hcs (fun V hV => hV.put1 5 (by omega) x) (by omega)
      · exact wr6_is B 0 1 x d _ v L W hP ho hL hcs (fun V hV => hV.put1 6 (by omega) x) (by omega)
    · rw [show dput d ⟨2, t, x⟩ = (d.1, sput d.2 t x) from rfl]
      rw [if_neg (by decide), if_pos rfl] at hcs
      obtain rfl | rfl | rfl | rfl | rfl | rfl | rfl : t = 0 ∨ t = 1 ∨ t = 2 ∨ t = 3 ∨ t = 4 ∨ t = 5 ∨ t = 6 := by omega
      · exact wr0_is B 7 2 x d _ v L W hP ho hL hcs (fun V hV => hV.put2 0 (by omega) x) (by omega)
      · exact wr1_is B 7 2 x d _ v L W hP ho hL hcs (fun V hV => hV.put2 1 (by omega) x) (by omega)
      · exact wr2_is B 7 2 x d _ v L W hP ho hL hcs (fun V hV => hV.put2 2 (by omega) x) (by omega)
      · exact wr3_is B 7 2 x d _ v L W hP ho hL hcs (fun V hV => hV.put2 3 (by omega) x) (by omega)
      · exact wr4_is B 7 2 x d _ v L W hP ho hL hcs (fun V hV => hV.put2 4 (by omega) x) (by omega)
      · exact wr5_is B 7 2 x d _ v L W hP ho hL hcs (fun V hV => hV.put2 5 (by omega) x) (by omega)
      · exact wr6_is B 7 2 x d _ v L W hP ho hL hcs (fun V hV => hV.put2 6 (by omega) x) (by omega)
  · rw [dput_bad d l hw]
    unfold wadd
    rw [if_neg hw]
    have hlt : B < W.heap.size := by obtain ⟨v, hP, -⟩ := h; exact hP.1
    refine (wrbad_is B _ l W hcs ?_).mono fun e w' ⟨he, hb⟩ => ⟨he, h.call hb, hb.mono (Nat.le_of_lt hlt)⟩
    unfold wok at hw
    by_cases h1 : l.f = 1
    · rw [if_pos h1]
      exact .inr ⟨⟨_, rfl⟩, by omega⟩
    · rw [if_neg h1]
      by_cases h2 : l.f = 2
      · rw [if_pos h2]
        exact .inr ⟨⟨_, rfl⟩, by omega⟩
      · rw [if_neg h2]
        exact .inl rfl
end Go.Proofs.Ytepgmdgcappfpaa
