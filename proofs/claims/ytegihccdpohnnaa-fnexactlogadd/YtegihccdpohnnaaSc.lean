/-
  A struct stored into part of a block, and loaded out of it, in one step.
-/
import Derived.Test.YtegihccdpohnnaaRows
import Derived.Laws.IdiomCopy
import Derived.Laws.Rows
import Derived.Below
import Derived.Test.YtegihccdpohnnaaKit
namespace Go.Proofs.Ytegihccdpohnnaa
open Go.RowKit

theorem run_sv (ty : TypeId) (b k : Nat) (vs : List Value) (w : World) (hi : (Try.prog.info? ty).map (·.size) = some vs.length)
    (hc : ∀ j, j < vs.length → (w.cell? ⟨b, k + j, none⟩).isSome = true) (hf : ∀ j, j < vs.length → w.frozen? ⟨b, k + j, none⟩ = false) (h1 : vs.all (·.oneCell') = true) :
    (storeVar ty ⟨b, k, none⟩ (.agg vs.toArray)).run Try.prog w = .ok () (w.setCells b k vs) := by
  have hst := run_storeCells_cells (P := Try.prog) b k vs 0 w (by simpa using hc) (by simpa using hf) (List.all_eq_true.1 h1)
  cases hq : Try.prog.info? ty with
  | none => simp [hq] at hi
  | some i =>
    have hs : vs.length = i.size := by simp [hq] at hi; omega
    simp [storeVar, sizeOf, typeInfo, hq, Value.cells, hs, hst]
theorem wpList_store_cells {ops : Array Oper} {rest : List Oper} {o : Oper} {a : Act} {w : World} {Q : Exit → Act → World → Prop} (hgd : o.guard = none) (ty : TypeId) (x y : Operand) (ho : o.op = .store ty x y)
    (b k : Nat) (vs : List Value) (hx : a.eval x = .pointer (some ⟨b, k, none⟩)) (hy : a.eval y = .agg vs.toArray) (hi : (Try.prog.info? ty).map (·.size) = some vs.length)
    (hc : ∀ j, j < vs.length → (w.cell? ⟨b, k + j, none⟩).isSome = true) (hf : ∀ j, j < vs.length → w.frozen? ⟨b, k + j, none⟩ = false) (h1 : vs.all (·.oneCell') = true)
    (h : wpList Try.prog ops Q rest (a.put o.dst undef) (w.setCells b k vs)) : wpList Try.prog ops Q (o :: rest) a w :=
  wpList_plain hgd fun _ hK => by
    unfold Oper.wp execOp
    simp only [ho, hx, hy, Instr.storeAt, Instr.sureAddr, Sem.run_bind, Sem.run_pure, Result.andThen_ok, run_sv ty b k vs w hi hc hf h1]
    exact hK _ _ h
theorem add_none (b k j : Nat) : (⟨b, k, none⟩ : Addr).add j = ⟨b, k + j, none⟩ := by unfold Addr.add; split <;> simp_all
theorem run_lv (ty : TypeId) (b k : Nat) (vs : List Value) (w : World) (d : TypeDesc) (hd : (match d with | .struct _ | .array _ _ => true | _ => false) = true) (hu : Try.prog.underlying ty = some d)
    (hi : (Try.prog.info? ty).map (·.size) = some vs.length) (hsrc : ∀ j v, vs[j]? = some v → w.cell? ⟨b, k + j, none⟩ = some v) :
    (loadVar ty ⟨b, k, none⟩).run Try.prog w = .ok (.agg vs.toArray) w := by
  have hl : (loadCells ⟨b, k, none⟩ vs.length).run Try.prog w = .ok vs.toArray w :=
    run_loadCells_list (P := Try.prog) w ⟨b, k, none⟩ vs (fun j v hv => by
      rw [add_none]
      exact hsrc j v hv)
  cases hq : Try.prog.info? ty with
  | none => simp [hq] at hi
  | some i =>
    have hs : i.size = vs.length := by simpa [hq] using hi
    have hagg : (isAgg ty).run Try.prog w = .ok true w := by
      unfold isAgg
      rw [Sem.run_bind, run_underlying hu w]
      cases d <;> simp_all
    simp [loadVar, Sem.run_bind, hagg, sizeOf, typeInfo, hq, hs, hl]
theorem wpList_load_cells {ops : Array Oper} {rest : List Oper} {o : Oper} {a : Act} {w : World} {Q : Exit → Act → World → Prop} (hgd : o.guard = none) (ty : TypeId) (x : Operand) (ho : o.op = .load ty x)
    (b k : Nat) (vs : List Value) (hx : a.eval x = .pointer (some ⟨b, k, none⟩)) (d : TypeDesc) (hd : (match d with | .struct _ | .array _ _ => true | _ => false) = true) (hu : Try.prog.underlying ty = some d)
    (hi : (Try.prog.info? ty).map (·.size) = some vs.length) (hsrc : ∀ j v, vs[j]? = some v → w.cell? ⟨b, k + j, none⟩ = some v)
    (h : wpList Try.prog ops Q rest (a.put o.dst (.agg vs.toArray)) w) : wpList Try.prog ops Q (o :: rest) a w :=
  wpList_plain hgd fun _ hK => by
    unfold Oper.wp execOp
    simp only [ho, hx, Instr.loadAt, Instr.sureAddr, Sem.run_bind, Sem.run_pure, Result.andThen_ok, run_lv ty b k vs w d hd hu hi hsrc]
    exact hK _ _ h
/-- A type whose values are n cells together. -/
def AggTy (ty : TypeId) (n : Nat) : Prop := (∃ d, Try.prog.underlying ty = some d ∧ (match d with | .struct _ | .array _ _ => true | _ => false) = true) ∧ (Try.prog.info? ty).map (·.size) = some n
/-- These values lie in the block b from the place k on. -/
def Lies (b k : Nat) (vs : List Value) (w : World) : Prop := ∀ j v, vs[j]? = some v → w.cell? ⟨b, k + j, none⟩ = some v
/-- So many cells of the block b, from the place k on, may be written. -/
def Room (b k n : Nat) (w : World) : Prop := (∀ j, j < n → (w.cell? ⟨b, k + j, none⟩).isSome = true) ∧ ∀ j, j < n → w.frozen? ⟨b, k + j, none⟩ = false
theorem wpl_load {ops : Array Oper} {rest : List Oper} {a : Act} {w : World} {Q : Exit → Act → World → Prop} {dst : Option Tmp} {ty ty2 : TypeId} {x : Operand} {pos : String} {after : Array Edge} {n : Nat}
    (hty : AggTy ty n) (b k : Nat) (vs : List Value) (hn : vs.length = n) (hx : a.eval x = .pointer (some ⟨b, k, none⟩)) (hl : Lies b k vs w)
    (h : wpList Try.prog ops Q rest (a.put dst (.agg vs.toArray)) w) : wpList Try.prog ops Q (⟨dst, .load ty x, ty2, pos, after, none⟩ :: rest) a w := by
  obtain ⟨⟨d, hu, hd⟩, hi⟩ := hty
  exact wpList_load_cells rfl ty x rfl b k vs hx d hd hu (by rw [hn]; exact hi) hl h
theorem wpl_store {ops : Array Oper} {rest : List Oper} {a : Act} {w : World} {Q : Exit → Act → World → Prop} {dst : Option Tmp} {ty ty2 : TypeId} {x y : Operand} {pos : String} {after : Array Edge} {n : Nat}
    (hty : AggTy ty n) (b k : Nat) (vs : List Value) (hn : vs.length = n) (hx : a.eval x = .pointer (some ⟨b, k, none⟩)) (hy : a.eval y = .agg vs.toArray) (h1 : vs.all (·.oneCell') = true) (hr : Room b k n w)
    (h : wpList Try.prog ops Q rest (a.put dst undef) (w.setCells b k vs)) : wpList Try.prog ops Q (⟨dst, .store ty x y, ty2, pos, after, none⟩ :: rest) a w := by
  subst hn
  exact wpList_store_cells rfl ty x y rfl b k vs hx hy hty.2 hr.1 hr.2 h1 h
theorem wpl_build {ops : Array Oper} {rest : List Oper} {a : Act} {w : World} {Q : Exit → Act → World → Prop} {dst : Option Tmp} {ty ty2 : TypeId} {parts : Array (Nat × Operand)} {pos : String} {after : Array Edge}
    (cells : Array Value) (hb : Try.prog.built ty (parts.map fun (i, x) => (i, a.eval x)).toList = some cells)
    (h : wpList Try.prog ops Q rest (a.put dst (.agg cells)) w) : wpList Try.prog ops Q (⟨dst, .build ty parts, ty2, pos, after, none⟩ :: rest) a w := by
  refine wpList_build rfl ty parts rfl (by rw [hb]; rfl) ?_
  rw [hb]
  exact h
theorem sc_size (b : Nat) : ∀ (vs : List Value) (o : Nat) (w : World), (w.setCells b o vs).heap.size = w.heap.size
  | [], _, _ => rfl
  | v :: r, o, w => by rw [World.setCells, sc_size b r]; simp only [World.size_setCell]
theorem Below.sc {B : Nat} {a : World} (b : Nat) (hp : B ≤ b) : ∀ (vs : List Value) (o : Nat) (w : World), Below B a w → Below B a (w.setCells b o vs)
  | [], _, _, h => h
  | v :: r, o, w, h => by rw [World.setCells]; exact Below.sc b hp r _ _ (h.setCell (p := ⟨b, o, none⟩) hp v)
theorem sc_heap (b : Nat) : ∀ (vs : List Value) (o : Nat) (w : World) (k : Nat), k ≠ b → (w.setCells b o vs).heap[k]? = w.heap[k]?
  | [], _, _, _, _ => rfl
  | v :: r, o, w, k, h => by rw [World.setCells, sc_heap b r _ _ k h]; exact Below.heap_setCell _ _ _ _ h
theorem sc_grown (w : World) (b o : Nat) (vs : List Value) : w.grownBy (w.setCells b o vs) (some b) := by
  have hs := sc_size b vs o w
  have hh := sc_heap b vs o w
  have h3 : ∀ (vs : List Value) (o : Nat) (w : World), (w.setCells b o vs).os = w.os ∧ (w.setCells b o vs).tape = w.tape ∧ (w.setCells b o vs).output = w.output := by
    intro vs
    induction vs with
    | nil => intro o w; exact ⟨rfl, rfl, rfl⟩
    | cons v r ih => intro o w; rw [World.setCells]; exact ih (o + 1) (w.setCell ⟨b, o, none⟩ v)
  obtain ⟨h0, h1, h2⟩ := h3 vs o w
  exact ⟨h0, h1, h2, by rw [hs]; exact Nat.le_refl _, fun k _ hne => hh k (fun e => hne (by rw [e]))⟩
theorem Lies.sc {b k : Nat} {vs : List Value} {n : Nat} {w : World} (hn : vs.length = n) (h : Room b k n w) : Lies b k vs (w.setCells b k vs) := fun j v hj => by
  subst hn
  obtain ⟨hl, he⟩ := List.getElem?_eq_some_iff.1 hj
  rw [World.cell?_setCells_in b vs k w h.1 j hl, he]
theorem Lies.call {b k : Nat} {vs : List Value} {w w' : World} (h : Lies b k vs w) (hb : Below w.heap.size w w') (hlt : b < w.heap.size) : Lies b k vs w' :=
  fun j v hj => (hb.cell (p := ⟨b, k + j, none⟩) hlt).trans (h j v hj)
theorem Room.call {b k n : Nat} {w w' : World} (h : Room b k n w) (hb : Below w.heap.size w w') (hlt : b < w.heap.size) : Room b k n w' :=
  ⟨fun j hj => by rw [hb.cell (p := ⟨b, k + j, none⟩) hlt]; exact h.1 j hj, fun j hj => by rw [hb.frozen (p := ⟨b, k + j, none⟩) hlt]; exact h.2 j hj⟩
/-- What a function hands back out of a box of n cells. -/
theorem res_cells {fn : Func} {p : Tmp} {ty : TypeId} {n : Nat} (hty : AggTy ty n) (h : fn.results = #[.cell p ty]) (tmps : Array Value) (w : World) (b k : Nat) (vs : List Value) (hn : vs.length = n)
    (hp : tmps.getD p undef = .pointer (some ⟨b, k, none⟩)) (hl : Lies b k vs w) : (results fn tmps).run Try.prog w = .ok (.agg vs.toArray) w := by
  obtain ⟨⟨d, hu, hd⟩, hi⟩ := hty
  have hp' : tmps[p]?.getD undef = .pointer (some ⟨b, k, none⟩) := by simpa using hp
  simp [results, h, hp', asAddr, run_lv ty b k vs w d hd hu (by rw [hn]; exact hi) hl]
theorem Room.new (w : World) (cs : Array Value) (ty : TypeId) (n : Nat) (hn : cs.size = n) : Room w.heap.size 0 n (w.alloc (.cells cs ty)) := by
  have hg := heap_alloc_new w (.cells cs ty)
  refine ⟨fun j hj => ?_, fun j hj => ?_⟩
  · rw [cell_of_row _ _ _ cs ty _ hg, Nat.zero_add, Array.getElem?_eq_getElem (by omega)]
    rfl
  · exact frozen_of_row _ w.heap.size (0 + j) cs ty hg
theorem Lies.new (w : World) (vs : List Value) (ty : TypeId) : Lies w.heap.size 0 vs (w.alloc (.cells vs.toArray ty)) := fun j v hj => by
  rw [cell_of_row _ _ _ vs.toArray ty _ (heap_alloc_new w _), Nat.zero_add]
  simpa using hj
theorem Lies.part {b k : Nat} {vs : List Value} {w : World} (h : Lies b k vs w) (m n : Nat) : Lies b (k + m) ((vs.drop m).take n) w := fun j v hj => by
  have hjn : j < n := by
    obtain ⟨h1, -⟩ := List.getElem?_eq_some_iff.1 hj
    rw [List.length_take] at h1
    omega
  rw [List.getElem?_take_of_lt hjn, List.getElem?_drop] at hj
  have := h (m + j) v hj
  rwa [show k + (m + j) = k + m + j by omega] at this
theorem Room.part {b k n : Nat} {w : World} (h : Room b k n w) (m c : Nat) (hc : m + c ≤ n) : Room b (k + m) c w :=
  ⟨fun j hj => by rw [show k + m + j = k + (m + j) by omega]; exact h.1 (m + j) (by omega), fun j hj => by rw [show k + m + j = k + (m + j) by omega]; exact h.2 (m + j) (by omega)⟩
theorem Lies.grown {b k : Nat} {vs : List Value} {w w' : World} {row : Option Nat} (h : Lies b k vs w) (hg : w.grownBy w' row) (hlt : b < w.heap.size) (hr : row ≠ some b) : Lies b k vs w' :=
  fun j v hj => (World.cell?_of_block (w := w) (a := ⟨b, k + j, none⟩) (hg.block b hlt (fun e => hr e.symm))).trans (h j v hj)
theorem Room.grown {b k n : Nat} {w w' : World} {row : Option Nat} (h : Room b k n w) (hg : w.grownBy w' row) (hlt : b < w.heap.size) (hr : row ≠ some b) : Room b k n w' :=
  ⟨fun j hj => by rw [World.cell?_of_block (w := w) (a := ⟨b, k + j, none⟩) (hg.block b hlt (fun e => hr e.symm))]; exact h.1 j hj, fun j hj => (World.frozen?_of_block (w := w) (a := ⟨b, k + j, none⟩) (hg.block b hlt (fun e => hr e.symm))).trans (h.2 j hj)⟩
/-- One cell written. -/
theorem Lies.set {b k : Nat} {vs : List Value} {w : World} (h : Lies b k vs w) (i : Nat) (hi : i < vs.length) (x : Value) : Lies b k (vs.set i x) (w.setCell ⟨b, k + i, none⟩ x) := fun j v hj => by
  by_cases e : i = j
  · subst e
    rw [List.getElem?_set_self hi] at hj
    injection hj with hj
    subst hj
    refine set_same ?_
    rw [h i _ (List.getElem?_eq_getElem hi)]
    rfl
  · rw [List.getElem?_set_ne e] at hj
    rw [set_off (by omega)]
    exact h j v hj
theorem Room.set {b k n : Nat} {w : World} (h : Room b k n w) (g i : Nat) (x : Value) : Room b k n (w.setCell ⟨g, i, none⟩ x) :=
  ⟨fun j hj => by
    obtain ⟨u, hu⟩ := Option.isSome_iff_exists.1 (h.1 j hj)
    by_cases e : (⟨g, i, none⟩ : Addr) = ⟨b, k + j, none⟩
    · rw [e, set_same (by rw [hu]; rfl)]; rfl
    · rw [World.cell?_setCell_other w _ _ x e, hu]; rfl, fun j hj => by rw [World.frozen?_setCell]; exact h.2 j hj⟩
end Go.Proofs.Ytegihccdpohnnaa
