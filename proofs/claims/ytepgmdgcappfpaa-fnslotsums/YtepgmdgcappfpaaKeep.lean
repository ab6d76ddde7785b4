/-
  What a keep does at its end: it looks whether all was done.
-/
import Derived.Test.YtepgmdgcappfpaaRMend
import Derived.Test.YtepgmdgcappfpaaCuts
import Derived.Test.YtepgmdgcappfpaaJoinB34
namespace Go.Proofs.Ytepgmdgcappfpaa
open Go.RowKit Go.MuLone

theorem PK.disk {B : Nat} {d : Sl × Sl} {v : Value} {W : World} (h : PK B d v W) (e : Sl × Sl) : PK B e v (W.setCells B 0 [.int .u64 ((e.1).m.toNat : Int), .int .u64 ((e.1).q.toNat : Int), .int .u64 ((e.1).z.toNat : Int), .int .u64 ((e.1).r.a.toNat : Int), .int .u64 ((e.1).r.b.toNat : Int), .int .u64 ((e.1).r.c.toNat : Int), .int .u64 ((e.1).r.d.toNat : Int), .int .u64 ((e.2).m.toNat : Int), .int .u64 ((e.2).q.toNat : Int), .int .u64 ((e.2).z.toNat : Int), .int .u64 ((e.2).r.a.toNat : Int), .int .u64 ((e.2).r.b.toNat : Int), .int .u64 ((e.2).r.c.toNat : Int), .int .u64 ((e.2).r.d.toNat : Int)]) := by
  obtain ⟨h1, h2, h3⟩ := h
  have hr : Room B 0 14 W := h3.part 0 14 (by omega)
  have hl : Lies B 0 [.int .u64 ((e.1).m.toNat : Int), .int .u64 ((e.1).q.toNat : Int), .int .u64 ((e.1).z.toNat : Int), .int .u64 ((e.1).r.a.toNat : Int), .int .u64 ((e.1).r.b.toNat : Int), .int .u64 ((e.1).r.c.toNat : Int), .int .u64 ((e.1).r.d.toNat : Int), .int .u64 ((e.2).m.toNat : Int), .int .u64 ((e.2).q.toNat : Int), .int .u64 ((e.2).z.toNat : Int), .int .u64 ((e.2).r.a.toNat : Int), .int .u64 ((e.2).r.b.toNat : Int), .int .u64 ((e.2).r.c.toNat : Int), .int .u64 ((e.2).r.d.toNat : Int)] (W.setCells B 0 [.int .u64 ((e.1).m.toNat : Int), .int .u64 ((e.1).q.toNat : Int), .int .u64 ((e.1).z.toNat : Int), .int .u64 ((e.1).r.a.toNat : Int), .int .u64 ((e.1).r.b.toNat : Int), .int .u64 ((e.1).r.c.toNat : Int), .int .u64 ((e.1).r.d.toNat : Int), .int .u64 ((e.2).m.toNat : Int), .int .u64 ((e.2).q.toNat : Int), .int .u64 ((e.2).z.toNat : Int), .int .u64 ((e.2).r.a.toNat : Int), .int .u64 ((e.2).r.b.toNat : Int), .int .u64 ((e.2).r.c.toNat : Int), .int .u64 ((e.2).r.d.toNat : Int)]) := Lies.sc (by kernel_rfl) hr
  have out := fun (j : Nat) (hj : 14 ≤ j) => World.cell?_setCells_out B [.int .u64 ((e.1).m.toNat : Int), .int .u64 ((e.1).q.toNat : Int), .int .u64 ((e.1).z.toNat : Int), .int .u64 ((e.1).r.a.toNat : Int), .int .u64 ((e.1).r.b.toNat : Int), .int .u64 ((e.1).r.c.toNat : Int), .int .u64 ((e.1).r.d.toNat : Int), .int .u64 ((e.2).m.toNat : Int), .int .u64 ((e.2).q.toNat : Int), .int .u64 ((e.2).z.toNat : Int), .int .u64 ((e.2).r.a.toNat : Int), .int .u64 ((e.2).r.b.toNat : Int), .int .u64 ((e.2).r.c.toNat : Int), .int .u64 ((e.2).r.d.toNat : Int)] 0 W ⟨B, 0 + j, none⟩ (fun _ _ => Or.inr (by show 0 + 14 ≤ 0 + j; omega))
  refine ⟨by rw [sc_size]; exact h1, fun j x hj => ?_, fun j hj => ?_, fun j hj => by rw [World.frozen?_setCells]; exact h3.2 j hj⟩
  · by_cases h14 : j < 14
    · refine hl j x ?_
      rw [← hj]
      show ([.int .u64 ((e.1).m.toNat : Int), .int .u64 ((e.1).q.toNat : Int), .int .u64 ((e.1).z.toNat : Int), .int .u64 ((e.1).r.a.toNat : Int), .int .u64 ((e.1).r.b.toNat : Int), .int .u64 ((e.1).r.c.toNat : Int), .int .u64 ((e.1).r.d.toNat : Int), .int .u64 ((e.2).m.toNat : Int), .int .u64 ((e.2).q.toNat : Int), .int .u64 ((e.2).z.toNat : Int), .int .u64 ((e.2).r.a.toNat : Int), .int .u64 ((e.2).r.b.toNat : Int), .int .u64 ((e.2).r.c.toNat : Int), .int .u64 ((e.2).r.d.toNat : Int)] : List Value)[j]? = ([.int .u64 ((e.1).m.toNat : Int), .int .u64 ((e.1).q.toNat : Int), .int .u64 ((e.1).z.toNat : Int), .int .u64 ((e.1).r.a.toNat : Int), .int .u64 ((e.1).r.b.toNat : Int), .int .u64 ((e.1).r.c.toNat : Int), .int .u64 ((e.1).r.d.toNat : Int), .int .u64 ((e.2).m.toNat : Int), .int .u64 ((e.2).q.toNat : Int), .int .u64 ((e.2).z.toNat : Int), .int .u64 ((e.2).r.a.toNat : Int), .int .u64 ((e.2).r.b.toNat : Int), .int .u64 ((e.2).r.c.toNat : Int), .int .u64 ((e.2).r.d.toNat : Int)] ++ (pcs e v).drop 14)[j]?
      rw [List.getElem?_append_left (by exact h14)]
    · rw [out j (by omega)]
      refine h2 j x ?_
      rw [← hj]
      show ([.int .u64 ((d.1).m.toNat : Int), .int .u64 ((d.1).q.toNat : Int), .int .u64 ((d.1).z.toNat : Int), .int .u64 ((d.1).r.a.toNat : Int), .int .u64 ((d.1).r.b.toNat : Int), .int .u64 ((d.1).r.c.toNat : Int), .int .u64 ((d.1).r.d.toNat : Int), .int .u64 ((d.2).m.toNat : Int), .int .u64 ((d.2).q.toNat : Int), .int .u64 ((d.2).z.toNat : Int), .int .u64 ((d.2).r.a.toNat : Int), .int .u64 ((d.2).r.b.toNat : Int), .int .u64 ((d.2).r.c.toNat : Int), .int .u64 ((d.2).r.d.toNat : Int)] ++ (pcs d v).drop 14)[j]? = ([.int .u64 ((e.1).m.toNat : Int), .int .u64 ((e.1).q.toNat : Int), .int .u64 ((e.1).z.toNat : Int), .int .u64 ((e.1).r.a.toNat : Int), .int .u64 ((e.1).r.b.toNat : Int), .int .u64 ((e.1).r.c.toNat : Int), .int .u64 ((e.1).r.d.toNat : Int), .int .u64 ((e.2).m.toNat : Int), .int .u64 ((e.2).q.toNat : Int), .int .u64 ((e.2).z.toNat : Int), .int .u64 ((e.2).r.a.toNat : Int), .int .u64 ((e.2).r.b.toNat : Int), .int .u64 ((e.2).r.c.toNat : Int), .int .u64 ((e.2).r.d.toNat : Int)] ++ (pcs e v).drop 14)[j]?
      rw [List.getElem?_append_right (by show 14 ≤ j; omega), List.getElem?_append_right (by show 14 ≤ j; omega)]
      rfl
  · by_cases h14 : j < 14
    · have hx := hl j (([.int .u64 ((e.1).m.toNat : Int), .int .u64 ((e.1).q.toNat : Int), .int .u64 ((e.1).z.toNat : Int), .int .u64 ((e.1).r.a.toNat : Int), .int .u64 ((e.1).r.b.toNat : Int), .int .u64 ((e.1).r.c.toNat : Int), .int .u64 ((e.1).r.d.toNat : Int), .int .u64 ((e.2).m.toNat : Int), .int .u64 ((e.2).q.toNat : Int), .int .u64 ((e.2).z.toNat : Int), .int .u64 ((e.2).r.a.toNat : Int), .int .u64 ((e.2).r.b.toNat : Int), .int .u64 ((e.2).r.c.toNat : Int), .int .u64 ((e.2).r.d.toNat : Int)] : List Value)[j]'(by exact h14)) (List.getElem?_eq_getElem _)
      rw [hx]
      rfl
    · rw [out j (by omega)]
      exact h3.1 j hj
theorem grownBy_dr {W W' : World} {r : Option Nat} (h : W.drew.grownBy W' r) : W.grownBy W' r := ⟨h.os, h.tape, h.output, h.size, h.block⟩
end Go.Proofs.Ytepgmdgcappfpaa
