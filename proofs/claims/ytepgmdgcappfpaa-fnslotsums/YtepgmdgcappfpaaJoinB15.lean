/-
  bytesOfDigest.
-/
import Derived.Test.YtepgmdgcappfpaaRows
import Derived.Test.YtepgmdgcappfpaaJoinB1
import Derived.Test.YtepgmdgcappfpaaJoinB2
import Derived.Test.YtepgmdgcappfpaaJoinB3
import Derived.Test.YtepgmdgcappfpaaCopy57
import Derived.Deep.CutBlock
import Derived.Deep.QuietTactic
import Derived.BigQuiet
import Derived.Deep.CutRange
import Derived.Deep.DeepCutAuto
import Derived.Laws.Tables
import Derived.Deep.RegionWith
import Derived.Deep.RegionHeld3
import Derived.Test.YtepgmdgcappfpaaJoinB6
import Derived.Test.YtepgmdgcappfpaaJoinB8
import Derived.Handy
import Derived.Test.YtepgmdgcappfpaaLawLeaf
import Derived.Laws.BitsAllLaws
namespace Go.Proofs.Ytepgmdgcappfpaa
open Go.RowKit

end Go.Proofs.Ytepgmdgcappfpaa

/-
  HashBytes, on both sides.
-/
namespace Go.Proofs.Ytepgmdgcappfpaa
open Go.RowKit

theorem str_append (a b : List UInt8) : str a ++ str b = str (a ++ b) := ByteArray.mk_append_mk a b

set_option maxHeartbeats 2000000 in
theorem hby_spec (q : Qd) (w : World) :
    Calls Try.prog 29 #[.agg #[.int .u64 ((q).a.toNat : Int), .int .u64 ((q).b.toNat : Int), .int .u64 ((q).c.toNat : Int), .int .u64 ((q).d.toNat : Int)]] w fun e w' => e = .returned (.string (str (db q))) ∧ Below w.heap.size w w' := by
  have hwb : ∀ x : UInt64, (wb x).length = 8 := fun _ => rfl
  go_enter Try.func29, Try.ntmps29
  go_wp2_with fail
  go_region_held3 (fun w' => w'.cell? ⟨w.heap.size, 0, none⟩ = some (Value.int IntKind.u64 (((q).a).toNat : Int)) ∧ w'.cell? ⟨w.heap.size, 1, none⟩ = some (Value.int IntKind.u64 (((q).b).toNat : Int)) ∧ w'.cell? ⟨w.heap.size, 2, none⟩ = some (Value.int IntKind.u64 (((q).c).toNat : Int)) ∧ w'.cell? ⟨w.heap.size, 3, none⟩ = some (Value.int IntKind.u64 (((q).d).toNat : Int))) ((refine ⟨?_, ?_, ?_, ?_⟩ <;> (first | ((repeat (first | (with_reducible assumption) | (with_reducible refine c_drew ?_) | (with_reducible refine c_drewN ?_) | (with_reducible refine c_alloc ?_) | (with_reducible refine c_set ?_ (by first | (simp; done) | (simp; omega) | omega)))); done) | (go_simp; done) | (simp [go_sem]; done) | (simp [go_sem, *]; done)))) (first
      | (go_at_call 28; refine (l1b_is _ _).mono ?_; rintro e wN ⟨rfl, hbN⟩; have hzN := hbN.size; (try simp only [World.size_drew] at hzN); (try simp only [World.size_alloc] at hzN); have fN0 : wN.cell? ⟨w.heap.size, 0, none⟩ = some (Value.int IntKind.u64 (((q).a).toNat : Int)) := (hbN.cell (p := ⟨w.heap.size, 0, none⟩) (by first | (simp; done) | (simp; omega) | omega)).trans (by (first | ((repeat (first | (with_reducible assumption) | (with_reducible refine c_drew ?_) | (with_reducible refine c_drewN ?_) | (with_reducible refine c_alloc ?_) | (with_reducible refine c_set ?_ (by first | (simp; done) | (simp; omega) | omega)))); done) | (go_simp; done) | (simp [go_sem]; done) | (simp [go_sem, *]; done))); have fN1 : wN.cell? ⟨w.heap.size, 1, none⟩ = some (Value.int IntKind.u64 (((q).b).toNat : Int)) := (hbN.cell (p := ⟨w.heap.size, 1, none⟩) (by first | (simp; done) | (simp; omega) | omega)).trans (by (first | ((repeat (first | (with_reducible assumption) | (with_reducible refine c_drew ?_) | (with_reducible refine c_drewN ?_) | (with_reducible refine c_alloc ?_) | (with_reducible refine c_set ?_ (by first | (simp; done) | (simp; omega) | omega)))); done) | (go_simp; done) | (simp [go_sem]; done) | (simp [go_sem, *]; done))); have fN2 : wN.cell? ⟨w.heap.size, 2, none⟩ = some (Value.int IntKind.u64 (((q).c).toNat : Int)) := (hbN.cell (p := ⟨w.heap.size, 2, none⟩) (by first | (simp; done) | (simp; omega) | omega)).trans (by (first | ((repeat (first | (with_reducible assumption) | (with_reducible refine c_drew ?_) | (with_reducible refine c_drewN ?_) | (with_reducible refine c_alloc ?_) | (with_reducible refine c_set ?_ (by first | (simp; done) | (simp; omega) | omega)))); done) | (go_simp; done) | (simp [go_sem]; done) | (simp [go_sem, *]; done))); have fN3 : wN.cell? ⟨w.heap.size, 3, none⟩ = some (Value.int IntKind.u64 (((q).d).toNat : Int)) := (hbN.cell (p := ⟨w.heap.size, 3, none⟩) (by first | (simp; done) | (simp; omega) | omega)).trans (by (first | ((repeat (first | (with_reducible assumption) | (with_reducible refine c_drew ?_) | (with_reducible refine c_drewN ?_) | (with_reducible refine c_alloc ?_) | (with_reducible refine c_set ?_ (by first | (simp; done) | (simp; omega) | omega)))); done) | (go_simp; done) | (simp [go_sem]; done) | (simp [go_sem, *]; done)))))
  go_wp2
  go_ret
  exact ⟨by simp only [str_append, db, List.append_assoc]; rfl, (by repeat' (first | (with_reducible exact Below.refl _ _) | (with_reducible assumption) | (with_reducible refine below_drewN ?_ _) | (with_reducible refine Below.setCell ?_ ?_ _) | (with_reducible refine Below.alloc ?_ ?_ _) | (with_reducible refine Below.drew ?_) | (with_reducible refine below_setRow ?_ ?_ _) | (with_reducible refine below_after ?_ (by with_reducible assumption) ?_) | go_size))⟩

/-- A row of bytes made last, as a string. -/
theorem run_str_last (W : World) (t : TypeId) (l : List UInt8) (n : Nat) (hn : l.length = n) :
    (convert 22 9 (.slice (some ⟨W.heap.size, 0, none⟩) n n)).run Try.prog (W.alloc (.cells (bv l).toArray t)) = .ok (.string (str l)) (W.alloc (.cells (bv l).toArray t)) := by
  rw [run_convert_bytes_string _ 22 9 5 _ _ _ Try.underlying22 Try.underlying5 Try.underlying9]
  refine run_str_cells _ _ _ _ l hn (fun j u hu => ?_)
  rw [Addr.add_mid, cell_of_row _ W.heap.size _ _ t (0, 0) (heap_alloc_last W _)]
  simpa using hu

end Go.Proofs.Ytepgmdgcappfpaa

/-
  A slot in plain words, and its box.
-/
namespace Go.Proofs.Ytepgmdgcappfpaa
open Go.RowKit

structure Sl where
  m : UInt64
  q : UInt64
  z : UInt64
  r : Qd

/-- The block B begins with a slot. -/
def SB (B : Nat) (s : Sl) (W : World) : Prop :=
  B < W.heap.size ∧ W.cell? ⟨B, 0, none⟩ = some (.int .u64 ((s.m).toNat : Int)) ∧ W.cell? ⟨B, 1, none⟩ = some (.int .u64 ((s.q).toNat : Int)) ∧ W.cell? ⟨B, 2, none⟩ = some (.int .u64 ((s.z).toNat : Int)) ∧ W.cell? ⟨B, 3, none⟩ = some (.int .u64 ((s.r.a).toNat : Int)) ∧ W.cell? ⟨B, 4, none⟩ = some (.int .u64 ((s.r.b).toNat : Int)) ∧ W.cell? ⟨B, 5, none⟩ = some (.int .u64 ((s.r.c).toNat : Int)) ∧ W.cell? ⟨B, 6, none⟩ = some (.int .u64 ((s.r.d).toNat : Int))
theorem SB.call {B : Nat} {s : Sl} {W W' : World} (h : SB B s W) (hb : Below W.heap.size W W') : SB B s W' :=
  ⟨Nat.lt_of_lt_of_le h.1 hb.size, (hb.cell h.1).trans h.2.1, (hb.cell h.1).trans h.2.2.1, (hb.cell h.1).trans h.2.2.2.1, (hb.cell h.1).trans h.2.2.2.2.1, (hb.cell h.1).trans h.2.2.2.2.2.1, (hb.cell h.1).trans h.2.2.2.2.2.2.1, (hb.cell h.1).trans h.2.2.2.2.2.2.2⟩
theorem SB.new (W : World) (s : Sl) (t : TypeId) : SB W.heap.size s (W.alloc (.cells #[Value.int IntKind.u64 ((s).m.toNat : Int), Value.int IntKind.u64 ((s).q.toNat : Int), Value.int IntKind.u64 ((s).z.toNat : Int), Value.int IntKind.u64 ((s).r.a.toNat : Int), Value.int IntKind.u64 ((s).r.b.toNat : Int), Value.int IntKind.u64 ((s).r.c.toNat : Int), Value.int IntKind.u64 ((s).r.d.toNat : Int)] t)) := by
  refine ⟨by simp, ?_, ?_, ?_, ?_, ?_, ?_, ?_⟩ <;> simp [go_sem]

end Go.Proofs.Ytepgmdgcappfpaa

/-
  A slot in plain words: its sum; the box of a slot; what the laws' own function makes of it; the sum as the document has it.
-/
namespace Go.Proofs.Ytepgmdgcappfpaa
open Go.RowKit

/-- The forty-eight bytes that are summed. -/
def six (s : Sl) : List UInt8 := wb s.q ++ (wb s.z ++ db s.r)
/-- The sum that a slot must have. -/
def sumOf (s : Sl) : UInt64 := (dg (str (six s))).a ||| 1
theorem w_or1 (x : UInt64) : bits .or .u64 (x.toNat : Int) 1 = ((x ||| 1).toNat : Int) := by
  have := x.toNat_lt
  rw [u64_or _ _ (by omega) (by omega) (by omega) (by omega), UInt64.toNat_or]
  rfl
/-- The first word of a digest, taken out of a call's answer. -/
theorem fld_a (a b c d : Int) (W : World) : (Instr.field 25 (.agg #[.int .u64 a, .int .u64 b, .int .u64 c, .int .u64 d]) 0).run Try.prog W = .ok (.int .u64 a) W := by
  kernel_rfl

set_option maxRecDepth 20000 in
set_option maxHeartbeats 2000000 in
theorem ssum_spec (s : Sl) (w : World) :
    Calls Try.prog 15 #[.agg #[.int .u64 ((s).m.toNat : Int), .int .u64 ((s).q.toNat : Int), .int .u64 ((s).z.toNat : Int), .int .u64 ((s).r.a.toNat : Int), .int .u64 ((s).r.b.toNat : Int), .int .u64 ((s).r.c.toNat : Int), .int .u64 ((s).r.d.toNat : Int)]] w fun e w' => e = .returned (.int .u64 ((sumOf s).toNat : Int)) ∧ Below w.heap.size w w' := by
  have hb0 : Below w.heap.size w (w.alloc (.cells #[Value.int IntKind.u64 ((s).m.toNat : Int), Value.int IntKind.u64 ((s).q.toNat : Int), Value.int IntKind.u64 ((s).z.toNat : Int), Value.int IntKind.u64 ((s).r.a.toNat : Int), Value.int IntKind.u64 ((s).r.b.toNat : Int), Value.int IntKind.u64 ((s).r.c.toNat : Int), Value.int IntKind.u64 ((s).r.d.toNat : Int)] 27)) := (by repeat' (first | (with_reducible exact Below.refl _ _) | (with_reducible assumption) | (with_reducible refine below_drewN ?_ _) | (with_reducible refine Below.setCell ?_ ?_ _) | (with_reducible refine Below.alloc ?_ ?_ _) | (with_reducible refine Below.drew ?_) | go_size))
  have hS0 := SB.new w s 27
  obtain ⟨-, a0, a1, a2, a3, a4, a5, a6⟩ := id hS0
  have cb := fun (x : UInt64) (V W : World) (h : Below V.heap.size V W) => (l1b_is x W).mono (fun e w' (h' : _ ∧ _) => (⟨h'.1, below_after h h'.2 h.size⟩ : _ ∧ Below V.heap.size V w'))
  have cd := fun (V W : World) (h : Below V.heap.size V W) => (hby_spec s.r W).mono (fun e w' (h' : _ ∧ _) => (⟨h'.1, below_after h h'.2 h.size⟩ : _ ∧ Below V.heap.size V w'))
  have ch := fun (x : ByteArray) (V W : World) (h : Below V.heap.size V W) => (ho_spec_all x W).mono (fun e w' (h' : _ ∧ _) => (⟨h'.1, below_after h h'.2 h.size⟩ : _ ∧ Below V.heap.size V w'))
  have hf := fld_a
  have hwb : ∀ x : UInt64, (wb x).length = 8 := fun _ => rfl
  have hdb : (db s.r).length = 32 := rfl
  go_enter Try.func15, Try.ntmps15
  go_wp2_with fail
  go_region_held3 (fun w' => w'.cell? ⟨w.heap.size, 1, none⟩ = some (.int .u64 ((s.q).toNat : Int)) ∧ w'.cell? ⟨w.heap.size, 2, none⟩ = some (.int .u64 ((s.z).toNat : Int)) ∧ w'.cell? ⟨w.heap.size, 3, none⟩ = some (.int .u64 ((s.r.a).toNat : Int)) ∧ w'.cell? ⟨w.heap.size, 4, none⟩ = some (.int .u64 ((s.r.b).toNat : Int)) ∧ w'.cell? ⟨w.heap.size, 5, none⟩ = some (.int .u64 ((s.r.c).toNat : Int)) ∧ w'.cell? ⟨w.heap.size, 6, none⟩ = some (.int .u64 ((s.r.d).toNat : Int))) ((refine ⟨?_, ?_, ?_, ?_, ?_, ?_⟩ <;> assumption)) ((first
    | (go_at_call 27; refine (ch _ w3 _ (by repeat' (first | (with_reducible exact Below.refl _ _) | (with_reducible assumption) | (with_reducible refine below_drewN ?_ _) | (with_reducible refine Below.setCell ?_ ?_ _) | (with_reducible refine Below.alloc ?_ ?_ _) | (with_reducible refine Below.drew ?_) | go_size))).mono ?_; rintro e w4 ⟨rfl, hb4⟩; have z4 := below_after z3 hb4 z3.size; have S4 := S3.call hb4; obtain ⟨-, -, e1, e2, e3, e4, e5, e6⟩ := id S4)
    | (go_at_call 29; refine (cd w2 _ (by repeat' (first | (with_reducible exact Below.refl _ _) | (with_reducible assumption) | (with_reducible refine below_drewN ?_ _) | (with_reducible refine Below.setCell ?_ ?_ _) | (with_reducible refine Below.alloc ?_ ?_ _) | (with_reducible refine Below.drew ?_) | go_size))).mono ?_; rintro e w3 ⟨rfl, hb3⟩; have z3 := below_after z2 hb3 z2.size; have S3 := S2.call hb3; obtain ⟨-, -, d1, d2, d3, d4, d5, d6⟩ := id S3)
    | (have hh := S1; go_at_call 28; refine (cb s.z w1 _ (by repeat' (first | (with_reducible exact Below.refl _ _) | (with_reducible assumption) | (with_reducible refine below_drewN ?_ _) | (with_reducible refine Below.setCell ?_ ?_ _) | (with_reducible refine Below.alloc ?_ ?_ _) | (with_reducible refine Below.drew ?_) | go_size))).mono ?_; rintro e w2 ⟨rfl, hb2⟩; have z2 := below_after z1 hb2 z1.size; have S2 := S1.call hb2; obtain ⟨-, -, c1, c2, c3, c4, c5, c6⟩ := id S2)
    | (go_at_call 28; refine (cb s.q (w.alloc (.cells #[Value.int IntKind.u64 ((s).m.toNat : Int), Value.int IntKind.u64 ((s).q.toNat : Int), Value.int IntKind.u64 ((s).z.toNat : Int), Value.int IntKind.u64 ((s).r.a.toNat : Int), Value.int IntKind.u64 ((s).r.b.toNat : Int), Value.int IntKind.u64 ((s).r.c.toNat : Int), Value.int IntKind.u64 ((s).r.d.toNat : Int)] 27)) _ (by repeat' (first | (with_reducible exact Below.refl _ _) | (with_reducible assumption) | (with_reducible refine below_drewN ?_ _) | (with_reducible refine Below.setCell ?_ ?_ _) | (with_reducible refine Below.alloc ?_ ?_ _) | (with_reducible refine Below.drew ?_) | go_size))).mono ?_; rintro e w1 ⟨rfl, hb1⟩; have z1 := below_after hb0 hb1 hb0.size; have S1 := hS0.call hb1; obtain ⟨-, -, b1, b2, b3, b4, b5, b6⟩ := id S1)))
  go_wp2
  go_ret
  exact ⟨by rw [w_or1, str_append, str_append, List.append_assoc]; rfl, z4⟩
end Go.Proofs.Ytepgmdgcappfpaa
