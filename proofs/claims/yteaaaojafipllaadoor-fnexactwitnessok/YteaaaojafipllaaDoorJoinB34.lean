/-
  A slot in plain words: its sum; the box of a slot; what the laws' own function makes of it; the sum as the document has it.
-/
import Derived.Test.YteaaaojafipllaaDoorLawLeaf
import Derived.Test.YteaaaojafipllaaDoorWalks7
import Derived.Test.YteaaaojafipllaaDoorKit
import Derived.Test.YteaaaojafipllaaDoorSlT
import Derived.Laws.BitsAllLaws
import Derived.Test.YteaaaojafipllaaDoorRows
import Derived.Conc.RwLib
import Derived.Conc.MuData
import Derived.Conc.MuLone
import Derived.Defers
import Derived.KernelRfl
namespace Go.Proofs.YteaaaojafipllaaDoor
open Go.RowKit

/-- The forty-eight bytes that are summed. -/
def six (s : Sl) : List UInt8 := wb s.q ++ (wb s.z ++ db s.r)
/-- The sum that a slot must have. -/
def sumOf (s : Sl) : UInt64 := (dg (str (six s))).a ||| 1
set_option maxRecDepth 20000 in
set_option maxHeartbeats 1000000 in
theorem tosl_is (s : Sl) (w : World) :
    Calls Tryd.prog 20 #[.agg #[.int .u64 ((s).m.toNat : Int), .int .u64 ((s).q.toNat : Int), .int .u64 ((s).z.toNat : Int), .int .u64 ((s).r.a.toNat : Int), .int .u64 ((s).r.b.toNat : Int), .int .u64 ((s).r.c.toNat : Int), .int .u64 ((s).r.d.toNat : Int)]] w fun e w' => e = .returned (.agg #[.int .u64 ((s).m.toNat : Int), .int .u64 ((s).q.toNat : Int), .int .u64 ((s).z.toNat : Int), .int .u64 ((s).r.a.toNat : Int), .int .u64 ((s).r.b.toNat : Int), .int .u64 ((s).r.c.toNat : Int), .int .u64 ((s).r.d.toNat : Int)]) ∧ Below w.heap.size w w' := by
  go_enter Tryd.func20, Tryd.ntmps20
  go_wp2_with (go_at_call 34; refine (toD_is _ _).mono ?_; rintro e w1 ⟨rfl, rfl⟩)
  exact bodyPost_ret (v := .agg #[.int .u64 ((s).m.toNat : Int), .int .u64 ((s).q.toNat : Int), .int .u64 ((s).z.toNat : Int), .int .u64 ((s).r.a.toNat : Int), .int .u64 ((s).r.b.toNat : Int), .int .u64 ((s).r.c.toNat : Int), .int .u64 ((s).r.d.toNat : Int)]) (by simp [results, Tryd.results20, go_sem]) rfl ⟨rfl, (by repeat' (first | (with_reducible exact Below.refl _ _) | (with_reducible assumption) | (with_reducible refine below_drewN ?_ _) | (with_reducible refine Below.setCell ?_ ?_ _) | (with_reducible refine Below.alloc ?_ ?_ _) | (with_reducible refine Below.drew ?_) | go_size))⟩

theorem w_or1 (x : UInt64) : bits .or .u64 (x.toNat : Int) 1 = ((x ||| 1).toNat : Int) := by
  have := x.toNat_lt
  rw [u64_or _ _ (by omega) (by omega) (by omega) (by omega), UInt64.toNat_or]
  rfl
/-- The first word of a digest, taken out of a call's answer. -/
theorem fld_a (a b c d : Int) (W : World) : (Instr.field 34 (.agg #[.int .u64 a, .int .u64 b, .int .u64 c, .int .u64 d]) 0).run Tryd.prog W = .ok (.int .u64 a) W := by
  kernel_rfl

set_option maxRecDepth 20000 in
set_option maxHeartbeats 2000000 in
theorem ssum_spec (s : Sl) (w : World) :
    Calls Tryd.prog 42 #[.agg #[.int .u64 ((s).m.toNat : Int), .int .u64 ((s).q.toNat : Int), .int .u64 ((s).z.toNat : Int), .int .u64 ((s).r.a.toNat : Int), .int .u64 ((s).r.b.toNat : Int), .int .u64 ((s).r.c.toNat : Int), .int .u64 ((s).r.d.toNat : Int)]] w fun e w' => e = .returned (.int .u64 ((sumOf s).toNat : Int)) ∧ Below w.heap.size w w' := by
  have hb0 : Below w.heap.size w (w.alloc (.cells #[Value.int IntKind.u64 ((s).m.toNat : Int), Value.int IntKind.u64 ((s).q.toNat : Int), Value.int IntKind.u64 ((s).z.toNat : Int), Value.int IntKind.u64 ((s).r.a.toNat : Int), Value.int IntKind.u64 ((s).r.b.toNat : Int), Value.int IntKind.u64 ((s).r.c.toNat : Int), Value.int IntKind.u64 ((s).r.d.toNat : Int)] 36)) := (by repeat' (first | (with_reducible exact Below.refl _ _) | (with_reducible assumption) | (with_reducible refine below_drewN ?_ _) | (with_reducible refine Below.setCell ?_ ?_ _) | (with_reducible refine Below.alloc ?_ ?_ _) | (with_reducible refine Below.drew ?_) | go_size))
  have hS0 := SB.new w s 36
  obtain ⟨-, a0, a1, a2, a3, a4, a5, a6⟩ := id hS0
  have cb := fun (x : UInt64) (V W : World) (h : Below V.heap.size V W) => (l1b_is x W).mono (fun e w' (h' : _ ∧ _) => (⟨h'.1, below_after h h'.2 h.size⟩ : _ ∧ Below V.heap.size V w'))
  have cd := fun (V W : World) (h : Below V.heap.size V W) => (hby_spec s.r W).mono (fun e w' (h' : _ ∧ _) => (⟨h'.1, below_after h h'.2 h.size⟩ : _ ∧ Below V.heap.size V w'))
  have ch := fun (x : ByteArray) (V W : World) (h : Below V.heap.size V W) => (ho_spec_all x W).mono (fun e w' (h' : _ ∧ _) => (⟨h'.1, below_after h h'.2 h.size⟩ : _ ∧ Below V.heap.size V w'))
  have hf := fld_a
  have hwb : ∀ x : UInt64, (wb x).length = 8 := fun _ => rfl
  have hdb : (db s.r).length = 32 := rfl
  go_enter Tryd.func42, Tryd.ntmps42
  go_wp2_with fail
  go_region_held3 (fun w' => w'.cell? ⟨w.heap.size, 1, none⟩ = some (.int .u64 ((s.q).toNat : Int)) ∧ w'.cell? ⟨w.heap.size, 2, none⟩ = some (.int .u64 ((s.z).toNat : Int)) ∧ w'.cell? ⟨w.heap.size, 3, none⟩ = some (.int .u64 ((s.r.a).toNat : Int)) ∧ w'.cell? ⟨w.heap.size, 4, none⟩ = some (.int .u64 ((s.r.b).toNat : Int)) ∧ w'.cell? ⟨w.heap.size, 5, none⟩ = some (.int .u64 ((s.r.c).toNat : Int)) ∧ w'.cell? ⟨w.heap.size, 6, none⟩ = some (.int .u64 ((s.r.d).toNat : Int))) ((refine ⟨?_, ?_, ?_, ?_, ?_, ?_⟩ <;> assumption)) ((first
    | (go_at_call 19; refine (ch _ w3 _ (by repeat' (first | (with_reducible exact Below.refl _ _) | (with_reducible assumption) | (with_reducible refine below_drewN ?_ _) | (with_reducible refine Below.setCell ?_ ?_ _) | (with_reducible refine Below.alloc ?_ ?_ _) | (with_reducible refine Below.drew ?_) | go_size))).mono ?_; rintro e w4 ⟨rfl, hb4⟩; have z4 := below_after z3 hb4 z3.size; have S4 := S3.call hb4; obtain ⟨-, -, e1, e2, e3, e4, e5, e6⟩ := id S4)
    | (go_at_call 48; refine (cd w2 _ (by repeat' (first | (with_reducible exact Below.refl _ _) | (with_reducible assumption) | (with_reducible refine below_drewN ?_ _) | (with_reducible refine Below.setCell ?_ ?_ _) | (with_reducible refine Below.alloc ?_ ?_ _) | (with_reducible refine Below.drew ?_) | go_size))).mono ?_; rintro e w3 ⟨rfl, hb3⟩; have z3 := below_after z2 hb3 z2.size; have S3 := S2.call hb3; obtain ⟨-, -, d1, d2, d3, d4, d5, d6⟩ := id S3)
    | (have hh := S1; go_at_call 31; refine (cb s.z w1 _ (by repeat' (first | (with_reducible exact Below.refl _ _) | (with_reducible assumption) | (with_reducible refine below_drewN ?_ _) | (with_reducible refine Below.setCell ?_ ?_ _) | (with_reducible refine Below.alloc ?_ ?_ _) | (with_reducible refine Below.drew ?_) | go_size))).mono ?_; rintro e w2 ⟨rfl, hb2⟩; have z2 := below_after z1 hb2 z1.size; have S2 := S1.call hb2; obtain ⟨-, -, c1, c2, c3, c4, c5, c6⟩ := id S2)
    | (go_at_call 31; refine (cb s.q (w.alloc (.cells #[Value.int IntKind.u64 ((s).m.toNat : Int), Value.int IntKind.u64 ((s).q.toNat : Int), Value.int IntKind.u64 ((s).z.toNat : Int), Value.int IntKind.u64 ((s).r.a.toNat : Int), Value.int IntKind.u64 ((s).r.b.toNat : Int), Value.int IntKind.u64 ((s).r.c.toNat : Int), Value.int IntKind.u64 ((s).r.d.toNat : Int)] 36)) _ (by repeat' (first | (with_reducible exact Below.refl _ _) | (with_reducible assumption) | (with_reducible refine below_drewN ?_ _) | (with_reducible refine Below.setCell ?_ ?_ _) | (with_reducible refine Below.alloc ?_ ?_ _) | (with_reducible refine Below.drew ?_) | go_size))).mono ?_; rintro e w1 ⟨rfl, hb1⟩; have z1 := below_after hb0 hb1 hb0.size; have S1 := hS0.call hb1; obtain ⟨-, -, b1, b2, b3, b4, b5, b6⟩ := id S1)))
  go_wp2
  go_ret
  exact ⟨by rw [w_or1, str_append, str_append, List.append_assoc]; rfl, z4⟩
end Go.Proofs.YteaaaojafipllaaDoor

/-
  The lock of package sync in this program, and the words that it stands on.
-/
namespace Go.Proofs.YteaaaojafipllaaDoor
open Go.RowKit Go.MuLone

abbrev muL : Go.Conc.Locks.MuLink := { lock := 74, unlock := 75, ilock := 79, iunlock := 80, lockSlow := 87, unlockSlow := 90, disable := 83, enable := 85, acquire := 86, relMerge := 88, cas32 := 84, add32 := 89, tMutex := 109, tIMutex := 107, tPMutex := 145, tPIMutex := 148, tPI32 := 150, tUP := 152, tNoCopy := 101, tU32 := 103 }
theorem muLib : Go.Conc.Locks.MuLib Tryd.prog muL :=
  ⟨Tryd.func74, Tryd.func75, Tryd.func79, Tryd.func80, Tryd.func83, Tryd.func85, Tryd.func86, Tryd.func88, Tryd.func84, Tryd.func89, Tryd.underlying107, Tryd.runUnderlying107, Tryd.sizeOf107, Tryd.isAgg107, Tryd.zeroValue107, Tryd.underlying109, Tryd.runUnderlying109, Tryd.sizeOf109, Tryd.isAgg109, Tryd.zeroValue109, Tryd.underlying145, Tryd.runUnderlying145, Tryd.sizeOf145, Tryd.isAgg145, Tryd.zeroValue145, Tryd.underlying148, Tryd.runUnderlying148, Tryd.sizeOf148, Tryd.isAgg148, Tryd.zeroValue148, Tryd.underlying150, Tryd.runUnderlying150, Tryd.sizeOf150, Tryd.isAgg150, Tryd.zeroValue150, Tryd.underlying152, Tryd.runUnderlying152, Tryd.sizeOf152, Tryd.isAgg152, Tryd.zeroValue152, Tryd.underlying101, Tryd.runUnderlying101, Tryd.sizeOf101, Tryd.isAgg101, Tryd.zeroValue101, Tryd.underlying21, Tryd.runUnderlying21, Tryd.sizeOf21, Tryd.isAgg21, Tryd.zeroValue21, (by kernel_rfl)⟩
end Go.Proofs.YteaaaojafipllaaDoor
