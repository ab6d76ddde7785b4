/-
  A word of a slot written, by the document.
-/
import Derived.Test.YtepgmdgcappfpaaJoinB15
import Derived.Test.YtepgmdgcappfpaaRaw
namespace Go.Proofs.Ytepgmdgcappfpaa
open Go.RowKit

/-- A slot with one word written. -/
def sput (s : Sl) (o : Int) (x : UInt64) : Sl :=
  if o = 0 then { s with m := x } else if o = 1 then { s with q := x } else if o = 2 then { s with z := x } else if o = 3 then { s with r := { s.r with a := x } } else if o = 4 then { s with r := { s.r with b := x } } else if o = 5 then { s with r := { s.r with c := x } } else if o = 6 then { s with r := { s.r with d := x } } else s
set_option maxRecDepth 20000 in
set_option maxHeartbeats 2000000 in
theorem put_spec (s : Sl) (o : Int) (x : UInt64) (w : World) :
    Calls Try.prog 61 #[.agg #[.int .u64 ((s).m.toNat : Int), .int .u64 ((s).q.toNat : Int), .int .u64 ((s).z.toNat : Int), .int .u64 ((s).r.a.toNat : Int), .int .u64 ((s).r.b.toNat : Int), .int .u64 ((s).r.c.toNat : Int), .int .u64 ((s).r.d.toNat : Int)], .int .i64 o, .int .u64 ((x).toNat : Int)] w fun e w' => e = .returned (.agg #[.int .u64 (((sput s o x)).m.toNat : Int), .int .u64 (((sput s o x)).q.toNat : Int), .int .u64 (((sput s o x)).z.toNat : Int), .int .u64 (((sput s o x)).r.a.toNat : Int), .int .u64 (((sput s o x)).r.b.toNat : Int), .int .u64 (((sput s o x)).r.c.toNat : Int), .int .u64 (((sput s o x)).r.d.toNat : Int)]) ∧ Below w.heap.size w w' := by
  by_cases h0 : o = 0
  · have e : sput s o x = { s with m := x } := by unfold sput; rw [if_pos h0]
    rw [e]
    subst h0
    go_enter Try.func61, Try.ntmps61
    go_wp2
    exact bodyPost_ret (v := .agg #[.int .u64 ((({ s with m := x } : Sl)).m.toNat : Int), .int .u64 ((({ s with m := x } : Sl)).q.toNat : Int), .int .u64 ((({ s with m := x } : Sl)).z.toNat : Int), .int .u64 ((({ s with m := x } : Sl)).r.a.toNat : Int), .int .u64 ((({ s with m := x } : Sl)).r.b.toNat : Int), .int .u64 ((({ s with m := x } : Sl)).r.c.toNat : Int), .int .u64 ((({ s with m := x } : Sl)).r.d.toNat : Int)]) (by simp [results, Try.results61, go_sem]) rfl ⟨rfl, (by repeat' (first | (with_reducible exact Below.refl _ _) | (with_reducible assumption) | (with_reducible refine below_drewN ?_ _) | (with_reducible refine Below.setCell ?_ ?_ _) | (with_reducible refine Below.alloc ?_ ?_ _) | (with_reducible refine Below.drew ?_) | go_size))⟩
  by_cases h1 : o = 1
  · have e : sput s o x = { s with q := x } := by unfold sput; rw [if_neg h0, if_pos h1]
    rw [e]
    subst h1
    go_enter Try.func61, Try.ntmps61
    go_wp2
    exact bodyPost_ret (v := .agg #[.int .u64 ((({ s with q := x } : Sl)).m.toNat : Int), .int .u64 ((({ s with q := x } : Sl)).q.toNat : Int), .int .u64 ((({ s with q := x } : Sl)).z.toNat : Int), .int .u64 ((({ s with q := x } : Sl)).r.a.toNat : Int), .int .u64 ((({ s with q := x } : Sl)).r.b.toNat : Int), .int .u64 ((({ s with q := x } : Sl)).r.c.toNat : Int), .int .u64 ((({ s with q := x } : Sl)).r.d.toNat : Int)]) (by simp [results, Try.results61, go_sem]) rfl ⟨rfl, (by repeat' (first | (with_reducible exact Below.refl _ _) | (with_reducible assumption) | (with_reducible refine below_drewN ?_ _) | (with_reducible refine Below.setCell ?_ ?_ _) | (with_reducible refine Below.alloc ?_ ?_ _) | (with_reducible refine Below.drew ?_) | go_size))⟩
  by_cases h2 : o = 2
  · have e : sput s o x = { s with z := x } := by unfold sput; rw [if_neg h0, if_neg h1, if_pos h2]
    rw [e]
    subst h2
    go_enter Try.func61, Try.ntmps61
    go_wp2
    exact bodyPost_ret (v := .agg #[.int .u64 ((({ s with z := x } : Sl)).m.toNat : Int), .int .u64 ((({ s with z := x } : Sl)).q.toNat : Int), .int .u64 ((({ s with z := x } : Sl)).z.toNat : Int), .int .u64 ((({ s with z := x } : Sl)).r.a.toNat : Int), .int .u64 ((({ s with z := x } : Sl)).r.b.toNat : Int), .int .u64 ((({ s with z := x } : Sl)).r.c.toNat : Int), .int .u64 ((({ s with z := x } : Sl)).r.d.toNat : Int)]) (by simp [results, Try.results61, go_sem]) rfl ⟨rfl, (by repeat' (first | (with_reducible exact Below.refl _ _) | (with_reducible assumption) | (with_reducible refine below_drewN ?_ _) | (with_reducible refine Below.setCell ?_ ?_ _) | (with_reducible refine Below.alloc ?_ ?_ _) | (with_reducible refine Below.drew ?_) | go_size))⟩
  by_cases h3 : o = 3
  · have e : sput s o x = { s with r := { s.r with a := x } } := by unfold sput; rw [if_neg h0, if_neg h1, if_neg h2, if_pos h3]
    rw [e]
    subst h3
    go_enter Try.func61, Try.ntmps61
    go_wp2
    exact bodyPost_ret (v := .agg #[.int .u64 ((({ s with r := { s.r with a := x } } : Sl)).m.toNat : Int), .int .u64 ((({ s with r := { s.r with a := x } } : Sl)).q.toNat : Int), .int .u64 ((({ s with r := { s.r with a := x } } : Sl)).z.toNat : Int), .int .u64 ((({ s with r := { s.r with a := x } } : Sl)).r.a.toNat : Int), .int .u64 ((({ s with r := { s.r with a := x } } : Sl)).r.b.toNat : Int), .int .u64 ((({ s with r := { s.r with a := x } } : Sl)).r.c.toNat : Int), .int .u64 ((({ s with r := { s.r with a := x } } : Sl)).r.d.toNat : Int)]) (by simp [results, Try.results61, go_sem]) rfl ⟨rfl, (by repeat' (first | (with_reducible exact Below.refl _ _) | (with_reducible assumption) | (with_reducible refine below_drewN ?_ _) | (with_reducible refine Below.setCell ?_ ?_ _) | (with_reducible refine Below.alloc ?_ ?_ _) | (with_reducible refine Below.drew ?_) | go_size))⟩
  by_cases h4 : o = 4
  · have e : sput s o x = { s with r := { s.r with b := x } } := by unfold sput; rw [if_neg h0, if_neg h1, if_neg h2, if_neg h3, if_pos h4]
    rw [e]
    subst h4
    go_enter Try.func61, Try.ntmps61
    go_wp2
    exact bodyPost_ret (v := .agg #[.int .u64 ((({ s with r := { s.r with b := x } } : Sl)).m.toNat : Int), .int .u64 ((({ s with r := { s.r with b := x } } : Sl)).q.toNat : Int), .int .u64 ((({ s with r := { s.r with b := x } } : Sl)).z.toNat : Int), .int .u64 ((({ s with r := { s.r with b := x } } : Sl)).r.a.toNat : Int), .int .u64 ((({ s with r := { s.r with b := x } } : Sl)).r.b.toNat : Int), .int .u64 ((({ s with r := { s.r with b := x } } : Sl)).r.c.toNat : Int), .int .u64 ((({ s with r := { s.r with b := x } } : Sl)).r.d.toNat : Int)]) (by simp [results, Try.results61, go_sem]) rfl ⟨rfl, (by repeat' (first | (with_reducible exact Below.refl _ _) | (with_reducible assumption) | (with_reducible refine below_drewN ?_ _) | (with_reducible refine Below.setCell ?_ ?_ _) | (with_reducible refine Below.alloc ?_ ?_ _) | (with_reducible refine Below.drew ?_) | go_size))⟩
  by_cases h5 : o = 5
  · have e : sput s o x = { s with r := { s.r with c := x } } := by unfold sput; rw [if_neg h0, if_neg h1, if_neg h2, if_neg h3, if_neg h4, if_pos h5]
    rw [e]
    subst h5
    go_enter Try.func61, Try.ntmps61
    go_wp2
    exact bodyPost_ret (v := .agg #[.int .u64 ((({ s with r := { s.r with c := x } } : Sl)).m.toNat : Int), .int .u64 ((({ s with r := { s.r with c := x } } : Sl)).q.toNat : Int), .int .u64 ((({ s with r := { s.r with c := x } } : Sl)).z.toNat : Int), .int .u64 ((({ s with r := { s.r with c := x } } : Sl)).r.a.toNat : Int), .int .u64 ((({ s with r := { s.r with c := x } } : Sl)).r.b.toNat : Int), .int .u64 ((({ s with r := { s.r with c := x } } : Sl)).r.c.toNat : Int), .int .u64 ((({ s with r := { s.r with c := x } } : Sl)).r.d.toNat : Int)]) (by simp [results, Try.results61, go_sem]) rfl ⟨rfl, (by repeat' (first | (with_reducible exact Below.refl _ _) | (with_reducible assumption) | (with_reducible refine below_drewN ?_ _) | (with_reducible refine Below.setCell ?_ ?_ _) | (with_reducible refine Below.alloc ?_ ?_ _) | (with_reducible refine Below.drew ?_) | go_size))⟩
  by_cases h6 : o = 6
  · have e : sput s o x = { s with r := { s.r with d := x } } := by unfold sput; rw [if_neg h0, if_neg h1, if_neg h2, if_neg h3, if_neg h4, if_neg h5, if_pos h6]
    rw [e]
    subst h6
    go_enter Try.func61, Try.ntmps61
    go_wp2
    exact bodyPost_ret (v := .agg #[.int .u64 ((({ s with r := { s.r with d := x } } : Sl)).m.toNat : Int), .int .u64 ((({ s with r := { s.r with d := x } } : Sl)).q.toNat : Int), .int .u64 ((({ s with r := { s.r with d := x } } : Sl)).z.toNat : Int), .int .u64 ((({ s with r := { s.r with d := x } } : Sl)).r.a.toNat : Int), .int .u64 ((({ s with r := { s.r with d := x } } : Sl)).r.b.toNat : Int), .int .u64 ((({ s with r := { s.r with d := x } } : Sl)).r.c.toNat : Int), .int .u64 ((({ s with r := { s.r with d := x } } : Sl)).r.d.toNat : Int)]) (by simp [results, Try.results61, go_sem]) rfl ⟨rfl, (by repeat' (first | (with_reducible exact Below.refl _ _) | (with_reducible assumption) | (with_reducible refine below_drewN ?_ _) | (with_reducible refine Below.setCell ?_ ?_ _) | (with_reducible refine Below.alloc ?_ ?_ _) | (with_reducible refine Below.drew ?_) | go_size))⟩
  · have e : sput s o x = s := by unfold sput; rw [if_neg h0, if_neg h1, if_neg h2, if_neg h3, if_neg h4, if_neg h5, if_neg h6]
    rw [e]
    have g0 : (o == 0) = false := beq_eq_false_iff_ne.2 h0
    have g1 : (o == 1) = false := beq_eq_false_iff_ne.2 h1
    have g2 : (o == 2) = false := beq_eq_false_iff_ne.2 h2
    have g3 : (o == 3) = false := beq_eq_false_iff_ne.2 h3
    have g4 : (o == 4) = false := beq_eq_false_iff_ne.2 h4
    have g5 : (o == 5) = false := beq_eq_false_iff_ne.2 h5
    have g6 : (o == 6) = false := beq_eq_false_iff_ne.2 h6
    clear h0 h1 h2 h3 h4 h5 h6 e
    go_enter Try.func61, Try.ntmps61
    go_wp2
    exact bodyPost_ret (v := .agg #[.int .u64 ((s).m.toNat : Int), .int .u64 ((s).q.toNat : Int), .int .u64 ((s).z.toNat : Int), .int .u64 ((s).r.a.toNat : Int), .int .u64 ((s).r.b.toNat : Int), .int .u64 ((s).r.c.toNat : Int), .int .u64 ((s).r.d.toNat : Int)]) (by simp [results, Try.results61, go_sem]) rfl ⟨rfl, (by repeat' (first | (with_reducible exact Below.refl _ _) | (with_reducible assumption) | (with_reducible refine below_drewN ?_ _) | (with_reducible refine Below.setCell ?_ ?_ _) | (with_reducible refine Below.alloc ?_ ?_ _) | (with_reducible refine Below.drew ?_) | go_size))⟩
end Go.Proofs.Ytepgmdgcappfpaa
