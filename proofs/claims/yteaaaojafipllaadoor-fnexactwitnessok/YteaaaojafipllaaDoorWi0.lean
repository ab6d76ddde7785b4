/-
  Wishes: a row of seven cells each, measured, copied.
-/
import Derived.Test.YteaaaojafipllaaDoorSc
import Derived.Test.YteaaaojafipllaaDoorJoinB5
import Derived.Test.YteaaaojafipllaaDoorJoinB17
import Derived.Test.YteaaaojafipllaaDoorTxt
namespace Go.Proofs.YteaaaojafipllaaDoor
open Go.RowKit

structure Wh where
  w : Int
  e : Int
  s : Int
  q : Qd
/-- The wish x lies at p. -/
def WAt (W : World) (p : Addr) (x : Wh) : Prop := W.cell? p = some (.int .i64 x.w) ∧ W.cell? ⟨p.block, p.off + 1, none⟩ = some (.int .i64 x.e) ∧ W.cell? ⟨p.block, p.off + 2, none⟩ = some (.int .i64 x.s) ∧ W.cell? ⟨p.block, p.off + 3, none⟩ = some (.int .u64 ((x.q.a).toNat : Int)) ∧ W.cell? ⟨p.block, p.off + 4, none⟩ = some (.int .u64 ((x.q.b).toNat : Int)) ∧ W.cell? ⟨p.block, p.off + 5, none⟩ = some (.int .u64 ((x.q.c).toNat : Int)) ∧ W.cell? ⟨p.block, p.off + 6, none⟩ = some (.int .u64 ((x.q.d).toNat : Int))
theorem WAt.below {W W' : World} {p : Addr} {x : Wh} {B : Nat} (h : WAt W p x) (hb : Below B W W') (hp : p.block < B) : WAt W' p x :=
  ⟨(hb.cell hp).trans h.1, (hb.cell (p := ⟨p.block, p.off + 1, none⟩) hp).trans h.2.1, (hb.cell (p := ⟨p.block, p.off + 2, none⟩) hp).trans h.2.2.1, (hb.cell (p := ⟨p.block, p.off + 3, none⟩) hp).trans h.2.2.2.1, (hb.cell (p := ⟨p.block, p.off + 4, none⟩) hp).trans h.2.2.2.2.1, (hb.cell (p := ⟨p.block, p.off + 5, none⟩) hp).trans h.2.2.2.2.2.1, (hb.cell (p := ⟨p.block, p.off + 6, none⟩) hp).trans h.2.2.2.2.2.2⟩
/-- The slice v holds the wishes L. -/
def Whs (W : World) (v : Value) (L : List Wh) : Prop :=
  (v = .slice none 0 0 ∧ L = []) ∨ ∃ (a : Addr) (cap : Nat), v = .slice (some a) L.length cap ∧ L.length ≤ cap ∧ cap ≤ maxLen ∧ (0 < L.length → a.block < W.heap.size) ∧ ∀ (i : Nat) (h : i < L.length), WAt W (a.add (i * 7)) L[i]
theorem Whs.call {W W' : World} {v : Value} {L : List Wh} (h : Whs W v L) (hb : Below W.heap.size W W') : Whs W' v L := by
  rcases h with h | ⟨a, cap, hv, hl, hm, hbl, hc⟩
  · exact .inl h
  · exact .inr ⟨a, cap, hv, hl, hm, fun h0 => Nat.lt_of_lt_of_le (hbl h0) hb.size, fun i hi => (hc i hi).below hb (by rw [add_block]; exact hbl (by omega))⟩
theorem Whs.len {W : World} {v : Value} {L : List Wh} (h : Whs W v L) : ∃ a cap, v = .slice a L.length cap ∧ L.length ≤ 9223372036854775807 := by
  rcases h with ⟨rfl, rfl⟩ | ⟨a, cap, rfl, hl, hm, _⟩
  · exact ⟨none, 0, rfl, by simp⟩
  · exact ⟨some a, cap, rfl, by unfold maxLen at hm; omega⟩
theorem Whs.cells {W : World} {oa : Option Addr} {n cap : Nat} {L : List Wh} (h : Whs W (.slice oa n cap) L) : ∀ k, k < L.length → ∃ a, oa = some a ∧ a.block < W.heap.size ∧ ∀ (i : Nat) (h : i < L.length), WAt W (a.add (i * 7)) L[i] := by
  intro k hk
  rcases h with ⟨_, rfl⟩ | ⟨a, cap', hv, _, _, hb, hc⟩
  · simp at hk
  · injection hv with e1 _ _
    exact ⟨a, e1, hb (by omega), hc⟩
theorem szw_is (W : World) (v : Value) (L : List Wh) (h : Whs W v L) (m : Nat) (hm : m ≤ 1048576) :
    Calls Tryd.prog 9 #[v, .int .i64 (m : Int)] W fun e w' => ∃ r : Int, e = .returned (.int .i64 r) ∧ w' = W ∧ (0 ≤ r → L.length ≤ m) := by
  obtain ⟨a, cap, rfl, hl⟩ := h.len
  clear h
  have hw1 : IntKind.i64.wrap ((m : Int) - (L.length : Int)) = (m : Int) - (L.length : Int) := IntWalk.i64_in _ (by omega)
  by_cases hb : m < L.length
  · have hbI : (m : Int) - (L.length : Int) < 0 := by omega
    go_enter Tryd.func9, Tryd.ntmps9
    go_wp2
    go_ret
    exact ⟨-1, rfl, rfl, fun h => by omega⟩
  · have hbI : ¬ (m : Int) - (L.length : Int) < 0 := by omega
    go_enter Tryd.func9, Tryd.ntmps9
    go_wp2
    go_ret
    exact ⟨_, rfl, rfl, fun _ => by omega⟩
/-- A list with some of its values replaced. -/
def plc : List Value → Nat → List Value → List Value
  | vs, _, [] => vs
  | vs, i, u :: us => plc (vs.set i u) (i + 1) us
theorem Lies.plc {b k : Nat} : ∀ (us : List Value) (i : Nat) (vs : List Value) (w : World), Lies b k vs w → i + us.length ≤ vs.length → Lies b k (plc vs i us) (w.setCells b (k + i) us)
  | [], _, _, _, h, _ => h
  | u :: us, i, vs, w, h, hi => by
    rw [List.length_cons] at hi
    rw [World.setCells]
    exact Lies.plc us (i + 1) _ _ (h.set i (by omega) u) (by rw [List.length_set]; omega)
theorem Room.scm {b k n : Nat} (g : Nat) : ∀ (vs : List Value) (i : Nat) (w : World), Room b k n w → Room b k n (w.setCells g i vs)
  | [], _, _, h => h
  | v :: r, i, w, h => by rw [World.setCells]; exact Room.scm g r _ _ (h.set g i v)
/-- What is written beside leaves it. -/
theorem Lies.off {b k : Nat} {vs : List Value} : ∀ (us : List Value) (m : Nat) (w : World), Lies b k vs w → (k + vs.length ≤ m ∨ m + us.length ≤ k) → Lies b k vs (w.setCells b m us)
  | [], _, _, h, _ => h
  | u :: us, m, w, h, hd => by
    rw [World.setCells]
    rw [List.length_cons] at hd
    refine Lies.off us (m + 1) _ (fun j v hj => ?_) (by omega)
    have hjl := (List.getElem?_eq_some_iff.1 hj).1
    rw [set_off (by omega)]
    exact h j v hj
/-- What stands while a struct of n cells is copied: the one that is given, the one that is made, the box of the answer. -/
def TN (n : Nat) (W : World) (av cv : List Value) (w : World) : Prop :=
  Lies W.heap.size 0 av w ∧ Lies (W.heap.size + 2) 0 cv w ∧ Room (W.heap.size + 2) 0 n w ∧ Room (W.heap.size + 1) 0 n w ∧ W.heap.size + 2 < w.heap.size ∧ Below W.heap.size W w
theorem TN.puts {n : Nat} {W : World} {av cv : List Value} {w : World} (h : TN n W av cv w) (i : Nat) (us : List Value) (hi : i + us.length ≤ cv.length) : TN n W av (plc cv i us) (w.setCells (W.heap.size + 2) i us) := by
  obtain ⟨h1, h2, h3, h4, h5, h6⟩ := h
  have g := sc_grown w (W.heap.size + 2) i us
  have h2' := h2.plc us i _ _ hi
  rw [Nat.zero_add] at h2'
  exact ⟨h1.grown g (by omega) (fun e => by injection e with e; omega), h2', h3.scm _ _ i _, h4.grown g (by omega) (fun e => by injection e with e; omega), by rw [sc_size]; exact h5, Below.sc _ (by omega) us i _ h6⟩
theorem TN.put {n : Nat} {W : World} {av cv : List Value} {w : World} (h : TN n W av cv w) (i : Nat) (u : Value) (hi : i < cv.length) : TN n W av (cv.set i u) (w.setCell ⟨W.heap.size + 2, i, none⟩ u) := h.puts i [u] hi
theorem TN.call {n : Nat} {W : World} {av cv : List Value} {w w' : World} (h : TN n W av cv w) (hb : Below w.heap.size w w') : TN n W av cv w' := by
  obtain ⟨h1, h2, h3, h4, h5, h6⟩ := h
  exact ⟨h1.call hb (by omega), h2.call hb h5, h3.call hb h5, h4.call hb (by omega), Nat.lt_of_lt_of_le h5 hb.size, below_after h6 hb h6.size⟩
theorem TN.new (n : Nat) (W : World) (av cv : List Value) (t t' : TypeId) (hc : cv.length = n) : TN n W av cv (((W.alloc (.cells av.toArray t)).alloc (.cells cv.toArray t')).alloc (.cells cv.toArray t')) := by
  have z1 : Below W.heap.size W (W.alloc (.cells av.toArray t)) := (Below.refl _ _).alloc (Nat.le_refl _) _
  have z2 : Below W.heap.size W ((W.alloc (.cells av.toArray t)).alloc (.cells cv.toArray t')) := z1.alloc (by simp) _
  have z3 : Below W.heap.size W (((W.alloc (.cells av.toArray t)).alloc (.cells cv.toArray t')).alloc (.cells cv.toArray t')) := z2.alloc (by simp; omega) _
  have s1 : (W.alloc (.cells av.toArray t)).heap.size = W.heap.size + 1 := by simp
  have s2 : ((W.alloc (.cells av.toArray t)).alloc (.cells cv.toArray t')).heap.size = W.heap.size + 2 := by simp
  have s3 : (((W.alloc (.cells av.toArray t)).alloc (.cells cv.toArray t')).alloc (.cells cv.toArray t')).heap.size = W.heap.size + 3 := by simp
  have y2 := (Below.refl (W.alloc (.cells av.toArray t)).heap.size (W.alloc (.cells av.toArray t))).alloc (Nat.le_refl _) (.cells cv.toArray t')
  have y3 := (Below.refl ((W.alloc (.cells av.toArray t)).alloc (.cells cv.toArray t')).heap.size ((W.alloc (.cells av.toArray t)).alloc (.cells cv.toArray t'))).alloc (Nat.le_refl _) (.cells cv.toArray t')
  have r1 := Room.new (W.alloc (.cells av.toArray t)) cv.toArray t' n (by simpa using hc)
  have r2 := Room.new ((W.alloc (.cells av.toArray t)).alloc (.cells cv.toArray t')) cv.toArray t' n (by simpa using hc)
  have l2 := Lies.new ((W.alloc (.cells av.toArray t)).alloc (.cells cv.toArray t')) cv t'
  have r1' := r1.call y3 (by rw [s1, s2]; omega)
  rw [s1] at r1'
  rw [s2] at r2 l2
  exact ⟨((Lies.new W av t).call y2 (by rw [s1]; omega)).call y3 (by rw [s2]; omega), l2, r2, r1', by rw [s3]; omega, z3⟩
set_option maxRecDepth 20000 in
theorem agg_wsh : AggTy 50 7 := ⟨⟨_, Tryd.underlying50, rfl⟩, by kernel_rfl⟩
set_option maxRecDepth 20000 in
theorem agg_ip5 : AggTy 47 5 := ⟨⟨_, Tryd.underlying47, rfl⟩, by kernel_rfl⟩
set_option maxRecDepth 20000 in
theorem agg_lp5 : AggTy 65 5 := ⟨⟨_, Tryd.underlying65, rfl⟩, by kernel_rfl⟩
set_option maxRecDepth 20000 in
set_option maxHeartbeats 2000000 in
theorem towh_is (x : Wh) (W : World) : Calls Tryd.prog 21 #[.agg #[.int .i64 x.w, .int .i64 x.e, .int .i64 x.s, .int .u64 ((x.q.a).toNat : Int), .int .u64 ((x.q.b).toNat : Int), .int .u64 ((x.q.c).toNat : Int), .int .u64 ((x.q.d).toNat : Int)]] W fun e w' => e = .returned (.agg #[.int .i64 x.w, .int .i64 x.e, .int .i64 x.s, .int .u64 ((x.q.a).toNat : Int), .int .u64 ((x.q.b).toNat : Int), .int .u64 ((x.q.c).toNat : Int), .int .u64 ((x.q.d).toNat : Int)]) ∧ Below W.heap.size W w' := by
  have cp := fun V : World => topt_is x.s x.q V
  have T0 : TN 7 W [.int .i64 x.w, .int .i64 x.e, .int .i64 x.s, .int .u64 ((x.q.a).toNat : Int), .int .u64 ((x.q.b).toNat : Int), .int .u64 ((x.q.c).toNat : Int), .int .u64 ((x.q.d).toNat : Int)] [.int .i64 0, .int .i64 0, .int .i64 0, .int .u64 0, .int .u64 0, .int .u64 0, .int .u64 0] (((W.alloc (.cells #[.int .i64 x.w, .int .i64 x.e, .int .i64 x.s, .int .u64 ((x.q.a).toNat : Int), .int .u64 ((x.q.b).toNat : Int), .int .u64 ((x.q.c).toNat : Int), .int .u64 ((x.q.d).toNat : Int)] 67)).alloc (.cells #[.int .i64 0, .int .i64 0, .int .i64 0, .int .u64 0, .int .u64 0, .int .u64 0, .int .u64 0] 50)).alloc (.cells #[.int .i64 0, .int .i64 0, .int .i64 0, .int .u64 0, .int .u64 0, .int .u64 0, .int .u64 0] 50)) := TN.new 7 W [.int .i64 x.w, .int .i64 x.e, .int .i64 x.s, .int .u64 ((x.q.a).toNat : Int), .int .u64 ((x.q.b).toNat : Int), .int .u64 ((x.q.c).toNat : Int), .int .u64 ((x.q.d).toNat : Int)] [.int .i64 0, .int .i64 0, .int .i64 0, .int .u64 0, .int .u64 0, .int .u64 0, .int .u64 0] 67 50 rfl
  go_enter Tryd.func21, Tryd.ntmps21
  go_upto_region 2 with fail
  generalize ((W.alloc (.cells #[.int .i64 x.w, .int .i64 x.e, .int .i64 x.s, .int .u64 ((x.q.a).toNat : Int), .int .u64 ((x.q.b).toNat : Int), .int .u64 ((x.q.c).toNat : Int), .int .u64 ((x.q.d).toNat : Int)] 67)).alloc (.cells #[.int .i64 0, .int .i64 0, .int .i64 0, .int .u64 0, .int .u64 0, .int .u64 0, .int .u64 0] 50)).alloc (.cells #[.int .i64 0, .int .i64 0, .int .i64 0, .int .u64 0, .int .u64 0, .int .u64 0, .int .u64 0] 50) = w0 at T0 ⊢
  have a0 := T0.1 0 _ rfl
  have b0 := T0.2.1 0 _ rfl
  have f0 := T0.2.2.1.2 0 (by omega)
  rw [Nat.zero_add] at a0 b0 f0
  go_upto_region 3 with fail
  have T1 : TN 7 W [.int .i64 x.w, .int .i64 x.e, .int .i64 x.s, .int .u64 ((x.q.a).toNat : Int), .int .u64 ((x.q.b).toNat : Int), .int .u64 ((x.q.c).toNat : Int), .int .u64 ((x.q.d).toNat : Int)] [.int .i64 x.w, .int .i64 0, .int .i64 0, .int .u64 0, .int .u64 0, .int .u64 0, .int .u64 0] _ := T0.put 0 (.int .i64 x.w) (by simp)
  generalize w0.setCell ⟨W.heap.size + 2, 0, none⟩ (.int .i64 x.w) = w1 at T1 ⊢
  clear a0 b0 f0 T0 w0
  have a1 := T1.1 1 _ rfl
  have b1 := T1.2.1 1 _ rfl
  have f1 := T1.2.2.1.2 1 (by omega)
  rw [Nat.zero_add] at a1 b1 f1
  go_upto_region 4 with fail
  have T2 : TN 7 W [.int .i64 x.w, .int .i64 x.e, .int .i64 x.s, .int .u64 ((x.q.a).toNat : Int), .int .u64 ((x.q.b).toNat : Int), .int .u64 ((x.q.c).toNat : Int), .int .u64 ((x.q.d).toNat : Int)] [.int .i64 x.w, .int .i64 x.e, .int .i64 0, .int .u64 0, .int .u64 0, .int .u64 0, .int .u64 0] _ := T1.put 1 (.int .i64 x.e) (by simp)
  generalize w1.setCell ⟨W.heap.size + 2, 1, none⟩ (.int .i64 x.e) = w2 at T2 ⊢
  clear a1 b1 f1 T1 w1
  have p2 : Lies W.heap.size 2 [.int .i64 x.s, .int .u64 ((x.q.a).toNat : Int), .int .u64 ((x.q.b).toNat : Int), .int .u64 ((x.q.c).toNat : Int), .int .u64 ((x.q.d).toNat : Int)] w2 := T2.1.part 2 5
  go_upto_region 5 with (first
    | (with_reducible refine wpl_load agg_lp5 W.heap.size 2 [.int .i64 x.s, .int .u64 ((x.q.a).toNat : Int), .int .u64 ((x.q.b).toNat : Int), .int .u64 ((x.q.c).toNat : Int), .int .u64 ((x.q.d).toNat : Int)] (by kernel_rfl) (by kernel_rfl) p2 ?_)
    | (go_at_call 35; refine (cp _).mono ?_; rintro e w3 ⟨rfl, b3⟩; have T3 := T2.call b3; have r3 : Room (W.heap.size + 2) 2 5 w3 := T3.2.2.1.part 2 5 (by omega); clear p2 T2 b3)
    | (with_reducible refine wpl_store agg_ip5 (W.heap.size + 2) 2 [.int .i64 x.s, .int .u64 ((x.q.a).toNat : Int), .int .u64 ((x.q.b).toNat : Int), .int .u64 ((x.q.c).toNat : Int), .int .u64 ((x.q.d).toNat : Int)] (by kernel_rfl) (by kernel_rfl) (by kernel_rfl) (by kernel_rfl) r3 ?_))
  have T4 : TN 7 W [.int .i64 x.w, .int .i64 x.e, .int .i64 x.s, .int .u64 ((x.q.a).toNat : Int), .int .u64 ((x.q.b).toNat : Int), .int .u64 ((x.q.c).toNat : Int), .int .u64 ((x.q.d).toNat : Int)] [.int .i64 x.w, .int .i64 x.e, .int .i64 x.s, .int .u64 ((x.q.a).toNat : Int), .int .u64 ((x.q.b).toNat : Int), .int .u64 ((x.q.c).toNat : Int), .int .u64 ((x.q.d).toNat : Int)] _ := T3.puts 2 [.int .i64 x.s, .int .u64 ((x.q.a).toNat : Int), .int .u64 ((x.q.b).toNat : Int), .int .u64 ((x.q.c).toNat : Int), .int .u64 ((x.q.d).toNat : Int)] (by simp)
  generalize w3.setCells (W.heap.size + 2) 2 [.int .i64 x.s, .int .u64 ((x.q.a).toNat : Int), .int .u64 ((x.q.b).toNat : Int), .int .u64 ((x.q.c).toNat : Int), .int .u64 ((x.q.d).toNat : Int)] = w4 at T4 ⊢
  clear T3 r3 w3
  obtain ⟨-, TC0, -, TO, -, z0⟩ := T4
  go_wp2_with (first
    | (with_reducible refine wpl_load agg_wsh (W.heap.size + 2) 0 [.int .i64 x.w, .int .i64 x.e, .int .i64 x.s, .int .u64 ((x.q.a).toNat : Int), .int .u64 ((x.q.b).toNat : Int), .int .u64 ((x.q.c).toNat : Int), .int .u64 ((x.q.d).toNat : Int)] (by kernel_rfl) (by kernel_rfl) TC0 ?_)
    | (with_reducible refine wpl_store agg_wsh (W.heap.size + 1) 0 [.int .i64 x.w, .int .i64 x.e, .int .i64 x.s, .int .u64 ((x.q.a).toNat : Int), .int .u64 ((x.q.b).toNat : Int), .int .u64 ((x.q.c).toNat : Int), .int .u64 ((x.q.d).toNat : Int)] (by kernel_rfl) (by kernel_rfl) (by kernel_rfl) (by kernel_rfl) TO ?_; have k1 := Lies.sc (vs := [.int .i64 x.w, .int .i64 x.e, .int .i64 x.s, .int .u64 ((x.q.a).toNat : Int), .int .u64 ((x.q.b).toNat : Int), .int .u64 ((x.q.c).toNat : Int), .int .u64 ((x.q.d).toNat : Int)]) rfl TO; have k2 := Below.sc (W.heap.size + 1) (by omega) [.int .i64 x.w, .int .i64 x.e, .int .i64 x.s, .int .u64 ((x.q.a).toNat : Int), .int .u64 ((x.q.b).toNat : Int), .int .u64 ((x.q.c).toNat : Int), .int .u64 ((x.q.d).toNat : Int)] 0 _ z0; generalize w4.setCells (W.heap.size + 1) 0 [.int .i64 x.w, .int .i64 x.e, .int .i64 x.s, .int .u64 ((x.q.a).toNat : Int), .int .u64 ((x.q.b).toNat : Int), .int .u64 ((x.q.c).toNat : Int), .int .u64 ((x.q.d).toNat : Int)] = wz at k1 k2 ⊢))
  exact bodyPost_ret (v := .agg #[.int .i64 x.w, .int .i64 x.e, .int .i64 x.s, .int .u64 ((x.q.a).toNat : Int), .int .u64 ((x.q.b).toNat : Int), .int .u64 ((x.q.c).toNat : Int), .int .u64 ((x.q.d).toNat : Int)]) (res_cells agg_wsh Tryd.results21 _ _ (W.heap.size + 1) 0 [.int .i64 x.w, .int .i64 x.e, .int .i64 x.s, .int .u64 ((x.q.a).toNat : Int), .int .u64 ((x.q.b).toNat : Int), .int .u64 ((x.q.c).toNat : Int), .int .u64 ((x.q.d).toNat : Int)] (by kernel_rfl) (by kernel_rfl) k1) rfl ⟨rfl, k2⟩
/-- The block g holds the wishes L, from its beginning on. -/
def WO (g : Nat) (L : List Wh) (W : World) : Prop := g < W.heap.size ∧ ∀ (i : Nat) (h : i < L.length), Lies g (i * 7) [.int .i64 L[i].w, .int .i64 L[i].e, .int .i64 L[i].s, .int .u64 ((L[i].q.a).toNat : Int), .int .u64 ((L[i].q.b).toNat : Int), .int .u64 ((L[i].q.c).toNat : Int), .int .u64 ((L[i].q.d).toNat : Int)] W
theorem WO.call {g : Nat} {L : List Wh} {W W' : World} (h : WO g L W) (hb : Below W.heap.size W W') : WO g L W' :=
  ⟨Nat.lt_of_lt_of_le h.1 hb.size, fun i hi => (h.2 i hi).call hb h.1⟩
theorem WO.grown {g : Nat} {L : List Wh} {W W' : World} {row : Option Nat} (h : WO g L W) (hg : W.grownBy W' row) (hr : row ≠ some g) : WO g L W' :=
  ⟨Nat.lt_of_lt_of_le h.1 hg.size, fun i hi => (h.2 i hi).grown hg h.1 hr⟩
/-- The block g has room for the wishes L, the first k of which lie there. -/
def WR (g : Nat) (L : List Wh) (k : Nat) (W : World) : Prop := g < W.heap.size ∧ Room g 0 (L.length * 7) W ∧ ∀ (i : Nat) (h : i < L.length), i < k → Lies g (i * 7) [.int .i64 L[i].w, .int .i64 L[i].e, .int .i64 L[i].s, .int .u64 ((L[i].q.a).toNat : Int), .int .u64 ((L[i].q.b).toNat : Int), .int .u64 ((L[i].q.c).toNat : Int), .int .u64 ((L[i].q.d).toNat : Int)] W
theorem WR.call {g k : Nat} {L : List Wh} {W W' : World} (h : WR g L k W) (hb : Below W.heap.size W W') : WR g L k W' :=
  ⟨Nat.lt_of_lt_of_le h.1 hb.size, h.2.1.call hb h.1, fun i hi hk => (h.2.2 i hi hk).call hb h.1⟩
theorem WR.room {g k : Nat} {L : List Wh} {W : World} (h : WR g L k W) (i : Nat) (hi : i < L.length) : Room g (i * 7) 7 W := by
  have := h.2.1.part (i * 7) 7 (by omega)
  rwa [Nat.zero_add] at this
theorem WR.step {g k : Nat} {L : List Wh} {W : World} (h : WR g L k W) (hk : k < L.length) : WR g L (k + 1) (W.setCells g (k * 7) [.int .i64 L[k].w, .int .i64 L[k].e, .int .i64 L[k].s, .int .u64 ((L[k].q.a).toNat : Int), .int .u64 ((L[k].q.b).toNat : Int), .int .u64 ((L[k].q.c).toNat : Int), .int .u64 ((L[k].q.d).toNat : Int)]) := by
  refine ⟨by rw [sc_size]; exact h.1, h.2.1.scm g _ _ _, fun i hi hik => ?_⟩
  by_cases e : i = k
  · subst e
    exact Lies.sc rfl (h.room i hi)
  · exact Lies.off _ _ _ (h.2.2 i hi (by omega)) (by simp; omega)
theorem WR.done {g : Nat} {L : List Wh} {W : World} (h : WR g L L.length W) : WO g L W := ⟨h.1, fun i hi => h.2.2 i hi hi⟩
theorem infoWh : (Tryd.prog.info? 50).map (fun i => (i.zero, i.size, i.bytes)) = some (some (.agg #[.int .i64 0, .int .i64 0, .int .i64 0, .int .u64 0, .int .u64 0, .int .u64 0, .int .u64 0]), 7, 56) := by kernel_rfl
set_option maxRecDepth 20000 in
set_option maxHeartbeats 2000000 in
theorem towhs_is (W : World) (v : Value) (L : List Wh) (h : Whs W v L) (hlen : L.length ≤ 1048576) :
    Calls Tryd.prog 13 #[v] W fun e w' => e = .returned (.slice (some ⟨W.heap.size, 0, none⟩) L.length L.length) ∧ Below W.heap.size W w' ∧ WO W.heap.size L w' := by
  obtain ⟨i0, hi, hz0, hz1, hz2⟩ := info_parts infoWh
  have hmk : (Instr.makeSlice 39 (.int .i64 (L.length : Int)) (.int .i64 (L.length : Int))).run Tryd.prog W = .ok (.slice (some ⟨W.heap.size, 0, none⟩) L.length L.length) (W.alloc (.cells (madeCells (Value.agg #[.int .i64 0, .int .i64 0, .int .i64 0, .int .u64 0, .int .u64 0, .int .u64 0, .int .u64 0]).cells (L.length * i0.size)) 50)) := by
    have h1 := run_make (P := Tryd.prog) W 39 50 i0 (.agg #[.int .i64 0, .int .i64 0, .int .i64 0, .int .u64 0, .int .u64 0, .int .u64 0, .int .u64 0]) Tryd.underlying39 hi hz0 .i64 .i64 (L.length : Int) (L.length : Int) (by omega) (Int.le_refl _) (by rw [hz2]; omega) (by omega)
    simpa using h1
  obtain ⟨A, hA⟩ : ∃ A, A = madeCells (Value.agg #[.int .i64 0, .int .i64 0, .int .i64 0, .int .u64 0, .int .u64 0, .int .u64 0, .int .u64 0]).cells (L.length * i0.size) := ⟨_, rfl⟩
  have hAs : A.size = L.length * 7 := by rw [hA, size_madeCells, hz1]
  rw [← hA] at hmk
  have HT : Hid (Below W.heap.size W (W.alloc (.cells A 50)) ∧ WR W.heap.size L 0 (W.alloc (.cells A 50))) :=
    ⟨(Below.refl _ _).alloc (Nat.le_refl _) _, by simp, Room.new W A 50 _ hAs, fun i _ h => by omega⟩
  clear hA hAs hi hz0 hz1 hz2
  have hlI : (L.length : Int) ≤ 1048576 := by omega
  obtain ⟨oa, cap, rfl, _⟩ := h.len
  have hcell := h.cells
  clear h
  go_enter Tryd.func13, Tryd.ntmps13
  go_wp2_with fail
  go_loopw [4] (fun i wr => ∃ k : Nat, k ≤ L.length ∧ i = .int .i64 (k : Int) ∧ Hid (Below W.heap.size W wr ∧ WR W.heap.size L k wr)) (fun i _ => L.length - (intOf i).toNat)
  case atStart => exact ⟨0, by omega, rfl, HT⟩
  case round =>
    obtain ⟨k, hk, rfl, HR⟩ := hrel
    by_cases hlt : k < L.length
    · obtain ⟨a, rfl, hbl, hc⟩ := hcell k hlt
      have hd : WAt wr (a.add (k * 7)) L[k] := (hc k hlt).below HR.out.1 (by rw [add_block]; exact hbl)
      obtain ⟨hB, hR⟩ := HR.out
      have hst := fun (w1 : World) (hb1 : Below wr.heap.size wr w1) => (hR.call hb1).step hlt
      have hrm := fun (w1 : World) (hb1 : Below wr.heap.size wr w1) => (hR.call hb1).room k hlt
      obtain ⟨x, hx⟩ : ∃ x, x = L[k] := ⟨_, rfl⟩
      rw [← hx] at hd hst
      obtain ⟨d0, d1, d2, d3, d4, d5, d6⟩ := hd
      have ct := fun V : World => towh_is x V
      have hk0 : (0 : Int) ≤ (k : Int) := by omega
      have hkI : (k : Int) < (L.length : Int) := by omega
      clear hx hc hcell HT hmk HR hR
      go_wp2_with (first
        | (go_at_call 21; refine (ct _).mono ?_; rintro e w1 ⟨rfl, hb1⟩; have hr1 := hrm w1 hb1; have hs1 := hst w1 hb1; have z1 := below_after hB hb1 hB.size; clear hst hrm hb1)
        | (with_reducible refine wpl_store agg_wsh W.heap.size (k * 7) [.int .i64 x.w, .int .i64 x.e, .int .i64 x.s, .int .u64 ((x.q.a).toNat : Int), .int .u64 ((x.q.b).toNat : Int), .int .u64 ((x.q.c).toNat : Int), .int .u64 ((x.q.d).toNat : Int)] (by kernel_rfl) (by kernel_rfl) (by kernel_rfl) (by kernel_rfl) hr1 ?_; have z2 := Below.sc W.heap.size (Nat.le_refl _) [.int .i64 x.w, .int .i64 x.e, .int .i64 x.s, .int .u64 ((x.q.a).toNat : Int), .int .u64 ((x.q.b).toNat : Int), .int .u64 ((x.q.c).toNat : Int), .int .u64 ((x.q.d).toNat : Int)] (k * 7) _ z1; generalize w1.setCells W.heap.size (k * 7) [.int .i64 x.w, .int .i64 x.e, .int .i64 x.s, .int .u64 ((x.q.a).toNat : Int), .int .u64 ((x.q.b).toNat : Int), .int .u64 ((x.q.c).toNat : Int), .int .u64 ((x.q.d).toNat : Int)] = w2 at hs1 z2 ⊢; clear hr1 z1))
      exact ⟨⟨k + 1, by omega, by go_num, z2, hs1⟩, by simp [intOf]; omega⟩
    · have hkk : k = L.length := by omega
      subst hkk
      clear hcell HT hmk
      go_wp2
      go_ret
      exact ⟨rfl, HR.out.1, HR.out.2.done⟩
end Go.Proofs.YteaaaojafipllaaDoor
