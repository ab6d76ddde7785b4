/-
  The law of RecordRaws, walked.
-/
import Derived.Test.YtjmfegfkigaabaaRRaws2
namespace Go.Proofs.Ytjmfegfkigaabaa
open Go.RowKit Go.MuLone

set_option maxRecDepth 20000 in
theorem agg_dgl : AggTy 24 4 := ⟨⟨_, Try.underlying24, rfl⟩, by kernel_rfl⟩
/-- The boxes of the law's own arguments. -/
def LB (w : World) (s t : Sl) (root : Qd) (wx : World) : Prop := Lies w.heap.size 0 [.int .u64 ((s).m.toNat : Int), .int .u64 ((s).q.toNat : Int), .int .u64 ((s).z.toNat : Int), .int .u64 ((s).r.a.toNat : Int), .int .u64 ((s).r.b.toNat : Int), .int .u64 ((s).r.c.toNat : Int), .int .u64 ((s).r.d.toNat : Int), .int .u64 ((t).m.toNat : Int), .int .u64 ((t).q.toNat : Int), .int .u64 ((t).z.toNat : Int), .int .u64 ((t).r.a.toNat : Int), .int .u64 ((t).r.b.toNat : Int), .int .u64 ((t).r.c.toNat : Int), .int .u64 ((t).r.d.toNat : Int)] wx ∧ Lies (w.heap.size + 1) 0 [.int .u64 ((root.a).toNat : Int), .int .u64 ((root.b).toNat : Int), .int .u64 ((root.c).toNat : Int), .int .u64 ((root.d).toNat : Int)] wx ∧ Below w.heap.size w wx ∧ w.heap.size + 2 ≤ wx.heap.size
theorem LB.call {w w1 w2 : World} {s t : Sl} {root : Qd} (h : LB w s t root w1) (hb : Below w1.heap.size w1 w2) : LB w s t root w2 := by
  obtain ⟨h1, h2, h3, h4⟩ := h
  exact ⟨h1.call hb (by omega), h2.call hb (by omega), below_after h3 hb h3.size, Nat.le_trans h4 hb.size⟩
theorem LB.drew {w w1 : World} {s t : Sl} {root : Qd} (h : LB w s t root w1) : LB w s t root w1.drew := h.call ((Below.refl _ _).drew)
theorem LB.grown {w w1 w2 : World} {s t : Sl} {root : Qd} {v : Value} (h : LB w s t root w1) (hg : w1.grownBy w2 v.ownBlock) (hv : ∀ k, v.ownBlock = some k → w.heap.size + 2 ≤ k) : LB w s t root w2 := by
  obtain ⟨h1, h2, h3, h4⟩ := h
  exact ⟨h1.grown hg (by omega) (fun e => by have := hv _ e; omega), h2.grown hg (by omega) (fun e => by have := hv _ e; omega), h3.grown hg h3.size (fun k hk => by have := hv k hk; omega), Nat.le_trans h4 hg.size⟩
theorem LB.new (w : World) (s t : Sl) (root : Qd) : LB w s t root ((w.alloc (.cells #[.int .u64 ((s).m.toNat : Int), .int .u64 ((s).q.toNat : Int), .int .u64 ((s).z.toNat : Int), .int .u64 ((s).r.a.toNat : Int), .int .u64 ((s).r.b.toNat : Int), .int .u64 ((s).r.c.toNat : Int), .int .u64 ((s).r.d.toNat : Int), .int .u64 ((t).m.toNat : Int), .int .u64 ((t).q.toNat : Int), .int .u64 ((t).z.toNat : Int), .int .u64 ((t).r.a.toNat : Int), .int .u64 ((t).r.b.toNat : Int), .int .u64 ((t).r.c.toNat : Int), .int .u64 ((t).r.d.toNat : Int)] 28)).alloc (.cells #[.int .u64 ((root.a).toNat : Int), .int .u64 ((root.b).toNat : Int), .int .u64 ((root.c).toNat : Int), .int .u64 ((root.d).toNat : Int)] 24)) := by
  refine ⟨?_, ?_, (by repeat' (first | (with_reducible exact Below.refl _ _) | (with_reducible assumption) | (with_reducible refine below_drewN ?_ _) | (with_reducible refine Below.setCell ?_ ?_ _) | (with_reducible refine Below.alloc ?_ ?_ _) | (with_reducible refine Below.drew ?_) | go_size)), by simp⟩
  · exact (Lies.new w [.int .u64 ((s).m.toNat : Int), .int .u64 ((s).q.toNat : Int), .int .u64 ((s).z.toNat : Int), .int .u64 ((s).r.a.toNat : Int), .int .u64 ((s).r.b.toNat : Int), .int .u64 ((s).r.c.toNat : Int), .int .u64 ((s).r.d.toNat : Int), .int .u64 ((t).m.toNat : Int), .int .u64 ((t).q.toNat : Int), .int .u64 ((t).z.toNat : Int), .int .u64 ((t).r.a.toNat : Int), .int .u64 ((t).r.b.toNat : Int), .int .u64 ((t).r.c.toNat : Int), .int .u64 ((t).r.d.toNat : Int)] 28).call ((Below.refl _ _).alloc (Nat.le_refl _) _) (by simp)
  · have := Lies.new (w.alloc (.cells #[.int .u64 ((s).m.toNat : Int), .int .u64 ((s).q.toNat : Int), .int .u64 ((s).z.toNat : Int), .int .u64 ((s).r.a.toNat : Int), .int .u64 ((s).r.b.toNat : Int), .int .u64 ((s).r.c.toNat : Int), .int .u64 ((s).r.d.toNat : Int), .int .u64 ((t).m.toNat : Int), .int .u64 ((t).q.toNat : Int), .int .u64 ((t).z.toNat : Int), .int .u64 ((t).r.a.toNat : Int), .int .u64 ((t).r.b.toNat : Int), .int .u64 ((t).r.c.toNat : Int), .int .u64 ((t).r.d.toNat : Int)] 28)) [.int .u64 ((root.a).toNat : Int), .int .u64 ((root.b).toNat : Int), .int .u64 ((root.c).toNat : Int), .int .u64 ((root.d).toNat : Int)] 24
    simp only [World.size_alloc] at this
    exact this
/-- A draw and three calls. -/
theorem below3 {w w1 w2 w3 : World} (h1 : Below w.drew.heap.size w.drew w1) (h2 : Below w1.heap.size w1 w2) (h3 : Below w2.heap.size w2 w3) : Below w.heap.size w w3 :=
  below_after (below_after (below_after (Below.drew (Below.refl _ _)) h1 (Nat.le_refl _)) h2 h1.size) h3 (Nat.le_trans h1.size h2.size)
theorem toDg_is (q : Qd) (w : World) : Calls Try.prog 9 #[.agg #[.int .u64 ((q.a).toNat : Int), .int .u64 ((q.b).toNat : Int), .int .u64 ((q.c).toNat : Int), .int .u64 ((q.d).toNat : Int)]] w fun e w' => e = .returned (.agg #[.int .u64 ((q.a).toNat : Int), .int .u64 ((q.b).toNat : Int), .int .u64 ((q.c).toNat : Int), .int .u64 ((q.d).toNat : Int)]) ∧ Below w.heap.size w w' := by
  refine (toD_is q w).mono fun e w' ⟨he, hw⟩ => ⟨he, ?_⟩
  subst hw
  exact (by repeat' (first | (with_reducible exact Below.refl _ _) | (with_reducible assumption) | (with_reducible refine below_drewN ?_ _) | (with_reducible refine Below.setCell ?_ ?_ _) | (with_reducible refine Below.alloc ?_ ?_ _) | (with_reducible refine Below.drew ?_) | go_size))
theorem kraws_len (n : Int) (y : Sl) : (kraws n y).length ≤ 1000 := by
  unfold kraws
  split
  · show 8 ≤ 1000
    omega
  · simp
set_option maxRecDepth 200000 in
set_option maxHeartbeats 8000000 in
theorem lawRecordRaws (s t : Sl) (size : Int) (root : Qd) (w : World) (hsz : -9223372036854775808 ≤ size ∧ size ≤ 9223372036854775807) :
    Calls Try.prog 3 #[.agg #[.int .u64 ((s).m.toNat : Int), .int .u64 ((s).q.toNat : Int), .int .u64 ((s).z.toNat : Int), .int .u64 ((s).r.a.toNat : Int), .int .u64 ((s).r.b.toNat : Int), .int .u64 ((s).r.c.toNat : Int), .int .u64 ((s).r.d.toNat : Int), .int .u64 ((t).m.toNat : Int), .int .u64 ((t).q.toNat : Int), .int .u64 ((t).z.toNat : Int), .int .u64 ((t).r.a.toNat : Int), .int .u64 ((t).r.b.toNat : Int), .int .u64 ((t).r.c.toNat : Int), .int .u64 ((t).r.d.toNat : Int)], .int .i64 size, .agg #[.int .u64 ((root.a).toNat : Int), .int .u64 ((root.b).toNat : Int), .int .u64 ((root.c).toNat : Int), .int .u64 ((root.d).toNat : Int)]] w fun e w' => e = .returned (.bool true) ∧ Below w.heap.size w w' := by
  have ct := fun W : World => todk_is s t W
  have cg := fun W : World => toDg_is root W
  have c1 := fun W : World => rraws_spec s t size root W hsz.1 hsz.2
  have c2 := fun W : World => rraws_impl s t size root W
  have hn : (rraws s t size root).length ≤ 1000 := kraws_len _ _
  generalize rraws s t size root = L at c1 c2 hn
  have hB1 := LB.new w s t root
  go_enter Try.func3, Try.ntmps3
  go_wp2_with fail
  have D1 := hB1.drew
  refine wp_region_held_drew (S := fun w' => Lies w.heap.size 0 [.int .u64 ((s).m.toNat : Int), .int .u64 ((s).q.toNat : Int), .int .u64 ((s).z.toNat : Int), .int .u64 ((s).r.a.toNat : Int), .int .u64 ((s).r.b.toNat : Int), .int .u64 ((s).r.c.toNat : Int), .int .u64 ((s).r.d.toNat : Int), .int .u64 ((t).m.toNat : Int), .int .u64 ((t).q.toNat : Int), .int .u64 ((t).z.toNat : Int), .int .u64 ((t).r.a.toNat : Int), .int .u64 ((t).r.b.toNat : Int), .int .u64 ((t).r.c.toNat : Int), .int .u64 ((t).r.d.toNat : Int)] w' ∧ Lies (w.heap.size + 1) 0 [.int .u64 ((root.a).toNat : Int), .int .u64 ((root.b).toNat : Int), .int .u64 ((root.c).toNat : Int), .int .u64 ((root.d).toNat : Int)] w') (by kernel_rfl) ⟨D1.1, D1.2.1⟩ (fun hHeld => ?_)
  refine wpAnyH_take (i := 0) (oi := { dst := some 12, op := Op.load 28 (Operand.tmp 3), type := 28, pos := "exact.go:4659", after := #[], guard := none }) (v := .agg #[.int .u64 ((s).m.toNat : Int), .int .u64 ((s).q.toNat : Int), .int .u64 ((s).z.toNat : Int), .int .u64 ((s).r.a.toNat : Int), .int .u64 ((s).r.b.toNat : Int), .int .u64 ((s).r.c.toNat : Int), .int .u64 ((s).r.d.toNat : Int), .int .u64 ((t).m.toNat : Int), .int .u64 ((t).q.toNat : Int), .int .u64 ((t).z.toNat : Int), .int .u64 ((t).r.a.toNat : Int), .int .u64 ((t).r.b.toNat : Int), .int .u64 ((t).r.c.toNat : Int), .int .u64 ((t).r.d.toNat : Int)]) rfl (by kernel_rfl) (by kernel_rfl) (by kernel_rfl) (fun _ _ _ h => h) (Or.inl ⟨by rfl, ?_⟩) (by assumption) ?_
  · (intro wq hq; exact run_load_op agg_dkl2 w.heap.size 0 [.int .u64 ((s).m.toNat : Int), .int .u64 ((s).q.toNat : Int), .int .u64 ((s).z.toNat : Int), .int .u64 ((s).r.a.toNat : Int), .int .u64 ((s).r.b.toNat : Int), .int .u64 ((s).r.c.toNat : Int), .int .u64 ((s).r.d.toNat : Int), .int .u64 ((t).m.toNat : Int), .int .u64 ((t).q.toNat : Int), .int .u64 ((t).z.toNat : Int), .int .u64 ((t).r.a.toNat : Int), .int .u64 ((t).r.b.toNat : Int), .int .u64 ((t).r.c.toNat : Int), .int .u64 ((t).r.d.toNat : Int)] (by kernel_rfl) (by kernel_rfl) hq.1)
  try simp only [Act.put, List.setIfInBounds_toArray, List.set_cons_zero, List.set_cons_succ]
  refine wpAnyH_take (i := 2) (oi := { dst := some 14, op := Op.move (Operand.tmp 1), type := 3, pos := "exact.go:4659", after := #[], guard := none }) (v := .int .i64 size) rfl (by kernel_rfl) (by kernel_rfl) (by kernel_rfl) (fun _ _ _ h => h) (Or.inl ⟨by rfl, ?_⟩) (by assumption) ?_
  · (intro wq hq; go_simp)
  try simp only [Act.put, List.setIfInBounds_toArray, List.set_cons_zero, List.set_cons_succ]
  refine wpAnyH_take (i := 3) (oi := { dst := some 15, op := Op.load 24 (Operand.tmp 5), type := 24, pos := "exact.go:4659", after := #[], guard := none }) (v := .agg #[.int .u64 ((root.a).toNat : Int), .int .u64 ((root.b).toNat : Int), .int .u64 ((root.c).toNat : Int), .int .u64 ((root.d).toNat : Int)]) rfl (by kernel_rfl) (by kernel_rfl) (by kernel_rfl) (fun _ _ _ h => h) (Or.inl ⟨by rfl, ?_⟩) (by assumption) ?_
  · (intro wq hq; exact run_load_op agg_dgl (w.heap.size + 1) 0 [.int .u64 ((root.a).toNat : Int), .int .u64 ((root.b).toNat : Int), .int .u64 ((root.c).toNat : Int), .int .u64 ((root.d).toNat : Int)] (by kernel_rfl) (by kernel_rfl) hq.2)
  try simp only [Act.put, List.setIfInBounds_toArray, List.set_cons_zero, List.set_cons_succ]
  refine wpAnyH_ready (rs := [1]) (by kernel_rfl) (by simp) ?_
  refine AllReadyH.cons (o := { dst := some 13, op := Op.call { callee := Callee.value (Operand.func 8), args := #[Operand.tmp 12], argTypes := #[28] }, type := 35, pos := "exact.go:4659", after := #[{ on := 0, ground := Ground.data }], guard := none }) rfl (fun K hK => ?_) AllReadyH.nil
  go_simp
  go_at_call 8
  refine (ct _).mono ?_
  rintro e u1 ⟨rfl, hb1⟩
  have E1 := D1.call hb1
  go_simp
  refine hK.out _ _ ⟨E1.1, E1.2.1⟩ (fun hHeld => ?_)
  clear hK K
  refine wpAnyH_ready (rs := [4]) (by kernel_rfl) (by simp) ?_
  refine AllReadyH.cons (o := { dst := some 16, op := Op.call { callee := Callee.value (Operand.func 9), args := #[Operand.tmp 15], argTypes := #[24] }, type := 31, pos := "exact.go:4659", after := #[{ on := 3, ground := Ground.data }, { on := 1, ground := Ground.chain }], guard := none }) rfl (fun K hK => ?_) AllReadyH.nil
  go_simp
  go_at_call 9
  refine (cg _).mono ?_
  rintro e t1 ⟨rfl, hc1⟩
  have F1 := E1.call hc1
  go_simp
  refine hK.out _ _ ⟨F1.1, F1.2.1⟩ (fun hHeld => ?_)
  clear hK K
  refine wpAnyH_ready (rs := [5]) (by kernel_rfl) (by simp) ?_
  refine AllReadyH.cons (o := { dst := some 17, op := Op.call { callee := Callee.value (Operand.func 7), args := #[Operand.tmp 13, Operand.tmp 14, Operand.tmp 16], argTypes := #[35, 3, 31] }, type := 29, pos := "exact.go:4659", after := #[{ on := 1, ground := Ground.data }, { on := 2, ground := Ground.data }, { on := 4, ground := Ground.data }, { on := 4, ground := Ground.chain }], guard := none }) rfl (fun K hK => ?_) AllReadyH.nil
  go_simp
  go_at_call 7
  refine (c1 _).mono ?_
  rintro e w1 ⟨v1, rfl, ho1, hd1⟩
  have hB1' := F1.call hd1
  have hx1 := below3 hb1 hc1 hd1
  go_simp
  refine hK.out _ _ ⟨hB1'.1, hB1'.2.1⟩ (fun hHeld => ?_)
  clear hK K
  refine wpAnyH_take (i := 6) (oi := { dst := some 7, op := Op.assign (Operand.tmp 17), type := 29, pos := "exact.go:4659", after := #[{ on := 5, ground := Ground.data }, { on := 5, ground := Ground.chain }, { on := 0, ground := Ground.phase }, { on := 1, ground := Ground.phase }, { on := 2, ground := Ground.phase }, { on := 3, ground := Ground.phase }, { on := 4, ground := Ground.phase }, { on := 5, ground := Ground.phase }], guard := none }) (v := v1) rfl (by kernel_rfl) (by kernel_rfl) (by kernel_rfl) (fun _ _ _ h => h) (Or.inl ⟨by rfl, ?_⟩) (by assumption) ?_
  · (intro wq hq; go_simp)
  try simp only [Act.put, List.setIfInBounds_toArray, List.set_cons_zero, List.set_cons_succ]
  refine wpAnyH_done (by kernel_rfl) ?_ _
  clear hHeld
  go_wp2_with fail
  have hB2 := hB1'
  have lt1 : ∀ k, v1.ownBlock = some k → k < w1.heap.size := fun k hk => (ho1.lt k hk).2
  have D2 := hB2.drew
  refine wp_region_held_drew (S := fun w' => Lies w.heap.size 0 [.int .u64 ((s).m.toNat : Int), .int .u64 ((s).q.toNat : Int), .int .u64 ((s).z.toNat : Int), .int .u64 ((s).r.a.toNat : Int), .int .u64 ((s).r.b.toNat : Int), .int .u64 ((s).r.c.toNat : Int), .int .u64 ((s).r.d.toNat : Int), .int .u64 ((t).m.toNat : Int), .int .u64 ((t).q.toNat : Int), .int .u64 ((t).z.toNat : Int), .int .u64 ((t).r.a.toNat : Int), .int .u64 ((t).r.b.toNat : Int), .int .u64 ((t).r.c.toNat : Int), .int .u64 ((t).r.d.toNat : Int)] w' ∧ Lies (w.heap.size + 1) 0 [.int .u64 ((root.a).toNat : Int), .int .u64 ((root.b).toNat : Int), .int .u64 ((root.c).toNat : Int), .int .u64 ((root.d).toNat : Int)] w') (by kernel_rfl) ⟨D2.1, D2.2.1⟩ (fun hHeld => ?_)
  refine wpAnyH_take (i := 0) (oi := { dst := some 18, op := Op.load 28 (Operand.tmp 3), type := 28, pos := "exact.go:4660", after := #[], guard := none }) (v := .agg #[.int .u64 ((s).m.toNat : Int), .int .u64 ((s).q.toNat : Int), .int .u64 ((s).z.toNat : Int), .int .u64 ((s).r.a.toNat : Int), .int .u64 ((s).r.b.toNat : Int), .int .u64 ((s).r.c.toNat : Int), .int .u64 ((s).r.d.toNat : Int), .int .u64 ((t).m.toNat : Int), .int .u64 ((t).q.toNat : Int), .int .u64 ((t).z.toNat : Int), .int .u64 ((t).r.a.toNat : Int), .int .u64 ((t).r.b.toNat : Int), .int .u64 ((t).r.c.toNat : Int), .int .u64 ((t).r.d.toNat : Int)]) rfl (by kernel_rfl) (by kernel_rfl) (by kernel_rfl) (fun _ _ _ h => h) (Or.inl ⟨by rfl, ?_⟩) (by assumption) ?_
  · (intro wq hq; exact run_load_op agg_dkl2 w.heap.size 0 [.int .u64 ((s).m.toNat : Int), .int .u64 ((s).q.toNat : Int), .int .u64 ((s).z.toNat : Int), .int .u64 ((s).r.a.toNat : Int), .int .u64 ((s).r.b.toNat : Int), .int .u64 ((s).r.c.toNat : Int), .int .u64 ((s).r.d.toNat : Int), .int .u64 ((t).m.toNat : Int), .int .u64 ((t).q.toNat : Int), .int .u64 ((t).z.toNat : Int), .int .u64 ((t).r.a.toNat : Int), .int .u64 ((t).r.b.toNat : Int), .int .u64 ((t).r.c.toNat : Int), .int .u64 ((t).r.d.toNat : Int)] (by kernel_rfl) (by kernel_rfl) hq.1)
  try simp only [Act.put, List.setIfInBounds_toArray, List.set_cons_zero, List.set_cons_succ]
  refine wpAnyH_take (i := 2) (oi := { dst := some 20, op := Op.move (Operand.tmp 1), type := 3, pos := "exact.go:4660", after := #[], guard := none }) (v := .int .i64 size) rfl (by kernel_rfl) (by kernel_rfl) (by kernel_rfl) (fun _ _ _ h => h) (Or.inl ⟨by rfl, ?_⟩) (by assumption) ?_
  · (intro wq hq; go_simp)
  try simp only [Act.put, List.setIfInBounds_toArray, List.set_cons_zero, List.set_cons_succ]
  refine wpAnyH_take (i := 3) (oi := { dst := some 21, op := Op.load 24 (Operand.tmp 5), type := 24, pos := "exact.go:4660", after := #[], guard := none }) (v := .agg #[.int .u64 ((root.a).toNat : Int), .int .u64 ((root.b).toNat : Int), .int .u64 ((root.c).toNat : Int), .int .u64 ((root.d).toNat : Int)]) rfl (by kernel_rfl) (by kernel_rfl) (by kernel_rfl) (fun _ _ _ h => h) (Or.inl ⟨by rfl, ?_⟩) (by assumption) ?_
  · (intro wq hq; exact run_load_op agg_dgl (w.heap.size + 1) 0 [.int .u64 ((root.a).toNat : Int), .int .u64 ((root.b).toNat : Int), .int .u64 ((root.c).toNat : Int), .int .u64 ((root.d).toNat : Int)] (by kernel_rfl) (by kernel_rfl) hq.2)
  try simp only [Act.put, List.setIfInBounds_toArray, List.set_cons_zero, List.set_cons_succ]
  refine wpAnyH_ready (rs := [1]) (by kernel_rfl) (by simp) ?_
  refine AllReadyH.cons (o := { dst := some 19, op := Op.call { callee := Callee.value (Operand.func 8), args := #[Operand.tmp 18], argTypes := #[28] }, type := 35, pos := "exact.go:4660", after := #[{ on := 0, ground := Ground.data }], guard := none }) rfl (fun K hK => ?_) AllReadyH.nil
  go_simp
  go_at_call 8
  refine (ct _).mono ?_
  rintro e u2 ⟨rfl, hb2⟩
  have E2 := D2.call hb2
  go_simp
  refine hK.out _ _ ⟨E2.1, E2.2.1⟩ (fun hHeld => ?_)
  clear hK K
  refine wpAnyH_ready (rs := [4]) (by kernel_rfl) (by simp) ?_
  refine AllReadyH.cons (o := { dst := some 22, op := Op.call { callee := Callee.value (Operand.func 9), args := #[Operand.tmp 21], argTypes := #[24] }, type := 31, pos := "exact.go:4660", after := #[{ on := 3, ground := Ground.data }, { on := 1, ground := Ground.chain }], guard := none }) rfl (fun K hK => ?_) AllReadyH.nil
  go_simp
  go_at_call 9
  refine (cg _).mono ?_
  rintro e t2 ⟨rfl, hc2⟩
  have F2 := E2.call hc2
  go_simp
  refine hK.out _ _ ⟨F2.1, F2.2.1⟩ (fun hHeld => ?_)
  clear hK K
  refine wpAnyH_ready (rs := [5]) (by kernel_rfl) (by simp) ?_
  refine AllReadyH.cons (o := { dst := some 23, op := Op.call { callee := Callee.value (Operand.func 10), args := #[Operand.tmp 19, Operand.tmp 20, Operand.tmp 22], argTypes := #[35, 3, 31] }, type := 29, pos := "exact.go:4660", after := #[{ on := 1, ground := Ground.data }, { on := 2, ground := Ground.data }, { on := 4, ground := Ground.data }, { on := 4, ground := Ground.chain }], guard := none }) rfl (fun K hK => ?_) AllReadyH.nil
  go_simp
  go_at_call 10
  refine (c2 _).mono ?_
  rintro e w2 ⟨v2, rfl, ho2, hd2⟩
  have hB2' := F2.call hd2
  have hx2 := below3 hb2 hc2 hd2
  go_simp
  refine hK.out _ _ ⟨hB2'.1, hB2'.2.1⟩ (fun hHeld => ?_)
  clear hK K
  refine wpAnyH_take (i := 6) (oi := { dst := some 8, op := Op.assign (Operand.tmp 23), type := 29, pos := "exact.go:4660", after := #[{ on := 5, ground := Ground.data }, { on := 5, ground := Ground.chain }, { on := 0, ground := Ground.phase }, { on := 1, ground := Ground.phase }, { on := 2, ground := Ground.phase }, { on := 3, ground := Ground.phase }, { on := 4, ground := Ground.phase }, { on := 5, ground := Ground.phase }], guard := none }) (v := v2) rfl (by kernel_rfl) (by kernel_rfl) (by kernel_rfl) (fun _ _ _ h => h) (Or.inl ⟨by rfl, ?_⟩) (by assumption) ?_
  · (intro wq hq; go_simp)
  try simp only [Act.put, List.setIfInBounds_toArray, List.set_cons_zero, List.set_cons_succ]
  refine wpAnyH_done (by kernel_rfl) ?_ _
  clear hHeld
  have ho12 := own_callR ho1 hx2
  have ge2 : ∀ k, v2.ownBlock = some k → w1.heap.size ≤ k := fun k hk => Nat.le_trans (Nat.le_trans hb2.size hc2.size) (ho2.lt k hk).1
  go_wp2_with (first
    | (have hh := M6; go_at_call 13; refine (held_own _ v2 L.length M6 hn).mono ?_; rintro e w6h ⟨rfl, hw6⟩; subst hw6)
    | (go_at_call 12; refine (mark_own _ _ v2 L ho25 hn).mono ?_; rintro e w6 ⟨rfl, hg6, M6⟩; have hB3 := hB5.grown hg6 (fun k hk => Nat.le_trans hB1'.2.2.2 (ge2 k hk)); have ho16 := own_grownR (r := w1.heap.size) ho15 hg6 lt1 ge2)
    | (go_at_call 11; refine (eqraws_is _ _ _ L (owr_rws ho2) (owr_rws ho12)).mono ?_; rintro e w5 ⟨rfl, hb5⟩; have hB5 := hB2'.call hb5; have ho25 := own_callR ho2 hb5; have ho15 := own_callR ho12 hb5))
  have D3 := hB3.drew
  refine wp_region_held_drew (S := fun w' => Lies w.heap.size 0 [.int .u64 ((s).m.toNat : Int), .int .u64 ((s).q.toNat : Int), .int .u64 ((s).z.toNat : Int), .int .u64 ((s).r.a.toNat : Int), .int .u64 ((s).r.b.toNat : Int), .int .u64 ((s).r.c.toNat : Int), .int .u64 ((s).r.d.toNat : Int), .int .u64 ((t).m.toNat : Int), .int .u64 ((t).q.toNat : Int), .int .u64 ((t).z.toNat : Int), .int .u64 ((t).r.a.toNat : Int), .int .u64 ((t).r.b.toNat : Int), .int .u64 ((t).r.c.toNat : Int), .int .u64 ((t).r.d.toNat : Int)] w' ∧ Lies (w.heap.size + 1) 0 [.int .u64 ((root.a).toNat : Int), .int .u64 ((root.b).toNat : Int), .int .u64 ((root.c).toNat : Int), .int .u64 ((root.d).toNat : Int)] w') (by kernel_rfl) ⟨D3.1, D3.2.1⟩ (fun hHeld => ?_)
  refine wpAnyH_take (i := 0) (oi := { dst := some 39, op := Op.load 28 (Operand.tmp 3), type := 28, pos := "exact.go:4674", after := #[], guard := none }) (v := .agg #[.int .u64 ((s).m.toNat : Int), .int .u64 ((s).q.toNat : Int), .int .u64 ((s).z.toNat : Int), .int .u64 ((s).r.a.toNat : Int), .int .u64 ((s).r.b.toNat : Int), .int .u64 ((s).r.c.toNat : Int), .int .u64 ((s).r.d.toNat : Int), .int .u64 ((t).m.toNat : Int), .int .u64 ((t).q.toNat : Int), .int .u64 ((t).z.toNat : Int), .int .u64 ((t).r.a.toNat : Int), .int .u64 ((t).r.b.toNat : Int), .int .u64 ((t).r.c.toNat : Int), .int .u64 ((t).r.d.toNat : Int)]) rfl (by kernel_rfl) (by kernel_rfl) (by kernel_rfl) (fun _ _ _ h => h) (Or.inl ⟨by rfl, ?_⟩) (by assumption) ?_
  · (intro wq hq; exact run_load_op agg_dkl2 w.heap.size 0 [.int .u64 ((s).m.toNat : Int), .int .u64 ((s).q.toNat : Int), .int .u64 ((s).z.toNat : Int), .int .u64 ((s).r.a.toNat : Int), .int .u64 ((s).r.b.toNat : Int), .int .u64 ((s).r.c.toNat : Int), .int .u64 ((s).r.d.toNat : Int), .int .u64 ((t).m.toNat : Int), .int .u64 ((t).q.toNat : Int), .int .u64 ((t).z.toNat : Int), .int .u64 ((t).r.a.toNat : Int), .int .u64 ((t).r.b.toNat : Int), .int .u64 ((t).r.c.toNat : Int), .int .u64 ((t).r.d.toNat : Int)] (by kernel_rfl) (by kernel_rfl) hq.1)
  try simp only [Act.put, List.setIfInBounds_toArray, List.set_cons_zero, List.set_cons_succ]
  refine wpAnyH_take (i := 2) (oi := { dst := some 41, op := Op.move (Operand.tmp 1), type := 3, pos := "exact.go:4674", after := #[], guard := none }) (v := .int .i64 size) rfl (by kernel_rfl) (by kernel_rfl) (by kernel_rfl) (fun _ _ _ h => h) (Or.inl ⟨by rfl, ?_⟩) (by assumption) ?_
  · (intro wq hq; go_simp)
  try simp only [Act.put, List.setIfInBounds_toArray, List.set_cons_zero, List.set_cons_succ]
  refine wpAnyH_take (i := 3) (oi := { dst := some 42, op := Op.load 24 (Operand.tmp 5), type := 24, pos := "exact.go:4674", after := #[], guard := none }) (v := .agg #[.int .u64 ((root.a).toNat : Int), .int .u64 ((root.b).toNat : Int), .int .u64 ((root.c).toNat : Int), .int .u64 ((root.d).toNat : Int)]) rfl (by kernel_rfl) (by kernel_rfl) (by kernel_rfl) (fun _ _ _ h => h) (Or.inl ⟨by rfl, ?_⟩) (by assumption) ?_
  · (intro wq hq; exact run_load_op agg_dgl (w.heap.size + 1) 0 [.int .u64 ((root.a).toNat : Int), .int .u64 ((root.b).toNat : Int), .int .u64 ((root.c).toNat : Int), .int .u64 ((root.d).toNat : Int)] (by kernel_rfl) (by kernel_rfl) hq.2)
  try simp only [Act.put, List.setIfInBounds_toArray, List.set_cons_zero, List.set_cons_succ]
  refine wpAnyH_ready (rs := [1]) (by kernel_rfl) (by simp) ?_
  refine AllReadyH.cons (o := { dst := some 40, op := Op.call { callee := Callee.value (Operand.func 8), args := #[Operand.tmp 39], argTypes := #[28] }, type := 35, pos := "exact.go:4674", after := #[{ on := 0, ground := Ground.data }], guard := none }) rfl (fun K hK => ?_) AllReadyH.nil
  go_simp
  go_at_call 8
  refine (ct _).mono ?_
  rintro e u3 ⟨rfl, hb3⟩
  have E3 := D3.call hb3
  go_simp
  refine hK.out _ _ ⟨E3.1, E3.2.1⟩ (fun hHeld => ?_)
  clear hK K
  refine wpAnyH_ready (rs := [4]) (by kernel_rfl) (by simp) ?_
  refine AllReadyH.cons (o := { dst := some 43, op := Op.call { callee := Callee.value (Operand.func 9), args := #[Operand.tmp 42], argTypes := #[24] }, type := 31, pos := "exact.go:4674", after := #[{ on := 3, ground := Ground.data }, { on := 1, ground := Ground.chain }], guard := none }) rfl (fun K hK => ?_) AllReadyH.nil
  go_simp
  go_at_call 9
  refine (cg _).mono ?_
  rintro e t3 ⟨rfl, hc3⟩
  have F3 := E3.call hc3
  go_simp
  refine hK.out _ _ ⟨F3.1, F3.2.1⟩ (fun hHeld => ?_)
  clear hK K
  refine wpAnyH_ready (rs := [5]) (by kernel_rfl) (by simp) ?_
  refine AllReadyH.cons (o := { dst := some 44, op := Op.call { callee := Callee.value (Operand.func 10), args := #[Operand.tmp 40, Operand.tmp 41, Operand.tmp 43], argTypes := #[35, 3, 31] }, type := 29, pos := "exact.go:4674", after := #[{ on := 1, ground := Ground.data }, { on := 2, ground := Ground.data }, { on := 4, ground := Ground.data }, { on := 4, ground := Ground.chain }], guard := none }) rfl (fun K hK => ?_) AllReadyH.nil
  go_simp
  go_at_call 10
  refine (c2 _).mono ?_
  rintro e w3 ⟨v3, rfl, ho3, hd3⟩
  have hB3' := F3.call hd3
  have hx3 := below3 hb3 hc3 hd3
  go_simp
  refine hK.out _ _ ⟨hB3'.1, hB3'.2.1⟩ (fun hHeld => ?_)
  clear hK K
  refine wpAnyH_take (i := 6) (oi := { dst := some 11, op := Op.assign (Operand.tmp 44), type := 29, pos := "exact.go:4674", after := #[{ on := 5, ground := Ground.data }, { on := 5, ground := Ground.chain }, { on := 0, ground := Ground.phase }, { on := 1, ground := Ground.phase }, { on := 2, ground := Ground.phase }, { on := 3, ground := Ground.phase }, { on := 4, ground := Ground.phase }, { on := 5, ground := Ground.phase }], guard := none }) (v := v3) rfl (by kernel_rfl) (by kernel_rfl) (by kernel_rfl) (fun _ _ _ h => h) (Or.inl ⟨by rfl, ?_⟩) (by assumption) ?_
  · (intro wq hq; go_simp)
  try simp only [Act.put, List.setIfInBounds_toArray, List.set_cons_zero, List.set_cons_succ]
  refine wpAnyH_done (by kernel_rfl) ?_ _
  clear hHeld
  have M8 := M6.call hx3
  have ho18 := own_callR ho16 hx3
  go_wp2_with (first
    | (have hh := M9; go_at_call 13; refine (held_own _ v2 L.length M9 hn).mono ?_; rintro e w10 ⟨rfl, hw10⟩; subst hw10)
    | (go_at_call 11; refine (eqraws_is _ _ _ L (owr_rws ho3) (owr_rws ho18)).mono ?_; rintro e w9 ⟨rfl, hb9⟩; have z9 := (hB3'.call hb9).2.2.1; have M9 := M8.call hb9))
  go_ret
  exact ⟨rfl, z9⟩
end Go.Proofs.Ytjmfegfkigaabaa
