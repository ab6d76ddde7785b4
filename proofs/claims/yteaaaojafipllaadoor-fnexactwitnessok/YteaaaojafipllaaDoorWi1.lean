/-
  Wishes are compared.
-/
import Derived.Test.YteaaaojafipllaaDoorWi0
import Derived.Test.YteaaaojafipllaaDoorPoint
import Derived.Deep.RegionHeld
namespace Go.Proofs.YteaaaojafipllaaDoor
open Go.RowKit

theorem run_load_wi {a : Act} {dst : Option Tmp} {ty ty2 : TypeId} {x : Operand} {pos : String} {after : Array Edge} {g : Option (Nat × Bool)} {n : Nat} {w : World}
    (hty : AggTy ty n) (b k : Nat) (vs : List Value) (hn : vs.length = n) (hx : a.eval x = .pointer (some ⟨b, k, none⟩)) (hl : Lies b k vs w) :
    (execOp a.eval ⟨dst, .load ty x, ty2, pos, after, g⟩).run Tryd.prog w = .ok (.value (.agg vs.toArray)) w := by
  obtain ⟨⟨d, hu, hd⟩, hi⟩ := hty
  unfold execOp
  simp only [hx, Instr.loadAt, Instr.sureAddr, Sem.run_bind, Sem.run_pure, Result.andThen_ok, run_lv ty b k vs w d hd hu (by rw [hn]; exact hi) hl]
/-- What stands while two structs are compared. -/
def E2 (W : World) (av bv : List Value) (w : World) : Prop := Lies W.heap.size 0 av w ∧ Lies (W.heap.size + 1) 0 bv w ∧ Below W.heap.size W w ∧ W.heap.size + 1 < w.heap.size
theorem E2.call {W : World} {av bv : List Value} {w w' : World} (h : E2 W av bv w) (hb : Below w.heap.size w w') : E2 W av bv w' := by
  obtain ⟨h1, h2, h3, h4⟩ := h
  exact ⟨h1.call hb (by omega), h2.call hb h4, below_after h3 hb h3.size, Nat.lt_of_lt_of_le h4 hb.size⟩
theorem E2.new (W : World) (av bv : List Value) (t t' : TypeId) : E2 W av bv ((W.alloc (.cells av.toArray t)).alloc (.cells bv.toArray t')) := by
  have h2 := Lies.new (W.alloc (.cells av.toArray t)) bv t'
  rw [World.size_alloc] at h2
  exact ⟨(Lies.new W av t).call ((Below.refl _ _).alloc (Nat.le_refl _) _) (by simp), h2, ((Below.refl _ _).alloc (Nat.le_refl _) _).alloc (by simp) _, by simp⟩
set_option maxRecDepth 20000 in
set_option maxHeartbeats 1000000 in
theorem eqwh_is (x : Wh) (W : World) : Calls Tryd.prog 27 #[.agg #[.int .i64 x.w, .int .i64 x.e, .int .i64 x.s, .int .u64 ((x.q.a).toNat : Int), .int .u64 ((x.q.b).toNat : Int), .int .u64 ((x.q.c).toNat : Int), .int .u64 ((x.q.d).toNat : Int)], .agg #[.int .i64 x.w, .int .i64 x.e, .int .i64 x.s, .int .u64 ((x.q.a).toNat : Int), .int .u64 ((x.q.b).toNat : Int), .int .u64 ((x.q.c).toNat : Int), .int .u64 ((x.q.d).toNat : Int)]] W fun e w' => e = .returned (.bool true) ∧ Below W.heap.size W w' := by
  have cg := fun V : World => eqp_same x.s x.q V
  have E0 : E2 W [.int .i64 x.w, .int .i64 x.e, .int .i64 x.s, .int .u64 ((x.q.a).toNat : Int), .int .u64 ((x.q.b).toNat : Int), .int .u64 ((x.q.c).toNat : Int), .int .u64 ((x.q.d).toNat : Int)] [.int .i64 x.w, .int .i64 x.e, .int .i64 x.s, .int .u64 ((x.q.a).toNat : Int), .int .u64 ((x.q.b).toNat : Int), .int .u64 ((x.q.c).toNat : Int), .int .u64 ((x.q.d).toNat : Int)] ((W.alloc (.cells #[.int .i64 x.w, .int .i64 x.e, .int .i64 x.s, .int .u64 ((x.q.a).toNat : Int), .int .u64 ((x.q.b).toNat : Int), .int .u64 ((x.q.c).toNat : Int), .int .u64 ((x.q.d).toNat : Int)] 50)).alloc (.cells #[.int .i64 x.w, .int .i64 x.e, .int .i64 x.s, .int .u64 ((x.q.a).toNat : Int), .int .u64 ((x.q.b).toNat : Int), .int .u64 ((x.q.c).toNat : Int), .int .u64 ((x.q.d).toNat : Int)] 50)) := E2.new W [.int .i64 x.w, .int .i64 x.e, .int .i64 x.s, .int .u64 ((x.q.a).toNat : Int), .int .u64 ((x.q.b).toNat : Int), .int .u64 ((x.q.c).toNat : Int), .int .u64 ((x.q.d).toNat : Int)] [.int .i64 x.w, .int .i64 x.e, .int .i64 x.s, .int .u64 ((x.q.a).toNat : Int), .int .u64 ((x.q.b).toNat : Int), .int .u64 ((x.q.c).toNat : Int), .int .u64 ((x.q.d).toNat : Int)] 50 50
  go_enter Tryd.func27, Tryd.ntmps27
  go_upto_region 1 with fail
  generalize (W.alloc (.cells #[.int .i64 x.w, .int .i64 x.e, .int .i64 x.s, .int .u64 ((x.q.a).toNat : Int), .int .u64 ((x.q.b).toNat : Int), .int .u64 ((x.q.c).toNat : Int), .int .u64 ((x.q.d).toNat : Int)] 50)).alloc (.cells #[.int .i64 x.w, .int .i64 x.e, .int .i64 x.s, .int .u64 ((x.q.a).toNat : Int), .int .u64 ((x.q.b).toNat : Int), .int .u64 ((x.q.c).toNat : Int), .int .u64 ((x.q.d).toNat : Int)] 50) = w0 at E0 ⊢
  have a0 := E0.1 0 _ rfl
  have a1 := E0.1 1 _ rfl
  have b0 := E0.2.1 0 _ rfl
  have b1 := E0.2.1 1 _ rfl
  simp only [Nat.zero_add] at a0 a1 b0 b1
  go_upto_region 5 with fail
  clear a0 a1 b0 b1
  have g1 : Lies W.heap.size 2 [.int .i64 x.s, .int .u64 ((x.q.a).toNat : Int), .int .u64 ((x.q.b).toNat : Int), .int .u64 ((x.q.c).toNat : Int), .int .u64 ((x.q.d).toNat : Int)] w0 := E0.1.part 2 5
  have g2 : Lies (W.heap.size + 1) 2 [.int .i64 x.s, .int .u64 ((x.q.a).toNat : Int), .int .u64 ((x.q.b).toNat : Int), .int .u64 ((x.q.c).toNat : Int), .int .u64 ((x.q.d).toNat : Int)] w0 := E0.2.1.part 2 5
  go_wp2_with (first
    | (with_reducible refine wpl_load agg_ip5 W.heap.size 2 [.int .i64 x.s, .int .u64 ((x.q.a).toNat : Int), .int .u64 ((x.q.b).toNat : Int), .int .u64 ((x.q.c).toNat : Int), .int .u64 ((x.q.d).toNat : Int)] (by kernel_rfl) ?_ g1 ?_; · (simp [Act.eval]; done))
    | (with_reducible refine wpl_load agg_ip5 (W.heap.size + 1) 2 [.int .i64 x.s, .int .u64 ((x.q.a).toNat : Int), .int .u64 ((x.q.b).toNat : Int), .int .u64 ((x.q.c).toNat : Int), .int .u64 ((x.q.d).toNat : Int)] (by kernel_rfl) ?_ g2 ?_; · (simp [Act.eval]; done))
    | (go_at_call 41; refine (cg _).mono ?_; rintro e w1 ⟨rfl, b1⟩; have E1 := E0.call b1; have z1 := E1.2.2.1; clear E0 E1 b1))
  go_ret
  exact ⟨rfl, z1⟩
set_option maxRecDepth 20000 in
set_option maxHeartbeats 2000000 in
theorem eqwhs_is (W : World) (g g' : Nat) (L : List Wh) (h : WO g L W) (h' : WO g' L W) (hlen : L.length ≤ 1048576) :
    Calls Tryd.prog 17 #[.slice (some ⟨g, 0, none⟩) L.length L.length, .slice (some ⟨g', 0, none⟩) L.length L.length] W fun e w' => e = .returned (.bool true) ∧ Below W.heap.size W w' := by
  have HB : Hid (Below W.heap.size W W) := Below.refl _ _
  go_enter Tryd.func17, Tryd.ntmps17
  go_wp2_with fail
  go_loopw [5] (fun i wr => ∃ k : Nat, k ≤ L.length ∧ i = .int .i64 (k : Int) ∧ Hid (Below W.heap.size W wr)) (fun i _ => L.length - (intOf i).toNat)
  case atStart => exact ⟨0, by omega, rfl, HB⟩
  case round =>
    obtain ⟨k, hk, rfl, HR⟩ := hrel
    have zz := HR.out
    clear HR HB
    by_cases hlt : k < L.length
    · have hkI : (k : Int) < (L.length : Int) := by omega
      have hk0 : (0 : Int) ≤ (k : Int) := by omega
      go_upto_region 6 with fail
      have zd := zz.drew
      have e1 := (h.call zd).2 k hlt
      have e2 := (h'.call zd).2 k hlt
      have l1 := (h.call zd).1
      have l2 := (h'.call zd).1
      obtain ⟨x, hx⟩ : ∃ x, x = L[k] := ⟨_, rfl⟩
      rw [← hx] at e1 e2
      have ce := fun V : World => eqwh_is x V
      clear hx
      refine wp_region_held_drew (S := fun w' => Lies g (k * 7) [.int .i64 x.w, .int .i64 x.e, .int .i64 x.s, .int .u64 ((x.q.a).toNat : Int), .int .u64 ((x.q.b).toNat : Int), .int .u64 ((x.q.c).toNat : Int), .int .u64 ((x.q.d).toNat : Int)] w' ∧ Lies g' (k * 7) [.int .i64 x.w, .int .i64 x.e, .int .i64 x.s, .int .u64 ((x.q.a).toNat : Int), .int .u64 ((x.q.b).toNat : Int), .int .u64 ((x.q.c).toNat : Int), .int .u64 ((x.q.d).toNat : Int)] w') (by kernel_rfl) ⟨e1, e2⟩ (fun hHeld => ?_)
      refine wpAnyH_take (i := 0) (oi := { dst := some 17, op := Op.move (Operand.tmp 0), type := 39, pos := "exact.go:875", after := #[], guard := none }) (v := .slice (some ⟨g, 0, none⟩) L.length L.length) rfl (by kernel_rfl) (by kernel_rfl) (by kernel_rfl) (fun _ _ _ h => h) (Or.inl ⟨by rfl, ?_⟩) (by assumption) ?_
      · (intro wq hq; first | (go_simp; done) | (go_simp; rfl) | (go_simp; omega))
      try simp only [Act.put, List.setIfInBounds_toArray, List.set_cons_zero, List.set_cons_succ]
      refine wpAnyH_take (i := 1) (oi := { dst := some 18, op := Op.move (Operand.tmp 5), type := 3, pos := "exact.go:875", after := #[], guard := none }) (v := .int .i64 (k : Int)) rfl (by kernel_rfl) (by kernel_rfl) (by kernel_rfl) (fun _ _ _ h => h) (Or.inl ⟨by rfl, ?_⟩) (by assumption) ?_
      · (intro wq hq; first | (go_simp; done) | (go_simp; rfl) | (go_simp; omega))
      try simp only [Act.put, List.setIfInBounds_toArray, List.set_cons_zero, List.set_cons_succ]
      refine wpAnyH_take (i := 2) (oi := { dst := some 19, op := Op.indexAddr 39 (Operand.tmp 17) (Operand.tmp 18), type := 0, pos := "exact.go:875", after := #[{ on := 0, ground := Ground.data }, { on := 1, ground := Ground.data }], guard := none }) (v := .pointer (some ⟨g, k * 7, none⟩)) rfl (by kernel_rfl) (by kernel_rfl) (by kernel_rfl) (fun _ _ _ h => h) (Or.inl ⟨by rfl, ?_⟩) (by assumption) ?_
      · (intro wq hq; first | (go_simp; done) | (go_simp; rfl) | (go_simp; omega))
      try simp only [Act.put, List.setIfInBounds_toArray, List.set_cons_zero, List.set_cons_succ]
      refine wpAnyH_take (i := 3) (oi := { dst := some 20, op := Op.load 50 (Operand.tmp 19), type := 50, pos := "exact.go:875", after := #[{ on := 2, ground := Ground.data }], guard := none }) (v := .agg #[.int .i64 x.w, .int .i64 x.e, .int .i64 x.s, .int .u64 ((x.q.a).toNat : Int), .int .u64 ((x.q.b).toNat : Int), .int .u64 ((x.q.c).toNat : Int), .int .u64 ((x.q.d).toNat : Int)]) rfl (by kernel_rfl) (by kernel_rfl) (by kernel_rfl) (fun _ _ _ h => h) (Or.inl ⟨by rfl, ?_⟩) (by assumption) ?_
      · (intro wq hq; exact run_load_wi agg_wsh g (k * 7) [.int .i64 x.w, .int .i64 x.e, .int .i64 x.s, .int .u64 ((x.q.a).toNat : Int), .int .u64 ((x.q.b).toNat : Int), .int .u64 ((x.q.c).toNat : Int), .int .u64 ((x.q.d).toNat : Int)] (by kernel_rfl) (by kernel_rfl) hq.1)
      try simp only [Act.put, List.setIfInBounds_toArray, List.set_cons_zero, List.set_cons_succ]
      refine wpAnyH_take (i := 4) (oi := { dst := some 21, op := Op.move (Operand.tmp 1), type := 39, pos := "exact.go:875", after := #[], guard := none }) (v := .slice (some ⟨g', 0, none⟩) L.length L.length) rfl (by kernel_rfl) (by kernel_rfl) (by kernel_rfl) (fun _ _ _ h => h) (Or.inl ⟨by rfl, ?_⟩) (by assumption) ?_
      · (intro wq hq; first | (go_simp; done) | (go_simp; rfl) | (go_simp; omega))
      try simp only [Act.put, List.setIfInBounds_toArray, List.set_cons_zero, List.set_cons_succ]
      refine wpAnyH_take (i := 5) (oi := { dst := some 22, op := Op.move (Operand.tmp 5), type := 3, pos := "exact.go:875", after := #[], guard := none }) (v := .int .i64 (k : Int)) rfl (by kernel_rfl) (by kernel_rfl) (by kernel_rfl) (fun _ _ _ h => h) (Or.inl ⟨by rfl, ?_⟩) (by assumption) ?_
      · (intro wq hq; first | (go_simp; done) | (go_simp; rfl) | (go_simp; omega))
      try simp only [Act.put, List.setIfInBounds_toArray, List.set_cons_zero, List.set_cons_succ]
      refine wpAnyH_take (i := 6) (oi := { dst := some 23, op := Op.indexAddr 39 (Operand.tmp 21) (Operand.tmp 22), type := 0, pos := "exact.go:875", after := #[{ on := 4, ground := Ground.data }, { on := 5, ground := Ground.data }], guard := none }) (v := .pointer (some ⟨g', k * 7, none⟩)) rfl (by kernel_rfl) (by kernel_rfl) (by kernel_rfl) (fun _ _ _ h => h) (Or.inl ⟨by rfl, ?_⟩) (by assumption) ?_
      · (intro wq hq; first | (go_simp; done) | (go_simp; rfl) | (go_simp; omega))
      try simp only [Act.put, List.setIfInBounds_toArray, List.set_cons_zero, List.set_cons_succ]
      refine wpAnyH_take (i := 7) (oi := { dst := some 24, op := Op.load 50 (Operand.tmp 23), type := 50, pos := "exact.go:875", after := #[{ on := 6, ground := Ground.data }], guard := none }) (v := .agg #[.int .i64 x.w, .int .i64 x.e, .int .i64 x.s, .int .u64 ((x.q.a).toNat : Int), .int .u64 ((x.q.b).toNat : Int), .int .u64 ((x.q.c).toNat : Int), .int .u64 ((x.q.d).toNat : Int)]) rfl (by kernel_rfl) (by kernel_rfl) (by kernel_rfl) (fun _ _ _ h => h) (Or.inl ⟨by rfl, ?_⟩) (by assumption) ?_
      · (intro wq hq; exact run_load_wi agg_wsh g' (k * 7) [.int .i64 x.w, .int .i64 x.e, .int .i64 x.s, .int .u64 ((x.q.a).toNat : Int), .int .u64 ((x.q.b).toNat : Int), .int .u64 ((x.q.c).toNat : Int), .int .u64 ((x.q.d).toNat : Int)] (by kernel_rfl) (by kernel_rfl) hq.2)
      try simp only [Act.put, List.setIfInBounds_toArray, List.set_cons_zero, List.set_cons_succ]
      refine wpAnyH_ready (rs := [8]) (by kernel_rfl) (by simp) ?_
      refine AllReadyH.cons (o := { dst := some 25, op := Op.call { callee := Callee.value (Operand.func 27), args := #[Operand.tmp 20, Operand.tmp 24], argTypes := #[50, 50] }, type := 4, pos := "exact.go:875", after := #[{ on := 3, ground := Ground.data }, { on := 7, ground := Ground.data }], guard := none }) rfl (fun K hK => ?_) AllReadyH.nil
      go_simp
      go_at_call 27
      refine (ce _).mono ?_
      rintro e w9 ⟨rfl, b9⟩
      have f1 := e1.call b9 l1
      have f2 := e2.call b9 l2
      have z9 := below_after zd b9 zd.size
      go_simp
      refine hK.out _ _ ⟨f1, f2⟩ (fun hHeld => ?_)
      clear hK K
      refine wpAnyH_take (i := 9) (oi := { dst := some 26, op := Op.unOp UnOp.not 4 (Operand.tmp 25), type := 4, pos := "exact.go:875", after := #[{ on := 8, ground := Ground.data }], guard := none }) (v := .bool false) rfl (by kernel_rfl) (by kernel_rfl) (by kernel_rfl) (fun _ _ _ h => h) (Or.inl ⟨by rfl, ?_⟩) (by assumption) ?_
      · (intro wq hq; first | (go_simp; done) | (go_simp; rfl) | (go_simp; omega))
      try simp only [Act.put, List.setIfInBounds_toArray, List.set_cons_zero, List.set_cons_succ]
      refine wpAnyH_done (by kernel_rfl) ?_ _
      clear hHeld
      go_wp2_with fail
      exact ⟨⟨k + 1, by omega, by go_num, z9⟩, by simp [intOf]; omega⟩
    · have hkk : k = L.length := by omega
      subst hkk
      go_wp2_with fail
      go_ret
      exact ⟨rfl, zz⟩
end Go.Proofs.YteaaaojafipllaaDoor
