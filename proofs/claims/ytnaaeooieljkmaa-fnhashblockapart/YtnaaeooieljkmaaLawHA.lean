/-
  The law of unlike texts, walked.
-/
import Derived.Test.YtnaaeooieljkmaaApart2
import Derived.Test.YtnaaeooieljkmaaSc
import Derived.Test.YtnaaeooieljkmaaAtAny
import Derived.Deep.RegionHeld
namespace Go.Proofs.Ytnaaeooieljkmaa
open Go.RowKit

/-- Four digests in four blocks; all that was there ahead of w stands. -/
def D4 (w : World) (b1 b2 b3 b4 : Nat) (s x y z : Qd) (W : World) : Prop := Dig b1 s W ∧ Dig b2 x W ∧ Dig b3 y W ∧ Dig b4 z W ∧ Below w.heap.size w W
theorem D4.call {w : World} {b1 b2 b3 b4 : Nat} {s x y z : Qd} {W W' : World} (h : D4 w b1 b2 b3 b4 s x y z W) (hb : Below W.heap.size W W') : D4 w b1 b2 b3 b4 s x y z W' :=
  ⟨h.1.call hb, h.2.1.call hb, h.2.2.1.call hb, h.2.2.2.1.call hb, below_after h.2.2.2.2 hb h.2.2.2.2.size⟩
theorem D4.drew {w : World} {b1 b2 b3 b4 : Nat} {s x y z : Qd} {W : World} (h : D4 w b1 b2 b3 b4 s x y z W) : D4 w b1 b2 b3 b4 s x y z W.drew := h.call ((Below.refl _ _).drew)
theorem D4.cells {w : World} {b1 b2 b3 b4 : Nat} {s x y z : Qd} {W : World} (h : D4 w b1 b2 b3 b4 s x y z W) :
    W.cell? ⟨b1, 0, none⟩ = some (Value.int IntKind.u64 ((s.a).toNat : Int)) ∧ W.cell? ⟨b1, 1, none⟩ = some (Value.int IntKind.u64 ((s.b).toNat : Int)) ∧ W.cell? ⟨b1, 2, none⟩ = some (Value.int IntKind.u64 ((s.c).toNat : Int)) ∧ W.cell? ⟨b1, 3, none⟩ = some (Value.int IntKind.u64 ((s.d).toNat : Int)) ∧ W.cell? ⟨b2, 0, none⟩ = some (Value.int IntKind.u64 ((x.a).toNat : Int)) ∧ W.cell? ⟨b2, 1, none⟩ = some (Value.int IntKind.u64 ((x.b).toNat : Int)) ∧ W.cell? ⟨b2, 2, none⟩ = some (Value.int IntKind.u64 ((x.c).toNat : Int)) ∧ W.cell? ⟨b2, 3, none⟩ = some (Value.int IntKind.u64 ((x.d).toNat : Int)) ∧ W.cell? ⟨b3, 0, none⟩ = some (Value.int IntKind.u64 ((y.a).toNat : Int)) ∧ W.cell? ⟨b3, 1, none⟩ = some (Value.int IntKind.u64 ((y.b).toNat : Int)) ∧ W.cell? ⟨b3, 2, none⟩ = some (Value.int IntKind.u64 ((y.c).toNat : Int)) ∧ W.cell? ⟨b3, 3, none⟩ = some (Value.int IntKind.u64 ((y.d).toNat : Int)) ∧ W.cell? ⟨b4, 0, none⟩ = some (Value.int IntKind.u64 ((z.a).toNat : Int)) ∧ W.cell? ⟨b4, 1, none⟩ = some (Value.int IntKind.u64 ((z.b).toNat : Int)) ∧ W.cell? ⟨b4, 2, none⟩ = some (Value.int IntKind.u64 ((z.c).toNat : Int)) ∧ W.cell? ⟨b4, 3, none⟩ = some (Value.int IntKind.u64 ((z.d).toNat : Int)) :=
  ⟨h.1.2.1, h.1.2.2.1, h.1.2.2.2.1, h.1.2.2.2.2, h.2.1.2.1, h.2.1.2.2.1, h.2.1.2.2.2.1, h.2.1.2.2.2.2, h.2.2.1.2.1, h.2.2.1.2.2.1, h.2.2.1.2.2.2.1, h.2.2.1.2.2.2.2, h.2.2.2.1.2.1, h.2.2.2.1.2.2.1, h.2.2.2.1.2.2.2.1, h.2.2.2.1.2.2.2.2⟩

theorem dig_lies {b : Nat} {q : Qd} {W : World} (h : Dig b q W) : Lies b 0 [.int .u64 ((q.a).toNat : Int), .int .u64 ((q.b).toNat : Int), .int .u64 ((q.c).toNat : Int), .int .u64 ((q.d).toNat : Int)] W := by
  obtain ⟨-, a0, a1, a2, a3⟩ := h
  intro j v hj
  have hl : j < 4 := (List.getElem?_eq_some_iff.1 hj).1
  obtain rfl | rfl | rfl | rfl : j = 0 ∨ j = 1 ∨ j = 2 ∨ j = 3 := by omega
  all_goals (injection hj with hj; subst hj; assumption)
set_option maxRecDepth 20000 in
theorem agg_hd : AggTy 25 4 := ⟨⟨_, Try.underlying25, rfl⟩, by kernel_rfl⟩
theorem run_load_op' {a : Act} {dst : Option Tmp} {ty ty2 : TypeId} {x : Operand} {pos : String} {after : Array Edge} {g : Option (Nat × Bool)} {n : Nat} {w : World}
    (hty : AggTy ty n) (b k : Nat) (vs : List Value) (hn : vs.length = n) (hx : a.eval x = .pointer (some ⟨b, k, none⟩)) (hl : Lies b k vs w) :
    (execOp a.eval ⟨dst, .load ty x, ty2, pos, after, g⟩).run Try.prog w = .ok (.value (.agg vs.toArray)) w := by
  obtain ⟨⟨d, hu, hd⟩, hi⟩ := hty
  unfold execOp
  simp only [hx, Instr.loadAt, Instr.sureAddr, Sem.run_bind, Sem.run_pure, Result.andThen_ok, run_lv ty b k vs w d hd hu (by rw [hn]; exact hi) hl]
theorem str_beq (a b : ByteArray) (c : Bool) (hb : a = b ↔ c = true) : (a.toList == b.toList) = c := by
  cases c with
  | true => rw [hb.2 rfl]; simp
  | false =>
    rw [beq_eq_false_iff_ne]
    intro e
    have e2 : a = b := by
      rw [ByteArray.toList_eq, ByteArray.toList_eq] at e
      exact ByteArray.ext (Array.toList_inj.1 e)
    exact absurd (hb.1 e2) (by decide)
set_option maxRecDepth 20000 in
set_option maxHeartbeats 4000000 in
theorem lawApart (v : Value) (L : List UInt8) (w : World) (hV : Byt w v L) :
    Calls Try.prog 3 #[v] w fun e w' => e = .returned (.bool true) ∧ Below w.heap.size w w' := by
  obtain ⟨oa, cap, hv⟩ : ∃ a cap, v = .slice a L.length cap := by
    rcases hV with ⟨rfl, rfl⟩ | ⟨a, cap, rfl, _⟩
    · exact ⟨none, 0, rfl⟩
    · exact ⟨some a, cap, rfl⟩
  by_cases hbig : 1048576 < L.length
  · have hbI : (1048576 : Int) < (L.length : Int) := by omega
    subst hv
    clear hV
    go_enter Try.func3, Try.ntmps3
    go_wp2_with fail
    go_ret
    exact ⟨rfl, Below.refl _ _⟩
  · have hbI : ¬ (1048576 : Int) < (L.length : Int) := by omega
    have hL : L.length ≤ 1048576 := by omega
    have kb := fun (W : World) (u : Value) (M : List UInt8) (h : Byt W u M) => drawBlock_is W u M h
    have km := fun (W : World) (k : UInt8) (h : Byt W v L) => more_is W v L k h hL
    subst hv
    go_enter Try.func3, Try.ntmps3
    go_wp2_with (first
      | (go_at_call 5; refine (km _ 3 (hV.call B1)).mono ?_; rintro e w2 ⟨v2, rfl, hV2, hb2⟩; have B2 := below_after B1 hb2 B1.size; have X2 := X1.call hb2; have S2 := S1.call hb2)
      | (have hh := hV2; go_at_call 4; refine (kb _ _ _ hV2).mono ?_; rintro e w3 ⟨y, z, rfl, hb3⟩; have B3 := below_after B2 hb3 B2.size; have X3 := X2.call hb3; have S3 := S2.call hb3)
      | (go_at_call 4; refine (kb _ _ _ hV).mono ?_; rintro e w1 ⟨s, x, rfl, hb1⟩; have B1 : Below w.heap.size w ((w1.alloc (.cells #[Value.int IntKind.u64 ((s).a.toNat : Int), Value.int IntKind.u64 ((s).b.toNat : Int), Value.int IntKind.u64 ((s).c.toNat : Int), Value.int IntKind.u64 ((s).d.toNat : Int)] 25)).alloc (.cells #[Value.int IntKind.u64 ((x).a.toNat : Int), Value.int IntKind.u64 ((x).b.toNat : Int), Value.int IntKind.u64 ((x).c.toNat : Int), Value.int IntKind.u64 ((x).d.toNat : Int)] 25)) := ((hb1.alloc hb1.size _).alloc (by have := hb1.size; simp only [World.size_alloc]; omega) _); have S1 : Dig w1.heap.size s ((w1.alloc (.cells #[Value.int IntKind.u64 ((s).a.toNat : Int), Value.int IntKind.u64 ((s).b.toNat : Int), Value.int IntKind.u64 ((s).c.toNat : Int), Value.int IntKind.u64 ((s).d.toNat : Int)] 25)).alloc (.cells #[Value.int IntKind.u64 ((x).a.toNat : Int), Value.int IntKind.u64 ((x).b.toNat : Int), Value.int IntKind.u64 ((x).c.toNat : Int), Value.int IntKind.u64 ((x).d.toNat : Int)] 25)) := (Dig.new w1 s).alloc _; have X1 : Dig (w1.heap.size + 1) x ((w1.alloc (.cells #[Value.int IntKind.u64 ((s).a.toNat : Int), Value.int IntKind.u64 ((s).b.toNat : Int), Value.int IntKind.u64 ((s).c.toNat : Int), Value.int IntKind.u64 ((s).d.toNat : Int)] 25)).alloc (.cells #[Value.int IntKind.u64 ((x).a.toNat : Int), Value.int IntKind.u64 ((x).b.toNat : Int), Value.int IntKind.u64 ((x).c.toNat : Int), Value.int IntKind.u64 ((x).d.toNat : Int)] 25)) := (by have := Dig.new (w1.alloc (.cells #[Value.int IntKind.u64 ((s).a.toNat : Int), Value.int IntKind.u64 ((s).b.toNat : Int), Value.int IntKind.u64 ((s).c.toNat : Int), Value.int IntKind.u64 ((s).d.toNat : Int)] 25)) x; rwa [World.size_alloc] at this)))
    have hD0 : D4 w w1.heap.size (w1.heap.size + 1) w3.heap.size (w3.heap.size + 1) s x y z ((w3.alloc (.cells #[Value.int IntKind.u64 ((y).a.toNat : Int), Value.int IntKind.u64 ((y).b.toNat : Int), Value.int IntKind.u64 ((y).c.toNat : Int), Value.int IntKind.u64 ((y).d.toNat : Int)] 25)).alloc (.cells #[Value.int IntKind.u64 ((z).a.toNat : Int), Value.int IntKind.u64 ((z).b.toNat : Int), Value.int IntKind.u64 ((z).c.toNat : Int), Value.int IntKind.u64 ((z).d.toNat : Int)] 25)) :=
      ⟨(S3.alloc _).alloc _, (X3.alloc _).alloc _, (Dig.new w3 y).alloc _, (by have := Dig.new (w3.alloc (.cells #[Value.int IntKind.u64 ((y).a.toNat : Int), Value.int IntKind.u64 ((y).b.toNat : Int), Value.int IntKind.u64 ((y).c.toNat : Int), Value.int IntKind.u64 ((y).d.toNat : Int)] 25)) z; rwa [World.size_alloc] at this), (B3.alloc B3.size _).alloc (by have := B3.size; simp only [World.size_alloc]; omega) _⟩
    have hV0 := fun (W : World) (h : Below w.heap.size w W) => hV.call h
    clear S1 S2 S3 X1 X2 X3 B1 B2 B3 hb1 hb2 hb3 hV hV2 kb
    obtain ⟨b, hb⟩ : ∃ b : Bool, x = y ↔ b = true := by by_cases e : x = y; exact ⟨true, by simp [e]⟩; exact ⟨false, by simp [e]⟩
    obtain ⟨c, hc⟩ : ∃ c : Bool, x = z ↔ c = true := by by_cases e : x = z; exact ⟨true, by simp [e]⟩; exact ⟨false, by simp [e]⟩
    have e1 := fun W : World => run_eql_dig (HB s x) (HB s y) b (by rw [← hb]; exact ⟨HB_inj, fun e => by rw [e]⟩) W
    have e2 := fun W : World => run_eql_dig x y b hb W
    have e3 := fun W : World => run_eql_dig (HB s x) (HB s z) c (by rw [← hc]; exact ⟨HB_inj, fun e => by rw [e]⟩) W
    have e4 := fun W : World => run_eql_dig x z c hc W
    have i1 := fun (q : Qd) (W : World) => hb_impl s q W
    have i4 := fun (q : Qd) (W : World) => hb_spec s q W
    generalize HB s = f at e1 e3 i1 i4
    clear hb hc
    generalize ((w3.alloc (.cells #[Value.int IntKind.u64 ((y).a.toNat : Int), Value.int IntKind.u64 ((y).b.toNat : Int), Value.int IntKind.u64 ((y).c.toNat : Int), Value.int IntKind.u64 ((y).d.toNat : Int)] 25)).alloc (.cells #[Value.int IntKind.u64 ((z).a.toNat : Int), Value.int IntKind.u64 ((z).b.toNat : Int), Value.int IntKind.u64 ((z).c.toNat : Int), Value.int IntKind.u64 ((z).d.toNat : Int)] 25)) = W5 at hD0 ⊢
    have hD := hD0.drew
    have hz5 : w1.heap.size + 1 < W5.heap.size := hD0.2.1.1
    have hD0' : D4 w w1.heap.size (w1.heap.size + 1) w3.heap.size (w3.heap.size + 1) s x y z W5.drew := hD
    refine wp_region_held_drew (S := fun w' => Lies w1.heap.size 0 [.int .u64 ((s.a).toNat : Int), .int .u64 ((s.b).toNat : Int), .int .u64 ((s.c).toNat : Int), .int .u64 ((s.d).toNat : Int)] w' ∧ Lies (w1.heap.size + 1) 0 [.int .u64 ((x.a).toNat : Int), .int .u64 ((x.b).toNat : Int), .int .u64 ((x.c).toNat : Int), .int .u64 ((x.d).toNat : Int)] w' ∧ Lies w3.heap.size 0 [.int .u64 ((y.a).toNat : Int), .int .u64 ((y.b).toNat : Int), .int .u64 ((y.c).toNat : Int), .int .u64 ((y.d).toNat : Int)] w' ∧ Lies (w3.heap.size + 1) 0 [.int .u64 ((z.a).toNat : Int), .int .u64 ((z.b).toNat : Int), .int .u64 ((z.c).toNat : Int), .int .u64 ((z.d).toNat : Int)] w') (by kernel_rfl) ⟨dig_lies hD.1, dig_lies hD.2.1, dig_lies hD.2.2.1, dig_lies hD.2.2.2.1⟩ (fun hHeld => ?_)
    refine wpAnyH_take (i := 0) (oi := { dst := some 24, op := Op.load 25 (Operand.tmp 3), type := 25, pos := "laws.go:161", after := #[], guard := none }) (v := .agg #[.int .u64 ((s.a).toNat : Int), .int .u64 ((s.b).toNat : Int), .int .u64 ((s.c).toNat : Int), .int .u64 ((s.d).toNat : Int)]) rfl (by kernel_rfl) (by kernel_rfl) (by kernel_rfl) (fun _ _ _ h => h) (Or.inl ⟨by rfl, ?_⟩) (by assumption) ?_
    · (intro wq hq; exact run_load_op' agg_hd w1.heap.size 0 [.int .u64 ((s.a).toNat : Int), .int .u64 ((s.b).toNat : Int), .int .u64 ((s.c).toNat : Int), .int .u64 ((s.d).toNat : Int)] (by kernel_rfl) (by kernel_rfl) hq.1)
    try simp only [Act.put, List.setIfInBounds_toArray, List.set_cons_zero, List.set_cons_succ]
    refine wpAnyH_take (i := 1) (oi := { dst := some 25, op := Op.load 25 (Operand.tmp 4), type := 25, pos := "laws.go:161", after := #[], guard := none }) (v := .agg #[.int .u64 ((x.a).toNat : Int), .int .u64 ((x.b).toNat : Int), .int .u64 ((x.c).toNat : Int), .int .u64 ((x.d).toNat : Int)]) rfl (by kernel_rfl) (by kernel_rfl) (by kernel_rfl) (fun _ _ _ h => h) (Or.inl ⟨by rfl, ?_⟩) (by assumption) ?_
    · (intro wq hq; exact run_load_op' agg_hd (w1.heap.size + 1) 0 [.int .u64 ((x.a).toNat : Int), .int .u64 ((x.b).toNat : Int), .int .u64 ((x.c).toNat : Int), .int .u64 ((x.d).toNat : Int)] (by kernel_rfl) (by kernel_rfl) hq.2.1)
    try simp only [Act.put, List.setIfInBounds_toArray, List.set_cons_zero, List.set_cons_succ]
    refine wpAnyH_take (i := 3) (oi := { dst := some 27, op := Op.load 25 (Operand.tmp 3), type := 25, pos := "laws.go:161", after := #[], guard := none }) (v := .agg #[.int .u64 ((s.a).toNat : Int), .int .u64 ((s.b).toNat : Int), .int .u64 ((s.c).toNat : Int), .int .u64 ((s.d).toNat : Int)]) rfl (by kernel_rfl) (by kernel_rfl) (by kernel_rfl) (fun _ _ _ h => h) (Or.inl ⟨by rfl, ?_⟩) (by assumption) ?_
    · (intro wq hq; exact run_load_op' agg_hd w1.heap.size 0 [.int .u64 ((s.a).toNat : Int), .int .u64 ((s.b).toNat : Int), .int .u64 ((s.c).toNat : Int), .int .u64 ((s.d).toNat : Int)] (by kernel_rfl) (by kernel_rfl) hq.1)
    try simp only [Act.put, List.setIfInBounds_toArray, List.set_cons_zero, List.set_cons_succ]
    refine wpAnyH_take (i := 4) (oi := { dst := some 28, op := Op.load 25 (Operand.tmp 4), type := 25, pos := "laws.go:161", after := #[], guard := none }) (v := .agg #[.int .u64 ((x.a).toNat : Int), .int .u64 ((x.b).toNat : Int), .int .u64 ((x.c).toNat : Int), .int .u64 ((x.d).toNat : Int)]) rfl (by kernel_rfl) (by kernel_rfl) (by kernel_rfl) (fun _ _ _ h => h) (Or.inl ⟨by rfl, ?_⟩) (by assumption) ?_
    · (intro wq hq; exact run_load_op' agg_hd (w1.heap.size + 1) 0 [.int .u64 ((x.a).toNat : Int), .int .u64 ((x.b).toNat : Int), .int .u64 ((x.c).toNat : Int), .int .u64 ((x.d).toNat : Int)] (by kernel_rfl) (by kernel_rfl) hq.2.1)
    try simp only [Act.put, List.setIfInBounds_toArray, List.set_cons_zero, List.set_cons_succ]
    refine wpAnyH_ready (rs := [2]) (by kernel_rfl) (by simp) ?_
    refine AllReadyH.cons (o := { dst := some 26, op := Op.call { callee := Callee.value (Operand.func 6), args := #[Operand.tmp 24, Operand.tmp 25], argTypes := #[25, 25] }, type := 25, pos := "laws.go:161", after := #[{ on := 0, ground := Ground.data }, { on := 1, ground := Ground.data }], guard := none }) rfl (fun K hK => ?_) AllReadyH.nil
    go_simp
    go_at_call 6
    refine (i1 _ _).mono ?_
    rintro e wn1 ⟨rfl, hbn1⟩
    have hD1 := hD.call hbn1
    go_simp
    refine hK.out _ _ ⟨dig_lies hD1.1, dig_lies hD1.2.1, dig_lies hD1.2.2.1, dig_lies hD1.2.2.2.1⟩ (fun hHeld => ?_)
    clear hK K
    as_aux_lemma =>
    refine wpAnyH_ready (rs := [5]) (by kernel_rfl) (by simp) ?_
    refine AllReadyH.cons (o := { dst := some 29, op := Op.call { callee := Callee.value (Operand.func 7), args := #[Operand.tmp 27, Operand.tmp 28], argTypes := #[25, 25] }, type := 25, pos := "laws.go:161", after := #[{ on := 3, ground := Ground.data }, { on := 4, ground := Ground.data }, { on := 2, ground := Ground.chain }], guard := none }) rfl (fun K hK => ?_) AllReadyH.nil
    go_simp
    go_at_call 7
    refine (i4 _ _).mono ?_
    rintro e wn2 ⟨rfl, hbn2⟩
    have hD2 := hD1.call hbn2
    go_simp
    refine hK.out _ _ ⟨dig_lies hD2.1, dig_lies hD2.2.1, dig_lies hD2.2.2.1, dig_lies hD2.2.2.2.1⟩ (fun hHeld => ?_)
    clear hK K
    as_aux_lemma =>
    refine wpAnyH_take (i := 6) (oi := { dst := some 30, op := Op.binOp BinOp.neq 25 (Operand.tmp 26) (Operand.tmp 29) 25, type := 4, pos := "laws.go:161", after := #[{ on := 2, ground := Ground.data }, { on := 5, ground := Ground.data }], guard := none }) (v := .bool false) rfl (by kernel_rfl) (by kernel_rfl) (by kernel_rfl) (fun _ _ _ h => h) (Or.inl ⟨by rfl, ?_⟩) (by assumption) ?_
    · (intro wq hq; go_simp)
    try simp only [Act.put, List.setIfInBounds_toArray, List.set_cons_zero, List.set_cons_succ]
    refine wpAnyH_take (i := 7) (oi := { dst := some 31, op := Op.move (Operand.tmp 30), type := 4, pos := "laws.go:161", after := #[{ on := 6, ground := Ground.data }, { on := 5, ground := Ground.chain }], guard := none }) (v := .bool false) rfl (by kernel_rfl) (by kernel_rfl) (by kernel_rfl) (fun _ _ _ h => h) (Or.inl ⟨by rfl, ?_⟩) (by assumption) ?_
    · (intro wq hq; go_simp)
    try simp only [Act.put, List.setIfInBounds_toArray, List.set_cons_zero, List.set_cons_succ]
    refine wpAnyH_take (i := 8) (oi := { dst := some 32, op := Op.load 25 (Operand.tmp 3), type := 25, pos := "laws.go:161", after := #[{ on := 7, ground := Ground.guard }], guard := some (7, false) }) (v := .agg #[.int .u64 ((s.a).toNat : Int), .int .u64 ((s.b).toNat : Int), .int .u64 ((s.c).toNat : Int), .int .u64 ((s.d).toNat : Int)]) rfl (by kernel_rfl) (by kernel_rfl) (by kernel_rfl) (fun _ _ _ h => h) (Or.inl ⟨by rfl, ?_⟩) (by assumption) ?_
    · (intro wq hq; exact run_load_op' agg_hd w1.heap.size 0 [.int .u64 ((s.a).toNat : Int), .int .u64 ((s.b).toNat : Int), .int .u64 ((s.c).toNat : Int), .int .u64 ((s.d).toNat : Int)] (by kernel_rfl) (by kernel_rfl) hq.1)
    try simp only [Act.put, List.setIfInBounds_toArray, List.set_cons_zero, List.set_cons_succ]
    refine wpAnyH_take (i := 9) (oi := { dst := some 33, op := Op.load 25 (Operand.tmp 4), type := 25, pos := "laws.go:161", after := #[{ on := 7, ground := Ground.guard }], guard := some (7, false) }) (v := .agg #[.int .u64 ((x.a).toNat : Int), .int .u64 ((x.b).toNat : Int), .int .u64 ((x.c).toNat : Int), .int .u64 ((x.d).toNat : Int)]) rfl (by kernel_rfl) (by kernel_rfl) (by kernel_rfl) (fun _ _ _ h => h) (Or.inl ⟨by rfl, ?_⟩) (by assumption) ?_
    · (intro wq hq; exact run_load_op' agg_hd (w1.heap.size + 1) 0 [.int .u64 ((x.a).toNat : Int), .int .u64 ((x.b).toNat : Int), .int .u64 ((x.c).toNat : Int), .int .u64 ((x.d).toNat : Int)] (by kernel_rfl) (by kernel_rfl) hq.2.1)
    try simp only [Act.put, List.setIfInBounds_toArray, List.set_cons_zero, List.set_cons_succ]
    refine wpAnyH_take (i := 11) (oi := { dst := some 35, op := Op.load 25 (Operand.tmp 3), type := 25, pos := "laws.go:161", after := #[{ on := 7, ground := Ground.guard }], guard := some (7, false) }) (v := .agg #[.int .u64 ((s.a).toNat : Int), .int .u64 ((s.b).toNat : Int), .int .u64 ((s.c).toNat : Int), .int .u64 ((s.d).toNat : Int)]) rfl (by kernel_rfl) (by kernel_rfl) (by kernel_rfl) (fun _ _ _ h => h) (Or.inl ⟨by rfl, ?_⟩) (by assumption) ?_
    · (intro wq hq; exact run_load_op' agg_hd w1.heap.size 0 [.int .u64 ((s.a).toNat : Int), .int .u64 ((s.b).toNat : Int), .int .u64 ((s.c).toNat : Int), .int .u64 ((s.d).toNat : Int)] (by kernel_rfl) (by kernel_rfl) hq.1)
    try simp only [Act.put, List.setIfInBounds_toArray, List.set_cons_zero, List.set_cons_succ]
    refine wpAnyH_take (i := 12) (oi := { dst := some 36, op := Op.load 25 (Operand.tmp 5), type := 25, pos := "laws.go:161", after := #[{ on := 7, ground := Ground.guard }], guard := some (7, false) }) (v := .agg #[.int .u64 ((y.a).toNat : Int), .int .u64 ((y.b).toNat : Int), .int .u64 ((y.c).toNat : Int), .int .u64 ((y.d).toNat : Int)]) rfl (by kernel_rfl) (by kernel_rfl) (by kernel_rfl) (fun _ _ _ h => h) (Or.inl ⟨by rfl, ?_⟩) (by assumption) ?_
    · (intro wq hq; exact run_load_op' agg_hd w3.heap.size 0 [.int .u64 ((y.a).toNat : Int), .int .u64 ((y.b).toNat : Int), .int .u64 ((y.c).toNat : Int), .int .u64 ((y.d).toNat : Int)] (by kernel_rfl) (by kernel_rfl) hq.2.2.1)
    try simp only [Act.put, List.setIfInBounds_toArray, List.set_cons_zero, List.set_cons_succ]
    refine wpAnyH_take (i := 15) (oi := { dst := some 39, op := Op.load 25 (Operand.tmp 4), type := 25, pos := "laws.go:161", after := #[{ on := 7, ground := Ground.guard }], guard := some (7, false) }) (v := .agg #[.int .u64 ((x.a).toNat : Int), .int .u64 ((x.b).toNat : Int), .int .u64 ((x.c).toNat : Int), .int .u64 ((x.d).toNat : Int)]) rfl (by kernel_rfl) (by kernel_rfl) (by kernel_rfl) (fun _ _ _ h => h) (Or.inl ⟨by rfl, ?_⟩) (by assumption) ?_
    · (intro wq hq; exact run_load_op' agg_hd (w1.heap.size + 1) 0 [.int .u64 ((x.a).toNat : Int), .int .u64 ((x.b).toNat : Int), .int .u64 ((x.c).toNat : Int), .int .u64 ((x.d).toNat : Int)] (by kernel_rfl) (by kernel_rfl) hq.2.1)
    try simp only [Act.put, List.setIfInBounds_toArray, List.set_cons_zero, List.set_cons_succ]
    refine wpAnyH_take (i := 16) (oi := { dst := some 40, op := Op.load 25 (Operand.tmp 5), type := 25, pos := "laws.go:161", after := #[{ on := 7, ground := Ground.guard }], guard := some (7, false) }) (v := .agg #[.int .u64 ((y.a).toNat : Int), .int .u64 ((y.b).toNat : Int), .int .u64 ((y.c).toNat : Int), .int .u64 ((y.d).toNat : Int)]) rfl (by kernel_rfl) (by kernel_rfl) (by kernel_rfl) (fun _ _ _ h => h) (Or.inl ⟨by rfl, ?_⟩) (by assumption) ?_
    · (intro wq hq; exact run_load_op' agg_hd w3.heap.size 0 [.int .u64 ((y.a).toNat : Int), .int .u64 ((y.b).toNat : Int), .int .u64 ((y.c).toNat : Int), .int .u64 ((y.d).toNat : Int)] (by kernel_rfl) (by kernel_rfl) hq.2.2.1)
    try simp only [Act.put, List.setIfInBounds_toArray, List.set_cons_zero, List.set_cons_succ]
    refine wpAnyH_take (i := 17) (oi := { dst := some 41, op := Op.binOp BinOp.eql 25 (Operand.tmp 39) (Operand.tmp 40) 25, type := 4, pos := "laws.go:161", after := #[{ on := 15, ground := Ground.data }, { on := 16, ground := Ground.data }, { on := 7, ground := Ground.guard }], guard := some (7, false) }) (v := .bool b) rfl (by kernel_rfl) (by kernel_rfl) (by kernel_rfl) (fun _ _ _ h => h) (Or.inl ⟨by rfl, ?_⟩) (by assumption) ?_
    · (intro wq hq; go_simp)
    try simp only [Act.put, List.setIfInBounds_toArray, List.set_cons_zero, List.set_cons_succ]
    refine wpAnyH_ready (rs := [10]) (by kernel_rfl) (by simp) ?_
    refine AllReadyH.cons (o := { dst := some 34, op := Op.call { callee := Callee.value (Operand.func 6), args := #[Operand.tmp 32, Operand.tmp 33], argTypes := #[25, 25] }, type := 25, pos := "laws.go:161", after := #[{ on := 8, ground := Ground.data }, { on := 9, ground := Ground.data }, { on := 7, ground := Ground.chain }, { on := 7, ground := Ground.guard }], guard := some (7, false) }) rfl (fun K hK => ?_) AllReadyH.nil
    rw [if_pos (by rfl)]
    go_simp
    go_at_call 6
    refine (i1 _ _).mono ?_
    rintro e wn3 ⟨rfl, hbn3⟩
    have hD3 := hD2.call hbn3
    go_simp
    refine hK.out _ _ ⟨dig_lies hD3.1, dig_lies hD3.2.1, dig_lies hD3.2.2.1, dig_lies hD3.2.2.2.1⟩ (fun hHeld => ?_)
    clear hK K
    as_aux_lemma =>
    refine wpAnyH_ready (rs := [13]) (by kernel_rfl) (by simp) ?_
    refine AllReadyH.cons (o := { dst := some 37, op := Op.call { callee := Callee.value (Operand.func 6), args := #[Operand.tmp 35, Operand.tmp 36], argTypes := #[25, 25] }, type := 25, pos := "laws.go:161", after := #[{ on := 11, ground := Ground.data }, { on := 12, ground := Ground.data }, { on := 10, ground := Ground.chain }, { on := 7, ground := Ground.guard }], guard := some (7, false) }) rfl (fun K hK => ?_) AllReadyH.nil
    rw [if_pos (by rfl)]
    go_simp
    go_at_call 6
    refine (i1 _ _).mono ?_
    rintro e wn4 ⟨rfl, hbn4⟩
    have hD4 := hD3.call hbn4
    go_simp
    refine hK.out _ _ ⟨dig_lies hD4.1, dig_lies hD4.2.1, dig_lies hD4.2.2.1, dig_lies hD4.2.2.2.1⟩ (fun hHeld => ?_)
    clear hK K
    as_aux_lemma =>
    refine wpAnyH_take (i := 14) (oi := { dst := some 38, op := Op.binOp BinOp.eql 25 (Operand.tmp 34) (Operand.tmp 37) 25, type := 4, pos := "laws.go:161", after := #[{ on := 10, ground := Ground.data }, { on := 13, ground := Ground.data }, { on := 7, ground := Ground.guard }], guard := some (7, false) }) (v := .bool b) rfl (by kernel_rfl) (by kernel_rfl) (by kernel_rfl) (fun _ _ _ h => h) (Or.inl ⟨by rfl, ?_⟩) (by assumption) ?_
    · (intro wq hq; go_simp)
    try simp only [Act.put, List.setIfInBounds_toArray, List.set_cons_zero, List.set_cons_succ]
    refine wpAnyH_take (i := 18) (oi := { dst := some 42, op := Op.binOp BinOp.neq 4 (Operand.tmp 38) (Operand.tmp 41) 4, type := 4, pos := "laws.go:161", after := #[{ on := 14, ground := Ground.data }, { on := 17, ground := Ground.data }, { on := 7, ground := Ground.guard }], guard := some (7, false) }) (v := .bool false) rfl (by kernel_rfl) (by kernel_rfl) (by kernel_rfl) (fun _ _ _ h => h) (Or.inl ⟨by rfl, ?_⟩) (by assumption) ?_
    · (intro wq hq; go_simp)
    try simp only [Act.put, List.setIfInBounds_toArray, List.set_cons_zero, List.set_cons_succ]
    refine wpAnyH_take (i := 19) (oi := { dst := some 43, op := Op.pick (Operand.tmp 31) (Operand.const (Value.bool true)) (Operand.tmp 42), type := 4, pos := "laws.go:161", after := #[{ on := 7, ground := Ground.data }, { on := 18, ground := Ground.data }], guard := none }) (v := .bool false) rfl (by kernel_rfl) (by kernel_rfl) (by kernel_rfl) (fun _ _ _ h => h) (Or.inl ⟨by rfl, ?_⟩) (by assumption) ?_
    · (intro wq hq; go_simp)
    try simp only [Act.put, List.setIfInBounds_toArray, List.set_cons_zero, List.set_cons_succ]
    refine wpAnyH_take (i := 20) (oi := { dst := some 44, op := Op.move (Operand.tmp 43), type := 4, pos := "laws.go:161", after := #[{ on := 19, ground := Ground.data }, { on := 13, ground := Ground.chain }], guard := none }) (v := .bool false) rfl (by kernel_rfl) (by kernel_rfl) (by kernel_rfl) (fun _ _ _ h => h) (Or.inl ⟨by rfl, ?_⟩) (by assumption) ?_
    · (intro wq hq; go_simp)
    try simp only [Act.put, List.setIfInBounds_toArray, List.set_cons_zero, List.set_cons_succ]
    refine wpAnyH_take (i := 21) (oi := { dst := some 45, op := Op.load 25 (Operand.tmp 3), type := 25, pos := "laws.go:161", after := #[{ on := 20, ground := Ground.guard }], guard := some (20, false) }) (v := .agg #[.int .u64 ((s.a).toNat : Int), .int .u64 ((s.b).toNat : Int), .int .u64 ((s.c).toNat : Int), .int .u64 ((s.d).toNat : Int)]) rfl (by kernel_rfl) (by kernel_rfl) (by kernel_rfl) (fun _ _ _ h => h) (Or.inl ⟨by rfl, ?_⟩) (by assumption) ?_
    · (intro wq hq; exact run_load_op' agg_hd w1.heap.size 0 [.int .u64 ((s.a).toNat : Int), .int .u64 ((s.b).toNat : Int), .int .u64 ((s.c).toNat : Int), .int .u64 ((s.d).toNat : Int)] (by kernel_rfl) (by kernel_rfl) hq.1)
    try simp only [Act.put, List.setIfInBounds_toArray, List.set_cons_zero, List.set_cons_succ]
    refine wpAnyH_take (i := 22) (oi := { dst := some 46, op := Op.load 25 (Operand.tmp 4), type := 25, pos := "laws.go:161", after := #[{ on := 20, ground := Ground.guard }], guard := some (20, false) }) (v := .agg #[.int .u64 ((x.a).toNat : Int), .int .u64 ((x.b).toNat : Int), .int .u64 ((x.c).toNat : Int), .int .u64 ((x.d).toNat : Int)]) rfl (by kernel_rfl) (by kernel_rfl) (by kernel_rfl) (fun _ _ _ h => h) (Or.inl ⟨by rfl, ?_⟩) (by assumption) ?_
    · (intro wq hq; exact run_load_op' agg_hd (w1.heap.size + 1) 0 [.int .u64 ((x.a).toNat : Int), .int .u64 ((x.b).toNat : Int), .int .u64 ((x.c).toNat : Int), .int .u64 ((x.d).toNat : Int)] (by kernel_rfl) (by kernel_rfl) hq.2.1)
    try simp only [Act.put, List.setIfInBounds_toArray, List.set_cons_zero, List.set_cons_succ]
    refine wpAnyH_take (i := 24) (oi := { dst := some 48, op := Op.load 25 (Operand.tmp 3), type := 25, pos := "laws.go:161", after := #[{ on := 20, ground := Ground.guard }], guard := some (20, false) }) (v := .agg #[.int .u64 ((s.a).toNat : Int), .int .u64 ((s.b).toNat : Int), .int .u64 ((s.c).toNat : Int), .int .u64 ((s.d).toNat : Int)]) rfl (by kernel_rfl) (by kernel_rfl) (by kernel_rfl) (fun _ _ _ h => h) (Or.inl ⟨by rfl, ?_⟩) (by assumption) ?_
    · (intro wq hq; exact run_load_op' agg_hd w1.heap.size 0 [.int .u64 ((s.a).toNat : Int), .int .u64 ((s.b).toNat : Int), .int .u64 ((s.c).toNat : Int), .int .u64 ((s.d).toNat : Int)] (by kernel_rfl) (by kernel_rfl) hq.1)
    try simp only [Act.put, List.setIfInBounds_toArray, List.set_cons_zero, List.set_cons_succ]
    refine wpAnyH_take (i := 25) (oi := { dst := some 49, op := Op.load 25 (Operand.tmp 6), type := 25, pos := "laws.go:161", after := #[{ on := 20, ground := Ground.guard }], guard := some (20, false) }) (v := .agg #[.int .u64 ((z.a).toNat : Int), .int .u64 ((z.b).toNat : Int), .int .u64 ((z.c).toNat : Int), .int .u64 ((z.d).toNat : Int)]) rfl (by kernel_rfl) (by kernel_rfl) (by kernel_rfl) (fun _ _ _ h => h) (Or.inl ⟨by rfl, ?_⟩) (by assumption) ?_
    · (intro wq hq; exact run_load_op' agg_hd (w3.heap.size + 1) 0 [.int .u64 ((z.a).toNat : Int), .int .u64 ((z.b).toNat : Int), .int .u64 ((z.c).toNat : Int), .int .u64 ((z.d).toNat : Int)] (by kernel_rfl) (by kernel_rfl) hq.2.2.2)
    try simp only [Act.put, List.setIfInBounds_toArray, List.set_cons_zero, List.set_cons_succ]
    refine wpAnyH_take (i := 28) (oi := { dst := some 52, op := Op.load 25 (Operand.tmp 4), type := 25, pos := "laws.go:161", after := #[{ on := 20, ground := Ground.guard }], guard := some (20, false) }) (v := .agg #[.int .u64 ((x.a).toNat : Int), .int .u64 ((x.b).toNat : Int), .int .u64 ((x.c).toNat : Int), .int .u64 ((x.d).toNat : Int)]) rfl (by kernel_rfl) (by kernel_rfl) (by kernel_rfl) (fun _ _ _ h => h) (Or.inl ⟨by rfl, ?_⟩) (by assumption) ?_
    · (intro wq hq; exact run_load_op' agg_hd (w1.heap.size + 1) 0 [.int .u64 ((x.a).toNat : Int), .int .u64 ((x.b).toNat : Int), .int .u64 ((x.c).toNat : Int), .int .u64 ((x.d).toNat : Int)] (by kernel_rfl) (by kernel_rfl) hq.2.1)
    try simp only [Act.put, List.setIfInBounds_toArray, List.set_cons_zero, List.set_cons_succ]
    refine wpAnyH_take (i := 29) (oi := { dst := some 53, op := Op.load 25 (Operand.tmp 6), type := 25, pos := "laws.go:161", after := #[{ on := 20, ground := Ground.guard }], guard := some (20, false) }) (v := .agg #[.int .u64 ((z.a).toNat : Int), .int .u64 ((z.b).toNat : Int), .int .u64 ((z.c).toNat : Int), .int .u64 ((z.d).toNat : Int)]) rfl (by kernel_rfl) (by kernel_rfl) (by kernel_rfl) (fun _ _ _ h => h) (Or.inl ⟨by rfl, ?_⟩) (by assumption) ?_
    · (intro wq hq; exact run_load_op' agg_hd (w3.heap.size + 1) 0 [.int .u64 ((z.a).toNat : Int), .int .u64 ((z.b).toNat : Int), .int .u64 ((z.c).toNat : Int), .int .u64 ((z.d).toNat : Int)] (by kernel_rfl) (by kernel_rfl) hq.2.2.2)
    try simp only [Act.put, List.setIfInBounds_toArray, List.set_cons_zero, List.set_cons_succ]
    refine wpAnyH_take (i := 30) (oi := { dst := some 54, op := Op.binOp BinOp.eql 25 (Operand.tmp 52) (Operand.tmp 53) 25, type := 4, pos := "laws.go:161", after := #[{ on := 28, ground := Ground.data }, { on := 29, ground := Ground.data }, { on := 20, ground := Ground.guard }], guard := some (20, false) }) (v := .bool c) rfl (by kernel_rfl) (by kernel_rfl) (by kernel_rfl) (fun _ _ _ h => h) (Or.inl ⟨by rfl, ?_⟩) (by assumption) ?_
    · (intro wq hq; go_simp)
    try simp only [Act.put, List.setIfInBounds_toArray, List.set_cons_zero, List.set_cons_succ]
    refine wpAnyH_ready (rs := [23]) (by kernel_rfl) (by simp) ?_
    refine AllReadyH.cons (o := { dst := some 47, op := Op.call { callee := Callee.value (Operand.func 6), args := #[Operand.tmp 45, Operand.tmp 46], argTypes := #[25, 25] }, type := 25, pos := "laws.go:161", after := #[{ on := 21, ground := Ground.data }, { on := 22, ground := Ground.data }, { on := 20, ground := Ground.chain }, { on := 20, ground := Ground.guard }], guard := some (20, false) }) rfl (fun K hK => ?_) AllReadyH.nil
    rw [if_pos (by rfl)]
    go_simp
    go_at_call 6
    refine (i1 _ _).mono ?_
    rintro e wn5 ⟨rfl, hbn5⟩
    have hD5 := hD4.call hbn5
    go_simp
    refine hK.out _ _ ⟨dig_lies hD5.1, dig_lies hD5.2.1, dig_lies hD5.2.2.1, dig_lies hD5.2.2.2.1⟩ (fun hHeld => ?_)
    clear hK K
    as_aux_lemma =>
    refine wpAnyH_ready (rs := [26]) (by kernel_rfl) (by simp) ?_
    refine AllReadyH.cons (o := { dst := some 50, op := Op.call { callee := Callee.value (Operand.func 6), args := #[Operand.tmp 48, Operand.tmp 49], argTypes := #[25, 25] }, type := 25, pos := "laws.go:161", after := #[{ on := 24, ground := Ground.data }, { on := 25, ground := Ground.data }, { on := 23, ground := Ground.chain }, { on := 20, ground := Ground.guard }], guard := some (20, false) }) rfl (fun K hK => ?_) AllReadyH.nil
    rw [if_pos (by rfl)]
    go_simp
    go_at_call 6
    refine (i1 _ _).mono ?_
    rintro e wn6 ⟨rfl, hbn6⟩
    have hD6 := hD5.call hbn6
    go_simp
    refine hK.out _ _ ⟨dig_lies hD6.1, dig_lies hD6.2.1, dig_lies hD6.2.2.1, dig_lies hD6.2.2.2.1⟩ (fun hHeld => ?_)
    clear hK K
    as_aux_lemma =>
    refine wpAnyH_take (i := 27) (oi := { dst := some 51, op := Op.binOp BinOp.eql 25 (Operand.tmp 47) (Operand.tmp 50) 25, type := 4, pos := "laws.go:161", after := #[{ on := 23, ground := Ground.data }, { on := 26, ground := Ground.data }, { on := 20, ground := Ground.guard }], guard := some (20, false) }) (v := .bool c) rfl (by kernel_rfl) (by kernel_rfl) (by kernel_rfl) (fun _ _ _ h => h) (Or.inl ⟨by rfl, ?_⟩) (by assumption) ?_
    · (intro wq hq; go_simp)
    try simp only [Act.put, List.setIfInBounds_toArray, List.set_cons_zero, List.set_cons_succ]
    refine wpAnyH_take (i := 31) (oi := { dst := some 55, op := Op.binOp BinOp.neq 4 (Operand.tmp 51) (Operand.tmp 54) 4, type := 4, pos := "laws.go:161", after := #[{ on := 27, ground := Ground.data }, { on := 30, ground := Ground.data }, { on := 20, ground := Ground.guard }], guard := some (20, false) }) (v := .bool false) rfl (by kernel_rfl) (by kernel_rfl) (by kernel_rfl) (fun _ _ _ h => h) (Or.inl ⟨by rfl, ?_⟩) (by assumption) ?_
    · (intro wq hq; go_simp)
    try simp only [Act.put, List.setIfInBounds_toArray, List.set_cons_zero, List.set_cons_succ]
    refine wpAnyH_take (i := 32) (oi := { dst := some 56, op := Op.pick (Operand.tmp 44) (Operand.const (Value.bool true)) (Operand.tmp 55), type := 4, pos := "laws.go:161", after := #[{ on := 20, ground := Ground.data }, { on := 31, ground := Ground.data }], guard := none }) (v := .bool false) rfl (by kernel_rfl) (by kernel_rfl) (by kernel_rfl) (fun _ _ _ h => h) (Or.inl ⟨by rfl, ?_⟩) (by assumption) ?_
    · (intro wq hq; go_simp)
    try simp only [Act.put, List.setIfInBounds_toArray, List.set_cons_zero, List.set_cons_succ]
    refine wpAnyH_done (by kernel_rfl) ?_ _
    have B6 := hD6.2.2.2.2
    have hW6 := hV0 _ B6
    clear hD6 hD5 hD4 hD3 hD2 hD1 hD e1 e2 e3 e4 i1 i4 hbn1 hbn2 hbn3 hbn4 hbn5 hbn6
    go_upto_if 66 with (first
      | (go_at_call 5; refine (km _ 9 (hV0 _ B8)).mono ?_; rintro e w9 ⟨v9, rfl, hV9, hb9⟩; have B9 := below_after B8 hb9 B8.size)
      | (go_at_call 9; refine (drawOf_is _ _ _ hV9).mono ?_; rintro e w10 ⟨s2, hs2, rfl, hb10⟩; have B10 := below_after B9 hb10 B9.size)
      | (go_at_call 8; refine (bare_is _ s2 hs2).mono ?_; rintro e w11 ⟨rfl, hb11⟩; have B11 := below_after B10 hb11 B10.size)
      | (go_at_call 8; refine (bare_is _ s1 hs1).mono ?_; rintro e w8 ⟨rfl, hb8⟩; have B8 := below_after B7 hb8 B7.size)
      | (go_at_call 9; refine (drawOf_is _ _ _ hW6).mono ?_; rintro e w7 ⟨s1, hs1, rfl, hb7⟩; have B7 := below_after B6 hb7 B6.size))
    clear B6 B7 B8 B9 B10 hb7 hb8 hb9 hb10 hb11 hV9 hW6
    go_cut [7] from 66 to 68 (fun tv wx => ∃ T, tv = .string T ∧ Short T ∧ w11 = wx)
    case first =>
      go_wp2_with fail
      · go_meet
        exact ⟨_, rfl, short_cut _, rfl⟩
      · go_meet
        exact ⟨_, rfl, short_all _ (by rw [← size_list, list_str]; omega), rfl⟩
    case rest =>
      obtain ⟨T, rfl, hT, rfl⟩ := hcut
      go_upto_if 71 with fail
      go_cut [8] from 71 to 73 (fun tv wx => ∃ T, tv = .string T ∧ Short T ∧ w11 = wx)
      case first =>
        go_wp2_with fail
        · go_meet
          exact ⟨_, rfl, short_cut _, rfl⟩
        · go_meet
          exact ⟨_, rfl, short_all _ (by rw [← size_list, list_str]; omega), rfl⟩
      case rest =>
        obtain ⟨U, rfl, hU, rfl⟩ := hcut
        have hTs := hT.1
        go_upto_region 14 with (go_at_call 10; refine (at_is _ _ _ (hV0 _ B11) hL).mono ?_; rintro e w12 ⟨k0, hk0, rfl, hb12⟩; have B12 := below_after B11 hb12 B11.size)
        obtain ⟨k, hk, hkT⟩ : ∃ k : Nat, (k0 : Int) % ((T.size : Int) + 1) = (k : Int) ∧ k ≤ T.size :=
          ⟨k0 % (T.size + 1), (by simp [Int.natCast_emod]), (by have := Nat.mod_lt k0 (show 0 < T.size + 1 by omega); omega)⟩
        rw [hk]
        obtain ⟨d, hd⟩ : ∃ d : Bool, T = U ↔ d = true := by by_cases e : T = U; exact ⟨true, by simp [e]⟩; exact ⟨false, by simp [e]⟩
        have h1 := fun W : World => run_eql_dig (dg T) (dg U) d (hT.inj hU d hd) W
        have h2 := str_beq T U d hd
        have h3 := fun W : World => run_eql_dig (dg T) (dg T) true (by simp) W
        have cT := fun W : World => ho_impl_all T W
        have cU := fun W : World => ho_impl_all U W
        have cP := fun W : World => ho_impl_all (T.extract 0 k ++ ByteArray.mk #[255] ++ T.extract k T.size) W
        rw [hT.put k] at cP
        generalize dg T = dT at h1 h3 cT cP
        generalize dg U = dU at h1 cU
        clear hk hd hHeld hb12 B11 hV0 km hh hD0
        have HkT : Hid (k ≤ T.size) := hkT
        have B12 := B12.drew
        refine wp_region_held_drew (S := fun _ => True) (by kernel_rfl) trivial (fun hHeld => ?_)
        refine wpAnyH_take (i := 0) (oi := { dst := some 81, op := Op.move (Operand.tmp 7), type := 9, pos := "laws.go:173", after := #[], guard := none }) (v := .string T) rfl (by kernel_rfl) (by kernel_rfl) (by kernel_rfl) (fun _ _ _ h => h) (Or.inl ⟨by rfl, ?_⟩) (by assumption) ?_
        · (intro wq hq; go_simp)
        try simp only [Act.put, List.setIfInBounds_toArray, List.set_cons_zero, List.set_cons_succ]
        refine wpAnyH_take (i := 2) (oi := { dst := some 83, op := Op.move (Operand.tmp 8), type := 9, pos := "laws.go:173", after := #[], guard := none }) (v := .string U) rfl (by kernel_rfl) (by kernel_rfl) (by kernel_rfl) (fun _ _ _ h => h) (Or.inl ⟨by rfl, ?_⟩) (by assumption) ?_
        · (intro wq hq; go_simp)
        try simp only [Act.put, List.setIfInBounds_toArray, List.set_cons_zero, List.set_cons_succ]
        refine wpAnyH_take (i := 5) (oi := { dst := some 86, op := Op.move (Operand.tmp 7), type := 9, pos := "laws.go:173", after := #[], guard := none }) (v := .string T) rfl (by kernel_rfl) (by kernel_rfl) (by kernel_rfl) (fun _ _ _ h => h) (Or.inl ⟨by rfl, ?_⟩) (by assumption) ?_
        · (intro wq hq; go_simp)
        try simp only [Act.put, List.setIfInBounds_toArray, List.set_cons_zero, List.set_cons_succ]
        refine wpAnyH_take (i := 6) (oi := { dst := some 87, op := Op.move (Operand.tmp 8), type := 9, pos := "laws.go:173", after := #[], guard := none }) (v := .string U) rfl (by kernel_rfl) (by kernel_rfl) (by kernel_rfl) (fun _ _ _ h => h) (Or.inl ⟨by rfl, ?_⟩) (by assumption) ?_
        · (intro wq hq; go_simp)
        try simp only [Act.put, List.setIfInBounds_toArray, List.set_cons_zero, List.set_cons_succ]
        refine wpAnyH_take (i := 7) (oi := { dst := some 88, op := Op.binOp BinOp.eql 9 (Operand.tmp 86) (Operand.tmp 87) 9, type := 4, pos := "laws.go:173", after := #[{ on := 5, ground := Ground.data }, { on := 6, ground := Ground.data }], guard := none }) (v := .bool d) rfl (by kernel_rfl) (by kernel_rfl) (by kernel_rfl) (fun _ _ _ h => h) (Or.inl ⟨by rfl, ?_⟩) (by assumption) ?_
        · (intro wq hq; go_simp)
        try simp only [Act.put, List.setIfInBounds_toArray, List.set_cons_zero, List.set_cons_succ]
        refine wpAnyH_ready (rs := [1]) (by kernel_rfl) (by simp) ?_
        refine AllReadyH.cons (o := { dst := some 82, op := Op.call { callee := Callee.value (Operand.func 11), args := #[Operand.tmp 81], argTypes := #[9] }, type := 25, pos := "laws.go:173", after := #[{ on := 0, ground := Ground.data }], guard := none }) rfl (fun K hK => ?_) AllReadyH.nil
        go_simp
        go_at_call 11
        refine (cT _).mono ?_
        rintro e wq13 ⟨rfl, hbq13⟩
        have B13 := below_after B12 hbq13 B12.size
        go_simp
        refine hK.out _ _ trivial (fun hHeld => ?_)
        clear hK K
        as_aux_lemma =>
        refine wpAnyH_ready (rs := [3]) (by kernel_rfl) (by simp) ?_
        refine AllReadyH.cons (o := { dst := some 84, op := Op.call { callee := Callee.value (Operand.func 11), args := #[Operand.tmp 83], argTypes := #[9] }, type := 25, pos := "laws.go:173", after := #[{ on := 2, ground := Ground.data }, { on := 1, ground := Ground.chain }], guard := none }) rfl (fun K hK => ?_) AllReadyH.nil
        go_simp
        go_at_call 11
        refine (cU _).mono ?_
        rintro e wq14 ⟨rfl, hbq14⟩
        have B14 := below_after B13 hbq14 B13.size
        go_simp
        refine hK.out _ _ trivial (fun hHeld => ?_)
        clear hK K
        as_aux_lemma =>
        refine wpAnyH_take (i := 4) (oi := { dst := some 85, op := Op.binOp BinOp.eql 25 (Operand.tmp 82) (Operand.tmp 84) 25, type := 4, pos := "laws.go:173", after := #[{ on := 1, ground := Ground.data }, { on := 3, ground := Ground.data }], guard := none }) (v := .bool d) rfl (by kernel_rfl) (by kernel_rfl) (by kernel_rfl) (fun _ _ _ h => h) (Or.inl ⟨by rfl, ?_⟩) (by assumption) ?_
        · (intro wq hq; go_simp)
        try simp only [Act.put, List.setIfInBounds_toArray, List.set_cons_zero, List.set_cons_succ]
        refine wpAnyH_take (i := 8) (oi := { dst := some 89, op := Op.binOp BinOp.eql 4 (Operand.tmp 85) (Operand.tmp 88) 4, type := 4, pos := "laws.go:173", after := #[{ on := 4, ground := Ground.data }, { on := 7, ground := Ground.data }], guard := none }) (v := .bool true) rfl (by kernel_rfl) (by kernel_rfl) (by kernel_rfl) (fun _ _ _ h => h) (Or.inl ⟨by rfl, ?_⟩) (by assumption) ?_
        · (intro wq hq; go_simp)
        try simp only [Act.put, List.setIfInBounds_toArray, List.set_cons_zero, List.set_cons_succ]
        refine wpAnyH_take (i := 9) (oi := { dst := some 90, op := Op.move (Operand.tmp 89), type := 4, pos := "laws.go:173", after := #[{ on := 8, ground := Ground.data }, { on := 3, ground := Ground.chain }], guard := none }) (v := .bool true) rfl (by kernel_rfl) (by kernel_rfl) (by kernel_rfl) (fun _ _ _ h => h) (Or.inl ⟨by rfl, ?_⟩) (by assumption) ?_
        · (intro wq hq; go_simp)
        try simp only [Act.put, List.setIfInBounds_toArray, List.set_cons_zero, List.set_cons_succ]
        refine wpAnyH_take (i := 10) (oi := { dst := some 91, op := Op.move (Operand.tmp 7), type := 9, pos := "laws.go:173", after := #[{ on := 9, ground := Ground.guard }], guard := some (9, true) }) (v := .string T) rfl (by kernel_rfl) (by kernel_rfl) (by kernel_rfl) (fun _ _ _ h => h) (Or.inl ⟨by rfl, ?_⟩) (by assumption) ?_
        · (intro wq hq; go_simp)
        try simp only [Act.put, List.setIfInBounds_toArray, List.set_cons_zero, List.set_cons_succ]
        refine wpAnyH_take (i := 11) (oi := { dst := some 92, op := Op.move (Operand.tmp 9), type := 3, pos := "laws.go:173", after := #[{ on := 9, ground := Ground.guard }], guard := some (9, true) }) (v := .int .i64 (k : Int)) rfl (by kernel_rfl) (by kernel_rfl) (by kernel_rfl) (fun _ _ _ h => h) (Or.inl ⟨by rfl, ?_⟩) (by assumption) ?_
        · (intro wq hq; go_simp)
        try simp only [Act.put, List.setIfInBounds_toArray, List.set_cons_zero, List.set_cons_succ]
        refine wpAnyH_take (i := 12) (oi := { dst := some 93, op := Op.slice 9 (Operand.tmp 91) none (some (Operand.tmp 92)) none, type := 9, pos := "laws.go:173", after := #[{ on := 10, ground := Ground.data }, { on := 11, ground := Ground.data }, { on := 9, ground := Ground.guard }], guard := some (9, true) }) (v := .string (T.extract 0 k)) rfl (by kernel_rfl) (by kernel_rfl) (by kernel_rfl) (fun _ _ _ h => h) (Or.inl ⟨by rfl, ?_⟩) (by assumption) ?_
        · (intro wq hq; have hk5 := HkT.out; have hk6 : (k : Int) ≤ (T.size : Int) := (by omega); go_simp)
        try simp only [Act.put, List.setIfInBounds_toArray, List.set_cons_zero, List.set_cons_succ]
        refine wpAnyH_take (i := 13) (oi := { dst := some 94, op := Op.binOp BinOp.add 9 (Operand.tmp 93) (Operand.const (Value.string { data := #[255] })) 9, type := 9, pos := "laws.go:173", after := #[{ on := 12, ground := Ground.data }, { on := 9, ground := Ground.guard }], guard := some (9, true) }) (v := .string (T.extract 0 k ++ ByteArray.mk #[255])) rfl (by kernel_rfl) (by kernel_rfl) (by kernel_rfl) (fun _ _ _ h => h) (Or.inl ⟨by rfl, ?_⟩) (by assumption) ?_
        · (intro wq hq; have hk5 := HkT.out; have hk6 : (k : Int) ≤ (T.size : Int) := (by omega); go_simp; try omega)
        try simp only [Act.put, List.setIfInBounds_toArray, List.set_cons_zero, List.set_cons_succ]
        refine wpAnyH_take (i := 14) (oi := { dst := some 95, op := Op.move (Operand.tmp 7), type := 9, pos := "laws.go:173", after := #[{ on := 9, ground := Ground.guard }], guard := some (9, true) }) (v := .string T) rfl (by kernel_rfl) (by kernel_rfl) (by kernel_rfl) (fun _ _ _ h => h) (Or.inl ⟨by rfl, ?_⟩) (by assumption) ?_
        · (intro wq hq; go_simp)
        try simp only [Act.put, List.setIfInBounds_toArray, List.set_cons_zero, List.set_cons_succ]
        refine wpAnyH_take (i := 15) (oi := { dst := some 96, op := Op.move (Operand.tmp 9), type := 3, pos := "laws.go:173", after := #[{ on := 9, ground := Ground.guard }], guard := some (9, true) }) (v := .int .i64 (k : Int)) rfl (by kernel_rfl) (by kernel_rfl) (by kernel_rfl) (fun _ _ _ h => h) (Or.inl ⟨by rfl, ?_⟩) (by assumption) ?_
        · (intro wq hq; go_simp)
        try simp only [Act.put, List.setIfInBounds_toArray, List.set_cons_zero, List.set_cons_succ]
        refine wpAnyH_take (i := 16) (oi := { dst := some 97, op := Op.slice 9 (Operand.tmp 95) (some (Operand.tmp 96)) none none, type := 9, pos := "laws.go:173", after := #[{ on := 14, ground := Ground.data }, { on := 15, ground := Ground.data }, { on := 9, ground := Ground.guard }], guard := some (9, true) }) (v := .string (T.extract k T.size)) rfl (by kernel_rfl) (by kernel_rfl) (by kernel_rfl) (fun _ _ _ h => h) (Or.inl ⟨by rfl, ?_⟩) (by assumption) ?_
        · (intro wq hq; have hk5 := HkT.out; have hk6 : (k : Int) ≤ (T.size : Int) := (by omega); go_simp; try omega)
        try simp only [Act.put, List.setIfInBounds_toArray, List.set_cons_zero, List.set_cons_succ]
        refine wpAnyH_take (i := 17) (oi := { dst := some 98, op := Op.binOp BinOp.add 9 (Operand.tmp 94) (Operand.tmp 97) 9, type := 9, pos := "laws.go:173", after := #[{ on := 13, ground := Ground.data }, { on := 16, ground := Ground.data }, { on := 9, ground := Ground.guard }], guard := some (9, true) }) (v := .string (T.extract 0 k ++ ByteArray.mk #[255] ++ T.extract k T.size)) rfl (by kernel_rfl) (by kernel_rfl) (by kernel_rfl) (fun _ _ _ h => h) (Or.inl ⟨by rfl, ?_⟩) (by assumption) ?_
        · (intro wq hq; have hk5 := HkT.out; have hk6 : (k : Int) ≤ (T.size : Int) := (by omega); go_simp; try omega)
        try simp only [Act.put, List.setIfInBounds_toArray, List.set_cons_zero, List.set_cons_succ]
        refine wpAnyH_take (i := 19) (oi := { dst := some 100, op := Op.move (Operand.tmp 7), type := 9, pos := "laws.go:173", after := #[{ on := 9, ground := Ground.guard }], guard := some (9, true) }) (v := .string T) rfl (by kernel_rfl) (by kernel_rfl) (by kernel_rfl) (fun _ _ _ h => h) (Or.inl ⟨by rfl, ?_⟩) (by assumption) ?_
        · (intro wq hq; go_simp)
        try simp only [Act.put, List.setIfInBounds_toArray, List.set_cons_zero, List.set_cons_succ]
        refine wpAnyH_ready (rs := [18]) (by kernel_rfl) (by simp) ?_
        refine AllReadyH.cons (o := { dst := some 99, op := Op.call { callee := Callee.value (Operand.func 11), args := #[Operand.tmp 98], argTypes := #[9] }, type := 25, pos := "laws.go:173", after := #[{ on := 17, ground := Ground.data }, { on := 9, ground := Ground.chain }, { on := 9, ground := Ground.guard }], guard := some (9, true) }) rfl (fun K hK => ?_) AllReadyH.nil
        rw [if_pos (by rfl)]
        go_simp
        go_at_call 11
        refine (cP _).mono ?_
        rintro e wq15 ⟨rfl, hbq15⟩
        have B15 := below_after B14 hbq15 B14.size
        go_simp
        refine hK.out _ _ trivial (fun hHeld => ?_)
        clear hK K
        as_aux_lemma =>
        refine wpAnyH_ready (rs := [20]) (by kernel_rfl) (by simp) ?_
        refine AllReadyH.cons (o := { dst := some 101, op := Op.call { callee := Callee.value (Operand.func 11), args := #[Operand.tmp 100], argTypes := #[9] }, type := 25, pos := "laws.go:173", after := #[{ on := 19, ground := Ground.data }, { on := 18, ground := Ground.chain }, { on := 9, ground := Ground.guard }], guard := some (9, true) }) rfl (fun K hK => ?_) AllReadyH.nil
        rw [if_pos (by rfl)]
        go_simp
        go_at_call 11
        refine (cT _).mono ?_
        rintro e wq16 ⟨rfl, hbq16⟩
        have B16 := below_after B15 hbq16 B15.size
        go_simp
        refine hK.out _ _ trivial (fun hHeld => ?_)
        clear hK K
        as_aux_lemma =>
        refine wpAnyH_take (i := 21) (oi := { dst := some 102, op := Op.binOp BinOp.eql 25 (Operand.tmp 99) (Operand.tmp 101) 25, type := 4, pos := "laws.go:173", after := #[{ on := 18, ground := Ground.data }, { on := 20, ground := Ground.data }, { on := 9, ground := Ground.guard }], guard := some (9, true) }) (v := .bool true) rfl (by kernel_rfl) (by kernel_rfl) (by kernel_rfl) (fun _ _ _ h => h) (Or.inl ⟨by rfl, ?_⟩) (by assumption) ?_
        · (intro wq hq; go_simp)
        try simp only [Act.put, List.setIfInBounds_toArray, List.set_cons_zero, List.set_cons_succ]
        refine wpAnyH_take (i := 22) (oi := { dst := some 103, op := Op.pick (Operand.tmp 90) (Operand.tmp 102) (Operand.const (Value.bool false)), type := 4, pos := "laws.go:173", after := #[{ on := 9, ground := Ground.data }, { on := 21, ground := Ground.data }], guard := none }) (v := .bool true) rfl (by kernel_rfl) (by kernel_rfl) (by kernel_rfl) (fun _ _ _ h => h) (Or.inl ⟨by rfl, ?_⟩) (by assumption) ?_
        · (intro wq hq; go_simp)
        try simp only [Act.put, List.setIfInBounds_toArray, List.set_cons_zero, List.set_cons_succ]
        refine wpAnyH_take (i := 23) (oi := { dst := some 2, op := Op.assign (Operand.tmp 103), type := 4, pos := "laws.go:173", after := #[{ on := 22, ground := Ground.data }, { on := 20, ground := Ground.chain }, { on := 0, ground := Ground.phase }, { on := 1, ground := Ground.phase }, { on := 2, ground := Ground.phase }, { on := 3, ground := Ground.phase }, { on := 4, ground := Ground.phase }, { on := 5, ground := Ground.phase }, { on := 6, ground := Ground.phase }, { on := 7, ground := Ground.phase }, { on := 8, ground := Ground.phase }, { on := 9, ground := Ground.phase }, { on := 10, ground := Ground.phase }, { on := 11, ground := Ground.phase }, { on := 12, ground := Ground.phase }, { on := 13, ground := Ground.phase }, { on := 14, ground := Ground.phase }, { on := 15, ground := Ground.phase }, { on := 16, ground := Ground.phase }, { on := 17, ground := Ground.phase }, { on := 18, ground := Ground.phase }, { on := 19, ground := Ground.phase }, { on := 20, ground := Ground.phase }, { on := 21, ground := Ground.phase }, { on := 22, ground := Ground.phase }], guard := none }) (v := .bool true) rfl (by kernel_rfl) (by kernel_rfl) (by kernel_rfl) (fun _ _ _ h => h) (Or.inl ⟨by rfl, ?_⟩) (by assumption) ?_
        · (intro wq hq; go_simp)
        try simp only [Act.put, List.setIfInBounds_toArray, List.set_cons_zero, List.set_cons_succ]
        refine wpAnyH_done (by kernel_rfl) ?_ _
        go_wp2_with fail
        go_ret
        exact ⟨rfl, B16⟩
end Go.Proofs.Ytnaaeooieljkmaa
