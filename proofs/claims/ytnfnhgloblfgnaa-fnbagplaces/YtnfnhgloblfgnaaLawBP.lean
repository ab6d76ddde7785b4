/-
  The law of the places of all letters, walked.
-/
import Derived.Test.YtnfnhgloblfgnaaDTake
import Derived.Test.YtnfnhgloblfgnaaBpl
import Derived.Test.YtnfnhgloblfgnaaBFor2
import Derived.Test.YtnfnhgloblfgnaaLast
import Derived.Test.YtnfnhgloblfgnaaSc
namespace Go.Proofs.Ytnfnhgloblfgnaa
open Go.RowKit

set_option maxRecDepth 20000 in
theorem agg_let : AggTy 32 3 := ⟨⟨_, Try.underlying32, rfl⟩, by kernel_rfl⟩
theorem run_load_bp {a : Act} {dst : Option Tmp} {ty ty2 : TypeId} {x : Operand} {pos : String} {after : Array Edge} {g : Option (Nat × Bool)} {n : Nat} {w : World}
    (hty : AggTy ty n) (b k : Nat) (vs : List Value) (hn : vs.length = n) (hx : a.eval x = .pointer (some ⟨b, k, none⟩)) (hl : Lies b k vs w) :
    (execOp a.eval ⟨dst, .load ty x, ty2, pos, after, g⟩).run Try.prog w = .ok (.value (.agg vs.toArray)) w := by
  obtain ⟨⟨d, hu, hd⟩, hi⟩ := hty
  unfold execOp
  simp only [hx, Instr.loadAt, Instr.sureAddr, Sem.run_bind, Sem.run_pure, Result.andThen_ok, run_lv ty b k vs w d hd hu (by rw [hn]; exact hi) hl]
theorem let_ne {x y : Lt} (h : x ≠ y) : x.f = y.f → x.t = y.t → ¬ x.s.toList = y.s.toList := by
  intro h1 h2 h3
  apply h
  rw [ByteArray.toList_eq, ByteArray.toList_eq] at h3
  have h4 : x.s = y.s := ByteArray.ext (Array.toList_inj.1 h3)
  cases x
  cases y
  simp only at h1 h2 h4
  rw [h1, h2, h4]
theorem lies_lat {W : World} {g k : Nat} {l : Lt} (h : LAt W ⟨g, k, none⟩ l) : Lies g k [.int .i64 l.f, .int .i64 l.t, .string l.s] W := by
  obtain ⟨h0, h1, h2⟩ := h
  intro j v hj
  have hl : j < 3 := (List.getElem?_eq_some_iff.1 hj).1
  rcases (by omega : j = 0 ∨ j = 1 ∨ j = 2) with rfl | rfl | rfl <;> (injection hj with hj; subst hj; assumption)
set_option maxRecDepth 200000 in
set_option maxHeartbeats 8000000 in
theorem lawPlaces (v : Value) (L : List UInt8) (w : World) (hV : Byt w v L) :
    Calls Try.prog 3 #[v] w fun e w' => e = .returned (.bool true) ∧ Below w.heap.size w w' := by
  obtain ⟨oa, cap, hv⟩ : ∃ a cap, v = .slice a L.length cap := by
    rcases hV with ⟨rfl, rfl⟩ | ⟨a, cap, rfl, _⟩
    · exact ⟨none, 0, rfl⟩
    · exact ⟨some a, cap, rfl⟩
  by_cases hbig : 1048576 < L.length
  · have hbI : (1048576 : Int) < (L.length : Int) := by omega
    subst hv
    clear hV
    go_enter Try.func3, Try.ntmps3
    go_wp2_with fail
    go_ret
    exact ⟨rfl, Below.refl _ _⟩
  · have hbI : ¬ (1048576 : Int) < (L.length : Int) := by omega
    have co := drawTake_is w v L hV
    subst hv
    clear hV hbig
    go_enter Try.func3, Try.ntmps3
    go_upto_region 4 with (go_at_call 5; refine co.mono ?_; rintro e w1 ⟨m, ob, cq, Y, kk, rfl, hYl, hYs, hkk, hob, hT1, b1⟩; clear co)
    have P2 : PB6 w w1.heap.size m (.slice ob Y.length cq) Y (w1.alloc (.cells #[.int .i64 m, .slice ob Y.length cq] 25)) :=
      ⟨C2.new w1 _ _ 25, (latz_lts hT1 hob).call below_one, hT1.call below_one, b1.alloc b1.size _⟩
    generalize w1.alloc (.cells #[.int .i64 m, .slice ob Y.length cq] 25) = w2 at P2 ⊢
    generalize w1.heap.size = N at P2 ⊢
    clear hT1 hob b1 w1 hbI
    have ck := fun (V : World) (h : Lts V (.slice ob Y.length cq) Y) => bagok_spec V m _ Y h (fun l hl => by have := hYs l hl; unfold maxLen; omega)
    have cf := fun (V : World) (n : Int) (h : Lts V (.slice ob Y.length cq) Y) => bfor_impl V m n _ Y h (fun l hl => by have := hYs l hl; unfold maxLen; omega)
    have ct := fun (V : World) (h : Lts V (.slice ob Y.length cq) Y) => btake_impl V m _ Y kk h (fun l hl => by have := hYs l hl; unfold maxLen; omega)
    clear hYs hkk
    obtain ⟨-, a0, a1, -, -⟩ := id P2.1
    cases hbk : bagOk m Y with
    | false =>
      have e0 : ∀ n, bagFor m Y n = [] := fun n => by unfold bagFor; rw [if_neg (by rw [hbk]; decide)]
      have cf0 := fun (V : World) (h : Lts V (.slice ob Y.length cq) Y) => cf V 0 h
      simp only [e0, List.length_nil] at cf0
      rw [hbk] at ck
      clear cf ct e0 hbk hYl
      go_wp2_with (first
        | (go_at_call 6; refine (ck _ P2.2.2.1).mono ?_; rintro e w3 ⟨rfl, b3⟩; have P3 := P2.call b3; obtain ⟨-, d0, d1, -, -⟩ := id P3.1; clear P2 ck a0 a1)
        | (go_at_call 7; refine (cf0 _ P3.2.2.1).mono ?_; rintro e w4 ⟨u, rfl, o4, b4⟩; have P4 := P3.call b4; obtain ⟨o', c', hu⟩ := owi_len o4; subst hu; clear P3 o4 cf0))
      go_ret
      exact ⟨rfl, P4.2.2.2⟩
    | true =>
      have hl64 := bagOk_len hbk
      have htot := tot_all Y (bagOk_to hbk) Y.length (Nat.le_refl _)
      have e0 : ∀ n, bagFor m Y n = posn n Y Y.length := fun n => by unfold bagFor; rw [if_pos hbk]
      have e1 : btake m Y kk = (m, (tk Y kk).1, (tk Y kk).2.1, (tk Y kk).2.2) := by unfold btake; rw [if_pos hbk]
      simp only [e0] at cf
      simp only [e1] at ct
      rw [hbk] at ck
      clear e0 e1 hbk
      go_upto_region 7 with (go_at_call 6; refine (ck _ P2.2.2.1).mono ?_; rintro e w3 ⟨rfl, b3⟩; have P3 := P2.call b3; clear P2 ck a0 a1)
      clear b3
      go_upto_region 8 with fail
      go_loopw [5, 6, 7, 8] (fun s n _ _ wr => ∃ (j : Nat), s = .int .i64 (tot Y Y.length j : Int) ∧ n = .int .i64 (j : Int) ∧ j ≤ 21 ∧ Hid (PB6 w N m (.slice ob Y.length cq) Y wr)) (fun _ n _ _ _ => (21 - intOf n).toNat)
      case atStart => exact ⟨0, (by rfl), (by rfl), by omega, P3⟩
      case round =>
        obtain ⟨j, rfl, rfl, hj, HW⟩ := hrel
        have P5 := HW.out
        obtain ⟨-, a0, a1, -, -⟩ := id P5.1
        clear HW P3
        by_cases hj21 : j < 21
        · have hjI : (j : Int) ≤ 20 := by omega
          have cfj := fun (V : World) (h : Lts V (.slice ob Y.length cq) Y) => cf V (j : Int) h
          have hge : ∀ (i : Nat) (h : i < (posn (j : Int) Y Y.length).length), ∃ q : Nat, (posn (j : Int) Y Y.length)[i]'h = (q : Int) ∧ q < Y.length ∧ (Y.getD q ⟨0, 0, ByteArray.empty⟩).t = (j : Int) := fun i h => posn_get (j : Int) Y Y.length i h
          have has : ∀ (i : Nat) (h0 : i < (posn (j : Int) Y Y.length).length) (h : i + 1 < (posn (j : Int) Y Y.length).length), (posn (j : Int) Y Y.length)[i]'h0 < (posn (j : Int) Y Y.length)[i + 1]'h := fun i _ h => posn_asc (j : Int) Y Y.length i h
          have hpl := posn_len (j : Int) Y Y.length
          have hts : tot Y Y.length (j + 1) = tot Y Y.length j + (posn (j : Int) Y Y.length).length := rfl
          have htl : tot Y Y.length j ≤ 64 * j := tot_le Y Y.length (by omega) j
          generalize posn (j : Int) Y Y.length = P at cfj hge has hpl hts
          clear cf ct htot
          go_upto_region 11 with (go_at_call 7; refine (cfj _ P5.2.2.1).mono ?_; rintro e w6 ⟨u, rfl, o6, b6⟩; have P6 := P5.call b6; have I6 := iatz_own o6; obtain ⟨oi, ci, hu⟩ := I6.len; subst hu; clear P5 o6 cfj a0 a1 b6)
          go_upto_region 12 with fail
          go_loopw [8] (fun i wr => ∃ (k : Nat), i = .int .i64 (k : Int) ∧ k ≤ P.length ∧ Hid (PB6 w N m (.slice ob Y.length cq) Y wr ∧ IatZ wr (.slice oi P.length ci) P)) (fun i _ => (P.length - intOf i).toNat)
          case atStart => exact ⟨0, (by rfl), by omega, P6, I6⟩
          case round =>
            obtain ⟨k, rfl, hk, HW⟩ := hrel
            obtain ⟨P7, I7⟩ := HW.out
            clear HW P6 I6
            by_cases hkP : k < P.length
            · have hkI : (k : Int) < (P.length : Int) := by omega
              have hk0I : (0 : Int) ≤ (k : Int) := by omega
              obtain ⟨gi, rfl, hi⟩ := I7.get (by omega)
              obtain ⟨q, hq1, hq2, hq3⟩ := hge k hkP
              obtain ⟨g, rfl, hl⟩ := P7.2.1.get (by omega)
              obtain ⟨-, a1, a2, -, -⟩ := id P7.1
              have c1 := hi k hkP
              rw [hq1] at c1
              have d1 := (hl q hq2).2.1
              rw [show Y[q].t = (j : Int) by rw [← hq3, List.getD_eq_getElem?_getD, List.getElem?_eq_getElem hq2]; rfl] at d1
              have hqI : (q : Int) < (Y.length : Int) := by omega
              have hq0 : (0 : Int) ≤ (q : Int) := by omega
              have hqn : ¬ (q : Int) < 0 := by omega
              have hql : ¬ (Y.length : Int) ≤ (q : Int) := by omega
              have hwk : IntKind.i64.wrap ((k : Int) + 1) = ((k + 1 : Nat) : Int) := by rw [IntWalk.i64_in _ (by omega)]; rfl
              by_cases hk0 : 0 < k
              · obtain ⟨r, hr⟩ : ∃ r, r + 1 = k := ⟨k - 1, by omega⟩
                obtain ⟨q', hp1, hp2, -⟩ := hge r (by omega)
                have c2 := hi r (by omega)
                rw [hp1] at c2
                have hqq := has r (by omega) (by omega)
                have hqq' : ¬ (q : Int) ≤ (q' : Int) := by
                  rw [hp1] at hqq
                  have e : P[r + 1]'(by omega) = P[k] := by simp only [hr]
                  rw [e, hq1] at hqq
                  omega
                have hk0I' : (0 : Int) < (k : Int) := by omega
                have hrI : (r : Int) < (P.length : Int) := by omega
                have hr0 : (0 : Int) ≤ (r : Int) := by omega
                have hrP : r < P.length := by omega
                have hws : IntKind.i64.wrap ((k : Int) - 1) = (r : Int) := by rw [IntWalk.i64_in _ (by omega)]; omega
                clear hqq hp1 hp2 hq1 hq3 hge has hi hl hr
                go_upto_region 14 with fail
                refine wp_region_held_drew (S := fun w' => w'.cell? ⟨N, 1, none⟩ = some (.slice (some ⟨g, 0, none⟩) Y.length cq) ∧ w'.cell? ⟨gi, k, none⟩ = some (.int .i64 (q : Int)) ∧ w'.cell? ⟨g, q * 3 + 1, none⟩ = some (.int .i64 (j : Int)) ∧ w'.cell? ⟨gi, r, none⟩ = some (.int .i64 (q' : Int))) (by kernel_rfl) ⟨a2, c1, d1, c2⟩ (fun hHeld => ?_)
                refine wpAnyH_take (i := 0) (oi := { dst := some 42, op := Op.move (Operand.tmp 7), type := 29, pos := "laws.go:531", after := #[], guard := none }) (v := .slice (some ⟨gi, 0, none⟩) P.length ci) rfl (by kernel_rfl) (by kernel_rfl) (by kernel_rfl) (fun _ _ _ h => h) (Or.inl ⟨by rfl, ?_⟩) (by assumption) ?_
                · (intro wq hq; obtain ⟨x1, x2, x3, x4⟩ := id hq; go_simp)
                try simp only [Act.put, List.setIfInBounds_toArray, List.set_cons_zero, List.set_cons_succ]
                refine wpAnyH_take (i := 1) (oi := { dst := some 43, op := Op.move (Operand.tmp 8), type := 3, pos := "laws.go:531", after := #[], guard := none }) (v := .int .i64 (k : Int)) rfl (by kernel_rfl) (by kernel_rfl) (by kernel_rfl) (fun _ _ _ h => h) (Or.inl ⟨by rfl, ?_⟩) (by assumption) ?_
                · (intro wq hq; obtain ⟨x1, x2, x3, x4⟩ := id hq; go_simp)
                try simp only [Act.put, List.setIfInBounds_toArray, List.set_cons_zero, List.set_cons_succ]
                refine wpAnyH_take (i := 2) (oi := { dst := some 44, op := Op.indexAddr 29 (Operand.tmp 42) (Operand.tmp 43), type := 0, pos := "laws.go:531", after := #[{ on := 0, ground := Ground.data }, { on := 1, ground := Ground.data }], guard := none }) (v := .pointer (some ⟨gi, k, none⟩)) rfl (by kernel_rfl) (by kernel_rfl) (by kernel_rfl) (fun _ _ _ h => h) (Or.inl ⟨by rfl, ?_⟩) (by assumption) ?_
                · (intro wq hq; obtain ⟨x1, x2, x3, x4⟩ := id hq; go_simp)
                try simp only [Act.put, List.setIfInBounds_toArray, List.set_cons_zero, List.set_cons_succ]
                refine wpAnyH_take (i := 3) (oi := { dst := some 45, op := Op.load 3 (Operand.tmp 44), type := 3, pos := "laws.go:531", after := #[{ on := 2, ground := Ground.data }], guard := none }) (v := .int .i64 (q : Int)) rfl (by kernel_rfl) (by kernel_rfl) (by kernel_rfl) (fun _ _ _ h => h) (Or.inl ⟨by rfl, ?_⟩) (by assumption) ?_
                · (intro wq hq; obtain ⟨x1, x2, x3, x4⟩ := id hq; go_simp)
                try simp only [Act.put, List.setIfInBounds_toArray, List.set_cons_zero, List.set_cons_succ]
                refine wpAnyH_take (i := 4) (oi := { dst := some 46, op := Op.binOp BinOp.lss 3 (Operand.tmp 45) (Operand.const (Value.int IntKind.i64 0)) 3, type := 4, pos := "laws.go:531", after := #[{ on := 3, ground := Ground.data }], guard := none }) (v := .bool false) rfl (by kernel_rfl) (by kernel_rfl) (by kernel_rfl) (fun _ _ _ h => h) (Or.inl ⟨by rfl, ?_⟩) (by assumption) ?_
                · (intro wq hq; obtain ⟨x1, x2, x3, x4⟩ := id hq; go_simp)
                try simp only [Act.put, List.setIfInBounds_toArray, List.set_cons_zero, List.set_cons_succ]
                refine wpAnyH_take (i := 5) (oi := { dst := some 47, op := Op.move (Operand.tmp 46), type := 4, pos := "laws.go:531", after := #[{ on := 4, ground := Ground.data }], guard := none }) (v := .bool false) rfl (by kernel_rfl) (by kernel_rfl) (by kernel_rfl) (fun _ _ _ h => h) (Or.inl ⟨by rfl, ?_⟩) (by assumption) ?_
                · (intro wq hq; obtain ⟨x1, x2, x3, x4⟩ := id hq; go_simp)
                try simp only [Act.put, List.setIfInBounds_toArray, List.set_cons_zero, List.set_cons_succ]
                refine wpAnyH_take (i := 6) (oi := { dst := some 48, op := Op.move (Operand.tmp 7), type := 29, pos := "laws.go:531", after := #[{ on := 5, ground := Ground.guard }], guard := some (5, false) }) (v := .slice (some ⟨gi, 0, none⟩) P.length ci) rfl (by kernel_rfl) (by kernel_rfl) (by kernel_rfl) (fun _ _ _ h => h) (Or.inl ⟨by rfl, ?_⟩) (by assumption) ?_
                · (intro wq hq; obtain ⟨x1, x2, x3, x4⟩ := id hq; go_simp)
                try simp only [Act.put, List.setIfInBounds_toArray, List.set_cons_zero, List.set_cons_succ]
                refine wpAnyH_take (i := 7) (oi := { dst := some 49, op := Op.move (Operand.tmp 8), type := 3, pos := "laws.go:531", after := #[{ on := 5, ground := Ground.guard }], guard := some (5, false) }) (v := .int .i64 (k : Int)) rfl (by kernel_rfl) (by kernel_rfl) (by kernel_rfl) (fun _ _ _ h => h) (Or.inl ⟨by rfl, ?_⟩) (by assumption) ?_
                · (intro wq hq; obtain ⟨x1, x2, x3, x4⟩ := id hq; go_simp)
                try simp only [Act.put, List.setIfInBounds_toArray, List.set_cons_zero, List.set_cons_succ]
                refine wpAnyH_take (i := 8) (oi := { dst := some 50, op := Op.indexAddr 29 (Operand.tmp 48) (Operand.tmp 49), type := 0, pos := "laws.go:531", after := #[{ on := 6, ground := Ground.data }, { on := 7, ground := Ground.data }, { on := 5, ground := Ground.guard }], guard := some (5, false) }) (v := .pointer (some ⟨gi, k, none⟩)) rfl (by kernel_rfl) (by kernel_rfl) (by kernel_rfl) (fun _ _ _ h => h) (Or.inl ⟨by rfl, ?_⟩) (by assumption) ?_
                · (intro wq hq; obtain ⟨x1, x2, x3, x4⟩ := id hq; go_simp)
                try simp only [Act.put, List.setIfInBounds_toArray, List.set_cons_zero, List.set_cons_succ]
                refine wpAnyH_take (i := 9) (oi := { dst := some 51, op := Op.load 3 (Operand.tmp 50), type := 3, pos := "laws.go:531", after := #[{ on := 8, ground := Ground.data }, { on := 5, ground := Ground.guard }], guard := some (5, false) }) (v := .int .i64 (q : Int)) rfl (by kernel_rfl) (by kernel_rfl) (by kernel_rfl) (fun _ _ _ h => h) (Or.inl ⟨by rfl, ?_⟩) (by assumption) ?_
                · (intro wq hq; obtain ⟨x1, x2, x3, x4⟩ := id hq; go_simp)
                try simp only [Act.put, List.setIfInBounds_toArray, List.set_cons_zero, List.set_cons_succ]
                refine wpAnyH_take (i := 10) (oi := { dst := some 52, op := Op.fieldAddr 25 (Operand.tmp 3) 1, type := 0, pos := "laws.go:531", after := #[{ on := 5, ground := Ground.guard }], guard := some (5, false) }) (v := .pointer (some ⟨N, 1, none⟩)) rfl (by kernel_rfl) (by kernel_rfl) (by kernel_rfl) (fun _ _ _ h => h) (Or.inl ⟨by rfl, ?_⟩) (by assumption) ?_
                · (intro wq hq; obtain ⟨x1, x2, x3, x4⟩ := id hq; go_simp)
                try simp only [Act.put, List.setIfInBounds_toArray, List.set_cons_zero, List.set_cons_succ]
                refine wpAnyH_take (i := 11) (oi := { dst := some 53, op := Op.load 23 (Operand.tmp 52), type := 23, pos := "laws.go:531", after := #[{ on := 10, ground := Ground.data }, { on := 5, ground := Ground.guard }], guard := some (5, false) }) (v := .slice (some ⟨g, 0, none⟩) Y.length cq) rfl (by kernel_rfl) (by kernel_rfl) (by kernel_rfl) (fun _ _ _ h => h) (Or.inl ⟨by rfl, ?_⟩) (by assumption) ?_
                · (intro wq hq; obtain ⟨x1, x2, x3, x4⟩ := id hq; go_simp)
                try simp only [Act.put, List.setIfInBounds_toArray, List.set_cons_zero, List.set_cons_succ]
                refine wpAnyH_take (i := 12) (oi := { dst := some 54, op := Op.call { callee := Callee.builtin Builtin.len, args := #[Operand.tmp 53], argTypes := #[23] }, type := 3, pos := "laws.go:531", after := #[{ on := 11, ground := Ground.data }, { on := 5, ground := Ground.guard }], guard := some (5, false) }) (v := .int .i64 (Y.length : Int)) rfl (by kernel_rfl) (by kernel_rfl) (by kernel_rfl) (fun _ _ _ h => h) (Or.inl ⟨by rfl, ?_⟩) (by assumption) ?_
                · (intro wq hq; obtain ⟨x1, x2, x3, x4⟩ := id hq; go_simp)
                try simp only [Act.put, List.setIfInBounds_toArray, List.set_cons_zero, List.set_cons_succ]
                refine wpAnyH_take (i := 13) (oi := { dst := some 55, op := Op.binOp BinOp.geq 3 (Operand.tmp 51) (Operand.tmp 54) 3, type := 4, pos := "laws.go:531", after := #[{ on := 9, ground := Ground.data }, { on := 12, ground := Ground.data }, { on := 5, ground := Ground.guard }], guard := some (5, false) }) (v := .bool false) rfl (by kernel_rfl) (by kernel_rfl) (by kernel_rfl) (fun _ _ _ h => h) (Or.inl ⟨by rfl, ?_⟩) (by assumption) ?_
                · (intro wq hq; obtain ⟨x1, x2, x3, x4⟩ := id hq; go_simp)
                try simp only [Act.put, List.setIfInBounds_toArray, List.set_cons_zero, List.set_cons_succ]
                refine wpAnyH_take (i := 14) (oi := { dst := some 56, op := Op.pick (Operand.tmp 47) (Operand.const (Value.bool true)) (Operand.tmp 55), type := 4, pos := "laws.go:531", after := #[{ on := 5, ground := Ground.data }, { on := 13, ground := Ground.data }], guard := none }) (v := .bool false) rfl (by kernel_rfl) (by kernel_rfl) (by kernel_rfl) (fun _ _ _ h => h) (Or.inl ⟨by rfl, ?_⟩) (by assumption) ?_
                · (intro wq hq; obtain ⟨x1, x2, x3, x4⟩ := id hq; go_simp)
                try simp only [Act.put, List.setIfInBounds_toArray, List.set_cons_zero, List.set_cons_succ]
                refine wpAnyH_take (i := 15) (oi := { dst := some 57, op := Op.move (Operand.tmp 56), type := 4, pos := "laws.go:531", after := #[{ on := 14, ground := Ground.data }, { on := 5, ground := Ground.chain }], guard := none }) (v := .bool false) rfl (by kernel_rfl) (by kernel_rfl) (by kernel_rfl) (fun _ _ _ h => h) (Or.inl ⟨by rfl, ?_⟩) (by assumption) ?_
                · (intro wq hq; obtain ⟨x1, x2, x3, x4⟩ := id hq; go_simp)
                try simp only [Act.put, List.setIfInBounds_toArray, List.set_cons_zero, List.set_cons_succ]
                refine wpAnyH_take (i := 16) (oi := { dst := some 58, op := Op.move (Operand.tmp 8), type := 3, pos := "laws.go:531", after := #[{ on := 15, ground := Ground.guard }], guard := some (15, false) }) (v := .int .i64 (k : Int)) rfl (by kernel_rfl) (by kernel_rfl) (by kernel_rfl) (fun _ _ _ h => h) (Or.inl ⟨by rfl, ?_⟩) (by assumption) ?_
                · (intro wq hq; obtain ⟨x1, x2, x3, x4⟩ := id hq; go_simp)
                try simp only [Act.put, List.setIfInBounds_toArray, List.set_cons_zero, List.set_cons_succ]
                refine wpAnyH_take (i := 17) (oi := { dst := some 59, op := Op.binOp BinOp.gtr 3 (Operand.tmp 58) (Operand.const (Value.int IntKind.i64 0)) 3, type := 4, pos := "laws.go:531", after := #[{ on := 16, ground := Ground.data }, { on := 15, ground := Ground.guard }], guard := some (15, false) }) (v := .bool true) rfl (by kernel_rfl) (by kernel_rfl) (by kernel_rfl) (fun _ _ _ h => h) (Or.inl ⟨by rfl, ?_⟩) (by assumption) ?_
                · (intro wq hq; obtain ⟨x1, x2, x3, x4⟩ := id hq; go_simp)
                try simp only [Act.put, List.setIfInBounds_toArray, List.set_cons_zero, List.set_cons_succ]
                refine wpAnyH_take (i := 18) (oi := { dst := some 60, op := Op.move (Operand.tmp 59), type := 4, pos := "laws.go:531", after := #[{ on := 17, ground := Ground.data }, { on := 15, ground := Ground.chain }, { on := 15, ground := Ground.guard }], guard := some (15, false) }) (v := .bool true) rfl (by kernel_rfl) (by kernel_rfl) (by kernel_rfl) (fun _ _ _ h => h) (Or.inl ⟨by rfl, ?_⟩) (by assumption) ?_
                · (intro wq hq; obtain ⟨x1, x2, x3, x4⟩ := id hq; go_simp)
                try simp only [Act.put, List.setIfInBounds_toArray, List.set_cons_zero, List.set_cons_succ]
                refine wpAnyH_take (i := 19) (oi := { dst := some 61, op := Op.move (Operand.tmp 7), type := 29, pos := "laws.go:531", after := #[{ on := 18, ground := Ground.guard }], guard := some (18, true) }) (v := .slice (some ⟨gi, 0, none⟩) P.length ci) rfl (by kernel_rfl) (by kernel_rfl) (by kernel_rfl) (fun _ _ _ h => h) (Or.inl ⟨by rfl, ?_⟩) (by assumption) ?_
                · (intro wq hq; obtain ⟨x1, x2, x3, x4⟩ := id hq; go_simp)
                try simp only [Act.put, List.setIfInBounds_toArray, List.set_cons_zero, List.set_cons_succ]
                refine wpAnyH_take (i := 20) (oi := { dst := some 62, op := Op.move (Operand.tmp 8), type := 3, pos := "laws.go:531", after := #[{ on := 18, ground := Ground.guard }], guard := some (18, true) }) (v := .int .i64 (k : Int)) rfl (by kernel_rfl) (by kernel_rfl) (by kernel_rfl) (fun _ _ _ h => h) (Or.inl ⟨by rfl, ?_⟩) (by assumption) ?_
                · (intro wq hq; obtain ⟨x1, x2, x3, x4⟩ := id hq; go_simp)
                try simp only [Act.put, List.setIfInBounds_toArray, List.set_cons_zero, List.set_cons_succ]
                refine wpAnyH_take (i := 21) (oi := { dst := some 63, op := Op.indexAddr 29 (Operand.tmp 61) (Operand.tmp 62), type := 0, pos := "laws.go:531", after := #[{ on := 19, ground := Ground.data }, { on := 20, ground := Ground.data }, { on := 18, ground := Ground.guard }], guard := some (18, true) }) (v := .pointer (some ⟨gi, k, none⟩)) rfl (by kernel_rfl) (by kernel_rfl) (by kernel_rfl) (fun _ _ _ h => h) (Or.inl ⟨by rfl, ?_⟩) (by assumption) ?_
                · (intro wq hq; obtain ⟨x1, x2, x3, x4⟩ := id hq; go_simp)
                try simp only [Act.put, List.setIfInBounds_toArray, List.set_cons_zero, List.set_cons_succ]
                refine wpAnyH_take (i := 22) (oi := { dst := some 64, op := Op.load 3 (Operand.tmp 63), type := 3, pos := "laws.go:531", after := #[{ on := 21, ground := Ground.data }, { on := 18, ground := Ground.guard }], guard := some (18, true) }) (v := .int .i64 (q : Int)) rfl (by kernel_rfl) (by kernel_rfl) (by kernel_rfl) (fun _ _ _ h => h) (Or.inl ⟨by rfl, ?_⟩) (by assumption) ?_
                · (intro wq hq; obtain ⟨x1, x2, x3, x4⟩ := id hq; go_simp)
                try simp only [Act.put, List.setIfInBounds_toArray, List.set_cons_zero, List.set_cons_succ]
                refine wpAnyH_take (i := 23) (oi := { dst := some 65, op := Op.move (Operand.tmp 7), type := 29, pos := "laws.go:531", after := #[{ on := 18, ground := Ground.guard }], guard := some (18, true) }) (v := .slice (some ⟨gi, 0, none⟩) P.length ci) rfl (by kernel_rfl) (by kernel_rfl) (by kernel_rfl) (fun _ _ _ h => h) (Or.inl ⟨by rfl, ?_⟩) (by assumption) ?_
                · (intro wq hq; obtain ⟨x1, x2, x3, x4⟩ := id hq; go_simp)
                try simp only [Act.put, List.setIfInBounds_toArray, List.set_cons_zero, List.set_cons_succ]
                refine wpAnyH_take (i := 24) (oi := { dst := some 66, op := Op.move (Operand.tmp 8), type := 3, pos := "laws.go:531", after := #[{ on := 18, ground := Ground.guard }], guard := some (18, true) }) (v := .int .i64 (k : Int)) rfl (by kernel_rfl) (by kernel_rfl) (by kernel_rfl) (fun _ _ _ h => h) (Or.inl ⟨by rfl, ?_⟩) (by assumption) ?_
                · (intro wq hq; obtain ⟨x1, x2, x3, x4⟩ := id hq; go_simp)
                try simp only [Act.put, List.setIfInBounds_toArray, List.set_cons_zero, List.set_cons_succ]
                refine wpAnyH_take (i := 25) (oi := { dst := some 67, op := Op.binOp BinOp.sub 3 (Operand.tmp 66) (Operand.const (Value.int IntKind.i64 1)) 3, type := 3, pos := "laws.go:531", after := #[{ on := 24, ground := Ground.data }, { on := 18, ground := Ground.guard }], guard := some (18, true) }) (v := .int .i64 (r : Int)) rfl (by kernel_rfl) (by kernel_rfl) (by kernel_rfl) (fun _ _ _ h => h) (Or.inl ⟨by rfl, ?_⟩) (by assumption) ?_
                · (intro wq hq; obtain ⟨x1, x2, x3, x4⟩ := id hq; go_simp)
                try simp only [Act.put, List.setIfInBounds_toArray, List.set_cons_zero, List.set_cons_succ]
                refine wpAnyH_take (i := 26) (oi := { dst := some 68, op := Op.indexAddr 29 (Operand.tmp 65) (Operand.tmp 67), type := 0, pos := "laws.go:531", after := #[{ on := 23, ground := Ground.data }, { on := 25, ground := Ground.data }, { on := 18, ground := Ground.guard }], guard := some (18, true) }) (v := .pointer (some ⟨gi, r, none⟩)) rfl (by kernel_rfl) (by kernel_rfl) (by kernel_rfl) (fun _ _ _ h => h) (Or.inl ⟨by rfl, ?_⟩) (by assumption) ?_
                · (intro wq hq; obtain ⟨x1, x2, x3, x4⟩ := id hq; go_simp)
                try simp only [Act.put, List.setIfInBounds_toArray, List.set_cons_zero, List.set_cons_succ]
                refine wpAnyH_take (i := 27) (oi := { dst := some 69, op := Op.load 3 (Operand.tmp 68), type := 3, pos := "laws.go:531", after := #[{ on := 26, ground := Ground.data }, { on := 18, ground := Ground.guard }], guard := some (18, true) }) (v := .int .i64 (q' : Int)) rfl (by kernel_rfl) (by kernel_rfl) (by kernel_rfl) (fun _ _ _ h => h) (Or.inl ⟨by rfl, ?_⟩) (by assumption) ?_
                · (intro wq hq; obtain ⟨x1, x2, x3, x4⟩ := id hq; go_simp)
                try simp only [Act.put, List.setIfInBounds_toArray, List.set_cons_zero, List.set_cons_succ]
                refine wpAnyH_take (i := 28) (oi := { dst := some 70, op := Op.binOp BinOp.leq 3 (Operand.tmp 64) (Operand.tmp 69) 3, type := 4, pos := "laws.go:531", after := #[{ on := 22, ground := Ground.data }, { on := 27, ground := Ground.data }, { on := 18, ground := Ground.guard }], guard := some (18, true) }) (v := .bool false) rfl (by kernel_rfl) (by kernel_rfl) (by kernel_rfl) (fun _ _ _ h => h) (Or.inl ⟨by rfl, ?_⟩) (by assumption) ?_
                · (intro wq hq; obtain ⟨x1, x2, x3, x4⟩ := id hq; go_simp)
                try simp only [Act.put, List.setIfInBounds_toArray, List.set_cons_zero, List.set_cons_succ]
                refine wpAnyH_take (i := 29) (oi := { dst := some 71, op := Op.pick (Operand.tmp 60) (Operand.tmp 70) (Operand.const (Value.bool false)), type := 4, pos := "laws.go:531", after := #[{ on := 18, ground := Ground.data }, { on := 28, ground := Ground.data }, { on := 15, ground := Ground.guard }], guard := some (15, false) }) (v := .bool false) rfl (by kernel_rfl) (by kernel_rfl) (by kernel_rfl) (fun _ _ _ h => h) (Or.inl ⟨by rfl, ?_⟩) (by assumption) ?_
                · (intro wq hq; obtain ⟨x1, x2, x3, x4⟩ := id hq; go_simp)
                try simp only [Act.put, List.setIfInBounds_toArray, List.set_cons_zero, List.set_cons_succ]
                refine wpAnyH_take (i := 30) (oi := { dst := some 72, op := Op.pick (Operand.tmp 57) (Operand.const (Value.bool true)) (Operand.tmp 71), type := 4, pos := "laws.go:531", after := #[{ on := 15, ground := Ground.data }, { on := 29, ground := Ground.data }], guard := none }) (v := .bool false) rfl (by kernel_rfl) (by kernel_rfl) (by kernel_rfl) (fun _ _ _ h => h) (Or.inl ⟨by rfl, ?_⟩) (by assumption) ?_
                · (intro wq hq; obtain ⟨x1, x2, x3, x4⟩ := id hq; go_simp)
                try simp only [Act.put, List.setIfInBounds_toArray, List.set_cons_zero, List.set_cons_succ]
                refine wpAnyH_take (i := 31) (oi := { dst := some 73, op := Op.move (Operand.tmp 72), type := 4, pos := "laws.go:531", after := #[{ on := 30, ground := Ground.data }, { on := 18, ground := Ground.chain }], guard := none }) (v := .bool false) rfl (by kernel_rfl) (by kernel_rfl) (by kernel_rfl) (fun _ _ _ h => h) (Or.inl ⟨by rfl, ?_⟩) (by assumption) ?_
                · (intro wq hq; obtain ⟨x1, x2, x3, x4⟩ := id hq; go_simp)
                try simp only [Act.put, List.setIfInBounds_toArray, List.set_cons_zero, List.set_cons_succ]
                refine wpAnyH_take (i := 32) (oi := { dst := some 74, op := Op.fieldAddr 25 (Operand.tmp 3) 1, type := 0, pos := "laws.go:531", after := #[{ on := 31, ground := Ground.guard }], guard := some (31, false) }) (v := .pointer (some ⟨N, 1, none⟩)) rfl (by kernel_rfl) (by kernel_rfl) (by kernel_rfl) (fun _ _ _ h => h) (Or.inl ⟨by rfl, ?_⟩) (by assumption) ?_
                · (intro wq hq; obtain ⟨x1, x2, x3, x4⟩ := id hq; go_simp)
                try simp only [Act.put, List.setIfInBounds_toArray, List.set_cons_zero, List.set_cons_succ]
                refine wpAnyH_take (i := 33) (oi := { dst := some 75, op := Op.load 23 (Operand.tmp 74), type := 23, pos := "laws.go:531", after := #[{ on := 32, ground := Ground.data }, { on := 31, ground := Ground.guard }], guard := some (31, false) }) (v := .slice (some ⟨g, 0, none⟩) Y.length cq) rfl (by kernel_rfl) (by kernel_rfl) (by kernel_rfl) (fun _ _ _ h => h) (Or.inl ⟨by rfl, ?_⟩) (by assumption) ?_
                · (intro wq hq; obtain ⟨x1, x2, x3, x4⟩ := id hq; go_simp)
                try simp only [Act.put, List.setIfInBounds_toArray, List.set_cons_zero, List.set_cons_succ]
                refine wpAnyH_take (i := 34) (oi := { dst := some 76, op := Op.move (Operand.tmp 7), type := 29, pos := "laws.go:531", after := #[{ on := 31, ground := Ground.guard }], guard := some (31, false) }) (v := .slice (some ⟨gi, 0, none⟩) P.length ci) rfl (by kernel_rfl) (by kernel_rfl) (by kernel_rfl) (fun _ _ _ h => h) (Or.inl ⟨by rfl, ?_⟩) (by assumption) ?_
                · (intro wq hq; obtain ⟨x1, x2, x3, x4⟩ := id hq; go_simp)
                try simp only [Act.put, List.setIfInBounds_toArray, List.set_cons_zero, List.set_cons_succ]
                refine wpAnyH_take (i := 35) (oi := { dst := some 77, op := Op.move (Operand.tmp 8), type := 3, pos := "laws.go:531", after := #[{ on := 31, ground := Ground.guard }], guard := some (31, false) }) (v := .int .i64 (k : Int)) rfl (by kernel_rfl) (by kernel_rfl) (by kernel_rfl) (fun _ _ _ h => h) (Or.inl ⟨by rfl, ?_⟩) (by assumption) ?_
                · (intro wq hq; obtain ⟨x1, x2, x3, x4⟩ := id hq; go_simp)
                try simp only [Act.put, List.setIfInBounds_toArray, List.set_cons_zero, List.set_cons_succ]
                refine wpAnyH_take (i := 36) (oi := { dst := some 78, op := Op.indexAddr 29 (Operand.tmp 76) (Operand.tmp 77), type := 0, pos := "laws.go:531", after := #[{ on := 34, ground := Ground.data }, { on := 35, ground := Ground.data }, { on := 31, ground := Ground.guard }], guard := some (31, false) }) (v := .pointer (some ⟨gi, k, none⟩)) rfl (by kernel_rfl) (by kernel_rfl) (by kernel_rfl) (fun _ _ _ h => h) (Or.inl ⟨by rfl, ?_⟩) (by assumption) ?_
                · (intro wq hq; obtain ⟨x1, x2, x3, x4⟩ := id hq; go_simp)
                try simp only [Act.put, List.setIfInBounds_toArray, List.set_cons_zero, List.set_cons_succ]
                refine wpAnyH_take (i := 37) (oi := { dst := some 79, op := Op.load 3 (Operand.tmp 78), type := 3, pos := "laws.go:531", after := #[{ on := 36, ground := Ground.data }, { on := 31, ground := Ground.guard }], guard := some (31, false) }) (v := .int .i64 (q : Int)) rfl (by kernel_rfl) (by kernel_rfl) (by kernel_rfl) (fun _ _ _ h => h) (Or.inl ⟨by rfl, ?_⟩) (by assumption) ?_
                · (intro wq hq; obtain ⟨x1, x2, x3, x4⟩ := id hq; go_simp)
                try simp only [Act.put, List.setIfInBounds_toArray, List.set_cons_zero, List.set_cons_succ]
                refine wpAnyH_take (i := 38) (oi := { dst := some 80, op := Op.indexAddr 23 (Operand.tmp 75) (Operand.tmp 79), type := 0, pos := "laws.go:531", after := #[{ on := 33, ground := Ground.data }, { on := 37, ground := Ground.data }, { on := 31, ground := Ground.guard }], guard := some (31, false) }) (v := .pointer (some ⟨g, q * 3, none⟩)) rfl (by kernel_rfl) (by kernel_rfl) (by kernel_rfl) (fun _ _ _ h => h) (Or.inl ⟨by rfl, ?_⟩) (by assumption) ?_
                · (intro wq hq; obtain ⟨x1, x2, x3, x4⟩ := id hq; go_simp)
                try simp only [Act.put, List.setIfInBounds_toArray, List.set_cons_zero, List.set_cons_succ]
                refine wpAnyH_take (i := 39) (oi := { dst := some 81, op := Op.fieldAddr 32 (Operand.tmp 80) 1, type := 0, pos := "laws.go:531", after := #[{ on := 38, ground := Ground.data }, { on := 31, ground := Ground.guard }], guard := some (31, false) }) (v := .pointer (some ⟨g, q * 3 + 1, none⟩)) rfl (by kernel_rfl) (by kernel_rfl) (by kernel_rfl) (fun _ _ _ h => h) (Or.inl ⟨by rfl, ?_⟩) (by assumption) ?_
                · (intro wq hq; obtain ⟨x1, x2, x3, x4⟩ := id hq; go_simp)
                try simp only [Act.put, List.setIfInBounds_toArray, List.set_cons_zero, List.set_cons_succ]
                refine wpAnyH_take (i := 40) (oi := { dst := some 82, op := Op.load 3 (Operand.tmp 81), type := 3, pos := "laws.go:531", after := #[{ on := 39, ground := Ground.data }, { on := 31, ground := Ground.guard }], guard := some (31, false) }) (v := .int .i64 (j : Int)) rfl (by kernel_rfl) (by kernel_rfl) (by kernel_rfl) (fun _ _ _ h => h) (Or.inl ⟨by rfl, ?_⟩) (by assumption) ?_
                · (intro wq hq; obtain ⟨x1, x2, x3, x4⟩ := id hq; go_simp)
                try simp only [Act.put, List.setIfInBounds_toArray, List.set_cons_zero, List.set_cons_succ]
                refine wpAnyH_take (i := 41) (oi := { dst := some 83, op := Op.move (Operand.tmp 6), type := 3, pos := "laws.go:531", after := #[{ on := 31, ground := Ground.guard }], guard := some (31, false) }) (v := .int .i64 (j : Int)) rfl (by kernel_rfl) (by kernel_rfl) (by kernel_rfl) (fun _ _ _ h => h) (Or.inl ⟨by rfl, ?_⟩) (by assumption) ?_
                · (intro wq hq; obtain ⟨x1, x2, x3, x4⟩ := id hq; go_simp)
                try simp only [Act.put, List.setIfInBounds_toArray, List.set_cons_zero, List.set_cons_succ]
                refine wpAnyH_take (i := 42) (oi := { dst := some 84, op := Op.binOp BinOp.neq 3 (Operand.tmp 82) (Operand.tmp 83) 3, type := 4, pos := "laws.go:531", after := #[{ on := 40, ground := Ground.data }, { on := 41, ground := Ground.data }, { on := 31, ground := Ground.guard }], guard := some (31, false) }) (v := .bool false) rfl (by kernel_rfl) (by kernel_rfl) (by kernel_rfl) (fun _ _ _ h => h) (Or.inl ⟨by rfl, ?_⟩) (by assumption) ?_
                · (intro wq hq; obtain ⟨x1, x2, x3, x4⟩ := id hq; go_simp)
                try simp only [Act.put, List.setIfInBounds_toArray, List.set_cons_zero, List.set_cons_succ]
                refine wpAnyH_take (i := 43) (oi := { dst := some 85, op := Op.pick (Operand.tmp 73) (Operand.const (Value.bool true)) (Operand.tmp 84), type := 4, pos := "laws.go:531", after := #[{ on := 31, ground := Ground.data }, { on := 42, ground := Ground.data }], guard := none }) (v := .bool false) rfl (by kernel_rfl) (by kernel_rfl) (by kernel_rfl) (fun _ _ _ h => h) (Or.inl ⟨by rfl, ?_⟩) (by assumption) ?_
                · (intro wq hq; obtain ⟨x1, x2, x3, x4⟩ := id hq; go_simp)
                try simp only [Act.put, List.setIfInBounds_toArray, List.set_cons_zero, List.set_cons_succ]
                refine wpAnyH_done (by kernel_rfl) ?_ _
                clear hHeld
                go_wp2_with fail
                go_roundw
                case measure => simp [intOf]; omega
                case rel => exact ⟨k + 1, (by first | rfl | go_num), by omega, P7.call (Below.refl _ _).drew, I7.call (Below.refl _ _).drew⟩
              · have hk0I' : ¬ (0 : Int) < (k : Int) := by omega
                clear hq1 hq3 hge has hi hl
                go_upto_region 14 with fail
                refine wp_region_held_drew (S := fun w' => w'.cell? ⟨N, 1, none⟩ = some (.slice (some ⟨g, 0, none⟩) Y.length cq) ∧ w'.cell? ⟨gi, k, none⟩ = some (.int .i64 (q : Int)) ∧ w'.cell? ⟨g, q * 3 + 1, none⟩ = some (.int .i64 (j : Int))) (by kernel_rfl) ⟨a2, c1, d1⟩ (fun hHeld => ?_)
                refine wpAnyH_take (i := 0) (oi := { dst := some 42, op := Op.move (Operand.tmp 7), type := 29, pos := "laws.go:531", after := #[], guard := none }) (v := .slice (some ⟨gi, 0, none⟩) P.length ci) rfl (by kernel_rfl) (by kernel_rfl) (by kernel_rfl) (fun _ _ _ h => h) (Or.inl ⟨by rfl, ?_⟩) (by assumption) ?_
                · (intro wq hq; obtain ⟨x1, x2, x3⟩ := id hq; go_simp)
                try simp only [Act.put, List.setIfInBounds_toArray, List.set_cons_zero, List.set_cons_succ]
                refine wpAnyH_take (i := 1) (oi := { dst := some 43, op := Op.move (Operand.tmp 8), type := 3, pos := "laws.go:531", after := #[], guard := none }) (v := .int .i64 (k : Int)) rfl (by kernel_rfl) (by kernel_rfl) (by kernel_rfl) (fun _ _ _ h => h) (Or.inl ⟨by rfl, ?_⟩) (by assumption) ?_
                · (intro wq hq; obtain ⟨x1, x2, x3⟩ := id hq; go_simp)
                try simp only [Act.put, List.setIfInBounds_toArray, List.set_cons_zero, List.set_cons_succ]
                refine wpAnyH_take (i := 2) (oi := { dst := some 44, op := Op.indexAddr 29 (Operand.tmp 42) (Operand.tmp 43), type := 0, pos := "laws.go:531", after := #[{ on := 0, ground := Ground.data }, { on := 1, ground := Ground.data }], guard := none }) (v := .pointer (some ⟨gi, k, none⟩)) rfl (by kernel_rfl) (by kernel_rfl) (by kernel_rfl) (fun _ _ _ h => h) (Or.inl ⟨by rfl, ?_⟩) (by assumption) ?_
                · (intro wq hq; obtain ⟨x1, x2, x3⟩ := id hq; go_simp)
                try simp only [Act.put, List.setIfInBounds_toArray, List.set_cons_zero, List.set_cons_succ]
                refine wpAnyH_take (i := 3) (oi := { dst := some 45, op := Op.load 3 (Operand.tmp 44), type := 3, pos := "laws.go:531", after := #[{ on := 2, ground := Ground.data }], guard := none }) (v := .int .i64 (q : Int)) rfl (by kernel_rfl) (by kernel_rfl) (by kernel_rfl) (fun _ _ _ h => h) (Or.inl ⟨by rfl, ?_⟩) (by assumption) ?_
                · (intro wq hq; obtain ⟨x1, x2, x3⟩ := id hq; go_simp)
                try simp only [Act.put, List.setIfInBounds_toArray, List.set_cons_zero, List.set_cons_succ]
                refine wpAnyH_take (i := 4) (oi := { dst := some 46, op := Op.binOp BinOp.lss 3 (Operand.tmp 45) (Operand.const (Value.int IntKind.i64 0)) 3, type := 4, pos := "laws.go:531", after := #[{ on := 3, ground := Ground.data }], guard := none }) (v := .bool false) rfl (by kernel_rfl) (by kernel_rfl) (by kernel_rfl) (fun _ _ _ h => h) (Or.inl ⟨by rfl, ?_⟩) (by assumption) ?_
                · (intro wq hq; obtain ⟨x1, x2, x3⟩ := id hq; go_simp)
                try simp only [Act.put, List.setIfInBounds_toArray, List.set_cons_zero, List.set_cons_succ]
                refine wpAnyH_take (i := 5) (oi := { dst := some 47, op := Op.move (Operand.tmp 46), type := 4, pos := "laws.go:531", after := #[{ on := 4, ground := Ground.data }], guard := none }) (v := .bool false) rfl (by kernel_rfl) (by kernel_rfl) (by kernel_rfl) (fun _ _ _ h => h) (Or.inl ⟨by rfl, ?_⟩) (by assumption) ?_
                · (intro wq hq; obtain ⟨x1, x2, x3⟩ := id hq; go_simp)
                try simp only [Act.put, List.setIfInBounds_toArray, List.set_cons_zero, List.set_cons_succ]
                refine wpAnyH_take (i := 6) (oi := { dst := some 48, op := Op.move (Operand.tmp 7), type := 29, pos := "laws.go:531", after := #[{ on := 5, ground := Ground.guard }], guard := some (5, false) }) (v := .slice (some ⟨gi, 0, none⟩) P.length ci) rfl (by kernel_rfl) (by kernel_rfl) (by kernel_rfl) (fun _ _ _ h => h) (Or.inl ⟨by rfl, ?_⟩) (by assumption) ?_
                · (intro wq hq; obtain ⟨x1, x2, x3⟩ := id hq; go_simp)
                try simp only [Act.put, List.setIfInBounds_toArray, List.set_cons_zero, List.set_cons_succ]
                refine wpAnyH_take (i := 7) (oi := { dst := some 49, op := Op.move (Operand.tmp 8), type := 3, pos := "laws.go:531", after := #[{ on := 5, ground := Ground.guard }], guard := some (5, false) }) (v := .int .i64 (k : Int)) rfl (by kernel_rfl) (by kernel_rfl) (by kernel_rfl) (fun _ _ _ h => h) (Or.inl ⟨by rfl, ?_⟩) (by assumption) ?_
                · (intro wq hq; obtain ⟨x1, x2, x3⟩ := id hq; go_simp)
                try simp only [Act.put, List.setIfInBounds_toArray, List.set_cons_zero, List.set_cons_succ]
                refine wpAnyH_take (i := 8) (oi := { dst := some 50, op := Op.indexAddr 29 (Operand.tmp 48) (Operand.tmp 49), type := 0, pos := "laws.go:531", after := #[{ on := 6, ground := Ground.data }, { on := 7, ground := Ground.data }, { on := 5, ground := Ground.guard }], guard := some (5, false) }) (v := .pointer (some ⟨gi, k, none⟩)) rfl (by kernel_rfl) (by kernel_rfl) (by kernel_rfl) (fun _ _ _ h => h) (Or.inl ⟨by rfl, ?_⟩) (by assumption) ?_
                · (intro wq hq; obtain ⟨x1, x2, x3⟩ := id hq; go_simp)
                try simp only [Act.put, List.setIfInBounds_toArray, List.set_cons_zero, List.set_cons_succ]
                refine wpAnyH_take (i := 9) (oi := { dst := some 51, op := Op.load 3 (Operand.tmp 50), type := 3, pos := "laws.go:531", after := #[{ on := 8, ground := Ground.data }, { on := 5, ground := Ground.guard }], guard := some (5, false) }) (v := .int .i64 (q : Int)) rfl (by kernel_rfl) (by kernel_rfl) (by kernel_rfl) (fun _ _ _ h => h) (Or.inl ⟨by rfl, ?_⟩) (by assumption) ?_
                · (intro wq hq; obtain ⟨x1, x2, x3⟩ := id hq; go_simp)
                try simp only [Act.put, List.setIfInBounds_toArray, List.set_cons_zero, List.set_cons_succ]
                refine wpAnyH_take (i := 10) (oi := { dst := some 52, op := Op.fieldAddr 25 (Operand.tmp 3) 1, type := 0, pos := "laws.go:531", after := #[{ on := 5, ground := Ground.guard }], guard := some (5, false) }) (v := .pointer (some ⟨N, 1, none⟩)) rfl (by kernel_rfl) (by kernel_rfl) (by kernel_rfl) (fun _ _ _ h => h) (Or.inl ⟨by rfl, ?_⟩) (by assumption) ?_
                · (intro wq hq; obtain ⟨x1, x2, x3⟩ := id hq; go_simp)
                try simp only [Act.put, List.setIfInBounds_toArray, List.set_cons_zero, List.set_cons_succ]
                refine wpAnyH_take (i := 11) (oi := { dst := some 53, op := Op.load 23 (Operand.tmp 52), type := 23, pos := "laws.go:531", after := #[{ on := 10, ground := Ground.data }, { on := 5, ground := Ground.guard }], guard := some (5, false) }) (v := .slice (some ⟨g, 0, none⟩) Y.length cq) rfl (by kernel_rfl) (by kernel_rfl) (by kernel_rfl) (fun _ _ _ h => h) (Or.inl ⟨by rfl, ?_⟩) (by assumption) ?_
                · (intro wq hq; obtain ⟨x1, x2, x3⟩ := id hq; go_simp)
                try simp only [Act.put, List.setIfInBounds_toArray, List.set_cons_zero, List.set_cons_succ]
                refine wpAnyH_take (i := 12) (oi := { dst := some 54, op := Op.call { callee := Callee.builtin Builtin.len, args := #[Operand.tmp 53], argTypes := #[23] }, type := 3, pos := "laws.go:531", after := #[{ on := 11, ground := Ground.data }, { on := 5, ground := Ground.guard }], guard := some (5, false) }) (v := .int .i64 (Y.length : Int)) rfl (by kernel_rfl) (by kernel_rfl) (by kernel_rfl) (fun _ _ _ h => h) (Or.inl ⟨by rfl, ?_⟩) (by assumption) ?_
                · (intro wq hq; obtain ⟨x1, x2, x3⟩ := id hq; go_simp)
                try simp only [Act.put, List.setIfInBounds_toArray, List.set_cons_zero, List.set_cons_succ]
                refine wpAnyH_take (i := 13) (oi := { dst := some 55, op := Op.binOp BinOp.geq 3 (Operand.tmp 51) (Operand.tmp 54) 3, type := 4, pos := "laws.go:531", after := #[{ on := 9, ground := Ground.data }, { on := 12, ground := Ground.data }, { on := 5, ground := Ground.guard }], guard := some (5, false) }) (v := .bool false) rfl (by kernel_rfl) (by kernel_rfl) (by kernel_rfl) (fun _ _ _ h => h) (Or.inl ⟨by rfl, ?_⟩) (by assumption) ?_
                · (intro wq hq; obtain ⟨x1, x2, x3⟩ := id hq; go_simp)
                try simp only [Act.put, List.setIfInBounds_toArray, List.set_cons_zero, List.set_cons_succ]
                refine wpAnyH_take (i := 14) (oi := { dst := some 56, op := Op.pick (Operand.tmp 47) (Operand.const (Value.bool true)) (Operand.tmp 55), type := 4, pos := "laws.go:531", after := #[{ on := 5, ground := Ground.data }, { on := 13, ground := Ground.data }], guard := none }) (v := .bool false) rfl (by kernel_rfl) (by kernel_rfl) (by kernel_rfl) (fun _ _ _ h => h) (Or.inl ⟨by rfl, ?_⟩) (by assumption) ?_
                · (intro wq hq; obtain ⟨x1, x2, x3⟩ := id hq; go_simp)
                try simp only [Act.put, List.setIfInBounds_toArray, List.set_cons_zero, List.set_cons_succ]
                refine wpAnyH_take (i := 15) (oi := { dst := some 57, op := Op.move (Operand.tmp 56), type := 4, pos := "laws.go:531", after := #[{ on := 14, ground := Ground.data }, { on := 5, ground := Ground.chain }], guard := none }) (v := .bool false) rfl (by kernel_rfl) (by kernel_rfl) (by kernel_rfl) (fun _ _ _ h => h) (Or.inl ⟨by rfl, ?_⟩) (by assumption) ?_
                · (intro wq hq; obtain ⟨x1, x2, x3⟩ := id hq; go_simp)
                try simp only [Act.put, List.setIfInBounds_toArray, List.set_cons_zero, List.set_cons_succ]
                refine wpAnyH_take (i := 16) (oi := { dst := some 58, op := Op.move (Operand.tmp 8), type := 3, pos := "laws.go:531", after := #[{ on := 15, ground := Ground.guard }], guard := some (15, false) }) (v := .int .i64 (k : Int)) rfl (by kernel_rfl) (by kernel_rfl) (by kernel_rfl) (fun _ _ _ h => h) (Or.inl ⟨by rfl, ?_⟩) (by assumption) ?_
                · (intro wq hq; obtain ⟨x1, x2, x3⟩ := id hq; go_simp)
                try simp only [Act.put, List.setIfInBounds_toArray, List.set_cons_zero, List.set_cons_succ]
                refine wpAnyH_take (i := 17) (oi := { dst := some 59, op := Op.binOp BinOp.gtr 3 (Operand.tmp 58) (Operand.const (Value.int IntKind.i64 0)) 3, type := 4, pos := "laws.go:531", after := #[{ on := 16, ground := Ground.data }, { on := 15, ground := Ground.guard }], guard := some (15, false) }) (v := .bool false) rfl (by kernel_rfl) (by kernel_rfl) (by kernel_rfl) (fun _ _ _ h => h) (Or.inl ⟨by rfl, ?_⟩) (by assumption) ?_
                · (intro wq hq; obtain ⟨x1, x2, x3⟩ := id hq; go_simp)
                try simp only [Act.put, List.setIfInBounds_toArray, List.set_cons_zero, List.set_cons_succ]
                refine wpAnyH_take (i := 18) (oi := { dst := some 60, op := Op.move (Operand.tmp 59), type := 4, pos := "laws.go:531", after := #[{ on := 17, ground := Ground.data }, { on := 15, ground := Ground.chain }, { on := 15, ground := Ground.guard }], guard := some (15, false) }) (v := .bool false) rfl (by kernel_rfl) (by kernel_rfl) (by kernel_rfl) (fun _ _ _ h => h) (Or.inl ⟨by rfl, ?_⟩) (by assumption) ?_
                · (intro wq hq; obtain ⟨x1, x2, x3⟩ := id hq; go_simp)
                try simp only [Act.put, List.setIfInBounds_toArray, List.set_cons_zero, List.set_cons_succ]
                refine wpAnyH_take (i := 19) (oi := { dst := some 61, op := Op.move (Operand.tmp 7), type := 29, pos := "laws.go:531", after := #[{ on := 18, ground := Ground.guard }], guard := some (18, true) }) (v := undef) rfl (by kernel_rfl) (by kernel_rfl) (by kernel_rfl) (fun _ _ _ h => h) (Or.inr ⟨by rfl, rfl⟩) (by assumption) ?_
                try simp only [Act.put, List.setIfInBounds_toArray, List.set_cons_zero, List.set_cons_succ]
                refine wpAnyH_take (i := 20) (oi := { dst := some 62, op := Op.move (Operand.tmp 8), type := 3, pos := "laws.go:531", after := #[{ on := 18, ground := Ground.guard }], guard := some (18, true) }) (v := undef) rfl (by kernel_rfl) (by kernel_rfl) (by kernel_rfl) (fun _ _ _ h => h) (Or.inr ⟨by rfl, rfl⟩) (by assumption) ?_
                try simp only [Act.put, List.setIfInBounds_toArray, List.set_cons_zero, List.set_cons_succ]
                refine wpAnyH_take (i := 21) (oi := { dst := some 63, op := Op.indexAddr 29 (Operand.tmp 61) (Operand.tmp 62), type := 0, pos := "laws.go:531", after := #[{ on := 19, ground := Ground.data }, { on := 20, ground := Ground.data }, { on := 18, ground := Ground.guard }], guard := some (18, true) }) (v := undef) rfl (by kernel_rfl) (by kernel_rfl) (by kernel_rfl) (fun _ _ _ h => h) (Or.inr ⟨by rfl, rfl⟩) (by assumption) ?_
                try simp only [Act.put, List.setIfInBounds_toArray, List.set_cons_zero, List.set_cons_succ]
                refine wpAnyH_take (i := 22) (oi := { dst := some 64, op := Op.load 3 (Operand.tmp 63), type := 3, pos := "laws.go:531", after := #[{ on := 21, ground := Ground.data }, { on := 18, ground := Ground.guard }], guard := some (18, true) }) (v := undef) rfl (by kernel_rfl) (by kernel_rfl) (by kernel_rfl) (fun _ _ _ h => h) (Or.inr ⟨by rfl, rfl⟩) (by assumption) ?_
                try simp only [Act.put, List.setIfInBounds_toArray, List.set_cons_zero, List.set_cons_succ]
                refine wpAnyH_take (i := 23) (oi := { dst := some 65, op := Op.move (Operand.tmp 7), type := 29, pos := "laws.go:531", after := #[{ on := 18, ground := Ground.guard }], guard := some (18, true) }) (v := undef) rfl (by kernel_rfl) (by kernel_rfl) (by kernel_rfl) (fun _ _ _ h => h) (Or.inr ⟨by rfl, rfl⟩) (by assumption) ?_
                try simp only [Act.put, List.setIfInBounds_toArray, List.set_cons_zero, List.set_cons_succ]
                refine wpAnyH_take (i := 24) (oi := { dst := some 66, op := Op.move (Operand.tmp 8), type := 3, pos := "laws.go:531", after := #[{ on := 18, ground := Ground.guard }], guard := some (18, true) }) (v := undef) rfl (by kernel_rfl) (by kernel_rfl) (by kernel_rfl) (fun _ _ _ h => h) (Or.inr ⟨by rfl, rfl⟩) (by assumption) ?_
                try simp only [Act.put, List.setIfInBounds_toArray, List.set_cons_zero, List.set_cons_succ]
                refine wpAnyH_take (i := 25) (oi := { dst := some 67, op := Op.binOp BinOp.sub 3 (Operand.tmp 66) (Operand.const (Value.int IntKind.i64 1)) 3, type := 3, pos := "laws.go:531", after := #[{ on := 24, ground := Ground.data }, { on := 18, ground := Ground.guard }], guard := some (18, true) }) (v := undef) rfl (by kernel_rfl) (by kernel_rfl) (by kernel_rfl) (fun _ _ _ h => h) (Or.inr ⟨by rfl, rfl⟩) (by assumption) ?_
                try simp only [Act.put, List.setIfInBounds_toArray, List.set_cons_zero, List.set_cons_succ]
                refine wpAnyH_take (i := 26) (oi := { dst := some 68, op := Op.indexAddr 29 (Operand.tmp 65) (Operand.tmp 67), type := 0, pos := "laws.go:531", after := #[{ on := 23, ground := Ground.data }, { on := 25, ground := Ground.data }, { on := 18, ground := Ground.guard }], guard := some (18, true) }) (v := undef) rfl (by kernel_rfl) (by kernel_rfl) (by kernel_rfl) (fun _ _ _ h => h) (Or.inr ⟨by rfl, rfl⟩) (by assumption) ?_
                try simp only [Act.put, List.setIfInBounds_toArray, List.set_cons_zero, List.set_cons_succ]
                refine wpAnyH_take (i := 27) (oi := { dst := some 69, op := Op.load 3 (Operand.tmp 68), type := 3, pos := "laws.go:531", after := #[{ on := 26, ground := Ground.data }, { on := 18, ground := Ground.guard }], guard := some (18, true) }) (v := undef) rfl (by kernel_rfl) (by kernel_rfl) (by kernel_rfl) (fun _ _ _ h => h) (Or.inr ⟨by rfl, rfl⟩) (by assumption) ?_
                try simp only [Act.put, List.setIfInBounds_toArray, List.set_cons_zero, List.set_cons_succ]
                refine wpAnyH_take (i := 28) (oi := { dst := some 70, op := Op.binOp BinOp.leq 3 (Operand.tmp 64) (Operand.tmp 69) 3, type := 4, pos := "laws.go:531", after := #[{ on := 22, ground := Ground.data }, { on := 27, ground := Ground.data }, { on := 18, ground := Ground.guard }], guard := some (18, true) }) (v := undef) rfl (by kernel_rfl) (by kernel_rfl) (by kernel_rfl) (fun _ _ _ h => h) (Or.inr ⟨by rfl, rfl⟩) (by assumption) ?_
                try simp only [Act.put, List.setIfInBounds_toArray, List.set_cons_zero, List.set_cons_succ]
                refine wpAnyH_take (i := 29) (oi := { dst := some 71, op := Op.pick (Operand.tmp 60) (Operand.tmp 70) (Operand.const (Value.bool false)), type := 4, pos := "laws.go:531", after := #[{ on := 18, ground := Ground.data }, { on := 28, ground := Ground.data }, { on := 15, ground := Ground.guard }], guard := some (15, false) }) (v := .bool false) rfl (by kernel_rfl) (by kernel_rfl) (by kernel_rfl) (fun _ _ _ h => h) (Or.inl ⟨by rfl, ?_⟩) (by assumption) ?_
                · (intro wq hq; obtain ⟨x1, x2, x3⟩ := id hq; go_simp)
                try simp only [Act.put, List.setIfInBounds_toArray, List.set_cons_zero, List.set_cons_succ]
                refine wpAnyH_take (i := 30) (oi := { dst := some 72, op := Op.pick (Operand.tmp 57) (Operand.const (Value.bool true)) (Operand.tmp 71), type := 4, pos := "laws.go:531", after := #[{ on := 15, ground := Ground.data }, { on := 29, ground := Ground.data }], guard := none }) (v := .bool false) rfl (by kernel_rfl) (by kernel_rfl) (by kernel_rfl) (fun _ _ _ h => h) (Or.inl ⟨by rfl, ?_⟩) (by assumption) ?_
                · (intro wq hq; obtain ⟨x1, x2, x3⟩ := id hq; go_simp)
                try simp only [Act.put, List.setIfInBounds_toArray, List.set_cons_zero, List.set_cons_succ]
                refine wpAnyH_take (i := 31) (oi := { dst := some 73, op := Op.move (Operand.tmp 72), type := 4, pos := "laws.go:531", after := #[{ on := 30, ground := Ground.data }, { on := 18, ground := Ground.chain }], guard := none }) (v := .bool false) rfl (by kernel_rfl) (by kernel_rfl) (by kernel_rfl) (fun _ _ _ h => h) (Or.inl ⟨by rfl, ?_⟩) (by assumption) ?_
                · (intro wq hq; obtain ⟨x1, x2, x3⟩ := id hq; go_simp)
                try simp only [Act.put, List.setIfInBounds_toArray, List.set_cons_zero, List.set_cons_succ]
                refine wpAnyH_take (i := 32) (oi := { dst := some 74, op := Op.fieldAddr 25 (Operand.tmp 3) 1, type := 0, pos := "laws.go:531", after := #[{ on := 31, ground := Ground.guard }], guard := some (31, false) }) (v := .pointer (some ⟨N, 1, none⟩)) rfl (by kernel_rfl) (by kernel_rfl) (by kernel_rfl) (fun _ _ _ h => h) (Or.inl ⟨by rfl, ?_⟩) (by assumption) ?_
                · (intro wq hq; obtain ⟨x1, x2, x3⟩ := id hq; go_simp)
                try simp only [Act.put, List.setIfInBounds_toArray, List.set_cons_zero, List.set_cons_succ]
                refine wpAnyH_take (i := 33) (oi := { dst := some 75, op := Op.load 23 (Operand.tmp 74), type := 23, pos := "laws.go:531", after := #[{ on := 32, ground := Ground.data }, { on := 31, ground := Ground.guard }], guard := some (31, false) }) (v := .slice (some ⟨g, 0, none⟩) Y.length cq) rfl (by kernel_rfl) (by kernel_rfl) (by kernel_rfl) (fun _ _ _ h => h) (Or.inl ⟨by rfl, ?_⟩) (by assumption) ?_
                · (intro wq hq; obtain ⟨x1, x2, x3⟩ := id hq; go_simp)
                try simp only [Act.put, List.setIfInBounds_toArray, List.set_cons_zero, List.set_cons_succ]
                refine wpAnyH_take (i := 34) (oi := { dst := some 76, op := Op.move (Operand.tmp 7), type := 29, pos := "laws.go:531", after := #[{ on := 31, ground := Ground.guard }], guard := some (31, false) }) (v := .slice (some ⟨gi, 0, none⟩) P.length ci) rfl (by kernel_rfl) (by kernel_rfl) (by kernel_rfl) (fun _ _ _ h => h) (Or.inl ⟨by rfl, ?_⟩) (by assumption) ?_
                · (intro wq hq; obtain ⟨x1, x2, x3⟩ := id hq; go_simp)
                try simp only [Act.put, List.setIfInBounds_toArray, List.set_cons_zero, List.set_cons_succ]
                refine wpAnyH_take (i := 35) (oi := { dst := some 77, op := Op.move (Operand.tmp 8), type := 3, pos := "laws.go:531", after := #[{ on := 31, ground := Ground.guard }], guard := some (31, false) }) (v := .int .i64 (k : Int)) rfl (by kernel_rfl) (by kernel_rfl) (by kernel_rfl) (fun _ _ _ h => h) (Or.inl ⟨by rfl, ?_⟩) (by assumption) ?_
                · (intro wq hq; obtain ⟨x1, x2, x3⟩ := id hq; go_simp)
                try simp only [Act.put, List.setIfInBounds_toArray, List.set_cons_zero, List.set_cons_succ]
                refine wpAnyH_take (i := 36) (oi := { dst := some 78, op := Op.indexAddr 29 (Operand.tmp 76) (Operand.tmp 77), type := 0, pos := "laws.go:531", after := #[{ on := 34, ground := Ground.data }, { on := 35, ground := Ground.data }, { on := 31, ground := Ground.guard }], guard := some (31, false) }) (v := .pointer (some ⟨gi, k, none⟩)) rfl (by kernel_rfl) (by kernel_rfl) (by kernel_rfl) (fun _ _ _ h => h) (Or.inl ⟨by rfl, ?_⟩) (by assumption) ?_
                · (intro wq hq; obtain ⟨x1, x2, x3⟩ := id hq; go_simp)
                try simp only [Act.put, List.setIfInBounds_toArray, List.set_cons_zero, List.set_cons_succ]
                refine wpAnyH_take (i := 37) (oi := { dst := some 79, op := Op.load 3 (Operand.tmp 78), type := 3, pos := "laws.go:531", after := #[{ on := 36, ground := Ground.data }, { on := 31, ground := Ground.guard }], guard := some (31, false) }) (v := .int .i64 (q : Int)) rfl (by kernel_rfl) (by kernel_rfl) (by kernel_rfl) (fun _ _ _ h => h) (Or.inl ⟨by rfl, ?_⟩) (by assumption) ?_
                · (intro wq hq; obtain ⟨x1, x2, x3⟩ := id hq; go_simp)
                try simp only [Act.put, List.setIfInBounds_toArray, List.set_cons_zero, List.set_cons_succ]
                refine wpAnyH_take (i := 38) (oi := { dst := some 80, op := Op.indexAddr 23 (Operand.tmp 75) (Operand.tmp 79), type := 0, pos := "laws.go:531", after := #[{ on := 33, ground := Ground.data }, { on := 37, ground := Ground.data }, { on := 31, ground := Ground.guard }], guard := some (31, false) }) (v := .pointer (some ⟨g, q * 3, none⟩)) rfl (by kernel_rfl) (by kernel_rfl) (by kernel_rfl) (fun _ _ _ h => h) (Or.inl ⟨by rfl, ?_⟩) (by assumption) ?_
                · (intro wq hq; obtain ⟨x1, x2, x3⟩ := id hq; go_simp)
                try simp only [Act.put, List.setIfInBounds_toArray, List.set_cons_zero, List.set_cons_succ]
                refine wpAnyH_take (i := 39) (oi := { dst := some 81, op := Op.fieldAddr 32 (Operand.tmp 80) 1, type := 0, pos := "laws.go:531", after := #[{ on := 38, ground := Ground.data }, { on := 31, ground := Ground.guard }], guard := some (31, false) }) (v := .pointer (some ⟨g, q * 3 + 1, none⟩)) rfl (by kernel_rfl) (by kernel_rfl) (by kernel_rfl) (fun _ _ _ h => h) (Or.inl ⟨by rfl, ?_⟩) (by assumption) ?_
                · (intro wq hq; obtain ⟨x1, x2, x3⟩ := id hq; go_simp)
                try simp only [Act.put, List.setIfInBounds_toArray, List.set_cons_zero, List.set_cons_succ]
                refine wpAnyH_take (i := 40) (oi := { dst := some 82, op := Op.load 3 (Operand.tmp 81), type := 3, pos := "laws.go:531", after := #[{ on := 39, ground := Ground.data }, { on := 31, ground := Ground.guard }], guard := some (31, false) }) (v := .int .i64 (j : Int)) rfl (by kernel_rfl) (by kernel_rfl) (by kernel_rfl) (fun _ _ _ h => h) (Or.inl ⟨by rfl, ?_⟩) (by assumption) ?_
                · (intro wq hq; obtain ⟨x1, x2, x3⟩ := id hq; go_simp)
                try simp only [Act.put, List.setIfInBounds_toArray, List.set_cons_zero, List.set_cons_succ]
                refine wpAnyH_take (i := 41) (oi := { dst := some 83, op := Op.move (Operand.tmp 6), type := 3, pos := "laws.go:531", after := #[{ on := 31, ground := Ground.guard }], guard := some (31, false) }) (v := .int .i64 (j : Int)) rfl (by kernel_rfl) (by kernel_rfl) (by kernel_rfl) (fun _ _ _ h => h) (Or.inl ⟨by rfl, ?_⟩) (by assumption) ?_
                · (intro wq hq; obtain ⟨x1, x2, x3⟩ := id hq; go_simp)
                try simp only [Act.put, List.setIfInBounds_toArray, List.set_cons_zero, List.set_cons_succ]
                refine wpAnyH_take (i := 42) (oi := { dst := some 84, op := Op.binOp BinOp.neq 3 (Operand.tmp 82) (Operand.tmp 83) 3, type := 4, pos := "laws.go:531", after := #[{ on := 40, ground := Ground.data }, { on := 41, ground := Ground.data }, { on := 31, ground := Ground.guard }], guard := some (31, false) }) (v := .bool false) rfl (by kernel_rfl) (by kernel_rfl) (by kernel_rfl) (fun _ _ _ h => h) (Or.inl ⟨by rfl, ?_⟩) (by assumption) ?_
                · (intro wq hq; obtain ⟨x1, x2, x3⟩ := id hq; go_simp)
                try simp only [Act.put, List.setIfInBounds_toArray, List.set_cons_zero, List.set_cons_succ]
                refine wpAnyH_take (i := 43) (oi := { dst := some 85, op := Op.pick (Operand.tmp 73) (Operand.const (Value.bool true)) (Operand.tmp 84), type := 4, pos := "laws.go:531", after := #[{ on := 31, ground := Ground.data }, { on := 42, ground := Ground.data }], guard := none }) (v := .bool false) rfl (by kernel_rfl) (by kernel_rfl) (by kernel_rfl) (fun _ _ _ h => h) (Or.inl ⟨by rfl, ?_⟩) (by assumption) ?_
                · (intro wq hq; obtain ⟨x1, x2, x3⟩ := id hq; go_simp)
                try simp only [Act.put, List.setIfInBounds_toArray, List.set_cons_zero, List.set_cons_succ]
                refine wpAnyH_done (by kernel_rfl) ?_ _
                clear hHeld
                go_wp2_with fail
                go_roundw
                case measure => simp [intOf]; omega
                case rel => exact ⟨k + 1, (by first | rfl | go_num), by omega, P7.call (Below.refl _ _).drew, I7.call (Below.refl _ _).drew⟩
            · have hkk : k = P.length := by omega
              subst hkk
              have hws : IntKind.i64.wrap ((tot Y Y.length j : Int) + (P.length : Int)) = (tot Y Y.length (j + 1) : Int) := by rw [hts, IntWalk.i64_in _ (by omega)]; rfl
              have hwj : IntKind.i64.wrap ((j : Int) + 1) = ((j + 1 : Nat) : Int) := by rw [IntWalk.i64_in _ (by omega)]; rfl
              clear hge has hts
              go_wp2_with fail
              go_roundw
              case measure => simp [intOf]; omega
              case rel => exact ⟨j + 1, (by first | rfl | go_num), (by first | rfl | go_num), by omega, P7⟩
        · have hj20 : j = 21 := by omega
          subst hj20
          rw [htot]
          clear cf hj21 hj htot
          have ci := fun V : World => ifint_is (decide (0 < Y.length)) V
          by_cases hY0 : 0 < Y.length
          · obtain ⟨lt, ek⟩ : ∃ lt, tk Y kk = (less Y (bpos kk Y.length), lt, true) := ⟨_, by unfold tk; rw [dif_pos hY0]⟩
            rw [ek] at ct
            rw [decide_eq_true hY0] at ci
            have hp := bpos_lt kk Y.length hY0
            have hZl := less_len Y _ hp
            have hms := fun (i j : Nat) (h1 : i < Y.length) (h2 : j < (less Y (bpos kk Y.length)).length) => merge_step Y (bpos kk Y.length) i j hp h1 h2
            generalize bpos kk Y.length = p at ct hp hZl hms
            generalize less Y p = Z at ct hZl hms
            clear ek
            have hZ1 : Z.length + 1 = Y.length := by omega
            have hYI : (0 : Int) < (Y.length : Int) := by omega
            clear hZl
            go_upto_region 18 with (go_at_call 8; refine (ct _ P5.2.2.1).mono ?_; rintro e w8 ⟨u, rfl, o8, b8⟩; have L8 := latz_own o8 (by show Z.length ≤ 1048576; omega); obtain ⟨oz, hu⟩ := o8.len; subst hu; have P8 := P5.call b8; clear P5 o8 ct a0 a1 b8)
            have P9 := P8.call (below_pair (W := w8) (o := .cells #[.int .i64 m, .slice oz Z.length Z.length] 25) (o' := .cells #[Value.int IntKind.i64 (lt).f, Value.int IntKind.i64 (lt).t, Value.string (lt).s] 32))
            have L9 := L8.call (below_pair (W := w8) (o := .cells #[.int .i64 m, .slice oz Z.length Z.length] 25) (o' := .cells #[Value.int IntKind.i64 (lt).f, Value.int IntKind.i64 (lt).t, Value.string (lt).s] 32))
            have T9 := (C2.new w8 (.int .i64 m) (.slice oz Z.length Z.length) 25).call (below_one (o := .cells #[Value.int IntKind.i64 (lt).f, Value.int IntKind.i64 (lt).t, Value.string (lt).s] 32))
            generalize (w8.alloc (.cells #[.int .i64 m, .slice oz Z.length Z.length] 25)).alloc (.cells #[Value.int IntKind.i64 (lt).f, Value.int IntKind.i64 (lt).t, Value.string (lt).s] 32) = w9 at P9 L9 T9 ⊢
            generalize w8.heap.size = T at T9 ⊢
            obtain ⟨-, a1, a2, -, -⟩ := id P9.1
            obtain ⟨-, t1, t2, -, -⟩ := id T9
            have zz := P9.2.2.2
            have LY := P9.2.1
            clear P8 L8 P9 T9
            have hwz : IntKind.i64.wrap ((Y.length : Int) - 1) = (Z.length : Int) := by rw [IntWalk.i64_in _ (by omega)]; omega
            have hx0 : Z.length < 1048576 := by omega
            have hsI : ¬ (Y.length : Int) ≤ 0 := by omega
            go_upto_region 22 with fail
            go_loopw [12, 13] (fun jv iv wr => ∃ (a b : Nat), jv = .int .i64 (b : Int) ∧ iv = .int .i64 (a : Int) ∧ a ≤ Y.length ∧ b ≤ Z.length ∧ b ≤ a ∧ a ≤ b + 1 ∧ (a ≤ p → b = a) ∧ Hid (wr.cell? ⟨N, 1, none⟩ = some (.slice ob Y.length cq) ∧ wr.cell? ⟨T, 1, none⟩ = some (.slice oz Z.length Z.length) ∧ LatZ wr (.slice ob Y.length cq) Y ∧ LatZ wr (.slice oz Z.length Z.length) Z ∧ Below w.heap.size w wr)) (fun _ iv _ => (Y.length - intOf iv).toNat)
            case atStart => exact ⟨0, 0, (by rfl), (by rfl), by omega, by omega, by omega, by omega, fun _ => rfl, a2, t2, LY, L9, zz⟩
            case round =>
              obtain ⟨a, b, rfl, rfl, ha, hb, hba, hab, hap, HW⟩ := hrel
              obtain ⟨a2, t2, LY, L9, zz⟩ := HW.out
              clear HW
              by_cases hgo : a < Y.length ∧ b < Z.length
              · obtain ⟨haY, hbZ⟩ := hgo
                have haI : (a : Int) < (Y.length : Int) := by omega
                have hbI : (b : Int) < (Z.length : Int) := by omega
                have ha0 : (0 : Int) ≤ (a : Int) := by omega
                have hb0 : (0 : Int) ≤ (b : Int) := by omega
                have hwa : IntKind.i64.wrap ((a : Int) + 1) = ((a + 1 : Nat) : Int) := by rw [IntWalk.i64_in _ (by omega)]; rfl
                have hwb : IntKind.i64.wrap ((b : Int) + 1) = ((b + 1 : Nat) : Int) := by rw [IntWalk.i64_in _ (by omega)]; rfl
                obtain ⟨hs1, hs2⟩ := hms a b haY hbZ hba hab hap
                obtain ⟨g, rfl, hl⟩ := LY.get (by omega)
                obtain ⟨gz, rfl, hlz⟩ := L9.get (by omega)
                have lx := lies_lat (hl a haY)
                have ly := lies_lat (hlz b hbZ)
                clear hl hlz hms hap
                generalize Y[a]'haY = x at lx hs1 hs2
                generalize Z[b]'hbZ = y at ly hs1 hs2
                by_cases hxy : x = y
                · obtain ⟨f1, f2, f3⟩ := hs1 hxy
                  subst hxy
                  clear hs1 hs2
                  go_upto_region 24 with fail
                  refine wp_region_held_drew (S := fun w' => w'.cell? ⟨N, 1, none⟩ = some (.slice (some ⟨g, 0, none⟩) Y.length cq) ∧ w'.cell? ⟨T, 1, none⟩ = some (.slice (some ⟨gz, 0, none⟩) Z.length Z.length) ∧ Lies g (a * 3) [.int .i64 x.f, .int .i64 x.t, .string x.s] w' ∧ Lies gz (b * 3) [.int .i64 x.f, .int .i64 x.t, .string x.s] w') (by kernel_rfl) ⟨a2, t2, lx, ly⟩ (fun hHeld => ?_)
                  refine wpAnyH_take (i := 0) (oi := { dst := some 122, op := Op.fieldAddr 25 (Operand.tmp 3) 1, type := 0, pos := "laws.go:543", after := #[], guard := none }) (v := .pointer (some ⟨N, 1, none⟩)) rfl (by kernel_rfl) (by kernel_rfl) (by kernel_rfl) (fun _ _ _ h => h) (Or.inl ⟨by rfl, ?_⟩) (by assumption) ?_
                  · (intro wq hq; obtain ⟨x1, x2, x3, x4⟩ := id hq; go_simp)
                  try simp only [Act.put, List.setIfInBounds_toArray, List.set_cons_zero, List.set_cons_succ]
                  refine wpAnyH_take (i := 1) (oi := { dst := some 123, op := Op.load 23 (Operand.tmp 122), type := 23, pos := "laws.go:543", after := #[{ on := 0, ground := Ground.data }], guard := none }) (v := .slice (some ⟨g, 0, none⟩) Y.length cq) rfl (by kernel_rfl) (by kernel_rfl) (by kernel_rfl) (fun _ _ _ h => h) (Or.inl ⟨by rfl, ?_⟩) (by assumption) ?_
                  · (intro wq hq; obtain ⟨x1, x2, x3, x4⟩ := id hq; go_simp)
                  try simp only [Act.put, List.setIfInBounds_toArray, List.set_cons_zero, List.set_cons_succ]
                  refine wpAnyH_take (i := 2) (oi := { dst := some 124, op := Op.move (Operand.tmp 13), type := 3, pos := "laws.go:543", after := #[], guard := none }) (v := .int .i64 (a : Int)) rfl (by kernel_rfl) (by kernel_rfl) (by kernel_rfl) (fun _ _ _ h => h) (Or.inl ⟨by rfl, ?_⟩) (by assumption) ?_
                  · (intro wq hq; obtain ⟨x1, x2, x3, x4⟩ := id hq; go_simp)
                  try simp only [Act.put, List.setIfInBounds_toArray, List.set_cons_zero, List.set_cons_succ]
                  refine wpAnyH_take (i := 3) (oi := { dst := some 125, op := Op.indexAddr 23 (Operand.tmp 123) (Operand.tmp 124), type := 0, pos := "laws.go:543", after := #[{ on := 1, ground := Ground.data }, { on := 2, ground := Ground.data }], guard := none }) (v := .pointer (some ⟨g, a * 3, none⟩)) rfl (by kernel_rfl) (by kernel_rfl) (by kernel_rfl) (fun _ _ _ h => h) (Or.inl ⟨by rfl, ?_⟩) (by assumption) ?_
                  · (intro wq hq; obtain ⟨x1, x2, x3, x4⟩ := id hq; go_simp)
                  try simp only [Act.put, List.setIfInBounds_toArray, List.set_cons_zero, List.set_cons_succ]
                  refine wpAnyH_take (i := 4) (oi := { dst := some 126, op := Op.load 32 (Operand.tmp 125), type := 32, pos := "laws.go:543", after := #[{ on := 3, ground := Ground.data }], guard := none }) (v := .agg #[.int .i64 x.f, .int .i64 x.t, .string x.s]) rfl (by kernel_rfl) (by kernel_rfl) (by kernel_rfl) (fun _ _ _ h => h) (Or.inl ⟨by rfl, ?_⟩) (by assumption) ?_
                  · (intro wq hq; exact run_load_bp agg_let g (a * 3) [.int .i64 x.f, .int .i64 x.t, .string x.s] (by kernel_rfl) (by kernel_rfl) hq.2.2.1)
                  try simp only [Act.put, List.setIfInBounds_toArray, List.set_cons_zero, List.set_cons_succ]
                  refine wpAnyH_take (i := 5) (oi := { dst := some 127, op := Op.fieldAddr 25 (Operand.tmp 9) 1, type := 0, pos := "laws.go:543", after := #[], guard := none }) (v := .pointer (some ⟨T, 1, none⟩)) rfl (by kernel_rfl) (by kernel_rfl) (by kernel_rfl) (fun _ _ _ h => h) (Or.inl ⟨by rfl, ?_⟩) (by assumption) ?_
                  · (intro wq hq; obtain ⟨x1, x2, x3, x4⟩ := id hq; go_simp)
                  try simp only [Act.put, List.setIfInBounds_toArray, List.set_cons_zero, List.set_cons_succ]
                  refine wpAnyH_take (i := 6) (oi := { dst := some 128, op := Op.load 23 (Operand.tmp 127), type := 23, pos := "laws.go:543", after := #[{ on := 5, ground := Ground.data }], guard := none }) (v := .slice (some ⟨gz, 0, none⟩) Z.length Z.length) rfl (by kernel_rfl) (by kernel_rfl) (by kernel_rfl) (fun _ _ _ h => h) (Or.inl ⟨by rfl, ?_⟩) (by assumption) ?_
                  · (intro wq hq; obtain ⟨x1, x2, x3, x4⟩ := id hq; go_simp)
                  try simp only [Act.put, List.setIfInBounds_toArray, List.set_cons_zero, List.set_cons_succ]
                  refine wpAnyH_take (i := 7) (oi := { dst := some 129, op := Op.move (Operand.tmp 12), type := 3, pos := "laws.go:543", after := #[], guard := none }) (v := .int .i64 (b : Int)) rfl (by kernel_rfl) (by kernel_rfl) (by kernel_rfl) (fun _ _ _ h => h) (Or.inl ⟨by rfl, ?_⟩) (by assumption) ?_
                  · (intro wq hq; obtain ⟨x1, x2, x3, x4⟩ := id hq; go_simp)
                  try simp only [Act.put, List.setIfInBounds_toArray, List.set_cons_zero, List.set_cons_succ]
                  refine wpAnyH_take (i := 8) (oi := { dst := some 130, op := Op.indexAddr 23 (Operand.tmp 128) (Operand.tmp 129), type := 0, pos := "laws.go:543", after := #[{ on := 6, ground := Ground.data }, { on := 7, ground := Ground.data }], guard := none }) (v := .pointer (some ⟨gz, b * 3, none⟩)) rfl (by kernel_rfl) (by kernel_rfl) (by kernel_rfl) (fun _ _ _ h => h) (Or.inl ⟨by rfl, ?_⟩) (by assumption) ?_
                  · (intro wq hq; obtain ⟨x1, x2, x3, x4⟩ := id hq; go_simp)
                  try simp only [Act.put, List.setIfInBounds_toArray, List.set_cons_zero, List.set_cons_succ]
                  refine wpAnyH_take (i := 9) (oi := { dst := some 131, op := Op.load 32 (Operand.tmp 130), type := 32, pos := "laws.go:543", after := #[{ on := 8, ground := Ground.data }], guard := none }) (v := .agg #[.int .i64 x.f, .int .i64 x.t, .string x.s]) rfl (by kernel_rfl) (by kernel_rfl) (by kernel_rfl) (fun _ _ _ h => h) (Or.inl ⟨by rfl, ?_⟩) (by assumption) ?_
                  · (intro wq hq; exact run_load_bp agg_let gz (b * 3) [.int .i64 x.f, .int .i64 x.t, .string x.s] (by kernel_rfl) (by kernel_rfl) hq.2.2.2)
                  try simp only [Act.put, List.setIfInBounds_toArray, List.set_cons_zero, List.set_cons_succ]
                  refine wpAnyH_take (i := 10) (oi := { dst := some 132, op := Op.binOp BinOp.eql 32 (Operand.tmp 126) (Operand.tmp 131) 32, type := 4, pos := "laws.go:543", after := #[{ on := 4, ground := Ground.data }, { on := 9, ground := Ground.data }], guard := none }) (v := .bool true) rfl (by kernel_rfl) (by kernel_rfl) (by kernel_rfl) (fun _ _ _ h => h) (Or.inl ⟨by rfl, ?_⟩) (by assumption) ?_
                  · (intro wq hq; obtain ⟨x1, x2, x3, x4⟩ := id hq; go_simp)
                  try simp only [Act.put, List.setIfInBounds_toArray, List.set_cons_zero, List.set_cons_succ]
                  refine wpAnyH_done (by kernel_rfl) ?_ _
                  clear hHeld
                  go_wp2_with fail
                  go_roundw
                  case measure => simp [intOf]; omega
                  case rel => exact ⟨a + 1, b + 1, (by first | rfl | go_num), (by first | rfl | go_num), by omega, by omega, f1, f2, f3, c_drew a2, c_drew t2, LY.call (Below.refl _ _).drew, L9.call (Below.refl _ _).drew, zz.drew⟩
                · obtain ⟨f1, f2, f3⟩ := hs2 hxy
                  clear hs1 hs2
                  go_upto_region 24 with fail
                  refine wp_region_held_drew (S := fun w' => w'.cell? ⟨N, 1, none⟩ = some (.slice (some ⟨g, 0, none⟩) Y.length cq) ∧ w'.cell? ⟨T, 1, none⟩ = some (.slice (some ⟨gz, 0, none⟩) Z.length Z.length) ∧ Lies g (a * 3) [.int .i64 x.f, .int .i64 x.t, .string x.s] w' ∧ Lies gz (b * 3) [.int .i64 y.f, .int .i64 y.t, .string y.s] w') (by kernel_rfl) ⟨a2, t2, lx, ly⟩ (fun hHeld => ?_)
                  refine wpAnyH_take (i := 0) (oi := { dst := some 122, op := Op.fieldAddr 25 (Operand.tmp 3) 1, type := 0, pos := "laws.go:543", after := #[], guard := none }) (v := .pointer (some ⟨N, 1, none⟩)) rfl (by kernel_rfl) (by kernel_rfl) (by kernel_rfl) (fun _ _ _ h => h) (Or.inl ⟨by rfl, ?_⟩) (by assumption) ?_
                  · (intro wq hq; obtain ⟨x1, x2, x3, x4⟩ := id hq; go_simp)
                  try simp only [Act.put, List.setIfInBounds_toArray, List.set_cons_zero, List.set_cons_succ]
                  refine wpAnyH_take (i := 1) (oi := { dst := some 123, op := Op.load 23 (Operand.tmp 122), type := 23, pos := "laws.go:543", after := #[{ on := 0, ground := Ground.data }], guard := none }) (v := .slice (some ⟨g, 0, none⟩) Y.length cq) rfl (by kernel_rfl) (by kernel_rfl) (by kernel_rfl) (fun _ _ _ h => h) (Or.inl ⟨by rfl, ?_⟩) (by assumption) ?_
                  · (intro wq hq; obtain ⟨x1, x2, x3, x4⟩ := id hq; go_simp)
                  try simp only [Act.put, List.setIfInBounds_toArray, List.set_cons_zero, List.set_cons_succ]
                  refine wpAnyH_take (i := 2) (oi := { dst := some 124, op := Op.move (Operand.tmp 13), type := 3, pos := "laws.go:543", after := #[], guard := none }) (v := .int .i64 (a : Int)) rfl (by kernel_rfl) (by kernel_rfl) (by kernel_rfl) (fun _ _ _ h => h) (Or.inl ⟨by rfl, ?_⟩) (by assumption) ?_
                  · (intro wq hq; obtain ⟨x1, x2, x3, x4⟩ := id hq; go_simp)
                  try simp only [Act.put, List.setIfInBounds_toArray, List.set_cons_zero, List.set_cons_succ]
                  refine wpAnyH_take (i := 3) (oi := { dst := some 125, op := Op.indexAddr 23 (Operand.tmp 123) (Operand.tmp 124), type := 0, pos := "laws.go:543", after := #[{ on := 1, ground := Ground.data }, { on := 2, ground := Ground.data }], guard := none }) (v := .pointer (some ⟨g, a * 3, none⟩)) rfl (by kernel_rfl) (by kernel_rfl) (by kernel_rfl) (fun _ _ _ h => h) (Or.inl ⟨by rfl, ?_⟩) (by assumption) ?_
                  · (intro wq hq; obtain ⟨x1, x2, x3, x4⟩ := id hq; go_simp)
                  try simp only [Act.put, List.setIfInBounds_toArray, List.set_cons_zero, List.set_cons_succ]
                  refine wpAnyH_take (i := 4) (oi := { dst := some 126, op := Op.load 32 (Operand.tmp 125), type := 32, pos := "laws.go:543", after := #[{ on := 3, ground := Ground.data }], guard := none }) (v := .agg #[.int .i64 x.f, .int .i64 x.t, .string x.s]) rfl (by kernel_rfl) (by kernel_rfl) (by kernel_rfl) (fun _ _ _ h => h) (Or.inl ⟨by rfl, ?_⟩) (by assumption) ?_
                  · (intro wq hq; exact run_load_bp agg_let g (a * 3) [.int .i64 x.f, .int .i64 x.t, .string x.s] (by kernel_rfl) (by kernel_rfl) hq.2.2.1)
                  try simp only [Act.put, List.setIfInBounds_toArray, List.set_cons_zero, List.set_cons_succ]
                  refine wpAnyH_take (i := 5) (oi := { dst := some 127, op := Op.fieldAddr 25 (Operand.tmp 9) 1, type := 0, pos := "laws.go:543", after := #[], guard := none }) (v := .pointer (some ⟨T, 1, none⟩)) rfl (by kernel_rfl) (by kernel_rfl) (by kernel_rfl) (fun _ _ _ h => h) (Or.inl ⟨by rfl, ?_⟩) (by assumption) ?_
                  · (intro wq hq; obtain ⟨x1, x2, x3, x4⟩ := id hq; go_simp)
                  try simp only [Act.put, List.setIfInBounds_toArray, List.set_cons_zero, List.set_cons_succ]
                  refine wpAnyH_take (i := 6) (oi := { dst := some 128, op := Op.load 23 (Operand.tmp 127), type := 23, pos := "laws.go:543", after := #[{ on := 5, ground := Ground.data }], guard := none }) (v := .slice (some ⟨gz, 0, none⟩) Z.length Z.length) rfl (by kernel_rfl) (by kernel_rfl) (by kernel_rfl) (fun _ _ _ h => h) (Or.inl ⟨by rfl, ?_⟩) (by assumption) ?_
                  · (intro wq hq; obtain ⟨x1, x2, x3, x4⟩ := id hq; go_simp)
                  try simp only [Act.put, List.setIfInBounds_toArray, List.set_cons_zero, List.set_cons_succ]
                  refine wpAnyH_take (i := 7) (oi := { dst := some 129, op := Op.move (Operand.tmp 12), type := 3, pos := "laws.go:543", after := #[], guard := none }) (v := .int .i64 (b : Int)) rfl (by kernel_rfl) (by kernel_rfl) (by kernel_rfl) (fun _ _ _ h => h) (Or.inl ⟨by rfl, ?_⟩) (by assumption) ?_
                  · (intro wq hq; obtain ⟨x1, x2, x3, x4⟩ := id hq; go_simp)
                  try simp only [Act.put, List.setIfInBounds_toArray, List.set_cons_zero, List.set_cons_succ]
                  refine wpAnyH_take (i := 8) (oi := { dst := some 130, op := Op.indexAddr 23 (Operand.tmp 128) (Operand.tmp 129), type := 0, pos := "laws.go:543", after := #[{ on := 6, ground := Ground.data }, { on := 7, ground := Ground.data }], guard := none }) (v := .pointer (some ⟨gz, b * 3, none⟩)) rfl (by kernel_rfl) (by kernel_rfl) (by kernel_rfl) (fun _ _ _ h => h) (Or.inl ⟨by rfl, ?_⟩) (by assumption) ?_
                  · (intro wq hq; obtain ⟨x1, x2, x3, x4⟩ := id hq; go_simp)
                  try simp only [Act.put, List.setIfInBounds_toArray, List.set_cons_zero, List.set_cons_succ]
                  refine wpAnyH_take (i := 9) (oi := { dst := some 131, op := Op.load 32 (Operand.tmp 130), type := 32, pos := "laws.go:543", after := #[{ on := 8, ground := Ground.data }], guard := none }) (v := .agg #[.int .i64 y.f, .int .i64 y.t, .string y.s]) rfl (by kernel_rfl) (by kernel_rfl) (by kernel_rfl) (fun _ _ _ h => h) (Or.inl ⟨by rfl, ?_⟩) (by assumption) ?_
                  · (intro wq hq; exact run_load_bp agg_let gz (b * 3) [.int .i64 y.f, .int .i64 y.t, .string y.s] (by kernel_rfl) (by kernel_rfl) hq.2.2.2)
                  try simp only [Act.put, List.setIfInBounds_toArray, List.set_cons_zero, List.set_cons_succ]
                  refine wpAnyH_take (i := 10) (oi := { dst := some 132, op := Op.binOp BinOp.eql 32 (Operand.tmp 126) (Operand.tmp 131) 32, type := 4, pos := "laws.go:543", after := #[{ on := 4, ground := Ground.data }, { on := 9, ground := Ground.data }], guard := none }) (v := .bool false) rfl (by kernel_rfl) (by kernel_rfl) (by kernel_rfl) (fun _ _ _ h => h) (Or.inl ⟨by rfl, ?_⟩) (by assumption) ?_
                  · (intro wq hq; go_simp; exact let_ne hxy)
                  try simp only [Act.put, List.setIfInBounds_toArray, List.set_cons_zero, List.set_cons_succ]
                  refine wpAnyH_done (by kernel_rfl) ?_ _
                  clear hHeld
                  go_wp2_with fail
                  go_roundw
                  case measure => simp [intOf]; omega
                  case rel => exact ⟨a + 1, b, (by first | rfl | go_num), (by first | rfl | go_num), by omega, by omega, f1, f2, f3, c_drew a2, c_drew t2, LY.call (Below.refl _ _).drew, L9.call (Below.refl _ _).drew, zz.drew⟩
              · have hbe : b = Z.length := by omega
                have hbn : ¬ (b : Int) < (Z.length : Int) := by omega
                have hw1 : (b : Int) = (Z.length : Int) := by omega
                clear hms hap LY L9 hgo
                by_cases haY : a < Y.length
                · have haI : (a : Int) < (Y.length : Int) := by omega
                  subst hbe
                  go_upto_region 26 with fail
                  refine wp_region_held_drew (S := fun w' => w'.cell? ⟨T, 1, none⟩ = some (.slice oz Z.length Z.length)) (by kernel_rfl) t2 (fun hHeld => ?_)
                  refine wpAnyH_take (i := 0) (oi := { dst := some 135, op := Op.move (Operand.tmp 12), type := 3, pos := "laws.go:547", after := #[], guard := none }) (v := .int .i64 (Z.length : Int)) rfl (by kernel_rfl) (by kernel_rfl) (by kernel_rfl) (fun _ _ _ h => h) (Or.inl ⟨by rfl, ?_⟩) (by assumption) ?_
                  · (intro wq hq; go_simp)
                  try simp only [Act.put, List.setIfInBounds_toArray, List.set_cons_zero, List.set_cons_succ]
                  refine wpAnyH_take (i := 1) (oi := { dst := some 136, op := Op.fieldAddr 25 (Operand.tmp 9) 1, type := 0, pos := "laws.go:547", after := #[], guard := none }) (v := .pointer (some ⟨T, 1, none⟩)) rfl (by kernel_rfl) (by kernel_rfl) (by kernel_rfl) (fun _ _ _ h => h) (Or.inl ⟨by rfl, ?_⟩) (by assumption) ?_
                  · (intro wq hq; go_simp)
                  try simp only [Act.put, List.setIfInBounds_toArray, List.set_cons_zero, List.set_cons_succ]
                  refine wpAnyH_take (i := 2) (oi := { dst := some 137, op := Op.load 23 (Operand.tmp 136), type := 23, pos := "laws.go:547", after := #[{ on := 1, ground := Ground.data }], guard := none }) (v := .slice oz Z.length Z.length) rfl (by kernel_rfl) (by kernel_rfl) (by kernel_rfl) (fun _ _ _ h => h) (Or.inl ⟨by rfl, ?_⟩) (by assumption) ?_
                  · (intro wq hq; go_simp)
                  try simp only [Act.put, List.setIfInBounds_toArray, List.set_cons_zero, List.set_cons_succ]
                  refine wpAnyH_take (i := 3) (oi := { dst := some 138, op := Op.call { callee := Callee.builtin Builtin.len, args := #[Operand.tmp 137], argTypes := #[23] }, type := 3, pos := "laws.go:547", after := #[{ on := 2, ground := Ground.data }], guard := none }) (v := .int .i64 (Z.length : Int)) rfl (by kernel_rfl) (by kernel_rfl) (by kernel_rfl) (fun _ _ _ h => h) (Or.inl ⟨by rfl, ?_⟩) (by assumption) ?_
                  · (intro wq hq; go_simp)
                  try simp only [Act.put, List.setIfInBounds_toArray, List.set_cons_zero, List.set_cons_succ]
                  refine wpAnyH_take (i := 4) (oi := { dst := some 139, op := Op.binOp BinOp.eql 3 (Operand.tmp 135) (Operand.tmp 138) 3, type := 4, pos := "laws.go:547", after := #[{ on := 0, ground := Ground.data }, { on := 3, ground := Ground.data }], guard := none }) (v := .bool true) rfl (by kernel_rfl) (by kernel_rfl) (by kernel_rfl) (fun _ _ _ h => h) (Or.inl ⟨by rfl, ?_⟩) (by assumption) ?_
                  · (intro wq hq; go_simp)
                  try simp only [Act.put, List.setIfInBounds_toArray, List.set_cons_zero, List.set_cons_succ]
                  refine wpAnyH_take (i := 5) (oi := { dst := some 140, op := Op.move (Operand.tmp 139), type := 4, pos := "laws.go:547", after := #[{ on := 4, ground := Ground.data }], guard := none }) (v := .bool true) rfl (by kernel_rfl) (by kernel_rfl) (by kernel_rfl) (fun _ _ _ h => h) (Or.inl ⟨by rfl, ?_⟩) (by assumption) ?_
                  · (intro wq hq; go_simp)
                  try simp only [Act.put, List.setIfInBounds_toArray, List.set_cons_zero, List.set_cons_succ]
                  refine wpAnyH_take (i := 6) (oi := { dst := some 141, op := Op.fieldAddr 25 (Operand.tmp 9) 1, type := 0, pos := "laws.go:547", after := #[{ on := 5, ground := Ground.guard }], guard := some (5, true) }) (v := .pointer (some ⟨T, 1, none⟩)) rfl (by kernel_rfl) (by kernel_rfl) (by kernel_rfl) (fun _ _ _ h => h) (Or.inl ⟨by rfl, ?_⟩) (by assumption) ?_
                  · (intro wq hq; go_simp)
                  try simp only [Act.put, List.setIfInBounds_toArray, List.set_cons_zero, List.set_cons_succ]
                  refine wpAnyH_take (i := 7) (oi := { dst := some 142, op := Op.load 23 (Operand.tmp 141), type := 23, pos := "laws.go:547", after := #[{ on := 6, ground := Ground.data }, { on := 5, ground := Ground.guard }], guard := some (5, true) }) (v := .slice oz Z.length Z.length) rfl (by kernel_rfl) (by kernel_rfl) (by kernel_rfl) (fun _ _ _ h => h) (Or.inl ⟨by rfl, ?_⟩) (by assumption) ?_
                  · (intro wq hq; go_simp)
                  try simp only [Act.put, List.setIfInBounds_toArray, List.set_cons_zero, List.set_cons_succ]
                  refine wpAnyH_take (i := 8) (oi := { dst := some 143, op := Op.call { callee := Callee.builtin Builtin.len, args := #[Operand.tmp 142], argTypes := #[23] }, type := 3, pos := "laws.go:547", after := #[{ on := 7, ground := Ground.data }, { on := 5, ground := Ground.guard }], guard := some (5, true) }) (v := .int .i64 (Z.length : Int)) rfl (by kernel_rfl) (by kernel_rfl) (by kernel_rfl) (fun _ _ _ h => h) (Or.inl ⟨by rfl, ?_⟩) (by assumption) ?_
                  · (intro wq hq; go_simp)
                  try simp only [Act.put, List.setIfInBounds_toArray, List.set_cons_zero, List.set_cons_succ]
                  refine wpAnyH_take (i := 9) (oi := { dst := some 144, op := Op.move (Operand.tmp 5), type := 3, pos := "laws.go:547", after := #[{ on := 5, ground := Ground.guard }], guard := some (5, true) }) (v := .int .i64 (Y.length : Int)) rfl (by kernel_rfl) (by kernel_rfl) (by kernel_rfl) (fun _ _ _ h => h) (Or.inl ⟨by rfl, ?_⟩) (by assumption) ?_
                  · (intro wq hq; go_simp)
                  try simp only [Act.put, List.setIfInBounds_toArray, List.set_cons_zero, List.set_cons_succ]
                  refine wpAnyH_take (i := 10) (oi := { dst := some 145, op := Op.move (Operand.tmp 11), type := 4, pos := "laws.go:547", after := #[{ on := 5, ground := Ground.guard }], guard := some (5, true) }) (v := .bool true) rfl (by kernel_rfl) (by kernel_rfl) (by kernel_rfl) (fun _ _ _ h => h) (Or.inl ⟨by rfl, ?_⟩) (by assumption) ?_
                  · (intro wq hq; go_simp)
                  try simp only [Act.put, List.setIfInBounds_toArray, List.set_cons_zero, List.set_cons_succ]
                  refine wpAnyH_ready (rs := [11]) (by kernel_rfl) (by simp) ?_
                  refine AllReadyH.cons (o := { dst := some 146, op := Op.call { callee := Callee.value (Operand.func 9), args := #[Operand.tmp 145, Operand.const (Value.int IntKind.i64 1)], argTypes := #[4, 3] }, type := 3, pos := "laws.go:547", after := #[{ on := 10, ground := Ground.data }, { on := 5, ground := Ground.chain }, { on := 5, ground := Ground.guard }], guard := some (5, true) }) rfl (fun K hK => ?_) AllReadyH.nil
                  go_simp
                  go_at_call 9
                  refine (ci _).mono ?_
                  rintro e wd ⟨rfl, rfl⟩
                  go_simp
                  refine hK.out _ _ t2 (fun hHeld => ?_)
                  clear hK K
                  refine wpAnyH_take (i := 12) (oi := { dst := some 147, op := Op.binOp BinOp.sub 3 (Operand.tmp 144) (Operand.tmp 146) 3, type := 3, pos := "laws.go:547", after := #[{ on := 9, ground := Ground.data }, { on := 11, ground := Ground.data }, { on := 5, ground := Ground.guard }], guard := some (5, true) }) (v := .int .i64 (Z.length : Int)) rfl (by kernel_rfl) (by kernel_rfl) (by kernel_rfl) (fun _ _ _ h => h) (Or.inl ⟨by rfl, ?_⟩) (by assumption) ?_
                  · (intro wq hq; go_simp)
                  try simp only [Act.put, List.setIfInBounds_toArray, List.set_cons_zero, List.set_cons_succ]
                  refine wpAnyH_take (i := 13) (oi := { dst := some 148, op := Op.binOp BinOp.eql 3 (Operand.tmp 143) (Operand.tmp 147) 3, type := 4, pos := "laws.go:547", after := #[{ on := 8, ground := Ground.data }, { on := 12, ground := Ground.data }, { on := 5, ground := Ground.guard }], guard := some (5, true) }) (v := .bool true) rfl (by kernel_rfl) (by kernel_rfl) (by kernel_rfl) (fun _ _ _ h => h) (Or.inl ⟨by rfl, ?_⟩) (by assumption) ?_
                  · (intro wq hq; go_simp)
                  try simp only [Act.put, List.setIfInBounds_toArray, List.set_cons_zero, List.set_cons_succ]
                  refine wpAnyH_take (i := 14) (oi := { dst := some 149, op := Op.pick (Operand.tmp 140) (Operand.tmp 148) (Operand.const (Value.bool false)), type := 4, pos := "laws.go:547", after := #[{ on := 5, ground := Ground.data }, { on := 13, ground := Ground.data }], guard := none }) (v := .bool true) rfl (by kernel_rfl) (by kernel_rfl) (by kernel_rfl) (fun _ _ _ h => h) (Or.inl ⟨by rfl, ?_⟩) (by assumption) ?_
                  · (intro wq hq; go_simp)
                  try simp only [Act.put, List.setIfInBounds_toArray, List.set_cons_zero, List.set_cons_succ]
                  refine wpAnyH_take (i := 15) (oi := { dst := some 2, op := Op.assign (Operand.tmp 149), type := 4, pos := "laws.go:547", after := #[{ on := 14, ground := Ground.data }, { on := 11, ground := Ground.chain }, { on := 0, ground := Ground.phase }, { on := 1, ground := Ground.phase }, { on := 2, ground := Ground.phase }, { on := 3, ground := Ground.phase }, { on := 4, ground := Ground.phase }, { on := 5, ground := Ground.phase }, { on := 6, ground := Ground.phase }, { on := 7, ground := Ground.phase }, { on := 8, ground := Ground.phase }, { on := 9, ground := Ground.phase }, { on := 10, ground := Ground.phase }, { on := 11, ground := Ground.phase }, { on := 12, ground := Ground.phase }, { on := 13, ground := Ground.phase }, { on := 14, ground := Ground.phase }], guard := none }) (v := .bool true) rfl (by kernel_rfl) (by kernel_rfl) (by kernel_rfl) (fun _ _ _ h => h) (Or.inl ⟨by rfl, ?_⟩) (by assumption) ?_
                  · (intro wq hq; go_simp)
                  try simp only [Act.put, List.setIfInBounds_toArray, List.set_cons_zero, List.set_cons_succ]
                  refine wpAnyH_done (by kernel_rfl) ?_ _
                  clear hHeld
                  go_wp2_with fail
                  go_ret
                  exact ⟨rfl, zz.drew⟩
                · have haI : ¬ (a : Int) < (Y.length : Int) := by omega
                  subst hbe
                  go_upto_region 26 with fail
                  refine wp_region_held_drew (S := fun w' => w'.cell? ⟨T, 1, none⟩ = some (.slice oz Z.length Z.length)) (by kernel_rfl) t2 (fun hHeld => ?_)
                  refine wpAnyH_take (i := 0) (oi := { dst := some 135, op := Op.move (Operand.tmp 12), type := 3, pos := "laws.go:547", after := #[], guard := none }) (v := .int .i64 (Z.length : Int)) rfl (by kernel_rfl) (by kernel_rfl) (by kernel_rfl) (fun _ _ _ h => h) (Or.inl ⟨by rfl, ?_⟩) (by assumption) ?_
                  · (intro wq hq; go_simp)
                  try simp only [Act.put, List.setIfInBounds_toArray, List.set_cons_zero, List.set_cons_succ]
                  refine wpAnyH_take (i := 1) (oi := { dst := some 136, op := Op.fieldAddr 25 (Operand.tmp 9) 1, type := 0, pos := "laws.go:547", after := #[], guard := none }) (v := .pointer (some ⟨T, 1, none⟩)) rfl (by kernel_rfl) (by kernel_rfl) (by kernel_rfl) (fun _ _ _ h => h) (Or.inl ⟨by rfl, ?_⟩) (by assumption) ?_
                  · (intro wq hq; go_simp)
                  try simp only [Act.put, List.setIfInBounds_toArray, List.set_cons_zero, List.set_cons_succ]
                  refine wpAnyH_take (i := 2) (oi := { dst := some 137, op := Op.load 23 (Operand.tmp 136), type := 23, pos := "laws.go:547", after := #[{ on := 1, ground := Ground.data }], guard := none }) (v := .slice oz Z.length Z.length) rfl (by kernel_rfl) (by kernel_rfl) (by kernel_rfl) (fun _ _ _ h => h) (Or.inl ⟨by rfl, ?_⟩) (by assumption) ?_
                  · (intro wq hq; go_simp)
                  try simp only [Act.put, List.setIfInBounds_toArray, List.set_cons_zero, List.set_cons_succ]
                  refine wpAnyH_take (i := 3) (oi := { dst := some 138, op := Op.call { callee := Callee.builtin Builtin.len, args := #[Operand.tmp 137], argTypes := #[23] }, type := 3, pos := "laws.go:547", after := #[{ on := 2, ground := Ground.data }], guard := none }) (v := .int .i64 (Z.length : Int)) rfl (by kernel_rfl) (by kernel_rfl) (by kernel_rfl) (fun _ _ _ h => h) (Or.inl ⟨by rfl, ?_⟩) (by assumption) ?_
                  · (intro wq hq; go_simp)
                  try simp only [Act.put, List.setIfInBounds_toArray, List.set_cons_zero, List.set_cons_succ]
                  refine wpAnyH_take (i := 4) (oi := { dst := some 139, op := Op.binOp BinOp.eql 3 (Operand.tmp 135) (Operand.tmp 138) 3, type := 4, pos := "laws.go:547", after := #[{ on := 0, ground := Ground.data }, { on := 3, ground := Ground.data }], guard := none }) (v := .bool true) rfl (by kernel_rfl) (by kernel_rfl) (by kernel_rfl) (fun _ _ _ h => h) (Or.inl ⟨by rfl, ?_⟩) (by assumption) ?_
                  · (intro wq hq; go_simp)
                  try simp only [Act.put, List.setIfInBounds_toArray, List.set_cons_zero, List.set_cons_succ]
                  refine wpAnyH_take (i := 5) (oi := { dst := some 140, op := Op.move (Operand.tmp 139), type := 4, pos := "laws.go:547", after := #[{ on := 4, ground := Ground.data }], guard := none }) (v := .bool true) rfl (by kernel_rfl) (by kernel_rfl) (by kernel_rfl) (fun _ _ _ h => h) (Or.inl ⟨by rfl, ?_⟩) (by assumption) ?_
                  · (intro wq hq; go_simp)
                  try simp only [Act.put, List.setIfInBounds_toArray, List.set_cons_zero, List.set_cons_succ]
                  refine wpAnyH_take (i := 6) (oi := { dst := some 141, op := Op.fieldAddr 25 (Operand.tmp 9) 1, type := 0, pos := "laws.go:547", after := #[{ on := 5, ground := Ground.guard }], guard := some (5, true) }) (v := .pointer (some ⟨T, 1, none⟩)) rfl (by kernel_rfl) (by kernel_rfl) (by kernel_rfl) (fun _ _ _ h => h) (Or.inl ⟨by rfl, ?_⟩) (by assumption) ?_
                  · (intro wq hq; go_simp)
                  try simp only [Act.put, List.setIfInBounds_toArray, List.set_cons_zero, List.set_cons_succ]
                  refine wpAnyH_take (i := 7) (oi := { dst := some 142, op := Op.load 23 (Operand.tmp 141), type := 23, pos := "laws.go:547", after := #[{ on := 6, ground := Ground.data }, { on := 5, ground := Ground.guard }], guard := some (5, true) }) (v := .slice oz Z.length Z.length) rfl (by kernel_rfl) (by kernel_rfl) (by kernel_rfl) (fun _ _ _ h => h) (Or.inl ⟨by rfl, ?_⟩) (by assumption) ?_
                  · (intro wq hq; go_simp)
                  try simp only [Act.put, List.setIfInBounds_toArray, List.set_cons_zero, List.set_cons_succ]
                  refine wpAnyH_take (i := 8) (oi := { dst := some 143, op := Op.call { callee := Callee.builtin Builtin.len, args := #[Operand.tmp 142], argTypes := #[23] }, type := 3, pos := "laws.go:547", after := #[{ on := 7, ground := Ground.data }, { on := 5, ground := Ground.guard }], guard := some (5, true) }) (v := .int .i64 (Z.length : Int)) rfl (by kernel_rfl) (by kernel_rfl) (by kernel_rfl) (fun _ _ _ h => h) (Or.inl ⟨by rfl, ?_⟩) (by assumption) ?_
                  · (intro wq hq; go_simp)
                  try simp only [Act.put, List.setIfInBounds_toArray, List.set_cons_zero, List.set_cons_succ]
                  refine wpAnyH_take (i := 9) (oi := { dst := some 144, op := Op.move (Operand.tmp 5), type := 3, pos := "laws.go:547", after := #[{ on := 5, ground := Ground.guard }], guard := some (5, true) }) (v := .int .i64 (Y.length : Int)) rfl (by kernel_rfl) (by kernel_rfl) (by kernel_rfl) (fun _ _ _ h => h) (Or.inl ⟨by rfl, ?_⟩) (by assumption) ?_
                  · (intro wq hq; go_simp)
                  try simp only [Act.put, List.setIfInBounds_toArray, List.set_cons_zero, List.set_cons_succ]
                  refine wpAnyH_take (i := 10) (oi := { dst := some 145, op := Op.move (Operand.tmp 11), type := 4, pos := "laws.go:547", after := #[{ on := 5, ground := Ground.guard }], guard := some (5, true) }) (v := .bool true) rfl (by kernel_rfl) (by kernel_rfl) (by kernel_rfl) (fun _ _ _ h => h) (Or.inl ⟨by rfl, ?_⟩) (by assumption) ?_
                  · (intro wq hq; go_simp)
                  try simp only [Act.put, List.setIfInBounds_toArray, List.set_cons_zero, List.set_cons_succ]
                  refine wpAnyH_ready (rs := [11]) (by kernel_rfl) (by simp) ?_
                  refine AllReadyH.cons (o := { dst := some 146, op := Op.call { callee := Callee.value (Operand.func 9), args := #[Operand.tmp 145, Operand.const (Value.int IntKind.i64 1)], argTypes := #[4, 3] }, type := 3, pos := "laws.go:547", after := #[{ on := 10, ground := Ground.data }, { on := 5, ground := Ground.chain }, { on := 5, ground := Ground.guard }], guard := some (5, true) }) rfl (fun K hK => ?_) AllReadyH.nil
                  go_simp
                  go_at_call 9
                  refine (ci _).mono ?_
                  rintro e wd ⟨rfl, rfl⟩
                  go_simp
                  refine hK.out _ _ t2 (fun hHeld => ?_)
                  clear hK K
                  refine wpAnyH_take (i := 12) (oi := { dst := some 147, op := Op.binOp BinOp.sub 3 (Operand.tmp 144) (Operand.tmp 146) 3, type := 3, pos := "laws.go:547", after := #[{ on := 9, ground := Ground.data }, { on := 11, ground := Ground.data }, { on := 5, ground := Ground.guard }], guard := some (5, true) }) (v := .int .i64 (Z.length : Int)) rfl (by kernel_rfl) (by kernel_rfl) (by kernel_rfl) (fun _ _ _ h => h) (Or.inl ⟨by rfl, ?_⟩) (by assumption) ?_
                  · (intro wq hq; go_simp)
                  try simp only [Act.put, List.setIfInBounds_toArray, List.set_cons_zero, List.set_cons_succ]
                  refine wpAnyH_take (i := 13) (oi := { dst := some 148, op := Op.binOp BinOp.eql 3 (Operand.tmp 143) (Operand.tmp 147) 3, type := 4, pos := "laws.go:547", after := #[{ on := 8, ground := Ground.data }, { on := 12, ground := Ground.data }, { on := 5, ground := Ground.guard }], guard := some (5, true) }) (v := .bool true) rfl (by kernel_rfl) (by kernel_rfl) (by kernel_rfl) (fun _ _ _ h => h) (Or.inl ⟨by rfl, ?_⟩) (by assumption) ?_
                  · (intro wq hq; go_simp)
                  try simp only [Act.put, List.setIfInBounds_toArray, List.set_cons_zero, List.set_cons_succ]
                  refine wpAnyH_take (i := 14) (oi := { dst := some 149, op := Op.pick (Operand.tmp 140) (Operand.tmp 148) (Operand.const (Value.bool false)), type := 4, pos := "laws.go:547", after := #[{ on := 5, ground := Ground.data }, { on := 13, ground := Ground.data }], guard := none }) (v := .bool true) rfl (by kernel_rfl) (by kernel_rfl) (by kernel_rfl) (fun _ _ _ h => h) (Or.inl ⟨by rfl, ?_⟩) (by assumption) ?_
                  · (intro wq hq; go_simp)
                  try simp only [Act.put, List.setIfInBounds_toArray, List.set_cons_zero, List.set_cons_succ]
                  refine wpAnyH_take (i := 15) (oi := { dst := some 2, op := Op.assign (Operand.tmp 149), type := 4, pos := "laws.go:547", after := #[{ on := 14, ground := Ground.data }, { on := 11, ground := Ground.chain }, { on := 0, ground := Ground.phase }, { on := 1, ground := Ground.phase }, { on := 2, ground := Ground.phase }, { on := 3, ground := Ground.phase }, { on := 4, ground := Ground.phase }, { on := 5, ground := Ground.phase }, { on := 6, ground := Ground.phase }, { on := 7, ground := Ground.phase }, { on := 8, ground := Ground.phase }, { on := 9, ground := Ground.phase }, { on := 10, ground := Ground.phase }, { on := 11, ground := Ground.phase }, { on := 12, ground := Ground.phase }, { on := 13, ground := Ground.phase }, { on := 14, ground := Ground.phase }], guard := none }) (v := .bool true) rfl (by kernel_rfl) (by kernel_rfl) (by kernel_rfl) (fun _ _ _ h => h) (Or.inl ⟨by rfl, ?_⟩) (by assumption) ?_
                  · (intro wq hq; go_simp)
                  try simp only [Act.put, List.setIfInBounds_toArray, List.set_cons_zero, List.set_cons_succ]
                  refine wpAnyH_done (by kernel_rfl) ?_ _
                  clear hHeld
                  go_wp2_with fail
                  go_ret
                  exact ⟨rfl, zz.drew⟩
          · have hY : Y = [] := List.length_eq_zero_iff.1 (by omega)
            subst hY
            have ek : tk [] kk = ([], ⟨0, 0, ByteArray.empty⟩, false) := by unfold tk; rw [dif_neg (by simp)]
            rw [ek] at ct
            rw [decide_eq_false hY0] at ci
            simp only [List.length_nil] at ct a1 P5 ⊢
            clear ek hY0
            go_upto_region 18 with (go_at_call 8; refine (ct _ P5.2.2.1).mono ?_; rintro e w8 ⟨u, rfl, o8, b8⟩; obtain ⟨oz, hu⟩ := o8.len; subst hu; have P8 := P5.call b8; clear P5 o8 ct a0 a1 b8)
            have P9 := P8.call (below_pair (W := w8) (o := .cells #[.int .i64 m, .slice oz 0 0] 25) (o' := .cells #[.int .i64 0, .int .i64 0, .string ByteArray.empty] 32))
            have T9 := (C2.new w8 (.int .i64 m) (.slice oz 0 0) 25).call (below_one (o := .cells #[.int .i64 0, .int .i64 0, .string ByteArray.empty] 32))
            (try simp only [List.length_nil] at ⊢)
            generalize (w8.alloc (.cells #[.int .i64 m, .slice oz 0 0] 25)).alloc (.cells #[.int .i64 0, .int .i64 0, .string ByteArray.empty] 32) = w9 at P9 T9 ⊢
            generalize w8.heap.size = T at T9 ⊢
            obtain ⟨-, a1, a2, -, -⟩ := id P9.1
            obtain ⟨-, t1, t2, -, -⟩ := id T9
            have zz := P9.2.2.2
            clear P8 P9 T9
            have hwz : IntKind.i64.wrap ((0 : Int) - 0) = 0 := by decide
            have hwz0 : IntKind.i64.wrap 0 = 0 := by decide
            go_upto_region 22 with fail
            go_loopw [12, 13] (fun jv iv wr => jv = .int .i64 0 ∧ iv = .int .i64 0 ∧ w9 = wr) (fun _ _ _ => 0)
            case atStart => exact ⟨(by rfl), (by rfl), rfl⟩
            case round =>
              obtain ⟨rfl, rfl, rfl⟩ := hrel
              go_upto_region 26 with fail
              refine wp_region_held_drew (S := fun w' => w'.cell? ⟨T, 1, none⟩ = some (.slice oz 0 0)) (by kernel_rfl) t2 (fun hHeld => ?_)
              refine wpAnyH_take (i := 0) (oi := { dst := some 135, op := Op.move (Operand.tmp 12), type := 3, pos := "laws.go:547", after := #[], guard := none }) (v := .int .i64 0) rfl (by kernel_rfl) (by kernel_rfl) (by kernel_rfl) (fun _ _ _ h => h) (Or.inl ⟨by rfl, ?_⟩) (by assumption) ?_
              · (intro wq hq; go_simp)
              try simp only [Act.put, List.setIfInBounds_toArray, List.set_cons_zero, List.set_cons_succ]
              refine wpAnyH_take (i := 1) (oi := { dst := some 136, op := Op.fieldAddr 25 (Operand.tmp 9) 1, type := 0, pos := "laws.go:547", after := #[], guard := none }) (v := .pointer (some ⟨T, 1, none⟩)) rfl (by kernel_rfl) (by kernel_rfl) (by kernel_rfl) (fun _ _ _ h => h) (Or.inl ⟨by rfl, ?_⟩) (by assumption) ?_
              · (intro wq hq; go_simp)
              try simp only [Act.put, List.setIfInBounds_toArray, List.set_cons_zero, List.set_cons_succ]
              refine wpAnyH_take (i := 2) (oi := { dst := some 137, op := Op.load 23 (Operand.tmp 136), type := 23, pos := "laws.go:547", after := #[{ on := 1, ground := Ground.data }], guard := none }) (v := .slice oz 0 0) rfl (by kernel_rfl) (by kernel_rfl) (by kernel_rfl) (fun _ _ _ h => h) (Or.inl ⟨by rfl, ?_⟩) (by assumption) ?_
              · (intro wq hq; go_simp)
              try simp only [Act.put, List.setIfInBounds_toArray, List.set_cons_zero, List.set_cons_succ]
              refine wpAnyH_take (i := 3) (oi := { dst := some 138, op := Op.call { callee := Callee.builtin Builtin.len, args := #[Operand.tmp 137], argTypes := #[23] }, type := 3, pos := "laws.go:547", after := #[{ on := 2, ground := Ground.data }], guard := none }) (v := .int .i64 0) rfl (by kernel_rfl) (by kernel_rfl) (by kernel_rfl) (fun _ _ _ h => h) (Or.inl ⟨by rfl, ?_⟩) (by assumption) ?_
              · (intro wq hq; go_simp)
              try simp only [Act.put, List.setIfInBounds_toArray, List.set_cons_zero, List.set_cons_succ]
              refine wpAnyH_take (i := 4) (oi := { dst := some 139, op := Op.binOp BinOp.eql 3 (Operand.tmp 135) (Operand.tmp 138) 3, type := 4, pos := "laws.go:547", after := #[{ on := 0, ground := Ground.data }, { on := 3, ground := Ground.data }], guard := none }) (v := .bool true) rfl (by kernel_rfl) (by kernel_rfl) (by kernel_rfl) (fun _ _ _ h => h) (Or.inl ⟨by rfl, ?_⟩) (by assumption) ?_
              · (intro wq hq; go_simp)
              try simp only [Act.put, List.setIfInBounds_toArray, List.set_cons_zero, List.set_cons_succ]
              refine wpAnyH_take (i := 5) (oi := { dst := some 140, op := Op.move (Operand.tmp 139), type := 4, pos := "laws.go:547", after := #[{ on := 4, ground := Ground.data }], guard := none }) (v := .bool true) rfl (by kernel_rfl) (by kernel_rfl) (by kernel_rfl) (fun _ _ _ h => h) (Or.inl ⟨by rfl, ?_⟩) (by assumption) ?_
              · (intro wq hq; go_simp)
              try simp only [Act.put, List.setIfInBounds_toArray, List.set_cons_zero, List.set_cons_succ]
              refine wpAnyH_take (i := 6) (oi := { dst := some 141, op := Op.fieldAddr 25 (Operand.tmp 9) 1, type := 0, pos := "laws.go:547", after := #[{ on := 5, ground := Ground.guard }], guard := some (5, true) }) (v := .pointer (some ⟨T, 1, none⟩)) rfl (by kernel_rfl) (by kernel_rfl) (by kernel_rfl) (fun _ _ _ h => h) (Or.inl ⟨by rfl, ?_⟩) (by assumption) ?_
              · (intro wq hq; go_simp)
              try simp only [Act.put, List.setIfInBounds_toArray, List.set_cons_zero, List.set_cons_succ]
              refine wpAnyH_take (i := 7) (oi := { dst := some 142, op := Op.load 23 (Operand.tmp 141), type := 23, pos := "laws.go:547", after := #[{ on := 6, ground := Ground.data }, { on := 5, ground := Ground.guard }], guard := some (5, true) }) (v := .slice oz 0 0) rfl (by kernel_rfl) (by kernel_rfl) (by kernel_rfl) (fun _ _ _ h => h) (Or.inl ⟨by rfl, ?_⟩) (by assumption) ?_
              · (intro wq hq; go_simp)
              try simp only [Act.put, List.setIfInBounds_toArray, List.set_cons_zero, List.set_cons_succ]
              refine wpAnyH_take (i := 8) (oi := { dst := some 143, op := Op.call { callee := Callee.builtin Builtin.len, args := #[Operand.tmp 142], argTypes := #[23] }, type := 3, pos := "laws.go:547", after := #[{ on := 7, ground := Ground.data }, { on := 5, ground := Ground.guard }], guard := some (5, true) }) (v := .int .i64 0) rfl (by kernel_rfl) (by kernel_rfl) (by kernel_rfl) (fun _ _ _ h => h) (Or.inl ⟨by rfl, ?_⟩) (by assumption) ?_
              · (intro wq hq; go_simp)
              try simp only [Act.put, List.setIfInBounds_toArray, List.set_cons_zero, List.set_cons_succ]
              refine wpAnyH_take (i := 9) (oi := { dst := some 144, op := Op.move (Operand.tmp 5), type := 3, pos := "laws.go:547", after := #[{ on := 5, ground := Ground.guard }], guard := some (5, true) }) (v := .int .i64 0) rfl (by kernel_rfl) (by kernel_rfl) (by kernel_rfl) (fun _ _ _ h => h) (Or.inl ⟨by rfl, ?_⟩) (by assumption) ?_
              · (intro wq hq; go_simp)
              try simp only [Act.put, List.setIfInBounds_toArray, List.set_cons_zero, List.set_cons_succ]
              refine wpAnyH_take (i := 10) (oi := { dst := some 145, op := Op.move (Operand.tmp 11), type := 4, pos := "laws.go:547", after := #[{ on := 5, ground := Ground.guard }], guard := some (5, true) }) (v := .bool false) rfl (by kernel_rfl) (by kernel_rfl) (by kernel_rfl) (fun _ _ _ h => h) (Or.inl ⟨by rfl, ?_⟩) (by assumption) ?_
              · (intro wq hq; go_simp)
              try simp only [Act.put, List.setIfInBounds_toArray, List.set_cons_zero, List.set_cons_succ]
              refine wpAnyH_ready (rs := [11]) (by kernel_rfl) (by simp) ?_
              refine AllReadyH.cons (o := { dst := some 146, op := Op.call { callee := Callee.value (Operand.func 9), args := #[Operand.tmp 145, Operand.const (Value.int IntKind.i64 1)], argTypes := #[4, 3] }, type := 3, pos := "laws.go:547", after := #[{ on := 10, ground := Ground.data }, { on := 5, ground := Ground.chain }, { on := 5, ground := Ground.guard }], guard := some (5, true) }) rfl (fun K hK => ?_) AllReadyH.nil
              go_simp
              go_at_call 9
              refine (ci _).mono ?_
              rintro e wd ⟨rfl, rfl⟩
              go_simp
              refine hK.out _ _ t2 (fun hHeld => ?_)
              clear hK K
              refine wpAnyH_take (i := 12) (oi := { dst := some 147, op := Op.binOp BinOp.sub 3 (Operand.tmp 144) (Operand.tmp 146) 3, type := 3, pos := "laws.go:547", after := #[{ on := 9, ground := Ground.data }, { on := 11, ground := Ground.data }, { on := 5, ground := Ground.guard }], guard := some (5, true) }) (v := .int .i64 0) rfl (by kernel_rfl) (by kernel_rfl) (by kernel_rfl) (fun _ _ _ h => h) (Or.inl ⟨by rfl, ?_⟩) (by assumption) ?_
              · (intro wq hq; go_simp)
              try simp only [Act.put, List.setIfInBounds_toArray, List.set_cons_zero, List.set_cons_succ]
              refine wpAnyH_take (i := 13) (oi := { dst := some 148, op := Op.binOp BinOp.eql 3 (Operand.tmp 143) (Operand.tmp 147) 3, type := 4, pos := "laws.go:547", after := #[{ on := 8, ground := Ground.data }, { on := 12, ground := Ground.data }, { on := 5, ground := Ground.guard }], guard := some (5, true) }) (v := .bool true) rfl (by kernel_rfl) (by kernel_rfl) (by kernel_rfl) (fun _ _ _ h => h) (Or.inl ⟨by rfl, ?_⟩) (by assumption) ?_
              · (intro wq hq; go_simp)
              try simp only [Act.put, List.setIfInBounds_toArray, List.set_cons_zero, List.set_cons_succ]
              refine wpAnyH_take (i := 14) (oi := { dst := some 149, op := Op.pick (Operand.tmp 140) (Operand.tmp 148) (Operand.const (Value.bool false)), type := 4, pos := "laws.go:547", after := #[{ on := 5, ground := Ground.data }, { on := 13, ground := Ground.data }], guard := none }) (v := .bool true) rfl (by kernel_rfl) (by kernel_rfl) (by kernel_rfl) (fun _ _ _ h => h) (Or.inl ⟨by rfl, ?_⟩) (by assumption) ?_
              · (intro wq hq; go_simp)
              try simp only [Act.put, List.setIfInBounds_toArray, List.set_cons_zero, List.set_cons_succ]
              refine wpAnyH_take (i := 15) (oi := { dst := some 2, op := Op.assign (Operand.tmp 149), type := 4, pos := "laws.go:547", after := #[{ on := 14, ground := Ground.data }, { on := 11, ground := Ground.chain }, { on := 0, ground := Ground.phase }, { on := 1, ground := Ground.phase }, { on := 2, ground := Ground.phase }, { on := 3, ground := Ground.phase }, { on := 4, ground := Ground.phase }, { on := 5, ground := Ground.phase }, { on := 6, ground := Ground.phase }, { on := 7, ground := Ground.phase }, { on := 8, ground := Ground.phase }, { on := 9, ground := Ground.phase }, { on := 10, ground := Ground.phase }, { on := 11, ground := Ground.phase }, { on := 12, ground := Ground.phase }, { on := 13, ground := Ground.phase }, { on := 14, ground := Ground.phase }], guard := none }) (v := .bool true) rfl (by kernel_rfl) (by kernel_rfl) (by kernel_rfl) (fun _ _ _ h => h) (Or.inl ⟨by rfl, ?_⟩) (by assumption) ?_
              · (intro wq hq; go_simp)
              try simp only [Act.put, List.setIfInBounds_toArray, List.set_cons_zero, List.set_cons_succ]
              refine wpAnyH_done (by kernel_rfl) ?_ _
              clear hHeld
              go_wp2_with fail
              go_ret
              exact ⟨rfl, zz.drew⟩
end Go.Proofs.Ytnfnhgloblfgnaa
