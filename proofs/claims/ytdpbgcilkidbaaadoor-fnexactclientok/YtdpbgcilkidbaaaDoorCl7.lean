/-
  A client that is ok: the program's side.
-/
import Derived.Test.YtdpbgcilkidbaaaDoorCl6
import Derived.Deep.Cut
import Derived.Deep.CutRange
import Derived.Deep.RegionHeld
namespace Go.Proofs.YtdpbgcilkidbaaaDoor
open Go.RowKit

/-- What start-up lays of the numbers of sessions. -/
def Gs (W : World) : Prop := W.cell? ⟨0, 0, none⟩ = some (.int .i64 3) ∧ W.cell? ⟨0, 1, none⟩ = some (.int .i64 1) ∧ W.cell? ⟨0, 2, none⟩ = some (.int .i64 1000000) ∧ W.cell? ⟨0, 3, none⟩ = some (.int .i64 3)
theorem Gs.call {w w' : World} (h : Gs w) (hb : Below w.heap.size w w') : Gs w' := by
  obtain ⟨h0, h1, h2, h3⟩ := h
  have l := World.block_lt_of_cell? _ _ h0
  exact ⟨(hb.cell (p := ⟨0, 0, none⟩) l).trans h0, (hb.cell (p := ⟨0, 1, none⟩) l).trans h1, (hb.cell (p := ⟨0, 2, none⟩) l).trans h2, (hb.cell (p := ⟨0, 3, none⟩) l).trans h3⟩
theorem run_load_cl {a : Act} {dst : Option Tmp} {ty ty2 : TypeId} {x : Operand} {pos : String} {after : Array Edge} {g : Option (Nat × Bool)} {n : Nat} {w : World}
    (hty : AggTy ty n) (b k : Nat) (vs : List Value) (hn : vs.length = n) (hx : a.eval x = .pointer (some ⟨b, k, none⟩)) (hl : Lies b k vs w) :
    (execOp a.eval ⟨dst, .load ty x, ty2, pos, after, g⟩).run Tryd.prog w = .ok (.value (.agg vs.toArray)) w := by
  obtain ⟨⟨d, hu, hd⟩, hi⟩ := hty
  unfold execOp
  simp only [hx, Instr.loadAt, Instr.sureAddr, Sem.run_bind, Sem.run_pure, Result.andThen_ok, run_lv ty b k vs w d hd hu (by rw [hn]; exact hi) hl]
/-- What is asked of a client's numbers and of its pinned point. -/
def ok3 (c : Cln) : Bool := nok c.n c.m && pok c.ps c.pr && decide (0 ≤ c.se ∧ c.se ≤ 1000000)
theorem ok3_iff (c : Cln) (X : List Int) : Cok c X ↔ ok3 c = true ∧ ((c.ph = 0 ∧ nop c.gs c.gr = true ∧ X.length = 0) ∨ (c.ph = 1 ∧ nop c.gs c.gr = true ∧ X.length = 0 ∧ 1 ≤ c.se) ∨
      (c.ph = 2 ∧ 1 ≤ c.se ∧ (c.ps + 1 ≤ c.gs ∧ c.gs ≤ 256) ∧ (X.length : Int) < c.n ∧ Asc c.m X X.length)) := by
  unfold Cok ok3
  rw [Bool.and_eq_true, Bool.and_eq_true, decide_eq_true_iff]
  constructor
  · rintro ⟨h1, h2, h3, h4⟩
    exact ⟨⟨⟨h1, h3⟩, h2⟩, h4⟩
  · rintro ⟨⟨⟨h1, h3⟩, h2⟩, h4⟩
    exact ⟨h1, h2, h3, h4⟩
theorem ok3_se {c : Cln} (h : ok3 c = true) : 0 ≤ c.se := by
  unfold ok3 at h
  rw [Bool.and_eq_true, decide_eq_true_iff] at h
  exact h.2.1
theorem ok3_m {c : Cln} (h : ok3 c = true) : 1 ≤ c.m ∧ c.m ≤ 7 := by
  unfold ok3 nok at h
  rw [Bool.and_eq_true, Bool.and_eq_true, decide_eq_true_iff] at h
  omega
set_option maxRecDepth 20000 in
set_option maxHeartbeats 8000000 in
theorem phase_is (W : World) (c : Cln) (v : Value) (X : List Int) (h : Its W v X) (hG : Gs W) :
    Calls Tryd.prog 19 #[.agg #[.int .i64 c.n, .int .i64 c.m, .int .i64 c.se, .int .i64 c.ph, .int .i64 c.gs, .int .u64 ((c.gr.a).toNat : Int), .int .u64 ((c.gr.b).toNat : Int), .int .u64 ((c.gr.c).toNat : Int), .int .u64 ((c.gr.d).toNat : Int), v, .int .i64 c.ps, .int .u64 ((c.pr.a).toNat : Int), .int .u64 ((c.pr.b).toNat : Int), .int .u64 ((c.pr.c).toNat : Int), .int .u64 ((c.pr.d).toNat : Int)]] W fun e w' => ∃ i b, e = .returned (.tuple #[i, .bool b]) ∧ Below W.heap.size W w' ∧ (b = true ↔ Cok c X) := by
  obtain ⟨oa, cap, rfl, hl⟩ := h.len
  have H : Hid (Its W (.slice oa X.length cap) X) := h
  clear h
  have cn := fun (V : World) => needOk_is c.n c.m V
  have cp := fun V : World => pinOk_is c.ps c.pr V
  have ct := fun V : World => takes_is 3 1 1000000 3 c.se V
  have A0 := CA.new W c (.slice oa X.length cap)
  have G0 := hG.call ((Below.refl W.heap.size W).alloc (Nat.le_refl _) (.cells #[.int .i64 c.n, .int .i64 c.m, .int .i64 c.se, .int .i64 c.ph, .int .i64 c.gs, .int .u64 ((c.gr.a).toNat : Int), .int .u64 ((c.gr.b).toNat : Int), .int .u64 ((c.gr.c).toNat : Int), .int .u64 ((c.gr.d).toNat : Int), (.slice oa X.length cap), .int .i64 c.ps, .int .u64 ((c.pr.a).toNat : Int), .int .u64 ((c.pr.b).toNat : Int), .int .u64 ((c.pr.c).toNat : Int), .int .u64 ((c.pr.d).toNat : Int)] 36))
  clear hG
  go_enter Tryd.func19, Tryd.ntmps19
  go_upto_region 1 with fail
  generalize W.alloc (.cells #[.int .i64 c.n, .int .i64 c.m, .int .i64 c.se, .int .i64 c.ph, .int .i64 c.gs, .int .u64 ((c.gr.a).toNat : Int), .int .u64 ((c.gr.b).toNat : Int), .int .u64 ((c.gr.c).toNat : Int), .int .u64 ((c.gr.d).toNat : Int), (.slice oa X.length cap), .int .i64 c.ps, .int .u64 ((c.pr.a).toNat : Int), .int .u64 ((c.pr.b).toNat : Int), .int .u64 ((c.pr.c).toNat : Int), .int .u64 ((c.pr.d).toNat : Int)] 36) = w0 at A0 G0 ⊢
  go_cut [31] from 8 to 31 (fun nv wx => nv = .bool (!ok3 c) ∧ Hid (CA W c (.slice oa X.length cap) wx))
  case first =>
    obtain ⟨a0, a1, a2, a3, a4, a5, a6, a7, a8, a9, a10, a11, a12, a13, a14⟩ := A0.cells
    obtain ⟨g0, g1, g2, g3⟩ := G0
    cases hk : nok c.n c.m with
    | false =>
      have ho : ok3 c = false := by unfold ok3; rw [hk]; rfl
      rw [hk] at cn
      go_wp2_with (go_at_call 25; refine (cn _).mono ?_; rintro e w1 ⟨rfl, hw1⟩; subst hw1)
      go_meet
      exact ⟨by rw [ho]; rfl, A0⟩
    | true =>
      rw [hk] at cn
      cases hp : pok c.ps c.pr with
      | false =>
        have ho : ok3 c = false := by unfold ok3; rw [hk, hp]; rfl
        rw [hp] at cp
        go_wp2_with (first
          | (go_at_call 25; refine (cn _).mono ?_; rintro e w1 ⟨rfl, hw1⟩; subst hw1)
          | (go_at_call 26; refine (cp _).mono ?_; rintro e w1 ⟨rfl, b1⟩; have A1 := A0.call b1; clear b1))
        go_meet
        exact ⟨by rw [ho]; rfl, A1⟩
      | true =>
        rw [hp] at cp
        by_cases hs0 : c.se = 0
        · have ho : ok3 c = true := by unfold ok3; rw [hk, hp, decide_eq_true (show 0 ≤ c.se ∧ c.se ≤ 1000000 by omega)]; rfl
          have sI : (c.se != 0) = false := by rw [bne, beq_iff_eq.2 hs0]; rfl
          clear hs0
          go_wp2_with (first
            | (go_at_call 25; refine (cn _).mono ?_; rintro e w1 ⟨rfl, hw1⟩; subst hw1)
            | (go_at_call 26; refine (cp _).mono ?_; rintro e w1 ⟨rfl, b1⟩; have A1 := A0.call b1; clear a0 a1 a2 a3 a4 a5 a6 a7 a8 a9 a10 a11 a12 a13 a14; obtain ⟨a0, a1, a2, a3, a4, a5, a6, a7, a8, a9, a10, a11, a12, a13, a14⟩ := A1.cells; clear b1))
          go_meet
          exact ⟨by rw [ho]; rfl, A1⟩
        · have sI : (c.se != 0) = true := by rw [bne, beq_eq_false_iff_ne.2 hs0]; rfl
          have ho : ok3 c = decide (1 ≤ c.se ∧ c.se ≤ 1000000) := by
            unfold ok3
            rw [hk, hp, Bool.true_and, Bool.true_and]
            exact decide_eq_decide.2 (by omega)
          generalize decide (1 ≤ c.se ∧ c.se ≤ 1000000) = b at ct ho
          clear hs0
          cases b with
          | true =>
            go_wp2_with (first
              | (with_reducible refine wpl_load agg_wnm 0 0 [.int .i64 3, .int .i64 1, .int .i64 1000000, .int .i64 3] (by kernel_rfl) (by kernel_rfl) gw ?_)
              | (go_at_call 25; refine (cn _).mono ?_; rintro e w1 ⟨rfl, hw1⟩; subst hw1)
              | (go_at_call 27; refine (ct _).mono ?_; rintro e w2 ⟨rfl, b2⟩; have A2 := A1.call b2; clear b2)
              | (go_at_call 26; refine (cp _).mono ?_; rintro e w1 ⟨rfl, b1⟩; have A1 := A0.call b1; have G1 : Gs w1 := Gs.call ⟨g0, g1, g2, g3⟩ b1; clear g0 g1 g2 g3 a0 a1 a2 a3 a4 a5 a6 a7 a8 a9 a10 a11 a12 a13 a14; obtain ⟨g0, g1, g2, g3⟩ := G1; obtain ⟨a0, a1, a2, a3, a4, a5, a6, a7, a8, a9, a10, a11, a12, a13, a14⟩ := A1.cells; clear b1))
            go_meet
            exact ⟨by rw [ho]; rfl, A2⟩
          | false =>
            go_wp2_with (first
              | (go_at_call 25; refine (cn _).mono ?_; rintro e w1 ⟨rfl, hw1⟩; subst hw1)
              | (go_at_call 27; refine (ct _).mono ?_; rintro e w2 ⟨rfl, b2⟩; have A2 := A1.call b2; clear b2)
              | (go_at_call 26; refine (cp _).mono ?_; rintro e w1 ⟨rfl, b1⟩; have A1 := A0.call b1; have G1 : Gs w1 := Gs.call ⟨g0, g1, g2, g3⟩ b1; clear g0 g1 g2 g3 a0 a1 a2 a3 a4 a5 a6 a7 a8 a9 a10 a11 a12 a13 a14; obtain ⟨g0, g1, g2, g3⟩ := G1; obtain ⟨a0, a1, a2, a3, a4, a5, a6, a7, a8, a9, a10, a11, a12, a13, a14⟩ := A1.cells; clear b1))
            go_meet
            exact ⟨by rw [ho]; rfl, A2⟩
  case rest =>
    obtain ⟨rfl, HA⟩ := hcut
    have A1 := HA.out
    clear HA A0 G0 cn cp ct
    have zz := A1.2.2
    have hC := ok3_iff c X
    cases ho : ok3 c with
    | false =>
      have hno : ¬ Cok c X := fun h => by rw [(hC.1 h).1] at ho; cases ho
      clear hC
      go_wp2_with fail
      go_ret2
      first | exact ⟨_, false, rfl, zz, no_of hno⟩ | exact ⟨⟨_, rfl⟩, zz⟩ | exact ⟨⟨_, rfl⟩, zz, hno⟩ | exact ⟨_, rfl, zz⟩
    | true =>
      obtain ⟨a0, a1, a2, a3, a4, a5, a6, a7, a8, a9, a10, a11, a12, a13, a14⟩ := A1.cells
      go_upto_region 3 with fail
      generalize hbe : (nop c.gs c.gr && decide (X.length = 0)) = bare
      have hbare : bare = true ↔ nop c.gs c.gr = true ∧ X.length = 0 := by rw [← hbe, Bool.and_eq_true, decide_eq_true_iff]
      go_cut [0, 4] from 32 to 41 (fun _ nv wx => nv = .bool bare ∧ wx = wc)
      case first =>
        by_cases hx : X.length = 0
        · have hxI : ((X.length : Int) == 0) = true := by rw [beq_iff_eq]; omega
          rw [decide_eq_true hx, Bool.and_true] at hbe
          have HB : Hid (bare = nop c.gs c.gr) := hbe.symm
          clear hbe
          clear hC hbare A1 zz
          go_wp2_with fail
          all_goals
            go_meet
            exact ⟨by rw [HB.out]; simp_all [nop], rfl⟩
        · have hxI : ((X.length : Int) == 0) = false := by rw [beq_eq_false_iff_ne]; omega
          rw [decide_eq_false hx, Bool.and_false] at hbe
          have HB : Hid (bare = false) := hbe.symm
          clear hbe
          clear hC hbare A1 zz
          go_wp2_with fail
          all_goals
            go_meet
            exact ⟨by rw [HB.out], rfl⟩
      case rest =>
        obtain ⟨rfl, hw⟩ := hcut
        subst hw
        clear hbe
        by_cases h0 : c.ph = 0
        · rw [h0] at a3
          have hC' : Cok c X ↔ bare = true := hC.trans ⟨fun h => hbare.2 (by rcases h.2 with h | h | h <;> first | exact h.2 | (exfalso; have := h.1; omega)), fun h => ⟨ho, .inl ⟨h0, hbare.1 h⟩⟩⟩
          clear hC hbare
          go_wp2_with fail
          go_ret2
          first | exact ⟨_, bare, rfl, zz, hC'.symm⟩ | exact ⟨_, bare, rfl, zz, by rw [hC']⟩
        · by_cases h1 : c.ph = 1
          · rw [h1] at a3
            have hC' : Cok c X ↔ bare = true ∧ 1 ≤ c.se := hC.trans ⟨fun h => by rcases h.2 with h | h | h <;> first | exact ⟨hbare.2 ⟨h.2.1, h.2.2.1⟩, h.2.2.2⟩ | (exfalso; have := h.1; omega), fun h => ⟨ho, .inr (.inl ⟨h1, (hbare.1 h.1).1, (hbare.1 h.1).2, h.2⟩)⟩⟩
            clear hC hbare
            have A2 := A1.call (Below.refl _ _).drew
            have zd := A2.2.2
            have d2 := A2.cells.2.2.1
            have hge : 0 ≤ c.se := ok3_se ho
            go_upto_region 8 with fail
            clear a0 a1 a2 a3 a4 a5 a6 a7 a8 a9 a10 a11 a12 a13 a14 A1 A2 zz
            cases bare with
            | true =>
              by_cases hse : c.se = 0
              · have sI : (c.se != 0) = false := by rw [bne, beq_iff_eq.2 hse]; rfl
                have hno : ¬ Cok c X := fun h => by have := (hC'.1 h).2; omega
                clear hC' hse hge ho
                refine wp_region_held_drew (S := fun w' => w'.cell? ⟨W.heap.size, 2, none⟩ = some (.int .i64 c.se)) (by kernel_rfl) d2 (fun hHeld => ?_)
                refine wpAnyH_take (i := 0) (oi := { dst := some 51, op := Op.build 61 #[], type := 61, pos := "l10_client.go:99", after := #[], guard := none }) (v := .agg #[]) rfl (by kernel_rfl) (by kernel_rfl) (by kernel_rfl) (fun _ _ _ h => h) (Or.inl ⟨by rfl, ?_⟩) (by assumption) ?_
                · (intro wq hq; first | (go_simp; done) | (go_simp; rfl) | (go_simp; omega))
                try simp only [Act.put, List.setIfInBounds_toArray, List.set_cons_zero, List.set_cons_succ]
                refine wpAnyH_take (i := 1) (oi := { dst := some 52, op := Op.makeInterface 61 (Operand.tmp 51), type := 50, pos := "l10_client.go:99", after := #[{ on := 0, ground := Ground.data }], guard := none }) (v := .iface 61 (.agg #[])) rfl (by kernel_rfl) (by kernel_rfl) (by kernel_rfl) (fun _ _ _ h => h) (Or.inl ⟨by rfl, ?_⟩) (by assumption) ?_
                · (intro wq hq; first | (go_simp; done) | (go_simp; rfl) | (go_simp; omega))
                try simp only [Act.put, List.setIfInBounds_toArray, List.set_cons_zero, List.set_cons_succ]
                refine wpAnyH_take (i := 2) (oi := { dst := some 53, op := Op.move (Operand.tmp 4), type := 4, pos := "l10_client.go:99", after := #[], guard := none }) (v := .bool true) rfl (by kernel_rfl) (by kernel_rfl) (by kernel_rfl) (fun _ _ _ h => h) (Or.inl ⟨by rfl, ?_⟩) (by assumption) ?_
                · (intro wq hq; first | (go_simp; done) | (go_simp; rfl) | (go_simp; omega))
                try simp only [Act.put, List.setIfInBounds_toArray, List.set_cons_zero, List.set_cons_succ]
                refine wpAnyH_take (i := 3) (oi := { dst := some 54, op := Op.move (Operand.tmp 53), type := 4, pos := "l10_client.go:99", after := #[{ on := 2, ground := Ground.data }], guard := none }) (v := .bool true) rfl (by kernel_rfl) (by kernel_rfl) (by kernel_rfl) (fun _ _ _ h => h) (Or.inl ⟨by rfl, ?_⟩) (by assumption) ?_
                · (intro wq hq; first | (go_simp; done) | (go_simp; rfl) | (go_simp; omega))
                try simp only [Act.put, List.setIfInBounds_toArray, List.set_cons_zero, List.set_cons_succ]
                refine wpAnyH_take (i := 4) (oi := { dst := some 55, op := Op.fieldAddr 36 (Operand.tmp 1) 2, type := 0, pos := "l10_client.go:99", after := #[{ on := 3, ground := Ground.guard }, { on := 8, ground := Ground.gcOnly Departure.lateStores }], guard := some (3, true) }) (v := .pointer (some ⟨W.heap.size, 2, none⟩)) rfl (by kernel_rfl) (by kernel_rfl) (by kernel_rfl) (fun _ _ _ h => h) (Or.inl ⟨by rfl, ?_⟩) (by assumption) ?_
                · (intro wq hq; first | (go_simp; done) | (go_simp; rfl) | (go_simp; omega))
                try simp only [Act.put, List.setIfInBounds_toArray, List.set_cons_zero, List.set_cons_succ]
                refine wpAnyH_take (i := 5) (oi := { dst := some 56, op := Op.load 3 (Operand.tmp 55), type := 3, pos := "l10_client.go:99", after := #[{ on := 4, ground := Ground.data }, { on := 3, ground := Ground.guard }, { on := 8, ground := Ground.gcOnly Departure.lateStores }], guard := some (3, true) }) (v := .int .i64 c.se) rfl (by kernel_rfl) (by kernel_rfl) (by kernel_rfl) (fun _ _ _ h => h) (Or.inl ⟨by rfl, ?_⟩) (by assumption) ?_
                · (intro wq hq; go_simp)
                try simp only [Act.put, List.setIfInBounds_toArray, List.set_cons_zero, List.set_cons_succ]
                refine wpAnyH_take (i := 6) (oi := { dst := some 57, op := Op.binOp BinOp.neq 3 (Operand.tmp 56) (Operand.const (Value.int IntKind.i64 0)) 3, type := 4, pos := "l10_client.go:99", after := #[{ on := 5, ground := Ground.data }, { on := 3, ground := Ground.guard }, { on := 8, ground := Ground.gcOnly Departure.lateStores }], guard := some (3, true) }) (v := .bool false) rfl (by kernel_rfl) (by kernel_rfl) (by kernel_rfl) (fun _ _ _ h => h) (Or.inl ⟨by rfl, ?_⟩) (by assumption) ?_
                · (intro wq hq; first | (go_simp; done) | (go_simp; rfl) | (go_simp; omega))
                try simp only [Act.put, List.setIfInBounds_toArray, List.set_cons_zero, List.set_cons_succ]
                refine wpAnyH_take (i := 7) (oi := { dst := some 58, op := Op.pick (Operand.tmp 54) (Operand.tmp 57) (Operand.const (Value.bool false)), type := 4, pos := "l10_client.go:99", after := #[{ on := 3, ground := Ground.data }, { on := 6, ground := Ground.data }, { on := 8, ground := Ground.gcOnly Departure.lateStores }], guard := none }) (v := .bool false) rfl (by kernel_rfl) (by kernel_rfl) (by kernel_rfl) (fun _ _ _ h => h) (Or.inl ⟨by rfl, ?_⟩) (by assumption) ?_
                · (intro wq hq; first | (go_simp; done) | (go_simp; rfl) | (go_simp; omega))
                try simp only [Act.put, List.setIfInBounds_toArray, List.set_cons_zero, List.set_cons_succ]
                refine wpAnyH_take (i := 8) (oi := { dst := some 2, op := Op.assign (Operand.tmp 52), type := 50, pos := "l10_client.go:99", after := #[{ on := 1, ground := Ground.data }, { on := 3, ground := Ground.chain }, { on := 0, ground := Ground.phase }, { on := 1, ground := Ground.phase }, { on := 2, ground := Ground.textOnly Departure.lateStores }, { on := 3, ground := Ground.textOnly Departure.lateStores }, { on := 4, ground := Ground.textOnly Departure.lateStores }, { on := 5, ground := Ground.textOnly Departure.lateStores }, { on := 6, ground := Ground.textOnly Departure.lateStores }, { on := 7, ground := Ground.textOnly Departure.lateStores }], guard := none }) (v := .iface 61 (.agg #[])) rfl (by kernel_rfl) (by kernel_rfl) (by kernel_rfl) (fun _ _ _ h => h) (Or.inl ⟨by rfl, ?_⟩) (by assumption) ?_
                · (intro wq hq; first | (go_simp; done) | (go_simp; rfl) | (go_simp; omega))
                try simp only [Act.put, List.setIfInBounds_toArray, List.set_cons_zero, List.set_cons_succ]
                refine wpAnyH_take (i := 9) (oi := { dst := some 3, op := Op.assign (Operand.tmp 58), type := 4, pos := "l10_client.go:99", after := #[{ on := 7, ground := Ground.data }, { on := 8, ground := Ground.chain }, { on := 0, ground := Ground.phase }, { on := 1, ground := Ground.phase }, { on := 2, ground := Ground.phase }, { on := 3, ground := Ground.phase }, { on := 4, ground := Ground.phase }, { on := 5, ground := Ground.phase }, { on := 6, ground := Ground.phase }, { on := 7, ground := Ground.phase }, { on := 8, ground := Ground.phase }], guard := none }) (v := .bool false) rfl (by kernel_rfl) (by kernel_rfl) (by kernel_rfl) (fun _ _ _ h => h) (Or.inl ⟨by rfl, ?_⟩) (by assumption) ?_
                · (intro wq hq; first | (go_simp; done) | (go_simp; rfl) | (go_simp; omega))
                try simp only [Act.put, List.setIfInBounds_toArray, List.set_cons_zero, List.set_cons_succ]
                refine wpAnyH_done (by kernel_rfl) ?_ _
                clear hHeld
                go_wp2_with fail
                go_ret2
                first | exact ⟨_, false, rfl, zd, no_of hno⟩ | exact ⟨⟨_, rfl⟩, zd⟩ | exact ⟨⟨_, rfl⟩, zd, hno⟩ | exact ⟨_, rfl, zd⟩
              · have sI : (c.se != 0) = true := by rw [bne, beq_eq_false_iff_ne.2 hse]; rfl
                have hyes : Cok c X := hC'.2 ⟨rfl, by omega⟩
                clear hC' hse hge ho
                refine wp_region_held_drew (S := fun w' => w'.cell? ⟨W.heap.size, 2, none⟩ = some (.int .i64 c.se)) (by kernel_rfl) d2 (fun hHeld => ?_)
                refine wpAnyH_take (i := 0) (oi := { dst := some 51, op := Op.build 61 #[], type := 61, pos := "l10_client.go:99", after := #[], guard := none }) (v := .agg #[]) rfl (by kernel_rfl) (by kernel_rfl) (by kernel_rfl) (fun _ _ _ h => h) (Or.inl ⟨by rfl, ?_⟩) (by assumption) ?_
                · (intro wq hq; first | (go_simp; done) | (go_simp; rfl) | (go_simp; omega))
                try simp only [Act.put, List.setIfInBounds_toArray, List.set_cons_zero, List.set_cons_succ]
                refine wpAnyH_take (i := 1) (oi := { dst := some 52, op := Op.makeInterface 61 (Operand.tmp 51), type := 50, pos := "l10_client.go:99", after := #[{ on := 0, ground := Ground.data }], guard := none }) (v := .iface 61 (.agg #[])) rfl (by kernel_rfl) (by kernel_rfl) (by kernel_rfl) (fun _ _ _ h => h) (Or.inl ⟨by rfl, ?_⟩) (by assumption) ?_
                · (intro wq hq; first | (go_simp; done) | (go_simp; rfl) | (go_simp; omega))
                try simp only [Act.put, List.setIfInBounds_toArray, List.set_cons_zero, List.set_cons_succ]
                refine wpAnyH_take (i := 2) (oi := { dst := some 53, op := Op.move (Operand.tmp 4), type := 4, pos := "l10_client.go:99", after := #[], guard := none }) (v := .bool true) rfl (by kernel_rfl) (by kernel_rfl) (by kernel_rfl) (fun _ _ _ h => h) (Or.inl ⟨by rfl, ?_⟩) (by assumption) ?_
                · (intro wq hq; first | (go_simp; done) | (go_simp; rfl) | (go_simp; omega))
                try simp only [Act.put, List.setIfInBounds_toArray, List.set_cons_zero, List.set_cons_succ]
                refine wpAnyH_take (i := 3) (oi := { dst := some 54, op := Op.move (Operand.tmp 53), type := 4, pos := "l10_client.go:99", after := #[{ on := 2, ground := Ground.data }], guard := none }) (v := .bool true) rfl (by kernel_rfl) (by kernel_rfl) (by kernel_rfl) (fun _ _ _ h => h) (Or.inl ⟨by rfl, ?_⟩) (by assumption) ?_
                · (intro wq hq; first | (go_simp; done) | (go_simp; rfl) | (go_simp; omega))
                try simp only [Act.put, List.setIfInBounds_toArray, List.set_cons_zero, List.set_cons_succ]
                refine wpAnyH_take (i := 4) (oi := { dst := some 55, op := Op.fieldAddr 36 (Operand.tmp 1) 2, type := 0, pos := "l10_client.go:99", after := #[{ on := 3, ground := Ground.guard }, { on := 8, ground := Ground.gcOnly Departure.lateStores }], guard := some (3, true) }) (v := .pointer (some ⟨W.heap.size, 2, none⟩)) rfl (by kernel_rfl) (by kernel_rfl) (by kernel_rfl) (fun _ _ _ h => h) (Or.inl ⟨by rfl, ?_⟩) (by assumption) ?_
                · (intro wq hq; first | (go_simp; done) | (go_simp; rfl) | (go_simp; omega))
                try simp only [Act.put, List.setIfInBounds_toArray, List.set_cons_zero, List.set_cons_succ]
                refine wpAnyH_take (i := 5) (oi := { dst := some 56, op := Op.load 3 (Operand.tmp 55), type := 3, pos := "l10_client.go:99", after := #[{ on := 4, ground := Ground.data }, { on := 3, ground := Ground.guard }, { on := 8, ground := Ground.gcOnly Departure.lateStores }], guard := some (3, true) }) (v := .int .i64 c.se) rfl (by kernel_rfl) (by kernel_rfl) (by kernel_rfl) (fun _ _ _ h => h) (Or.inl ⟨by rfl, ?_⟩) (by assumption) ?_
                · (intro wq hq; go_simp)
                try simp only [Act.put, List.setIfInBounds_toArray, List.set_cons_zero, List.set_cons_succ]
                refine wpAnyH_take (i := 6) (oi := { dst := some 57, op := Op.binOp BinOp.neq 3 (Operand.tmp 56) (Operand.const (Value.int IntKind.i64 0)) 3, type := 4, pos := "l10_client.go:99", after := #[{ on := 5, ground := Ground.data }, { on := 3, ground := Ground.guard }, { on := 8, ground := Ground.gcOnly Departure.lateStores }], guard := some (3, true) }) (v := .bool true) rfl (by kernel_rfl) (by kernel_rfl) (by kernel_rfl) (fun _ _ _ h => h) (Or.inl ⟨by rfl, ?_⟩) (by assumption) ?_
                · (intro wq hq; first | (go_simp; done) | (go_simp; rfl) | (go_simp; omega))
                try simp only [Act.put, List.setIfInBounds_toArray, List.set_cons_zero, List.set_cons_succ]
                refine wpAnyH_take (i := 7) (oi := { dst := some 58, op := Op.pick (Operand.tmp 54) (Operand.tmp 57) (Operand.const (Value.bool false)), type := 4, pos := "l10_client.go:99", after := #[{ on := 3, ground := Ground.data }, { on := 6, ground := Ground.data }, { on := 8, ground := Ground.gcOnly Departure.lateStores }], guard := none }) (v := .bool true) rfl (by kernel_rfl) (by kernel_rfl) (by kernel_rfl) (fun _ _ _ h => h) (Or.inl ⟨by rfl, ?_⟩) (by assumption) ?_
                · (intro wq hq; first | (go_simp; done) | (go_simp; rfl) | (go_simp; omega))
                try simp only [Act.put, List.setIfInBounds_toArray, List.set_cons_zero, List.set_cons_succ]
                refine wpAnyH_take (i := 8) (oi := { dst := some 2, op := Op.assign (Operand.tmp 52), type := 50, pos := "l10_client.go:99", after := #[{ on := 1, ground := Ground.data }, { on := 3, ground := Ground.chain }, { on := 0, ground := Ground.phase }, { on := 1, ground := Ground.phase }, { on := 2, ground := Ground.textOnly Departure.lateStores }, { on := 3, ground := Ground.textOnly Departure.lateStores }, { on := 4, ground := Ground.textOnly Departure.lateStores }, { on := 5, ground := Ground.textOnly Departure.lateStores }, { on := 6, ground := Ground.textOnly Departure.lateStores }, { on := 7, ground := Ground.textOnly Departure.lateStores }], guard := none }) (v := .iface 61 (.agg #[])) rfl (by kernel_rfl) (by kernel_rfl) (by kernel_rfl) (fun _ _ _ h => h) (Or.inl ⟨by rfl, ?_⟩) (by assumption) ?_
                · (intro wq hq; first | (go_simp; done) | (go_simp; rfl) | (go_simp; omega))
                try simp only [Act.put, List.setIfInBounds_toArray, List.set_cons_zero, List.set_cons_succ]
                refine wpAnyH_take (i := 9) (oi := { dst := some 3, op := Op.assign (Operand.tmp 58), type := 4, pos := "l10_client.go:99", after := #[{ on := 7, ground := Ground.data }, { on := 8, ground := Ground.chain }, { on := 0, ground := Ground.phase }, { on := 1, ground := Ground.phase }, { on := 2, ground := Ground.phase }, { on := 3, ground := Ground.phase }, { on := 4, ground := Ground.phase }, { on := 5, ground := Ground.phase }, { on := 6, ground := Ground.phase }, { on := 7, ground := Ground.phase }, { on := 8, ground := Ground.phase }], guard := none }) (v := .bool true) rfl (by kernel_rfl) (by kernel_rfl) (by kernel_rfl) (fun _ _ _ h => h) (Or.inl ⟨by rfl, ?_⟩) (by assumption) ?_
                · (intro wq hq; first | (go_simp; done) | (go_simp; rfl) | (go_simp; omega))
                try simp only [Act.put, List.setIfInBounds_toArray, List.set_cons_zero, List.set_cons_succ]
                refine wpAnyH_done (by kernel_rfl) ?_ _
                clear hHeld
                go_wp2_with fail
                go_ret2
                first | exact ⟨_, true, rfl, zd, yes_of hyes⟩ | exact ⟨⟨_, rfl⟩, zd⟩ | exact ⟨⟨_, rfl⟩, zd, hyes⟩ | exact ⟨_, rfl, zd⟩
            | false =>
              have hno : ¬ Cok c X := fun h => by have := (hC'.1 h).1; cases this
              clear hC' hge ho
              refine wp_region_held_drew (S := fun w' => w'.cell? ⟨W.heap.size, 2, none⟩ = some (.int .i64 c.se)) (by kernel_rfl) d2 (fun hHeld => ?_)
              refine wpAnyH_take (i := 0) (oi := { dst := some 51, op := Op.build 61 #[], type := 61, pos := "l10_client.go:99", after := #[], guard := none }) (v := .agg #[]) rfl (by kernel_rfl) (by kernel_rfl) (by kernel_rfl) (fun _ _ _ h => h) (Or.inl ⟨by rfl, ?_⟩) (by assumption) ?_
              · (intro wq hq; first | (go_simp; done) | (go_simp; rfl) | (go_simp; omega))
              try simp only [Act.put, List.setIfInBounds_toArray, List.set_cons_zero, List.set_cons_succ]
              refine wpAnyH_take (i := 1) (oi := { dst := some 52, op := Op.makeInterface 61 (Operand.tmp 51), type := 50, pos := "l10_client.go:99", after := #[{ on := 0, ground := Ground.data }], guard := none }) (v := .iface 61 (.agg #[])) rfl (by kernel_rfl) (by kernel_rfl) (by kernel_rfl) (fun _ _ _ h => h) (Or.inl ⟨by rfl, ?_⟩) (by assumption) ?_
              · (intro wq hq; first | (go_simp; done) | (go_simp; rfl) | (go_simp; omega))
              try simp only [Act.put, List.setIfInBounds_toArray, List.set_cons_zero, List.set_cons_succ]
              refine wpAnyH_take (i := 2) (oi := { dst := some 53, op := Op.move (Operand.tmp 4), type := 4, pos := "l10_client.go:99", after := #[], guard := none }) (v := .bool false) rfl (by kernel_rfl) (by kernel_rfl) (by kernel_rfl) (fun _ _ _ h => h) (Or.inl ⟨by rfl, ?_⟩) (by assumption) ?_
              · (intro wq hq; first | (go_simp; done) | (go_simp; rfl) | (go_simp; omega))
              try simp only [Act.put, List.setIfInBounds_toArray, List.set_cons_zero, List.set_cons_succ]
              refine wpAnyH_take (i := 3) (oi := { dst := some 54, op := Op.move (Operand.tmp 53), type := 4, pos := "l10_client.go:99", after := #[{ on := 2, ground := Ground.data }], guard := none }) (v := .bool false) rfl (by kernel_rfl) (by kernel_rfl) (by kernel_rfl) (fun _ _ _ h => h) (Or.inl ⟨by rfl, ?_⟩) (by assumption) ?_
              · (intro wq hq; first | (go_simp; done) | (go_simp; rfl) | (go_simp; omega))
              try simp only [Act.put, List.setIfInBounds_toArray, List.set_cons_zero, List.set_cons_succ]
              refine wpAnyH_take (i := 4) (oi := { dst := some 55, op := Op.fieldAddr 36 (Operand.tmp 1) 2, type := 0, pos := "l10_client.go:99", after := #[{ on := 3, ground := Ground.guard }, { on := 8, ground := Ground.gcOnly Departure.lateStores }], guard := some (3, true) }) (v := undef) rfl (by kernel_rfl) (by kernel_rfl) (by kernel_rfl) (fun _ _ _ h => h) (Or.inr ⟨by rfl, rfl⟩) (by assumption) ?_
              try simp only [Act.put, List.setIfInBounds_toArray, List.set_cons_zero, List.set_cons_succ]
              refine wpAnyH_take (i := 5) (oi := { dst := some 56, op := Op.load 3 (Operand.tmp 55), type := 3, pos := "l10_client.go:99", after := #[{ on := 4, ground := Ground.data }, { on := 3, ground := Ground.guard }, { on := 8, ground := Ground.gcOnly Departure.lateStores }], guard := some (3, true) }) (v := undef) rfl (by kernel_rfl) (by kernel_rfl) (by kernel_rfl) (fun _ _ _ h => h) (Or.inr ⟨by rfl, rfl⟩) (by assumption) ?_
              try simp only [Act.put, List.setIfInBounds_toArray, List.set_cons_zero, List.set_cons_succ]
              refine wpAnyH_take (i := 6) (oi := { dst := some 57, op := Op.binOp BinOp.neq 3 (Operand.tmp 56) (Operand.const (Value.int IntKind.i64 0)) 3, type := 4, pos := "l10_client.go:99", after := #[{ on := 5, ground := Ground.data }, { on := 3, ground := Ground.guard }, { on := 8, ground := Ground.gcOnly Departure.lateStores }], guard := some (3, true) }) (v := undef) rfl (by kernel_rfl) (by kernel_rfl) (by kernel_rfl) (fun _ _ _ h => h) (Or.inr ⟨by rfl, rfl⟩) (by assumption) ?_
              try simp only [Act.put, List.setIfInBounds_toArray, List.set_cons_zero, List.set_cons_succ]
              refine wpAnyH_take (i := 7) (oi := { dst := some 58, op := Op.pick (Operand.tmp 54) (Operand.tmp 57) (Operand.const (Value.bool false)), type := 4, pos := "l10_client.go:99", after := #[{ on := 3, ground := Ground.data }, { on := 6, ground := Ground.data }, { on := 8, ground := Ground.gcOnly Departure.lateStores }], guard := none }) (v := .bool false) rfl (by kernel_rfl) (by kernel_rfl) (by kernel_rfl) (fun _ _ _ h => h) (Or.inl ⟨by rfl, ?_⟩) (by assumption) ?_
              · (intro wq hq; first | (go_simp; done) | (go_simp; rfl) | (go_simp; omega))
              try simp only [Act.put, List.setIfInBounds_toArray, List.set_cons_zero, List.set_cons_succ]
              refine wpAnyH_take (i := 8) (oi := { dst := some 2, op := Op.assign (Operand.tmp 52), type := 50, pos := "l10_client.go:99", after := #[{ on := 1, ground := Ground.data }, { on := 3, ground := Ground.chain }, { on := 0, ground := Ground.phase }, { on := 1, ground := Ground.phase }, { on := 2, ground := Ground.textOnly Departure.lateStores }, { on := 3, ground := Ground.textOnly Departure.lateStores }, { on := 4, ground := Ground.textOnly Departure.lateStores }, { on := 5, ground := Ground.textOnly Departure.lateStores }, { on := 6, ground := Ground.textOnly Departure.lateStores }, { on := 7, ground := Ground.textOnly Departure.lateStores }], guard := none }) (v := .iface 61 (.agg #[])) rfl (by kernel_rfl) (by kernel_rfl) (by kernel_rfl) (fun _ _ _ h => h) (Or.inl ⟨by rfl, ?_⟩) (by assumption) ?_
              · (intro wq hq; first | (go_simp; done) | (go_simp; rfl) | (go_simp; omega))
              try simp only [Act.put, List.setIfInBounds_toArray, List.set_cons_zero, List.set_cons_succ]
              refine wpAnyH_take (i := 9) (oi := { dst := some 3, op := Op.assign (Operand.tmp 58), type := 4, pos := "l10_client.go:99", after := #[{ on := 7, ground := Ground.data }, { on := 8, ground := Ground.chain }, { on := 0, ground := Ground.phase }, { on := 1, ground := Ground.phase }, { on := 2, ground := Ground.phase }, { on := 3, ground := Ground.phase }, { on := 4, ground := Ground.phase }, { on := 5, ground := Ground.phase }, { on := 6, ground := Ground.phase }, { on := 7, ground := Ground.phase }, { on := 8, ground := Ground.phase }], guard := none }) (v := .bool false) rfl (by kernel_rfl) (by kernel_rfl) (by kernel_rfl) (fun _ _ _ h => h) (Or.inl ⟨by rfl, ?_⟩) (by assumption) ?_
              · (intro wq hq; first | (go_simp; done) | (go_simp; rfl) | (go_simp; omega))
              try simp only [Act.put, List.setIfInBounds_toArray, List.set_cons_zero, List.set_cons_succ]
              refine wpAnyH_done (by kernel_rfl) ?_ _
              clear hHeld
              go_wp2_with fail
              go_ret2
              first | exact ⟨_, false, rfl, zd, no_of hno⟩ | exact ⟨⟨_, rfl⟩, zd⟩ | exact ⟨⟨_, rfl⟩, zd, hno⟩ | exact ⟨_, rfl, zd⟩
          · by_cases h2 : c.ph = 2
            · rw [h2] at a3
              have hC' : Cok c X ↔ 1 ≤ c.se ∧ (c.ps + 1 ≤ c.gs ∧ c.gs ≤ 256) ∧ (X.length : Int) < c.n ∧ Asc c.m X X.length := hC.trans ⟨fun h => by rcases h.2 with h | h | h <;> first | exact h.2 | (exfalso; have := h.1; omega), fun h => ⟨ho, .inr (.inr ⟨h2, h⟩)⟩⟩
              have hge : 0 ≤ c.se := ok3_se ho
              have cw := wof_is _ c.m (ok3_m ho) (.slice oa X.length cap) X (H.out.call zz)
              clear hC hbare ho h0 h1 h2 H
              go_upto_region 11 with (go_at_call 28; refine cw.mono ?_; rintro e w2 ⟨s, b, rfl, hw2, hb, hp⟩; subst hw2; clear cw)
              generalize hab : decide (c.ps < c.gs ∧ c.gs ≤ 256) = ab
              have HAB : Hid (ab = decide (c.ps < c.gs ∧ c.gs ≤ 256)) := hab.symm
              clear hab
              go_cut [7] from 69 to 81 (fun nv wx => nv = .bool ab ∧ Hid (CA W c (.slice oa X.length cap) wx))
              case first =>
                by_cases h3 : c.ps < c.gs
                · by_cases h4 : c.gs ≤ 256
                  · go_wp2_with fail
                    go_meet
                    exact ⟨by rw [HAB.out, decide_eq_true (show c.ps < c.gs ∧ c.gs ≤ 256 from ⟨h3, h4⟩)], A1⟩
                  · go_wp2_with fail
                    go_meet
                    exact ⟨by rw [HAB.out, decide_eq_false (show ¬ (c.ps < c.gs ∧ c.gs ≤ 256) by omega)], A1⟩
                · go_wp2_with fail
                  go_meet
                  exact ⟨by rw [HAB.out, decide_eq_false (show ¬ (c.ps < c.gs ∧ c.gs ≤ 256) by omega)], A1⟩
              case rest =>
                obtain ⟨rfl, HA⟩ := hcut
                have hab : ab = true ↔ c.ps + 1 ≤ c.gs ∧ c.gs ≤ 256 := by rw [HAB.out, decide_eq_true_iff]; omega
                have A2 := HA.out.call (Below.refl _ _).drew
                have zd := A2.2.2
                have d0 := A2.cells.1
                have d2 := A2.cells.2.2.1
                have dg := A2.goal
                clear a0 a1 a2 a3 a4 a5 a6 a7 a8 a9 a10 a11 a12 a13 a14 HAB HA A1 A2 zz
                go_upto_region 12 with fail
                cases b with
                | false =>
                  have hno : ¬ Cok c X := fun h => by have := hb.2 (hC'.1 h).2.2.2; cases this
                  clear hC' hge hb hp hab
                  refine wp_region_held_drew (S := fun w' => Lies W.heap.size 4 [.int .i64 c.gs, .int .u64 ((c.gr.a).toNat : Int), .int .u64 ((c.gr.b).toNat : Int), .int .u64 ((c.gr.c).toNat : Int), .int .u64 ((c.gr.d).toNat : Int)] w' ∧ w'.cell? ⟨W.heap.size, 2, none⟩ = some (.int .i64 c.se) ∧ w'.cell? ⟨W.heap.size, 0, none⟩ = some (.int .i64 c.n)) (by kernel_rfl) ⟨dg, d2, d0⟩ (fun hHeld => ?_)
                  refine wpAnyH_take (i := 0) (oi := { dst := some 82, op := Op.fieldAddr 36 (Operand.tmp 1) 4, type := 0, pos := "l10_client.go:103", after := #[], guard := none }) (v := .pointer (some ⟨W.heap.size, 4, none⟩)) rfl (by kernel_rfl) (by kernel_rfl) (by kernel_rfl) (fun _ _ _ h => h) (Or.inl ⟨by rfl, ?_⟩) (by assumption) ?_
                  · (intro wq hq; first | (go_simp; done) | (go_simp; rfl) | (go_simp; omega))
                  try simp only [Act.put, List.setIfInBounds_toArray, List.set_cons_zero, List.set_cons_succ]
                  refine wpAnyH_take (i := 1) (oi := { dst := some 83, op := Op.load 34 (Operand.tmp 82), type := 34, pos := "l10_client.go:103", after := #[{ on := 0, ground := Ground.data }], guard := none }) (v := .agg #[.int .i64 c.gs, .int .u64 ((c.gr.a).toNat : Int), .int .u64 ((c.gr.b).toNat : Int), .int .u64 ((c.gr.c).toNat : Int), .int .u64 ((c.gr.d).toNat : Int)]) rfl (by kernel_rfl) (by kernel_rfl) (by kernel_rfl) (fun _ _ _ h => h) (Or.inl ⟨by rfl, ?_⟩) (by assumption) ?_
                  · (intro wq hq; exact run_load_cl agg_pnt W.heap.size 4 [.int .i64 c.gs, .int .u64 ((c.gr.a).toNat : Int), .int .u64 ((c.gr.b).toNat : Int), .int .u64 ((c.gr.c).toNat : Int), .int .u64 ((c.gr.d).toNat : Int)] (by kernel_rfl) (by kernel_rfl) hq.1)
                  try simp only [Act.put, List.setIfInBounds_toArray, List.set_cons_zero, List.set_cons_succ]
                  refine wpAnyH_take (i := 2) (oi := { dst := some 84, op := Op.move (Operand.tmp 5), type := 62, pos := "l10_client.go:103", after := #[], guard := none }) (v := .int .u64 (s : Int)) rfl (by kernel_rfl) (by kernel_rfl) (by kernel_rfl) (fun _ _ _ h => h) (Or.inl ⟨by rfl, ?_⟩) (by assumption) ?_
                  · (intro wq hq; first | (go_simp; done) | (go_simp; rfl) | (go_simp; omega))
                  try simp only [Act.put, List.setIfInBounds_toArray, List.set_cons_zero, List.set_cons_succ]
                  refine wpAnyH_take (i := 3) (oi := { dst := some 85, op := Op.build 66 #[(0, Operand.tmp 83), (1, Operand.tmp 84)], type := 66, pos := "l10_client.go:103", after := #[{ on := 1, ground := Ground.data }, { on := 2, ground := Ground.data }], guard := none }) (v := .agg #[.int .i64 c.gs, .int .u64 ((c.gr.a).toNat : Int), .int .u64 ((c.gr.b).toNat : Int), .int .u64 ((c.gr.c).toNat : Int), .int .u64 ((c.gr.d).toNat : Int), .int .u64 (s : Int)]) rfl (by kernel_rfl) (by kernel_rfl) (by kernel_rfl) (fun _ _ _ h => h) (Or.inl ⟨by rfl, ?_⟩) (by assumption) ?_
                  · (intro wq hq; first | (go_simp; done) | (go_simp; rfl) | (go_simp; omega))
                  try simp only [Act.put, List.setIfInBounds_toArray, List.set_cons_zero, List.set_cons_succ]
                  refine wpAnyH_take (i := 4) (oi := { dst := some 86, op := Op.makeInterface 66 (Operand.tmp 85), type := 50, pos := "l10_client.go:103", after := #[{ on := 3, ground := Ground.data }], guard := none }) (v := .iface 66 (.agg #[.int .i64 c.gs, .int .u64 ((c.gr.a).toNat : Int), .int .u64 ((c.gr.b).toNat : Int), .int .u64 ((c.gr.c).toNat : Int), .int .u64 ((c.gr.d).toNat : Int), .int .u64 (s : Int)])) rfl (by kernel_rfl) (by kernel_rfl) (by kernel_rfl) (fun _ _ _ h => h) (Or.inl ⟨by rfl, ?_⟩) (by assumption) ?_
                  · (intro wq hq; first | (go_simp; done) | (go_simp; rfl) | (go_simp; omega))
                  try simp only [Act.put, List.setIfInBounds_toArray, List.set_cons_zero, List.set_cons_succ]
                  refine wpAnyH_take (i := 5) (oi := { dst := some 87, op := Op.move (Operand.tmp 6), type := 4, pos := "l10_client.go:103", after := #[], guard := none }) (v := .bool false) rfl (by kernel_rfl) (by kernel_rfl) (by kernel_rfl) (fun _ _ _ h => h) (Or.inl ⟨by rfl, ?_⟩) (by assumption) ?_
                  · (intro wq hq; first | (go_simp; done) | (go_simp; rfl) | (go_simp; omega))
                  try simp only [Act.put, List.setIfInBounds_toArray, List.set_cons_zero, List.set_cons_succ]
                  refine wpAnyH_take (i := 6) (oi := { dst := some 88, op := Op.move (Operand.tmp 87), type := 4, pos := "l10_client.go:103", after := #[{ on := 5, ground := Ground.data }], guard := none }) (v := .bool false) rfl (by kernel_rfl) (by kernel_rfl) (by kernel_rfl) (fun _ _ _ h => h) (Or.inl ⟨by rfl, ?_⟩) (by assumption) ?_
                  · (intro wq hq; first | (go_simp; done) | (go_simp; rfl) | (go_simp; omega))
                  try simp only [Act.put, List.setIfInBounds_toArray, List.set_cons_zero, List.set_cons_succ]
                  refine wpAnyH_take (i := 7) (oi := { dst := some 89, op := Op.move (Operand.tmp 7), type := 4, pos := "l10_client.go:103", after := #[{ on := 6, ground := Ground.guard }], guard := some (6, true) }) (v := undef) rfl (by kernel_rfl) (by kernel_rfl) (by kernel_rfl) (fun _ _ _ h => h) (Or.inr ⟨by rfl, rfl⟩) (by assumption) ?_
                  try simp only [Act.put, List.setIfInBounds_toArray, List.set_cons_zero, List.set_cons_succ]
                  refine wpAnyH_take (i := 8) (oi := { dst := some 90, op := Op.pick (Operand.tmp 88) (Operand.tmp 89) (Operand.const (Value.bool false)), type := 4, pos := "l10_client.go:103", after := #[{ on := 6, ground := Ground.data }, { on := 7, ground := Ground.data }], guard := none }) (v := .bool false) rfl (by kernel_rfl) (by kernel_rfl) (by kernel_rfl) (fun _ _ _ h => h) (Or.inl ⟨by rfl, ?_⟩) (by assumption) ?_
                  · (intro wq hq; first | (go_simp; done) | (go_simp; rfl) | (go_simp; omega))
                  try simp only [Act.put, List.setIfInBounds_toArray, List.set_cons_zero, List.set_cons_succ]
                  refine wpAnyH_take (i := 9) (oi := { dst := some 91, op := Op.move (Operand.tmp 90), type := 4, pos := "l10_client.go:103", after := #[{ on := 8, ground := Ground.data }, { on := 6, ground := Ground.chain }], guard := none }) (v := .bool false) rfl (by kernel_rfl) (by kernel_rfl) (by kernel_rfl) (fun _ _ _ h => h) (Or.inl ⟨by rfl, ?_⟩) (by assumption) ?_
                  · (intro wq hq; first | (go_simp; done) | (go_simp; rfl) | (go_simp; omega))
                  try simp only [Act.put, List.setIfInBounds_toArray, List.set_cons_zero, List.set_cons_succ]
                  refine wpAnyH_take (i := 10) (oi := { dst := some 92, op := Op.fieldAddr 36 (Operand.tmp 1) 2, type := 0, pos := "l10_client.go:103", after := #[{ on := 9, ground := Ground.guard }], guard := some (9, true) }) (v := undef) rfl (by kernel_rfl) (by kernel_rfl) (by kernel_rfl) (fun _ _ _ h => h) (Or.inr ⟨by rfl, rfl⟩) (by assumption) ?_
                  try simp only [Act.put, List.setIfInBounds_toArray, List.set_cons_zero, List.set_cons_succ]
                  refine wpAnyH_take (i := 11) (oi := { dst := some 93, op := Op.load 3 (Operand.tmp 92), type := 3, pos := "l10_client.go:103", after := #[{ on := 10, ground := Ground.data }, { on := 9, ground := Ground.guard }], guard := some (9, true) }) (v := undef) rfl (by kernel_rfl) (by kernel_rfl) (by kernel_rfl) (fun _ _ _ h => h) (Or.inr ⟨by rfl, rfl⟩) (by assumption) ?_
                  try simp only [Act.put, List.setIfInBounds_toArray, List.set_cons_zero, List.set_cons_succ]
                  refine wpAnyH_take (i := 12) (oi := { dst := some 94, op := Op.binOp BinOp.neq 3 (Operand.tmp 93) (Operand.const (Value.int IntKind.i64 0)) 3, type := 4, pos := "l10_client.go:103", after := #[{ on := 11, ground := Ground.data }, { on := 9, ground := Ground.guard }], guard := some (9, true) }) (v := undef) rfl (by kernel_rfl) (by kernel_rfl) (by kernel_rfl) (fun _ _ _ h => h) (Or.inr ⟨by rfl, rfl⟩) (by assumption) ?_
                  try simp only [Act.put, List.setIfInBounds_toArray, List.set_cons_zero, List.set_cons_succ]
                  refine wpAnyH_take (i := 13) (oi := { dst := some 95, op := Op.pick (Operand.tmp 91) (Operand.tmp 94) (Operand.const (Value.bool false)), type := 4, pos := "l10_client.go:103", after := #[{ on := 9, ground := Ground.data }, { on := 12, ground := Ground.data }], guard := none }) (v := .bool false) rfl (by kernel_rfl) (by kernel_rfl) (by kernel_rfl) (fun _ _ _ h => h) (Or.inl ⟨by rfl, ?_⟩) (by assumption) ?_
                  · (intro wq hq; first | (go_simp; done) | (go_simp; rfl) | (go_simp; omega))
                  try simp only [Act.put, List.setIfInBounds_toArray, List.set_cons_zero, List.set_cons_succ]
                  refine wpAnyH_take (i := 14) (oi := { dst := some 96, op := Op.move (Operand.tmp 95), type := 4, pos := "l10_client.go:103", after := #[{ on := 13, ground := Ground.data }, { on := 9, ground := Ground.chain }], guard := none }) (v := .bool false) rfl (by kernel_rfl) (by kernel_rfl) (by kernel_rfl) (fun _ _ _ h => h) (Or.inl ⟨by rfl, ?_⟩) (by assumption) ?_
                  · (intro wq hq; first | (go_simp; done) | (go_simp; rfl) | (go_simp; omega))
                  try simp only [Act.put, List.setIfInBounds_toArray, List.set_cons_zero, List.set_cons_succ]
                  refine wpAnyH_take (i := 15) (oi := { dst := some 97, op := Op.move (Operand.tmp 5), type := 62, pos := "l10_client.go:103", after := #[{ on := 14, ground := Ground.guard }], guard := some (14, true) }) (v := undef) rfl (by kernel_rfl) (by kernel_rfl) (by kernel_rfl) (fun _ _ _ h => h) (Or.inr ⟨by rfl, rfl⟩) (by assumption) ?_
                  try simp only [Act.put, List.setIfInBounds_toArray, List.set_cons_zero, List.set_cons_succ]
                  refine wpAnyH_take (i := 16) (oi := { dst := some 98, op := Op.call { callee := Callee.value (Operand.func 29), args := #[Operand.tmp 97], argTypes := #[62] }, type := 3, pos := "l10_client.go:103", after := #[{ on := 15, ground := Ground.data }, { on := 14, ground := Ground.chain }, { on := 14, ground := Ground.guard }], guard := some (14, true) }) (v := undef) rfl (by kernel_rfl) (by kernel_rfl) (by kernel_rfl) (fun _ _ _ h => h) (Or.inr ⟨by rfl, rfl⟩) (by assumption) ?_
                  try simp only [Act.put, List.setIfInBounds_toArray, List.set_cons_zero, List.set_cons_succ]
                  refine wpAnyH_take (i := 17) (oi := { dst := some 99, op := Op.fieldAddr 36 (Operand.tmp 1) 0, type := 0, pos := "l10_client.go:103", after := #[{ on := 14, ground := Ground.guard }, { on := 21, ground := Ground.gcOnly Departure.lateStores }], guard := some (14, true) }) (v := undef) rfl (by kernel_rfl) (by kernel_rfl) (by kernel_rfl) (fun _ _ _ h => h) (Or.inr ⟨by rfl, rfl⟩) (by assumption) ?_
                  try simp only [Act.put, List.setIfInBounds_toArray, List.set_cons_zero, List.set_cons_succ]
                  refine wpAnyH_take (i := 18) (oi := { dst := some 100, op := Op.load 3 (Operand.tmp 99), type := 3, pos := "l10_client.go:103", after := #[{ on := 17, ground := Ground.data }, { on := 14, ground := Ground.guard }, { on := 21, ground := Ground.gcOnly Departure.lateStores }], guard := some (14, true) }) (v := undef) rfl (by kernel_rfl) (by kernel_rfl) (by kernel_rfl) (fun _ _ _ h => h) (Or.inr ⟨by rfl, rfl⟩) (by assumption) ?_
                  try simp only [Act.put, List.setIfInBounds_toArray, List.set_cons_zero, List.set_cons_succ]
                  refine wpAnyH_take (i := 19) (oi := { dst := some 101, op := Op.binOp BinOp.lss 3 (Operand.tmp 98) (Operand.tmp 100) 3, type := 4, pos := "l10_client.go:103", after := #[{ on := 16, ground := Ground.data }, { on := 18, ground := Ground.data }, { on := 14, ground := Ground.guard }, { on := 21, ground := Ground.gcOnly Departure.lateStores }], guard := some (14, true) }) (v := undef) rfl (by kernel_rfl) (by kernel_rfl) (by kernel_rfl) (fun _ _ _ h => h) (Or.inr ⟨by rfl, rfl⟩) (by assumption) ?_
                  try simp only [Act.put, List.setIfInBounds_toArray, List.set_cons_zero, List.set_cons_succ]
                  refine wpAnyH_take (i := 20) (oi := { dst := some 102, op := Op.pick (Operand.tmp 96) (Operand.tmp 101) (Operand.const (Value.bool false)), type := 4, pos := "l10_client.go:103", after := #[{ on := 14, ground := Ground.data }, { on := 19, ground := Ground.data }, { on := 21, ground := Ground.gcOnly Departure.lateStores }], guard := none }) (v := .bool false) rfl (by kernel_rfl) (by kernel_rfl) (by kernel_rfl) (fun _ _ _ h => h) (Or.inl ⟨by rfl, ?_⟩) (by assumption) ?_
                  · (intro wq hq; first | (go_simp; done) | (go_simp; rfl) | (go_simp; omega))
                  try simp only [Act.put, List.setIfInBounds_toArray, List.set_cons_zero, List.set_cons_succ]
                  refine wpAnyH_take (i := 21) (oi := { dst := some 2, op := Op.assign (Operand.tmp 86), type := 50, pos := "l10_client.go:103", after := #[{ on := 4, ground := Ground.data }, { on := 16, ground := Ground.chain }, { on := 0, ground := Ground.phase }, { on := 1, ground := Ground.phase }, { on := 2, ground := Ground.phase }, { on := 3, ground := Ground.phase }, { on := 4, ground := Ground.phase }, { on := 5, ground := Ground.textOnly Departure.lateStores }, { on := 6, ground := Ground.textOnly Departure.lateStores }, { on := 7, ground := Ground.textOnly Departure.lateStores }, { on := 8, ground := Ground.textOnly Departure.lateStores }, { on := 9, ground := Ground.textOnly Departure.lateStores }, { on := 10, ground := Ground.textOnly Departure.lateStores }, { on := 11, ground := Ground.textOnly Departure.lateStores }, { on := 12, ground := Ground.textOnly Departure.lateStores }, { on := 13, ground := Ground.textOnly Departure.lateStores }, { on := 14, ground := Ground.textOnly Departure.lateStores }, { on := 15, ground := Ground.textOnly Departure.lateStores }, { on := 16, ground := Ground.textOnly Departure.lateStoresUnsure }, { on := 17, ground := Ground.textOnly Departure.lateStores }, { on := 18, ground := Ground.textOnly Departure.lateStores }, { on := 19, ground := Ground.textOnly Departure.lateStores }, { on := 20, ground := Ground.textOnly Departure.lateStores }], guard := none }) (v := .iface 66 (.agg #[.int .i64 c.gs, .int .u64 ((c.gr.a).toNat : Int), .int .u64 ((c.gr.b).toNat : Int), .int .u64 ((c.gr.c).toNat : Int), .int .u64 ((c.gr.d).toNat : Int), .int .u64 (s : Int)])) rfl (by kernel_rfl) (by kernel_rfl) (by kernel_rfl) (fun _ _ _ h => h) (Or.inl ⟨by rfl, ?_⟩) (by assumption) ?_
                  · (intro wq hq; first | (go_simp; done) | (go_simp; rfl) | (go_simp; omega))
                  try simp only [Act.put, List.setIfInBounds_toArray, List.set_cons_zero, List.set_cons_succ]
                  refine wpAnyH_take (i := 22) (oi := { dst := some 3, op := Op.assign (Operand.tmp 102), type := 4, pos := "l10_client.go:103", after := #[{ on := 20, ground := Ground.data }, { on := 21, ground := Ground.chain }, { on := 0, ground := Ground.phase }, { on := 1, ground := Ground.phase }, { on := 2, ground := Ground.phase }, { on := 3, ground := Ground.phase }, { on := 4, ground := Ground.phase }, { on := 5, ground := Ground.phase }, { on := 6, ground := Ground.phase }, { on := 7, ground := Ground.phase }, { on := 8, ground := Ground.phase }, { on := 9, ground := Ground.phase }, { on := 10, ground := Ground.phase }, { on := 11, ground := Ground.phase }, { on := 12, ground := Ground.phase }, { on := 13, ground := Ground.phase }, { on := 14, ground := Ground.phase }, { on := 15, ground := Ground.phase }, { on := 16, ground := Ground.phase }, { on := 17, ground := Ground.phase }, { on := 18, ground := Ground.phase }, { on := 19, ground := Ground.phase }, { on := 20, ground := Ground.phase }, { on := 21, ground := Ground.phase }], guard := none }) (v := .bool false) rfl (by kernel_rfl) (by kernel_rfl) (by kernel_rfl) (fun _ _ _ h => h) (Or.inl ⟨by rfl, ?_⟩) (by assumption) ?_
                  · (intro wq hq; first | (go_simp; done) | (go_simp; rfl) | (go_simp; omega))
                  try simp only [Act.put, List.setIfInBounds_toArray, List.set_cons_zero, List.set_cons_succ]
                  refine wpAnyH_done (by kernel_rfl) ?_ _
                  clear hHeld
                  go_wp2_with fail
                  go_ret2
                  first | exact ⟨_, false, rfl, zd, no_of hno⟩ | exact ⟨⟨_, rfl⟩, zd⟩ | exact ⟨⟨_, rfl⟩, zd, hno⟩ | exact ⟨_, rfl, zd⟩
                | true =>
                  obtain ⟨hs, hpc⟩ := hp rfl
                  have hasc := hb.1 rfl
                  clear hb hp
                  cases ab with
                  | false =>
                    have hno : ¬ Cok c X := fun h => by have := hab.2 (hC'.1 h).2.1; cases this
                    clear hC' hge hab
                    refine wp_region_held_drew (S := fun w' => Lies W.heap.size 4 [.int .i64 c.gs, .int .u64 ((c.gr.a).toNat : Int), .int .u64 ((c.gr.b).toNat : Int), .int .u64 ((c.gr.c).toNat : Int), .int .u64 ((c.gr.d).toNat : Int)] w' ∧ w'.cell? ⟨W.heap.size, 2, none⟩ = some (.int .i64 c.se) ∧ w'.cell? ⟨W.heap.size, 0, none⟩ = some (.int .i64 c.n)) (by kernel_rfl) ⟨dg, d2, d0⟩ (fun hHeld => ?_)
                    refine wpAnyH_take (i := 0) (oi := { dst := some 82, op := Op.fieldAddr 36 (Operand.tmp 1) 4, type := 0, pos := "l10_client.go:103", after := #[], guard := none }) (v := .pointer (some ⟨W.heap.size, 4, none⟩)) rfl (by kernel_rfl) (by kernel_rfl) (by kernel_rfl) (fun _ _ _ h => h) (Or.inl ⟨by rfl, ?_⟩) (by assumption) ?_
                    · (intro wq hq; first | (go_simp; done) | (go_simp; rfl) | (go_simp; omega))
                    try simp only [Act.put, List.setIfInBounds_toArray, List.set_cons_zero, List.set_cons_succ]
                    refine wpAnyH_take (i := 1) (oi := { dst := some 83, op := Op.load 34 (Operand.tmp 82), type := 34, pos := "l10_client.go:103", after := #[{ on := 0, ground := Ground.data }], guard := none }) (v := .agg #[.int .i64 c.gs, .int .u64 ((c.gr.a).toNat : Int), .int .u64 ((c.gr.b).toNat : Int), .int .u64 ((c.gr.c).toNat : Int), .int .u64 ((c.gr.d).toNat : Int)]) rfl (by kernel_rfl) (by kernel_rfl) (by kernel_rfl) (fun _ _ _ h => h) (Or.inl ⟨by rfl, ?_⟩) (by assumption) ?_
                    · (intro wq hq; exact run_load_cl agg_pnt W.heap.size 4 [.int .i64 c.gs, .int .u64 ((c.gr.a).toNat : Int), .int .u64 ((c.gr.b).toNat : Int), .int .u64 ((c.gr.c).toNat : Int), .int .u64 ((c.gr.d).toNat : Int)] (by kernel_rfl) (by kernel_rfl) hq.1)
                    try simp only [Act.put, List.setIfInBounds_toArray, List.set_cons_zero, List.set_cons_succ]
                    refine wpAnyH_take (i := 2) (oi := { dst := some 84, op := Op.move (Operand.tmp 5), type := 62, pos := "l10_client.go:103", after := #[], guard := none }) (v := .int .u64 (s : Int)) rfl (by kernel_rfl) (by kernel_rfl) (by kernel_rfl) (fun _ _ _ h => h) (Or.inl ⟨by rfl, ?_⟩) (by assumption) ?_
                    · (intro wq hq; first | (go_simp; done) | (go_simp; rfl) | (go_simp; omega))
                    try simp only [Act.put, List.setIfInBounds_toArray, List.set_cons_zero, List.set_cons_succ]
                    refine wpAnyH_take (i := 3) (oi := { dst := some 85, op := Op.build 66 #[(0, Operand.tmp 83), (1, Operand.tmp 84)], type := 66, pos := "l10_client.go:103", after := #[{ on := 1, ground := Ground.data }, { on := 2, ground := Ground.data }], guard := none }) (v := .agg #[.int .i64 c.gs, .int .u64 ((c.gr.a).toNat : Int), .int .u64 ((c.gr.b).toNat : Int), .int .u64 ((c.gr.c).toNat : Int), .int .u64 ((c.gr.d).toNat : Int), .int .u64 (s : Int)]) rfl (by kernel_rfl) (by kernel_rfl) (by kernel_rfl) (fun _ _ _ h => h) (Or.inl ⟨by rfl, ?_⟩) (by assumption) ?_
                    · (intro wq hq; first | (go_simp; done) | (go_simp; rfl) | (go_simp; omega))
                    try simp only [Act.put, List.setIfInBounds_toArray, List.set_cons_zero, List.set_cons_succ]
                    refine wpAnyH_take (i := 4) (oi := { dst := some 86, op := Op.makeInterface 66 (Operand.tmp 85), type := 50, pos := "l10_client.go:103", after := #[{ on := 3, ground := Ground.data }], guard := none }) (v := .iface 66 (.agg #[.int .i64 c.gs, .int .u64 ((c.gr.a).toNat : Int), .int .u64 ((c.gr.b).toNat : Int), .int .u64 ((c.gr.c).toNat : Int), .int .u64 ((c.gr.d).toNat : Int), .int .u64 (s : Int)])) rfl (by kernel_rfl) (by kernel_rfl) (by kernel_rfl) (fun _ _ _ h => h) (Or.inl ⟨by rfl, ?_⟩) (by assumption) ?_
                    · (intro wq hq; first | (go_simp; done) | (go_simp; rfl) | (go_simp; omega))
                    try simp only [Act.put, List.setIfInBounds_toArray, List.set_cons_zero, List.set_cons_succ]
                    refine wpAnyH_take (i := 5) (oi := { dst := some 87, op := Op.move (Operand.tmp 6), type := 4, pos := "l10_client.go:103", after := #[], guard := none }) (v := .bool true) rfl (by kernel_rfl) (by kernel_rfl) (by kernel_rfl) (fun _ _ _ h => h) (Or.inl ⟨by rfl, ?_⟩) (by assumption) ?_
                    · (intro wq hq; first | (go_simp; done) | (go_simp; rfl) | (go_simp; omega))
                    try simp only [Act.put, List.setIfInBounds_toArray, List.set_cons_zero, List.set_cons_succ]
                    refine wpAnyH_take (i := 6) (oi := { dst := some 88, op := Op.move (Operand.tmp 87), type := 4, pos := "l10_client.go:103", after := #[{ on := 5, ground := Ground.data }], guard := none }) (v := .bool true) rfl (by kernel_rfl) (by kernel_rfl) (by kernel_rfl) (fun _ _ _ h => h) (Or.inl ⟨by rfl, ?_⟩) (by assumption) ?_
                    · (intro wq hq; first | (go_simp; done) | (go_simp; rfl) | (go_simp; omega))
                    try simp only [Act.put, List.setIfInBounds_toArray, List.set_cons_zero, List.set_cons_succ]
                    refine wpAnyH_take (i := 7) (oi := { dst := some 89, op := Op.move (Operand.tmp 7), type := 4, pos := "l10_client.go:103", after := #[{ on := 6, ground := Ground.guard }], guard := some (6, true) }) (v := .bool false) rfl (by kernel_rfl) (by kernel_rfl) (by kernel_rfl) (fun _ _ _ h => h) (Or.inl ⟨by rfl, ?_⟩) (by assumption) ?_
                    · (intro wq hq; first | (go_simp; done) | (go_simp; rfl) | (go_simp; omega))
                    try simp only [Act.put, List.setIfInBounds_toArray, List.set_cons_zero, List.set_cons_succ]
                    refine wpAnyH_take (i := 8) (oi := { dst := some 90, op := Op.pick (Operand.tmp 88) (Operand.tmp 89) (Operand.const (Value.bool false)), type := 4, pos := "l10_client.go:103", after := #[{ on := 6, ground := Ground.data }, { on := 7, ground := Ground.data }], guard := none }) (v := .bool false) rfl (by kernel_rfl) (by kernel_rfl) (by kernel_rfl) (fun _ _ _ h => h) (Or.inl ⟨by rfl, ?_⟩) (by assumption) ?_
                    · (intro wq hq; first | (go_simp; done) | (go_simp; rfl) | (go_simp; omega))
                    try simp only [Act.put, List.setIfInBounds_toArray, List.set_cons_zero, List.set_cons_succ]
                    refine wpAnyH_take (i := 9) (oi := { dst := some 91, op := Op.move (Operand.tmp 90), type := 4, pos := "l10_client.go:103", after := #[{ on := 8, ground := Ground.data }, { on := 6, ground := Ground.chain }], guard := none }) (v := .bool false) rfl (by kernel_rfl) (by kernel_rfl) (by kernel_rfl) (fun _ _ _ h => h) (Or.inl ⟨by rfl, ?_⟩) (by assumption) ?_
                    · (intro wq hq; first | (go_simp; done) | (go_simp; rfl) | (go_simp; omega))
                    try simp only [Act.put, List.setIfInBounds_toArray, List.set_cons_zero, List.set_cons_succ]
                    refine wpAnyH_take (i := 10) (oi := { dst := some 92, op := Op.fieldAddr 36 (Operand.tmp 1) 2, type := 0, pos := "l10_client.go:103", after := #[{ on := 9, ground := Ground.guard }], guard := some (9, true) }) (v := undef) rfl (by kernel_rfl) (by kernel_rfl) (by kernel_rfl) (fun _ _ _ h => h) (Or.inr ⟨by rfl, rfl⟩) (by assumption) ?_
                    try simp only [Act.put, List.setIfInBounds_toArray, List.set_cons_zero, List.set_cons_succ]
                    refine wpAnyH_take (i := 11) (oi := { dst := some 93, op := Op.load 3 (Operand.tmp 92), type := 3, pos := "l10_client.go:103", after := #[{ on := 10, ground := Ground.data }, { on := 9, ground := Ground.guard }], guard := some (9, true) }) (v := undef) rfl (by kernel_rfl) (by kernel_rfl) (by kernel_rfl) (fun _ _ _ h => h) (Or.inr ⟨by rfl, rfl⟩) (by assumption) ?_
                    try simp only [Act.put, List.setIfInBounds_toArray, List.set_cons_zero, List.set_cons_succ]
                    refine wpAnyH_take (i := 12) (oi := { dst := some 94, op := Op.binOp BinOp.neq 3 (Operand.tmp 93) (Operand.const (Value.int IntKind.i64 0)) 3, type := 4, pos := "l10_client.go:103", after := #[{ on := 11, ground := Ground.data }, { on := 9, ground := Ground.guard }], guard := some (9, true) }) (v := undef) rfl (by kernel_rfl) (by kernel_rfl) (by kernel_rfl) (fun _ _ _ h => h) (Or.inr ⟨by rfl, rfl⟩) (by assumption) ?_
                    try simp only [Act.put, List.setIfInBounds_toArray, List.set_cons_zero, List.set_cons_succ]
                    refine wpAnyH_take (i := 13) (oi := { dst := some 95, op := Op.pick (Operand.tmp 91) (Operand.tmp 94) (Operand.const (Value.bool false)), type := 4, pos := "l10_client.go:103", after := #[{ on := 9, ground := Ground.data }, { on := 12, ground := Ground.data }], guard := none }) (v := .bool false) rfl (by kernel_rfl) (by kernel_rfl) (by kernel_rfl) (fun _ _ _ h => h) (Or.inl ⟨by rfl, ?_⟩) (by assumption) ?_
                    · (intro wq hq; first | (go_simp; done) | (go_simp; rfl) | (go_simp; omega))
                    try simp only [Act.put, List.setIfInBounds_toArray, List.set_cons_zero, List.set_cons_succ]
                    refine wpAnyH_take (i := 14) (oi := { dst := some 96, op := Op.move (Operand.tmp 95), type := 4, pos := "l10_client.go:103", after := #[{ on := 13, ground := Ground.data }, { on := 9, ground := Ground.chain }], guard := none }) (v := .bool false) rfl (by kernel_rfl) (by kernel_rfl) (by kernel_rfl) (fun _ _ _ h => h) (Or.inl ⟨by rfl, ?_⟩) (by assumption) ?_
                    · (intro wq hq; first | (go_simp; done) | (go_simp; rfl) | (go_simp; omega))
                    try simp only [Act.put, List.setIfInBounds_toArray, List.set_cons_zero, List.set_cons_succ]
                    refine wpAnyH_take (i := 15) (oi := { dst := some 97, op := Op.move (Operand.tmp 5), type := 62, pos := "l10_client.go:103", after := #[{ on := 14, ground := Ground.guard }], guard := some (14, true) }) (v := undef) rfl (by kernel_rfl) (by kernel_rfl) (by kernel_rfl) (fun _ _ _ h => h) (Or.inr ⟨by rfl, rfl⟩) (by assumption) ?_
                    try simp only [Act.put, List.setIfInBounds_toArray, List.set_cons_zero, List.set_cons_succ]
                    refine wpAnyH_take (i := 16) (oi := { dst := some 98, op := Op.call { callee := Callee.value (Operand.func 29), args := #[Operand.tmp 97], argTypes := #[62] }, type := 3, pos := "l10_client.go:103", after := #[{ on := 15, ground := Ground.data }, { on := 14, ground := Ground.chain }, { on := 14, ground := Ground.guard }], guard := some (14, true) }) (v := undef) rfl (by kernel_rfl) (by kernel_rfl) (by kernel_rfl) (fun _ _ _ h => h) (Or.inr ⟨by rfl, rfl⟩) (by assumption) ?_
                    try simp only [Act.put, List.setIfInBounds_toArray, List.set_cons_zero, List.set_cons_succ]
                    refine wpAnyH_take (i := 17) (oi := { dst := some 99, op := Op.fieldAddr 36 (Operand.tmp 1) 0, type := 0, pos := "l10_client.go:103", after := #[{ on := 14, ground := Ground.guard }, { on := 21, ground := Ground.gcOnly Departure.lateStores }], guard := some (14, true) }) (v := undef) rfl (by kernel_rfl) (by kernel_rfl) (by kernel_rfl) (fun _ _ _ h => h) (Or.inr ⟨by rfl, rfl⟩) (by assumption) ?_
                    try simp only [Act.put, List.setIfInBounds_toArray, List.set_cons_zero, List.set_cons_succ]
                    refine wpAnyH_take (i := 18) (oi := { dst := some 100, op := Op.load 3 (Operand.tmp 99), type := 3, pos := "l10_client.go:103", after := #[{ on := 17, ground := Ground.data }, { on := 14, ground := Ground.guard }, { on := 21, ground := Ground.gcOnly Departure.lateStores }], guard := some (14, true) }) (v := undef) rfl (by kernel_rfl) (by kernel_rfl) (by kernel_rfl) (fun _ _ _ h => h) (Or.inr ⟨by rfl, rfl⟩) (by assumption) ?_
                    try simp only [Act.put, List.setIfInBounds_toArray, List.set_cons_zero, List.set_cons_succ]
                    refine wpAnyH_take (i := 19) (oi := { dst := some 101, op := Op.binOp BinOp.lss 3 (Operand.tmp 98) (Operand.tmp 100) 3, type := 4, pos := "l10_client.go:103", after := #[{ on := 16, ground := Ground.data }, { on := 18, ground := Ground.data }, { on := 14, ground := Ground.guard }, { on := 21, ground := Ground.gcOnly Departure.lateStores }], guard := some (14, true) }) (v := undef) rfl (by kernel_rfl) (by kernel_rfl) (by kernel_rfl) (fun _ _ _ h => h) (Or.inr ⟨by rfl, rfl⟩) (by assumption) ?_
                    try simp only [Act.put, List.setIfInBounds_toArray, List.set_cons_zero, List.set_cons_succ]
                    refine wpAnyH_take (i := 20) (oi := { dst := some 102, op := Op.pick (Operand.tmp 96) (Operand.tmp 101) (Operand.const (Value.bool false)), type := 4, pos := "l10_client.go:103", after := #[{ on := 14, ground := Ground.data }, { on := 19, ground := Ground.data }, { on := 21, ground := Ground.gcOnly Departure.lateStores }], guard := none }) (v := .bool false) rfl (by kernel_rfl) (by kernel_rfl) (by kernel_rfl) (fun _ _ _ h => h) (Or.inl ⟨by rfl, ?_⟩) (by assumption) ?_
                    · (intro wq hq; first | (go_simp; done) | (go_simp; rfl) | (go_simp; omega))
                    try simp only [Act.put, List.setIfInBounds_toArray, List.set_cons_zero, List.set_cons_succ]
                    refine wpAnyH_take (i := 21) (oi := { dst := some 2, op := Op.assign (Operand.tmp 86), type := 50, pos := "l10_client.go:103", after := #[{ on := 4, ground := Ground.data }, { on := 16, ground := Ground.chain }, { on := 0, ground := Ground.phase }, { on := 1, ground := Ground.phase }, { on := 2, ground := Ground.phase }, { on := 3, ground := Ground.phase }, { on := 4, ground := Ground.phase }, { on := 5, ground := Ground.textOnly Departure.lateStores }, { on := 6, ground := Ground.textOnly Departure.lateStores }, { on := 7, ground := Ground.textOnly Departure.lateStores }, { on := 8, ground := Ground.textOnly Departure.lateStores }, { on := 9, ground := Ground.textOnly Departure.lateStores }, { on := 10, ground := Ground.textOnly Departure.lateStores }, { on := 11, ground := Ground.textOnly Departure.lateStores }, { on := 12, ground := Ground.textOnly Departure.lateStores }, { on := 13, ground := Ground.textOnly Departure.lateStores }, { on := 14, ground := Ground.textOnly Departure.lateStores }, { on := 15, ground := Ground.textOnly Departure.lateStores }, { on := 16, ground := Ground.textOnly Departure.lateStoresUnsure }, { on := 17, ground := Ground.textOnly Departure.lateStores }, { on := 18, ground := Ground.textOnly Departure.lateStores }, { on := 19, ground := Ground.textOnly Departure.lateStores }, { on := 20, ground := Ground.textOnly Departure.lateStores }], guard := none }) (v := .iface 66 (.agg #[.int .i64 c.gs, .int .u64 ((c.gr.a).toNat : Int), .int .u64 ((c.gr.b).toNat : Int), .int .u64 ((c.gr.c).toNat : Int), .int .u64 ((c.gr.d).toNat : Int), .int .u64 (s : Int)])) rfl (by kernel_rfl) (by kernel_rfl) (by kernel_rfl) (fun _ _ _ h => h) (Or.inl ⟨by rfl, ?_⟩) (by assumption) ?_
                    · (intro wq hq; first | (go_simp; done) | (go_simp; rfl) | (go_simp; omega))
                    try simp only [Act.put, List.setIfInBounds_toArray, List.set_cons_zero, List.set_cons_succ]
                    refine wpAnyH_take (i := 22) (oi := { dst := some 3, op := Op.assign (Operand.tmp 102), type := 4, pos := "l10_client.go:103", after := #[{ on := 20, ground := Ground.data }, { on := 21, ground := Ground.chain }, { on := 0, ground := Ground.phase }, { on := 1, ground := Ground.phase }, { on := 2, ground := Ground.phase }, { on := 3, ground := Ground.phase }, { on := 4, ground := Ground.phase }, { on := 5, ground := Ground.phase }, { on := 6, ground := Ground.phase }, { on := 7, ground := Ground.phase }, { on := 8, ground := Ground.phase }, { on := 9, ground := Ground.phase }, { on := 10, ground := Ground.phase }, { on := 11, ground := Ground.phase }, { on := 12, ground := Ground.phase }, { on := 13, ground := Ground.phase }, { on := 14, ground := Ground.phase }, { on := 15, ground := Ground.phase }, { on := 16, ground := Ground.phase }, { on := 17, ground := Ground.phase }, { on := 18, ground := Ground.phase }, { on := 19, ground := Ground.phase }, { on := 20, ground := Ground.phase }, { on := 21, ground := Ground.phase }], guard := none }) (v := .bool false) rfl (by kernel_rfl) (by kernel_rfl) (by kernel_rfl) (fun _ _ _ h => h) (Or.inl ⟨by rfl, ?_⟩) (by assumption) ?_
                    · (intro wq hq; first | (go_simp; done) | (go_simp; rfl) | (go_simp; omega))
                    try simp only [Act.put, List.setIfInBounds_toArray, List.set_cons_zero, List.set_cons_succ]
                    refine wpAnyH_done (by kernel_rfl) ?_ _
                    clear hHeld
                    go_wp2_with fail
                    go_ret2
                    first | exact ⟨_, false, rfl, zd, no_of hno⟩ | exact ⟨⟨_, rfl⟩, zd⟩ | exact ⟨⟨_, rfl⟩, zd, hno⟩ | exact ⟨_, rfl, zd⟩
                  | true =>
                    have hgs := hab.1 rfl
                    clear hab
                    by_cases hse : c.se = 0
                    · have sI : (c.se != 0) = false := by rw [bne, beq_iff_eq.2 hse]; rfl
                      have hno : ¬ Cok c X := fun h => by have := (hC'.1 h).1; omega
                      clear hC' hge hse hgs
                      refine wp_region_held_drew (S := fun w' => Lies W.heap.size 4 [.int .i64 c.gs, .int .u64 ((c.gr.a).toNat : Int), .int .u64 ((c.gr.b).toNat : Int), .int .u64 ((c.gr.c).toNat : Int), .int .u64 ((c.gr.d).toNat : Int)] w' ∧ w'.cell? ⟨W.heap.size, 2, none⟩ = some (.int .i64 c.se) ∧ w'.cell? ⟨W.heap.size, 0, none⟩ = some (.int .i64 c.n)) (by kernel_rfl) ⟨dg, d2, d0⟩ (fun hHeld => ?_)
                      refine wpAnyH_take (i := 0) (oi := { dst := some 82, op := Op.fieldAddr 36 (Operand.tmp 1) 4, type := 0, pos := "l10_client.go:103", after := #[], guard := none }) (v := .pointer (some ⟨W.heap.size, 4, none⟩)) rfl (by kernel_rfl) (by kernel_rfl) (by kernel_rfl) (fun _ _ _ h => h) (Or.inl ⟨by rfl, ?_⟩) (by assumption) ?_
                      · (intro wq hq; first | (go_simp; done) | (go_simp; rfl) | (go_simp; omega))
                      try simp only [Act.put, List.setIfInBounds_toArray, List.set_cons_zero, List.set_cons_succ]
                      refine wpAnyH_take (i := 1) (oi := { dst := some 83, op := Op.load 34 (Operand.tmp 82), type := 34, pos := "l10_client.go:103", after := #[{ on := 0, ground := Ground.data }], guard := none }) (v := .agg #[.int .i64 c.gs, .int .u64 ((c.gr.a).toNat : Int), .int .u64 ((c.gr.b).toNat : Int), .int .u64 ((c.gr.c).toNat : Int), .int .u64 ((c.gr.d).toNat : Int)]) rfl (by kernel_rfl) (by kernel_rfl) (by kernel_rfl) (fun _ _ _ h => h) (Or.inl ⟨by rfl, ?_⟩) (by assumption) ?_
                      · (intro wq hq; exact run_load_cl agg_pnt W.heap.size 4 [.int .i64 c.gs, .int .u64 ((c.gr.a).toNat : Int), .int .u64 ((c.gr.b).toNat : Int), .int .u64 ((c.gr.c).toNat : Int), .int .u64 ((c.gr.d).toNat : Int)] (by kernel_rfl) (by kernel_rfl) hq.1)
                      try simp only [Act.put, List.setIfInBounds_toArray, List.set_cons_zero, List.set_cons_succ]
                      refine wpAnyH_take (i := 2) (oi := { dst := some 84, op := Op.move (Operand.tmp 5), type := 62, pos := "l10_client.go:103", after := #[], guard := none }) (v := .int .u64 (s : Int)) rfl (by kernel_rfl) (by kernel_rfl) (by kernel_rfl) (fun _ _ _ h => h) (Or.inl ⟨by rfl, ?_⟩) (by assumption) ?_
                      · (intro wq hq; first | (go_simp; done) | (go_simp; rfl) | (go_simp; omega))
                      try simp only [Act.put, List.setIfInBounds_toArray, List.set_cons_zero, List.set_cons_succ]
                      refine wpAnyH_take (i := 3) (oi := { dst := some 85, op := Op.build 66 #[(0, Operand.tmp 83), (1, Operand.tmp 84)], type := 66, pos := "l10_client.go:103", after := #[{ on := 1, ground := Ground.data }, { on := 2, ground := Ground.data }], guard := none }) (v := .agg #[.int .i64 c.gs, .int .u64 ((c.gr.a).toNat : Int), .int .u64 ((c.gr.b).toNat : Int), .int .u64 ((c.gr.c).toNat : Int), .int .u64 ((c.gr.d).toNat : Int), .int .u64 (s : Int)]) rfl (by kernel_rfl) (by kernel_rfl) (by kernel_rfl) (fun _ _ _ h => h) (Or.inl ⟨by rfl, ?_⟩) (by assumption) ?_
                      · (intro wq hq; first | (go_simp; done) | (go_simp; rfl) | (go_simp; omega))
                      try simp only [Act.put, List.setIfInBounds_toArray, List.set_cons_zero, List.set_cons_succ]
                      refine wpAnyH_take (i := 4) (oi := { dst := some 86, op := Op.makeInterface 66 (Operand.tmp 85), type := 50, pos := "l10_client.go:103", after := #[{ on := 3, ground := Ground.data }], guard := none }) (v := .iface 66 (.agg #[.int .i64 c.gs, .int .u64 ((c.gr.a).toNat : Int), .int .u64 ((c.gr.b).toNat : Int), .int .u64 ((c.gr.c).toNat : Int), .int .u64 ((c.gr.d).toNat : Int), .int .u64 (s : Int)])) rfl (by kernel_rfl) (by kernel_rfl) (by kernel_rfl) (fun _ _ _ h => h) (Or.inl ⟨by rfl, ?_⟩) (by assumption) ?_
                      · (intro wq hq; first | (go_simp; done) | (go_simp; rfl) | (go_simp; omega))
                      try simp only [Act.put, List.setIfInBounds_toArray, List.set_cons_zero, List.set_cons_succ]
                      refine wpAnyH_take (i := 5) (oi := { dst := some 87, op := Op.move (Operand.tmp 6), type := 4, pos := "l10_client.go:103", after := #[], guard := none }) (v := .bool true) rfl (by kernel_rfl) (by kernel_rfl) (by kernel_rfl) (fun _ _ _ h => h) (Or.inl ⟨by rfl, ?_⟩) (by assumption) ?_
                      · (intro wq hq; first | (go_simp; done) | (go_simp; rfl) | (go_simp; omega))
                      try simp only [Act.put, List.setIfInBounds_toArray, List.set_cons_zero, List.set_cons_succ]
                      refine wpAnyH_take (i := 6) (oi := { dst := some 88, op := Op.move (Operand.tmp 87), type := 4, pos := "l10_client.go:103", after := #[{ on := 5, ground := Ground.data }], guard := none }) (v := .bool true) rfl (by kernel_rfl) (by kernel_rfl) (by kernel_rfl) (fun _ _ _ h => h) (Or.inl ⟨by rfl, ?_⟩) (by assumption) ?_
                      · (intro wq hq; first | (go_simp; done) | (go_simp; rfl) | (go_simp; omega))
                      try simp only [Act.put, List.setIfInBounds_toArray, List.set_cons_zero, List.set_cons_succ]
                      refine wpAnyH_take (i := 7) (oi := { dst := some 89, op := Op.move (Operand.tmp 7), type := 4, pos := "l10_client.go:103", after := #[{ on := 6, ground := Ground.guard }], guard := some (6, true) }) (v := .bool true) rfl (by kernel_rfl) (by kernel_rfl) (by kernel_rfl) (fun _ _ _ h => h) (Or.inl ⟨by rfl, ?_⟩) (by assumption) ?_
                      · (intro wq hq; first | (go_simp; done) | (go_simp; rfl) | (go_simp; omega))
                      try simp only [Act.put, List.setIfInBounds_toArray, List.set_cons_zero, List.set_cons_succ]
                      refine wpAnyH_take (i := 8) (oi := { dst := some 90, op := Op.pick (Operand.tmp 88) (Operand.tmp 89) (Operand.const (Value.bool false)), type := 4, pos := "l10_client.go:103", after := #[{ on := 6, ground := Ground.data }, { on := 7, ground := Ground.data }], guard := none }) (v := .bool true) rfl (by kernel_rfl) (by kernel_rfl) (by kernel_rfl) (fun _ _ _ h => h) (Or.inl ⟨by rfl, ?_⟩) (by assumption) ?_
                      · (intro wq hq; first | (go_simp; done) | (go_simp; rfl) | (go_simp; omega))
                      try simp only [Act.put, List.setIfInBounds_toArray, List.set_cons_zero, List.set_cons_succ]
                      refine wpAnyH_take (i := 9) (oi := { dst := some 91, op := Op.move (Operand.tmp 90), type := 4, pos := "l10_client.go:103", after := #[{ on := 8, ground := Ground.data }, { on := 6, ground := Ground.chain }], guard := none }) (v := .bool true) rfl (by kernel_rfl) (by kernel_rfl) (by kernel_rfl) (fun _ _ _ h => h) (Or.inl ⟨by rfl, ?_⟩) (by assumption) ?_
                      · (intro wq hq; first | (go_simp; done) | (go_simp; rfl) | (go_simp; omega))
                      try simp only [Act.put, List.setIfInBounds_toArray, List.set_cons_zero, List.set_cons_succ]
                      refine wpAnyH_take (i := 10) (oi := { dst := some 92, op := Op.fieldAddr 36 (Operand.tmp 1) 2, type := 0, pos := "l10_client.go:103", after := #[{ on := 9, ground := Ground.guard }], guard := some (9, true) }) (v := .pointer (some ⟨W.heap.size, 2, none⟩)) rfl (by kernel_rfl) (by kernel_rfl) (by kernel_rfl) (fun _ _ _ h => h) (Or.inl ⟨by rfl, ?_⟩) (by assumption) ?_
                      · (intro wq hq; first | (go_simp; done) | (go_simp; rfl) | (go_simp; omega))
                      try simp only [Act.put, List.setIfInBounds_toArray, List.set_cons_zero, List.set_cons_succ]
                      refine wpAnyH_take (i := 11) (oi := { dst := some 93, op := Op.load 3 (Operand.tmp 92), type := 3, pos := "l10_client.go:103", after := #[{ on := 10, ground := Ground.data }, { on := 9, ground := Ground.guard }], guard := some (9, true) }) (v := .int .i64 c.se) rfl (by kernel_rfl) (by kernel_rfl) (by kernel_rfl) (fun _ _ _ h => h) (Or.inl ⟨by rfl, ?_⟩) (by assumption) ?_
                      · (intro wq hq; have hx := hq.2.1; clear hq; go_simp)
                      try simp only [Act.put, List.setIfInBounds_toArray, List.set_cons_zero, List.set_cons_succ]
                      refine wpAnyH_take (i := 12) (oi := { dst := some 94, op := Op.binOp BinOp.neq 3 (Operand.tmp 93) (Operand.const (Value.int IntKind.i64 0)) 3, type := 4, pos := "l10_client.go:103", after := #[{ on := 11, ground := Ground.data }, { on := 9, ground := Ground.guard }], guard := some (9, true) }) (v := .bool false) rfl (by kernel_rfl) (by kernel_rfl) (by kernel_rfl) (fun _ _ _ h => h) (Or.inl ⟨by rfl, ?_⟩) (by assumption) ?_
                      · (intro wq hq; first | (go_simp; done) | (go_simp; rfl) | (go_simp; omega))
                      try simp only [Act.put, List.setIfInBounds_toArray, List.set_cons_zero, List.set_cons_succ]
                      refine wpAnyH_take (i := 13) (oi := { dst := some 95, op := Op.pick (Operand.tmp 91) (Operand.tmp 94) (Operand.const (Value.bool false)), type := 4, pos := "l10_client.go:103", after := #[{ on := 9, ground := Ground.data }, { on := 12, ground := Ground.data }], guard := none }) (v := .bool false) rfl (by kernel_rfl) (by kernel_rfl) (by kernel_rfl) (fun _ _ _ h => h) (Or.inl ⟨by rfl, ?_⟩) (by assumption) ?_
                      · (intro wq hq; first | (go_simp; done) | (go_simp; rfl) | (go_simp; omega))
                      try simp only [Act.put, List.setIfInBounds_toArray, List.set_cons_zero, List.set_cons_succ]
                      refine wpAnyH_take (i := 14) (oi := { dst := some 96, op := Op.move (Operand.tmp 95), type := 4, pos := "l10_client.go:103", after := #[{ on := 13, ground := Ground.data }, { on := 9, ground := Ground.chain }], guard := none }) (v := .bool false) rfl (by kernel_rfl) (by kernel_rfl) (by kernel_rfl) (fun _ _ _ h => h) (Or.inl ⟨by rfl, ?_⟩) (by assumption) ?_
                      · (intro wq hq; first | (go_simp; done) | (go_simp; rfl) | (go_simp; omega))
                      try simp only [Act.put, List.setIfInBounds_toArray, List.set_cons_zero, List.set_cons_succ]
                      refine wpAnyH_take (i := 15) (oi := { dst := some 97, op := Op.move (Operand.tmp 5), type := 62, pos := "l10_client.go:103", after := #[{ on := 14, ground := Ground.guard }], guard := some (14, true) }) (v := undef) rfl (by kernel_rfl) (by kernel_rfl) (by kernel_rfl) (fun _ _ _ h => h) (Or.inr ⟨by rfl, rfl⟩) (by assumption) ?_
                      try simp only [Act.put, List.setIfInBounds_toArray, List.set_cons_zero, List.set_cons_succ]
                      refine wpAnyH_take (i := 16) (oi := { dst := some 98, op := Op.call { callee := Callee.value (Operand.func 29), args := #[Operand.tmp 97], argTypes := #[62] }, type := 3, pos := "l10_client.go:103", after := #[{ on := 15, ground := Ground.data }, { on := 14, ground := Ground.chain }, { on := 14, ground := Ground.guard }], guard := some (14, true) }) (v := undef) rfl (by kernel_rfl) (by kernel_rfl) (by kernel_rfl) (fun _ _ _ h => h) (Or.inr ⟨by rfl, rfl⟩) (by assumption) ?_
                      try simp only [Act.put, List.setIfInBounds_toArray, List.set_cons_zero, List.set_cons_succ]
                      refine wpAnyH_take (i := 17) (oi := { dst := some 99, op := Op.fieldAddr 36 (Operand.tmp 1) 0, type := 0, pos := "l10_client.go:103", after := #[{ on := 14, ground := Ground.guard }, { on := 21, ground := Ground.gcOnly Departure.lateStores }], guard := some (14, true) }) (v := undef) rfl (by kernel_rfl) (by kernel_rfl) (by kernel_rfl) (fun _ _ _ h => h) (Or.inr ⟨by rfl, rfl⟩) (by assumption) ?_
                      try simp only [Act.put, List.setIfInBounds_toArray, List.set_cons_zero, List.set_cons_succ]
                      refine wpAnyH_take (i := 18) (oi := { dst := some 100, op := Op.load 3 (Operand.tmp 99), type := 3, pos := "l10_client.go:103", after := #[{ on := 17, ground := Ground.data }, { on := 14, ground := Ground.guard }, { on := 21, ground := Ground.gcOnly Departure.lateStores }], guard := some (14, true) }) (v := undef) rfl (by kernel_rfl) (by kernel_rfl) (by kernel_rfl) (fun _ _ _ h => h) (Or.inr ⟨by rfl, rfl⟩) (by assumption) ?_
                      try simp only [Act.put, List.setIfInBounds_toArray, List.set_cons_zero, List.set_cons_succ]
                      refine wpAnyH_take (i := 19) (oi := { dst := some 101, op := Op.binOp BinOp.lss 3 (Operand.tmp 98) (Operand.tmp 100) 3, type := 4, pos := "l10_client.go:103", after := #[{ on := 16, ground := Ground.data }, { on := 18, ground := Ground.data }, { on := 14, ground := Ground.guard }, { on := 21, ground := Ground.gcOnly Departure.lateStores }], guard := some (14, true) }) (v := undef) rfl (by kernel_rfl) (by kernel_rfl) (by kernel_rfl) (fun _ _ _ h => h) (Or.inr ⟨by rfl, rfl⟩) (by assumption) ?_
                      try simp only [Act.put, List.setIfInBounds_toArray, List.set_cons_zero, List.set_cons_succ]
                      refine wpAnyH_take (i := 20) (oi := { dst := some 102, op := Op.pick (Operand.tmp 96) (Operand.tmp 101) (Operand.const (Value.bool false)), type := 4, pos := "l10_client.go:103", after := #[{ on := 14, ground := Ground.data }, { on := 19, ground := Ground.data }, { on := 21, ground := Ground.gcOnly Departure.lateStores }], guard := none }) (v := .bool false) rfl (by kernel_rfl) (by kernel_rfl) (by kernel_rfl) (fun _ _ _ h => h) (Or.inl ⟨by rfl, ?_⟩) (by assumption) ?_
                      · (intro wq hq; first | (go_simp; done) | (go_simp; rfl) | (go_simp; omega))
                      try simp only [Act.put, List.setIfInBounds_toArray, List.set_cons_zero, List.set_cons_succ]
                      refine wpAnyH_take (i := 21) (oi := { dst := some 2, op := Op.assign (Operand.tmp 86), type := 50, pos := "l10_client.go:103", after := #[{ on := 4, ground := Ground.data }, { on := 16, ground := Ground.chain }, { on := 0, ground := Ground.phase }, { on := 1, ground := Ground.phase }, { on := 2, ground := Ground.phase }, { on := 3, ground := Ground.phase }, { on := 4, ground := Ground.phase }, { on := 5, ground := Ground.textOnly Departure.lateStores }, { on := 6, ground := Ground.textOnly Departure.lateStores }, { on := 7, ground := Ground.textOnly Departure.lateStores }, { on := 8, ground := Ground.textOnly Departure.lateStores }, { on := 9, ground := Ground.textOnly Departure.lateStores }, { on := 10, ground := Ground.textOnly Departure.lateStores }, { on := 11, ground := Ground.textOnly Departure.lateStores }, { on := 12, ground := Ground.textOnly Departure.lateStores }, { on := 13, ground := Ground.textOnly Departure.lateStores }, { on := 14, ground := Ground.textOnly Departure.lateStores }, { on := 15, ground := Ground.textOnly Departure.lateStores }, { on := 16, ground := Ground.textOnly Departure.lateStoresUnsure }, { on := 17, ground := Ground.textOnly Departure.lateStores }, { on := 18, ground := Ground.textOnly Departure.lateStores }, { on := 19, ground := Ground.textOnly Departure.lateStores }, { on := 20, ground := Ground.textOnly Departure.lateStores }], guard := none }) (v := .iface 66 (.agg #[.int .i64 c.gs, .int .u64 ((c.gr.a).toNat : Int), .int .u64 ((c.gr.b).toNat : Int), .int .u64 ((c.gr.c).toNat : Int), .int .u64 ((c.gr.d).toNat : Int), .int .u64 (s : Int)])) rfl (by kernel_rfl) (by kernel_rfl) (by kernel_rfl) (fun _ _ _ h => h) (Or.inl ⟨by rfl, ?_⟩) (by assumption) ?_
                      · (intro wq hq; first | (go_simp; done) | (go_simp; rfl) | (go_simp; omega))
                      try simp only [Act.put, List.setIfInBounds_toArray, List.set_cons_zero, List.set_cons_succ]
                      refine wpAnyH_take (i := 22) (oi := { dst := some 3, op := Op.assign (Operand.tmp 102), type := 4, pos := "l10_client.go:103", after := #[{ on := 20, ground := Ground.data }, { on := 21, ground := Ground.chain }, { on := 0, ground := Ground.phase }, { on := 1, ground := Ground.phase }, { on := 2, ground := Ground.phase }, { on := 3, ground := Ground.phase }, { on := 4, ground := Ground.phase }, { on := 5, ground := Ground.phase }, { on := 6, ground := Ground.phase }, { on := 7, ground := Ground.phase }, { on := 8, ground := Ground.phase }, { on := 9, ground := Ground.phase }, { on := 10, ground := Ground.phase }, { on := 11, ground := Ground.phase }, { on := 12, ground := Ground.phase }, { on := 13, ground := Ground.phase }, { on := 14, ground := Ground.phase }, { on := 15, ground := Ground.phase }, { on := 16, ground := Ground.phase }, { on := 17, ground := Ground.phase }, { on := 18, ground := Ground.phase }, { on := 19, ground := Ground.phase }, { on := 20, ground := Ground.phase }, { on := 21, ground := Ground.phase }], guard := none }) (v := .bool false) rfl (by kernel_rfl) (by kernel_rfl) (by kernel_rfl) (fun _ _ _ h => h) (Or.inl ⟨by rfl, ?_⟩) (by assumption) ?_
                      · (intro wq hq; first | (go_simp; done) | (go_simp; rfl) | (go_simp; omega))
                      try simp only [Act.put, List.setIfInBounds_toArray, List.set_cons_zero, List.set_cons_succ]
                      refine wpAnyH_done (by kernel_rfl) ?_ _
                      clear hHeld
                      go_wp2_with fail
                      go_ret2
                      first | exact ⟨_, false, rfl, zd, no_of hno⟩ | exact ⟨⟨_, rfl⟩, zd⟩ | exact ⟨⟨_, rfl⟩, zd, hno⟩ | exact ⟨_, rfl, zd⟩
                    · have sI : (c.se != 0) = true := by rw [bne, beq_eq_false_iff_ne.2 hse]; rfl
                      have cz := fun V : World => wsz_is s (by omega) V
                      rw [hpc] at cz
                      by_cases hn : (X.length : Int) < c.n
                      · have hyes : Cok c X := hC'.2 ⟨by omega, hgs, hn, hasc⟩
                        clear hC' hge hse hgs
                        refine wp_region_held_drew (S := fun w' => Lies W.heap.size 4 [.int .i64 c.gs, .int .u64 ((c.gr.a).toNat : Int), .int .u64 ((c.gr.b).toNat : Int), .int .u64 ((c.gr.c).toNat : Int), .int .u64 ((c.gr.d).toNat : Int)] w' ∧ w'.cell? ⟨W.heap.size, 2, none⟩ = some (.int .i64 c.se) ∧ w'.cell? ⟨W.heap.size, 0, none⟩ = some (.int .i64 c.n)) (by kernel_rfl) ⟨dg, d2, d0⟩ (fun hHeld => ?_)
                        refine wpAnyH_take (i := 0) (oi := { dst := some 82, op := Op.fieldAddr 36 (Operand.tmp 1) 4, type := 0, pos := "l10_client.go:103", after := #[], guard := none }) (v := .pointer (some ⟨W.heap.size, 4, none⟩)) rfl (by kernel_rfl) (by kernel_rfl) (by kernel_rfl) (fun _ _ _ h => h) (Or.inl ⟨by rfl, ?_⟩) (by assumption) ?_
                        · (intro wq hq; first | (go_simp; done) | (go_simp; rfl) | (go_simp; omega))
                        try simp only [Act.put, List.setIfInBounds_toArray, List.set_cons_zero, List.set_cons_succ]
                        refine wpAnyH_take (i := 1) (oi := { dst := some 83, op := Op.load 34 (Operand.tmp 82), type := 34, pos := "l10_client.go:103", after := #[{ on := 0, ground := Ground.data }], guard := none }) (v := .agg #[.int .i64 c.gs, .int .u64 ((c.gr.a).toNat : Int), .int .u64 ((c.gr.b).toNat : Int), .int .u64 ((c.gr.c).toNat : Int), .int .u64 ((c.gr.d).toNat : Int)]) rfl (by kernel_rfl) (by kernel_rfl) (by kernel_rfl) (fun _ _ _ h => h) (Or.inl ⟨by rfl, ?_⟩) (by assumption) ?_
                        · (intro wq hq; exact run_load_cl agg_pnt W.heap.size 4 [.int .i64 c.gs, .int .u64 ((c.gr.a).toNat : Int), .int .u64 ((c.gr.b).toNat : Int), .int .u64 ((c.gr.c).toNat : Int), .int .u64 ((c.gr.d).toNat : Int)] (by kernel_rfl) (by kernel_rfl) hq.1)
                        try simp only [Act.put, List.setIfInBounds_toArray, List.set_cons_zero, List.set_cons_succ]
                        refine wpAnyH_take (i := 2) (oi := { dst := some 84, op := Op.move (Operand.tmp 5), type := 62, pos := "l10_client.go:103", after := #[], guard := none }) (v := .int .u64 (s : Int)) rfl (by kernel_rfl) (by kernel_rfl) (by kernel_rfl) (fun _ _ _ h => h) (Or.inl ⟨by rfl, ?_⟩) (by assumption) ?_
                        · (intro wq hq; first | (go_simp; done) | (go_simp; rfl) | (go_simp; omega))
                        try simp only [Act.put, List.setIfInBounds_toArray, List.set_cons_zero, List.set_cons_succ]
                        refine wpAnyH_take (i := 3) (oi := { dst := some 85, op := Op.build 66 #[(0, Operand.tmp 83), (1, Operand.tmp 84)], type := 66, pos := "l10_client.go:103", after := #[{ on := 1, ground := Ground.data }, { on := 2, ground := Ground.data }], guard := none }) (v := .agg #[.int .i64 c.gs, .int .u64 ((c.gr.a).toNat : Int), .int .u64 ((c.gr.b).toNat : Int), .int .u64 ((c.gr.c).toNat : Int), .int .u64 ((c.gr.d).toNat : Int), .int .u64 (s : Int)]) rfl (by kernel_rfl) (by kernel_rfl) (by kernel_rfl) (fun _ _ _ h => h) (Or.inl ⟨by rfl, ?_⟩) (by assumption) ?_
                        · (intro wq hq; first | (go_simp; done) | (go_simp; rfl) | (go_simp; omega))
                        try simp only [Act.put, List.setIfInBounds_toArray, List.set_cons_zero, List.set_cons_succ]
                        refine wpAnyH_take (i := 4) (oi := { dst := some 86, op := Op.makeInterface 66 (Operand.tmp 85), type := 50, pos := "l10_client.go:103", after := #[{ on := 3, ground := Ground.data }], guard := none }) (v := .iface 66 (.agg #[.int .i64 c.gs, .int .u64 ((c.gr.a).toNat : Int), .int .u64 ((c.gr.b).toNat : Int), .int .u64 ((c.gr.c).toNat : Int), .int .u64 ((c.gr.d).toNat : Int), .int .u64 (s : Int)])) rfl (by kernel_rfl) (by kernel_rfl) (by kernel_rfl) (fun _ _ _ h => h) (Or.inl ⟨by rfl, ?_⟩) (by assumption) ?_
                        · (intro wq hq; first | (go_simp; done) | (go_simp; rfl) | (go_simp; omega))
                        try simp only [Act.put, List.setIfInBounds_toArray, List.set_cons_zero, List.set_cons_succ]
                        refine wpAnyH_take (i := 5) (oi := { dst := some 87, op := Op.move (Operand.tmp 6), type := 4, pos := "l10_client.go:103", after := #[], guard := none }) (v := .bool true) rfl (by kernel_rfl) (by kernel_rfl) (by kernel_rfl) (fun _ _ _ h => h) (Or.inl ⟨by rfl, ?_⟩) (by assumption) ?_
                        · (intro wq hq; first | (go_simp; done) | (go_simp; rfl) | (go_simp; omega))
                        try simp only [Act.put, List.setIfInBounds_toArray, List.set_cons_zero, List.set_cons_succ]
                        refine wpAnyH_take (i := 6) (oi := { dst := some 88, op := Op.move (Operand.tmp 87), type := 4, pos := "l10_client.go:103", after := #[{ on := 5, ground := Ground.data }], guard := none }) (v := .bool true) rfl (by kernel_rfl) (by kernel_rfl) (by kernel_rfl) (fun _ _ _ h => h) (Or.inl ⟨by rfl, ?_⟩) (by assumption) ?_
                        · (intro wq hq; first | (go_simp; done) | (go_simp; rfl) | (go_simp; omega))
                        try simp only [Act.put, List.setIfInBounds_toArray, List.set_cons_zero, List.set_cons_succ]
                        refine wpAnyH_take (i := 7) (oi := { dst := some 89, op := Op.move (Operand.tmp 7), type := 4, pos := "l10_client.go:103", after := #[{ on := 6, ground := Ground.guard }], guard := some (6, true) }) (v := .bool true) rfl (by kernel_rfl) (by kernel_rfl) (by kernel_rfl) (fun _ _ _ h => h) (Or.inl ⟨by rfl, ?_⟩) (by assumption) ?_
                        · (intro wq hq; first | (go_simp; done) | (go_simp; rfl) | (go_simp; omega))
                        try simp only [Act.put, List.setIfInBounds_toArray, List.set_cons_zero, List.set_cons_succ]
                        refine wpAnyH_take (i := 8) (oi := { dst := some 90, op := Op.pick (Operand.tmp 88) (Operand.tmp 89) (Operand.const (Value.bool false)), type := 4, pos := "l10_client.go:103", after := #[{ on := 6, ground := Ground.data }, { on := 7, ground := Ground.data }], guard := none }) (v := .bool true) rfl (by kernel_rfl) (by kernel_rfl) (by kernel_rfl) (fun _ _ _ h => h) (Or.inl ⟨by rfl, ?_⟩) (by assumption) ?_
                        · (intro wq hq; first | (go_simp; done) | (go_simp; rfl) | (go_simp; omega))
                        try simp only [Act.put, List.setIfInBounds_toArray, List.set_cons_zero, List.set_cons_succ]
                        refine wpAnyH_take (i := 9) (oi := { dst := some 91, op := Op.move (Operand.tmp 90), type := 4, pos := "l10_client.go:103", after := #[{ on := 8, ground := Ground.data }, { on := 6, ground := Ground.chain }], guard := none }) (v := .bool true) rfl (by kernel_rfl) (by kernel_rfl) (by kernel_rfl) (fun _ _ _ h => h) (Or.inl ⟨by rfl, ?_⟩) (by assumption) ?_
                        · (intro wq hq; first | (go_simp; done) | (go_simp; rfl) | (go_simp; omega))
                        try simp only [Act.put, List.setIfInBounds_toArray, List.set_cons_zero, List.set_cons_succ]
                        refine wpAnyH_take (i := 10) (oi := { dst := some 92, op := Op.fieldAddr 36 (Operand.tmp 1) 2, type := 0, pos := "l10_client.go:103", after := #[{ on := 9, ground := Ground.guard }], guard := some (9, true) }) (v := .pointer (some ⟨W.heap.size, 2, none⟩)) rfl (by kernel_rfl) (by kernel_rfl) (by kernel_rfl) (fun _ _ _ h => h) (Or.inl ⟨by rfl, ?_⟩) (by assumption) ?_
                        · (intro wq hq; first | (go_simp; done) | (go_simp; rfl) | (go_simp; omega))
                        try simp only [Act.put, List.setIfInBounds_toArray, List.set_cons_zero, List.set_cons_succ]
                        refine wpAnyH_take (i := 11) (oi := { dst := some 93, op := Op.load 3 (Operand.tmp 92), type := 3, pos := "l10_client.go:103", after := #[{ on := 10, ground := Ground.data }, { on := 9, ground := Ground.guard }], guard := some (9, true) }) (v := .int .i64 c.se) rfl (by kernel_rfl) (by kernel_rfl) (by kernel_rfl) (fun _ _ _ h => h) (Or.inl ⟨by rfl, ?_⟩) (by assumption) ?_
                        · (intro wq hq; have hx := hq.2.1; clear hq; go_simp)
                        try simp only [Act.put, List.setIfInBounds_toArray, List.set_cons_zero, List.set_cons_succ]
                        refine wpAnyH_take (i := 12) (oi := { dst := some 94, op := Op.binOp BinOp.neq 3 (Operand.tmp 93) (Operand.const (Value.int IntKind.i64 0)) 3, type := 4, pos := "l10_client.go:103", after := #[{ on := 11, ground := Ground.data }, { on := 9, ground := Ground.guard }], guard := some (9, true) }) (v := .bool true) rfl (by kernel_rfl) (by kernel_rfl) (by kernel_rfl) (fun _ _ _ h => h) (Or.inl ⟨by rfl, ?_⟩) (by assumption) ?_
                        · (intro wq hq; first | (go_simp; done) | (go_simp; rfl) | (go_simp; omega))
                        try simp only [Act.put, List.setIfInBounds_toArray, List.set_cons_zero, List.set_cons_succ]
                        refine wpAnyH_take (i := 13) (oi := { dst := some 95, op := Op.pick (Operand.tmp 91) (Operand.tmp 94) (Operand.const (Value.bool false)), type := 4, pos := "l10_client.go:103", after := #[{ on := 9, ground := Ground.data }, { on := 12, ground := Ground.data }], guard := none }) (v := .bool true) rfl (by kernel_rfl) (by kernel_rfl) (by kernel_rfl) (fun _ _ _ h => h) (Or.inl ⟨by rfl, ?_⟩) (by assumption) ?_
                        · (intro wq hq; first | (go_simp; done) | (go_simp; rfl) | (go_simp; omega))
                        try simp only [Act.put, List.setIfInBounds_toArray, List.set_cons_zero, List.set_cons_succ]
                        refine wpAnyH_take (i := 14) (oi := { dst := some 96, op := Op.move (Operand.tmp 95), type := 4, pos := "l10_client.go:103", after := #[{ on := 13, ground := Ground.data }, { on := 9, ground := Ground.chain }], guard := none }) (v := .bool true) rfl (by kernel_rfl) (by kernel_rfl) (by kernel_rfl) (fun _ _ _ h => h) (Or.inl ⟨by rfl, ?_⟩) (by assumption) ?_
                        · (intro wq hq; first | (go_simp; done) | (go_simp; rfl) | (go_simp; omega))
                        try simp only [Act.put, List.setIfInBounds_toArray, List.set_cons_zero, List.set_cons_succ]
                        refine wpAnyH_take (i := 15) (oi := { dst := some 97, op := Op.move (Operand.tmp 5), type := 62, pos := "l10_client.go:103", after := #[{ on := 14, ground := Ground.guard }], guard := some (14, true) }) (v := .int .u64 (s : Int)) rfl (by kernel_rfl) (by kernel_rfl) (by kernel_rfl) (fun _ _ _ h => h) (Or.inl ⟨by rfl, ?_⟩) (by assumption) ?_
                        · (intro wq hq; first | (go_simp; done) | (go_simp; rfl) | (go_simp; omega))
                        try simp only [Act.put, List.setIfInBounds_toArray, List.set_cons_zero, List.set_cons_succ]
                        refine wpAnyH_take (i := 17) (oi := { dst := some 99, op := Op.fieldAddr 36 (Operand.tmp 1) 0, type := 0, pos := "l10_client.go:103", after := #[{ on := 14, ground := Ground.guard }, { on := 21, ground := Ground.gcOnly Departure.lateStores }], guard := some (14, true) }) (v := .pointer (some ⟨W.heap.size, 0, none⟩)) rfl (by kernel_rfl) (by kernel_rfl) (by kernel_rfl) (fun _ _ _ h => h) (Or.inl ⟨by rfl, ?_⟩) (by assumption) ?_
                        · (intro wq hq; first | (go_simp; done) | (go_simp; rfl) | (go_simp; omega))
                        try simp only [Act.put, List.setIfInBounds_toArray, List.set_cons_zero, List.set_cons_succ]
                        refine wpAnyH_take (i := 18) (oi := { dst := some 100, op := Op.load 3 (Operand.tmp 99), type := 3, pos := "l10_client.go:103", after := #[{ on := 17, ground := Ground.data }, { on := 14, ground := Ground.guard }, { on := 21, ground := Ground.gcOnly Departure.lateStores }], guard := some (14, true) }) (v := .int .i64 c.n) rfl (by kernel_rfl) (by kernel_rfl) (by kernel_rfl) (fun _ _ _ h => h) (Or.inl ⟨by rfl, ?_⟩) (by assumption) ?_
                        · (intro wq hq; have hx := hq.2.2; clear hq; go_simp)
                        try simp only [Act.put, List.setIfInBounds_toArray, List.set_cons_zero, List.set_cons_succ]
                        refine wpAnyH_ready (rs := [16]) (by kernel_rfl) (by simp) ?_
                        refine AllReadyH.cons (o := { dst := some 98, op := Op.call { callee := Callee.value (Operand.func 29), args := #[Operand.tmp 97], argTypes := #[62] }, type := 3, pos := "l10_client.go:103", after := #[{ on := 15, ground := Ground.data }, { on := 14, ground := Ground.chain }, { on := 14, ground := Ground.guard }], guard := some (14, true) }) rfl (fun K hK => ?_) AllReadyH.nil
                        go_simp
                        go_at_call 29
                        refine (cz _).mono ?_
                        rintro e w2 ⟨rfl, hw2⟩
                        subst hw2
                        go_simp
                        refine hK.out _ _ hHeld (fun hHeld => ?_)
                        clear hK K
                        refine wpAnyH_take (i := 19) (oi := { dst := some 101, op := Op.binOp BinOp.lss 3 (Operand.tmp 98) (Operand.tmp 100) 3, type := 4, pos := "l10_client.go:103", after := #[{ on := 16, ground := Ground.data }, { on := 18, ground := Ground.data }, { on := 14, ground := Ground.guard }, { on := 21, ground := Ground.gcOnly Departure.lateStores }], guard := some (14, true) }) (v := .bool true) rfl (by kernel_rfl) (by kernel_rfl) (by kernel_rfl) (fun _ _ _ h => h) (Or.inl ⟨by rfl, ?_⟩) (by assumption) ?_
                        · (intro wq hq; first | (go_simp; done) | (go_simp; rfl) | (go_simp; omega))
                        try simp only [Act.put, List.setIfInBounds_toArray, List.set_cons_zero, List.set_cons_succ]
                        refine wpAnyH_take (i := 20) (oi := { dst := some 102, op := Op.pick (Operand.tmp 96) (Operand.tmp 101) (Operand.const (Value.bool false)), type := 4, pos := "l10_client.go:103", after := #[{ on := 14, ground := Ground.data }, { on := 19, ground := Ground.data }, { on := 21, ground := Ground.gcOnly Departure.lateStores }], guard := none }) (v := .bool true) rfl (by kernel_rfl) (by kernel_rfl) (by kernel_rfl) (fun _ _ _ h => h) (Or.inl ⟨by rfl, ?_⟩) (by assumption) ?_
                        · (intro wq hq; first | (go_simp; done) | (go_simp; rfl) | (go_simp; omega))
                        try simp only [Act.put, List.setIfInBounds_toArray, List.set_cons_zero, List.set_cons_succ]
                        refine wpAnyH_take (i := 21) (oi := { dst := some 2, op := Op.assign (Operand.tmp 86), type := 50, pos := "l10_client.go:103", after := #[{ on := 4, ground := Ground.data }, { on := 16, ground := Ground.chain }, { on := 0, ground := Ground.phase }, { on := 1, ground := Ground.phase }, { on := 2, ground := Ground.phase }, { on := 3, ground := Ground.phase }, { on := 4, ground := Ground.phase }, { on := 5, ground := Ground.textOnly Departure.lateStores }, { on := 6, ground := Ground.textOnly Departure.lateStores }, { on := 7, ground := Ground.textOnly Departure.lateStores }, { on := 8, ground := Ground.textOnly Departure.lateStores }, { on := 9, ground := Ground.textOnly Departure.lateStores }, { on := 10, ground := Ground.textOnly Departure.lateStores }, { on := 11, ground := Ground.textOnly Departure.lateStores }, { on := 12, ground := Ground.textOnly Departure.lateStores }, { on := 13, ground := Ground.textOnly Departure.lateStores }, { on := 14, ground := Ground.textOnly Departure.lateStores }, { on := 15, ground := Ground.textOnly Departure.lateStores }, { on := 16, ground := Ground.textOnly Departure.lateStoresUnsure }, { on := 17, ground := Ground.textOnly Departure.lateStores }, { on := 18, ground := Ground.textOnly Departure.lateStores }, { on := 19, ground := Ground.textOnly Departure.lateStores }, { on := 20, ground := Ground.textOnly Departure.lateStores }], guard := none }) (v := .iface 66 (.agg #[.int .i64 c.gs, .int .u64 ((c.gr.a).toNat : Int), .int .u64 ((c.gr.b).toNat : Int), .int .u64 ((c.gr.c).toNat : Int), .int .u64 ((c.gr.d).toNat : Int), .int .u64 (s : Int)])) rfl (by kernel_rfl) (by kernel_rfl) (by kernel_rfl) (fun _ _ _ h => h) (Or.inl ⟨by rfl, ?_⟩) (by assumption) ?_
                        · (intro wq hq; first | (go_simp; done) | (go_simp; rfl) | (go_simp; omega))
                        try simp only [Act.put, List.setIfInBounds_toArray, List.set_cons_zero, List.set_cons_succ]
                        refine wpAnyH_take (i := 22) (oi := { dst := some 3, op := Op.assign (Operand.tmp 102), type := 4, pos := "l10_client.go:103", after := #[{ on := 20, ground := Ground.data }, { on := 21, ground := Ground.chain }, { on := 0, ground := Ground.phase }, { on := 1, ground := Ground.phase }, { on := 2, ground := Ground.phase }, { on := 3, ground := Ground.phase }, { on := 4, ground := Ground.phase }, { on := 5, ground := Ground.phase }, { on := 6, ground := Ground.phase }, { on := 7, ground := Ground.phase }, { on := 8, ground := Ground.phase }, { on := 9, ground := Ground.phase }, { on := 10, ground := Ground.phase }, { on := 11, ground := Ground.phase }, { on := 12, ground := Ground.phase }, { on := 13, ground := Ground.phase }, { on := 14, ground := Ground.phase }, { on := 15, ground := Ground.phase }, { on := 16, ground := Ground.phase }, { on := 17, ground := Ground.phase }, { on := 18, ground := Ground.phase }, { on := 19, ground := Ground.phase }, { on := 20, ground := Ground.phase }, { on := 21, ground := Ground.phase }], guard := none }) (v := .bool true) rfl (by kernel_rfl) (by kernel_rfl) (by kernel_rfl) (fun _ _ _ h => h) (Or.inl ⟨by rfl, ?_⟩) (by assumption) ?_
                        · (intro wq hq; first | (go_simp; done) | (go_simp; rfl) | (go_simp; omega))
                        try simp only [Act.put, List.setIfInBounds_toArray, List.set_cons_zero, List.set_cons_succ]
                        refine wpAnyH_done (by kernel_rfl) ?_ _
                        clear hHeld
                        go_wp2_with fail
                        go_ret2
                        first | exact ⟨_, true, rfl, zd, yes_of hyes⟩ | exact ⟨⟨_, rfl⟩, zd⟩ | exact ⟨⟨_, rfl⟩, zd, hyes⟩ | exact ⟨_, rfl, zd⟩
                      · have hno : ¬ Cok c X := fun h => hn (hC'.1 h).2.2.1
                        clear hC' hge hse hgs
                        refine wp_region_held_drew (S := fun w' => Lies W.heap.size 4 [.int .i64 c.gs, .int .u64 ((c.gr.a).toNat : Int), .int .u64 ((c.gr.b).toNat : Int), .int .u64 ((c.gr.c).toNat : Int), .int .u64 ((c.gr.d).toNat : Int)] w' ∧ w'.cell? ⟨W.heap.size, 2, none⟩ = some (.int .i64 c.se) ∧ w'.cell? ⟨W.heap.size, 0, none⟩ = some (.int .i64 c.n)) (by kernel_rfl) ⟨dg, d2, d0⟩ (fun hHeld => ?_)
                        refine wpAnyH_take (i := 0) (oi := { dst := some 82, op := Op.fieldAddr 36 (Operand.tmp 1) 4, type := 0, pos := "l10_client.go:103", after := #[], guard := none }) (v := .pointer (some ⟨W.heap.size, 4, none⟩)) rfl (by kernel_rfl) (by kernel_rfl) (by kernel_rfl) (fun _ _ _ h => h) (Or.inl ⟨by rfl, ?_⟩) (by assumption) ?_
                        · (intro wq hq; first | (go_simp; done) | (go_simp; rfl) | (go_simp; omega))
                        try simp only [Act.put, List.setIfInBounds_toArray, List.set_cons_zero, List.set_cons_succ]
                        refine wpAnyH_take (i := 1) (oi := { dst := some 83, op := Op.load 34 (Operand.tmp 82), type := 34, pos := "l10_client.go:103", after := #[{ on := 0, ground := Ground.data }], guard := none }) (v := .agg #[.int .i64 c.gs, .int .u64 ((c.gr.a).toNat : Int), .int .u64 ((c.gr.b).toNat : Int), .int .u64 ((c.gr.c).toNat : Int), .int .u64 ((c.gr.d).toNat : Int)]) rfl (by kernel_rfl) (by kernel_rfl) (by kernel_rfl) (fun _ _ _ h => h) (Or.inl ⟨by rfl, ?_⟩) (by assumption) ?_
                        · (intro wq hq; exact run_load_cl agg_pnt W.heap.size 4 [.int .i64 c.gs, .int .u64 ((c.gr.a).toNat : Int), .int .u64 ((c.gr.b).toNat : Int), .int .u64 ((c.gr.c).toNat : Int), .int .u64 ((c.gr.d).toNat : Int)] (by kernel_rfl) (by kernel_rfl) hq.1)
                        try simp only [Act.put, List.setIfInBounds_toArray, List.set_cons_zero, List.set_cons_succ]
                        refine wpAnyH_take (i := 2) (oi := { dst := some 84, op := Op.move (Operand.tmp 5), type := 62, pos := "l10_client.go:103", after := #[], guard := none }) (v := .int .u64 (s : Int)) rfl (by kernel_rfl) (by kernel_rfl) (by kernel_rfl) (fun _ _ _ h => h) (Or.inl ⟨by rfl, ?_⟩) (by assumption) ?_
                        · (intro wq hq; first | (go_simp; done) | (go_simp; rfl) | (go_simp; omega))
                        try simp only [Act.put, List.setIfInBounds_toArray, List.set_cons_zero, List.set_cons_succ]
                        refine wpAnyH_take (i := 3) (oi := { dst := some 85, op := Op.build 66 #[(0, Operand.tmp 83), (1, Operand.tmp 84)], type := 66, pos := "l10_client.go:103", after := #[{ on := 1, ground := Ground.data }, { on := 2, ground := Ground.data }], guard := none }) (v := .agg #[.int .i64 c.gs, .int .u64 ((c.gr.a).toNat : Int), .int .u64 ((c.gr.b).toNat : Int), .int .u64 ((c.gr.c).toNat : Int), .int .u64 ((c.gr.d).toNat : Int), .int .u64 (s : Int)]) rfl (by kernel_rfl) (by kernel_rfl) (by kernel_rfl) (fun _ _ _ h => h) (Or.inl ⟨by rfl, ?_⟩) (by assumption) ?_
                        · (intro wq hq; first | (go_simp; done) | (go_simp; rfl) | (go_simp; omega))
                        try simp only [Act.put, List.setIfInBounds_toArray, List.set_cons_zero, List.set_cons_succ]
                        refine wpAnyH_take (i := 4) (oi := { dst := some 86, op := Op.makeInterface 66 (Operand.tmp 85), type := 50, pos := "l10_client.go:103", after := #[{ on := 3, ground := Ground.data }], guard := none }) (v := .iface 66 (.agg #[.int .i64 c.gs, .int .u64 ((c.gr.a).toNat : Int), .int .u64 ((c.gr.b).toNat : Int), .int .u64 ((c.gr.c).toNat : Int), .int .u64 ((c.gr.d).toNat : Int), .int .u64 (s : Int)])) rfl (by kernel_rfl) (by kernel_rfl) (by kernel_rfl) (fun _ _ _ h => h) (Or.inl ⟨by rfl, ?_⟩) (by assumption) ?_
                        · (intro wq hq; first | (go_simp; done) | (go_simp; rfl) | (go_simp; omega))
                        try simp only [Act.put, List.setIfInBounds_toArray, List.set_cons_zero, List.set_cons_succ]
                        refine wpAnyH_take (i := 5) (oi := { dst := some 87, op := Op.move (Operand.tmp 6), type := 4, pos := "l10_client.go:103", after := #[], guard := none }) (v := .bool true) rfl (by kernel_rfl) (by kernel_rfl) (by kernel_rfl) (fun _ _ _ h => h) (Or.inl ⟨by rfl, ?_⟩) (by assumption) ?_
                        · (intro wq hq; first | (go_simp; done) | (go_simp; rfl) | (go_simp; omega))
                        try simp only [Act.put, List.setIfInBounds_toArray, List.set_cons_zero, List.set_cons_succ]
                        refine wpAnyH_take (i := 6) (oi := { dst := some 88, op := Op.move (Operand.tmp 87), type := 4, pos := "l10_client.go:103", after := #[{ on := 5, ground := Ground.data }], guard := none }) (v := .bool true) rfl (by kernel_rfl) (by kernel_rfl) (by kernel_rfl) (fun _ _ _ h => h) (Or.inl ⟨by rfl, ?_⟩) (by assumption) ?_
                        · (intro wq hq; first | (go_simp; done) | (go_simp; rfl) | (go_simp; omega))
                        try simp only [Act.put, List.setIfInBounds_toArray, List.set_cons_zero, List.set_cons_succ]
                        refine wpAnyH_take (i := 7) (oi := { dst := some 89, op := Op.move (Operand.tmp 7), type := 4, pos := "l10_client.go:103", after := #[{ on := 6, ground := Ground.guard }], guard := some (6, true) }) (v := .bool true) rfl (by kernel_rfl) (by kernel_rfl) (by kernel_rfl) (fun _ _ _ h => h) (Or.inl ⟨by rfl, ?_⟩) (by assumption) ?_
                        · (intro wq hq; first | (go_simp; done) | (go_simp; rfl) | (go_simp; omega))
                        try simp only [Act.put, List.setIfInBounds_toArray, List.set_cons_zero, List.set_cons_succ]
                        refine wpAnyH_take (i := 8) (oi := { dst := some 90, op := Op.pick (Operand.tmp 88) (Operand.tmp 89) (Operand.const (Value.bool false)), type := 4, pos := "l10_client.go:103", after := #[{ on := 6, ground := Ground.data }, { on := 7, ground := Ground.data }], guard := none }) (v := .bool true) rfl (by kernel_rfl) (by kernel_rfl) (by kernel_rfl) (fun _ _ _ h => h) (Or.inl ⟨by rfl, ?_⟩) (by assumption) ?_
                        · (intro wq hq; first | (go_simp; done) | (go_simp; rfl) | (go_simp; omega))
                        try simp only [Act.put, List.setIfInBounds_toArray, List.set_cons_zero, List.set_cons_succ]
                        refine wpAnyH_take (i := 9) (oi := { dst := some 91, op := Op.move (Operand.tmp 90), type := 4, pos := "l10_client.go:103", after := #[{ on := 8, ground := Ground.data }, { on := 6, ground := Ground.chain }], guard := none }) (v := .bool true) rfl (by kernel_rfl) (by kernel_rfl) (by kernel_rfl) (fun _ _ _ h => h) (Or.inl ⟨by rfl, ?_⟩) (by assumption) ?_
                        · (intro wq hq; first | (go_simp; done) | (go_simp; rfl) | (go_simp; omega))
                        try simp only [Act.put, List.setIfInBounds_toArray, List.set_cons_zero, List.set_cons_succ]
                        refine wpAnyH_take (i := 10) (oi := { dst := some 92, op := Op.fieldAddr 36 (Operand.tmp 1) 2, type := 0, pos := "l10_client.go:103", after := #[{ on := 9, ground := Ground.guard }], guard := some (9, true) }) (v := .pointer (some ⟨W.heap.size, 2, none⟩)) rfl (by kernel_rfl) (by kernel_rfl) (by kernel_rfl) (fun _ _ _ h => h) (Or.inl ⟨by rfl, ?_⟩) (by assumption) ?_
                        · (intro wq hq; first | (go_simp; done) | (go_simp; rfl) | (go_simp; omega))
                        try simp only [Act.put, List.setIfInBounds_toArray, List.set_cons_zero, List.set_cons_succ]
                        refine wpAnyH_take (i := 11) (oi := { dst := some 93, op := Op.load 3 (Operand.tmp 92), type := 3, pos := "l10_client.go:103", after := #[{ on := 10, ground := Ground.data }, { on := 9, ground := Ground.guard }], guard := some (9, true) }) (v := .int .i64 c.se) rfl (by kernel_rfl) (by kernel_rfl) (by kernel_rfl) (fun _ _ _ h => h) (Or.inl ⟨by rfl, ?_⟩) (by assumption) ?_
                        · (intro wq hq; have hx := hq.2.1; clear hq; go_simp)
                        try simp only [Act.put, List.setIfInBounds_toArray, List.set_cons_zero, List.set_cons_succ]
                        refine wpAnyH_take (i := 12) (oi := { dst := some 94, op := Op.binOp BinOp.neq 3 (Operand.tmp 93) (Operand.const (Value.int IntKind.i64 0)) 3, type := 4, pos := "l10_client.go:103", after := #[{ on := 11, ground := Ground.data }, { on := 9, ground := Ground.guard }], guard := some (9, true) }) (v := .bool true) rfl (by kernel_rfl) (by kernel_rfl) (by kernel_rfl) (fun _ _ _ h => h) (Or.inl ⟨by rfl, ?_⟩) (by assumption) ?_
                        · (intro wq hq; first | (go_simp; done) | (go_simp; rfl) | (go_simp; omega))
                        try simp only [Act.put, List.setIfInBounds_toArray, List.set_cons_zero, List.set_cons_succ]
                        refine wpAnyH_take (i := 13) (oi := { dst := some 95, op := Op.pick (Operand.tmp 91) (Operand.tmp 94) (Operand.const (Value.bool false)), type := 4, pos := "l10_client.go:103", after := #[{ on := 9, ground := Ground.data }, { on := 12, ground := Ground.data }], guard := none }) (v := .bool true) rfl (by kernel_rfl) (by kernel_rfl) (by kernel_rfl) (fun _ _ _ h => h) (Or.inl ⟨by rfl, ?_⟩) (by assumption) ?_
                        · (intro wq hq; first | (go_simp; done) | (go_simp; rfl) | (go_simp; omega))
                        try simp only [Act.put, List.setIfInBounds_toArray, List.set_cons_zero, List.set_cons_succ]
                        refine wpAnyH_take (i := 14) (oi := { dst := some 96, op := Op.move (Operand.tmp 95), type := 4, pos := "l10_client.go:103", after := #[{ on := 13, ground := Ground.data }, { on := 9, ground := Ground.chain }], guard := none }) (v := .bool true) rfl (by kernel_rfl) (by kernel_rfl) (by kernel_rfl) (fun _ _ _ h => h) (Or.inl ⟨by rfl, ?_⟩) (by assumption) ?_
                        · (intro wq hq; first | (go_simp; done) | (go_simp; rfl) | (go_simp; omega))
                        try simp only [Act.put, List.setIfInBounds_toArray, List.set_cons_zero, List.set_cons_succ]
                        refine wpAnyH_take (i := 15) (oi := { dst := some 97, op := Op.move (Operand.tmp 5), type := 62, pos := "l10_client.go:103", after := #[{ on := 14, ground := Ground.guard }], guard := some (14, true) }) (v := .int .u64 (s : Int)) rfl (by kernel_rfl) (by kernel_rfl) (by kernel_rfl) (fun _ _ _ h => h) (Or.inl ⟨by rfl, ?_⟩) (by assumption) ?_
                        · (intro wq hq; first | (go_simp; done) | (go_simp; rfl) | (go_simp; omega))
                        try simp only [Act.put, List.setIfInBounds_toArray, List.set_cons_zero, List.set_cons_succ]
                        refine wpAnyH_take (i := 17) (oi := { dst := some 99, op := Op.fieldAddr 36 (Operand.tmp 1) 0, type := 0, pos := "l10_client.go:103", after := #[{ on := 14, ground := Ground.guard }, { on := 21, ground := Ground.gcOnly Departure.lateStores }], guard := some (14, true) }) (v := .pointer (some ⟨W.heap.size, 0, none⟩)) rfl (by kernel_rfl) (by kernel_rfl) (by kernel_rfl) (fun _ _ _ h => h) (Or.inl ⟨by rfl, ?_⟩) (by assumption) ?_
                        · (intro wq hq; first | (go_simp; done) | (go_simp; rfl) | (go_simp; omega))
                        try simp only [Act.put, List.setIfInBounds_toArray, List.set_cons_zero, List.set_cons_succ]
                        refine wpAnyH_take (i := 18) (oi := { dst := some 100, op := Op.load 3 (Operand.tmp 99), type := 3, pos := "l10_client.go:103", after := #[{ on := 17, ground := Ground.data }, { on := 14, ground := Ground.guard }, { on := 21, ground := Ground.gcOnly Departure.lateStores }], guard := some (14, true) }) (v := .int .i64 c.n) rfl (by kernel_rfl) (by kernel_rfl) (by kernel_rfl) (fun _ _ _ h => h) (Or.inl ⟨by rfl, ?_⟩) (by assumption) ?_
                        · (intro wq hq; have hx := hq.2.2; clear hq; go_simp)
                        try simp only [Act.put, List.setIfInBounds_toArray, List.set_cons_zero, List.set_cons_succ]
                        refine wpAnyH_ready (rs := [16]) (by kernel_rfl) (by simp) ?_
                        refine AllReadyH.cons (o := { dst := some 98, op := Op.call { callee := Callee.value (Operand.func 29), args := #[Operand.tmp 97], argTypes := #[62] }, type := 3, pos := "l10_client.go:103", after := #[{ on := 15, ground := Ground.data }, { on := 14, ground := Ground.chain }, { on := 14, ground := Ground.guard }], guard := some (14, true) }) rfl (fun K hK => ?_) AllReadyH.nil
                        go_simp
                        go_at_call 29
                        refine (cz _).mono ?_
                        rintro e w2 ⟨rfl, hw2⟩
                        subst hw2
                        go_simp
                        refine hK.out _ _ hHeld (fun hHeld => ?_)
                        clear hK K
                        refine wpAnyH_take (i := 19) (oi := { dst := some 101, op := Op.binOp BinOp.lss 3 (Operand.tmp 98) (Operand.tmp 100) 3, type := 4, pos := "l10_client.go:103", after := #[{ on := 16, ground := Ground.data }, { on := 18, ground := Ground.data }, { on := 14, ground := Ground.guard }, { on := 21, ground := Ground.gcOnly Departure.lateStores }], guard := some (14, true) }) (v := .bool false) rfl (by kernel_rfl) (by kernel_rfl) (by kernel_rfl) (fun _ _ _ h => h) (Or.inl ⟨by rfl, ?_⟩) (by assumption) ?_
                        · (intro wq hq; first | (go_simp; done) | (go_simp; rfl) | (go_simp; omega))
                        try simp only [Act.put, List.setIfInBounds_toArray, List.set_cons_zero, List.set_cons_succ]
                        refine wpAnyH_take (i := 20) (oi := { dst := some 102, op := Op.pick (Operand.tmp 96) (Operand.tmp 101) (Operand.const (Value.bool false)), type := 4, pos := "l10_client.go:103", after := #[{ on := 14, ground := Ground.data }, { on := 19, ground := Ground.data }, { on := 21, ground := Ground.gcOnly Departure.lateStores }], guard := none }) (v := .bool false) rfl (by kernel_rfl) (by kernel_rfl) (by kernel_rfl) (fun _ _ _ h => h) (Or.inl ⟨by rfl, ?_⟩) (by assumption) ?_
                        · (intro wq hq; first | (go_simp; done) | (go_simp; rfl) | (go_simp; omega))
                        try simp only [Act.put, List.setIfInBounds_toArray, List.set_cons_zero, List.set_cons_succ]
                        refine wpAnyH_take (i := 21) (oi := { dst := some 2, op := Op.assign (Operand.tmp 86), type := 50, pos := "l10_client.go:103", after := #[{ on := 4, ground := Ground.data }, { on := 16, ground := Ground.chain }, { on := 0, ground := Ground.phase }, { on := 1, ground := Ground.phase }, { on := 2, ground := Ground.phase }, { on := 3, ground := Ground.phase }, { on := 4, ground := Ground.phase }, { on := 5, ground := Ground.textOnly Departure.lateStores }, { on := 6, ground := Ground.textOnly Departure.lateStores }, { on := 7, ground := Ground.textOnly Departure.lateStores }, { on := 8, ground := Ground.textOnly Departure.lateStores }, { on := 9, ground := Ground.textOnly Departure.lateStores }, { on := 10, ground := Ground.textOnly Departure.lateStores }, { on := 11, ground := Ground.textOnly Departure.lateStores }, { on := 12, ground := Ground.textOnly Departure.lateStores }, { on := 13, ground := Ground.textOnly Departure.lateStores }, { on := 14, ground := Ground.textOnly Departure.lateStores }, { on := 15, ground := Ground.textOnly Departure.lateStores }, { on := 16, ground := Ground.textOnly Departure.lateStoresUnsure }, { on := 17, ground := Ground.textOnly Departure.lateStores }, { on := 18, ground := Ground.textOnly Departure.lateStores }, { on := 19, ground := Ground.textOnly Departure.lateStores }, { on := 20, ground := Ground.textOnly Departure.lateStores }], guard := none }) (v := .iface 66 (.agg #[.int .i64 c.gs, .int .u64 ((c.gr.a).toNat : Int), .int .u64 ((c.gr.b).toNat : Int), .int .u64 ((c.gr.c).toNat : Int), .int .u64 ((c.gr.d).toNat : Int), .int .u64 (s : Int)])) rfl (by kernel_rfl) (by kernel_rfl) (by kernel_rfl) (fun _ _ _ h => h) (Or.inl ⟨by rfl, ?_⟩) (by assumption) ?_
                        · (intro wq hq; first | (go_simp; done) | (go_simp; rfl) | (go_simp; omega))
                        try simp only [Act.put, List.setIfInBounds_toArray, List.set_cons_zero, List.set_cons_succ]
                        refine wpAnyH_take (i := 22) (oi := { dst := some 3, op := Op.assign (Operand.tmp 102), type := 4, pos := "l10_client.go:103", after := #[{ on := 20, ground := Ground.data }, { on := 21, ground := Ground.chain }, { on := 0, ground := Ground.phase }, { on := 1, ground := Ground.phase }, { on := 2, ground := Ground.phase }, { on := 3, ground := Ground.phase }, { on := 4, ground := Ground.phase }, { on := 5, ground := Ground.phase }, { on := 6, ground := Ground.phase }, { on := 7, ground := Ground.phase }, { on := 8, ground := Ground.phase }, { on := 9, ground := Ground.phase }, { on := 10, ground := Ground.phase }, { on := 11, ground := Ground.phase }, { on := 12, ground := Ground.phase }, { on := 13, ground := Ground.phase }, { on := 14, ground := Ground.phase }, { on := 15, ground := Ground.phase }, { on := 16, ground := Ground.phase }, { on := 17, ground := Ground.phase }, { on := 18, ground := Ground.phase }, { on := 19, ground := Ground.phase }, { on := 20, ground := Ground.phase }, { on := 21, ground := Ground.phase }], guard := none }) (v := .bool false) rfl (by kernel_rfl) (by kernel_rfl) (by kernel_rfl) (fun _ _ _ h => h) (Or.inl ⟨by rfl, ?_⟩) (by assumption) ?_
                        · (intro wq hq; first | (go_simp; done) | (go_simp; rfl) | (go_simp; omega))
                        try simp only [Act.put, List.setIfInBounds_toArray, List.set_cons_zero, List.set_cons_succ]
                        refine wpAnyH_done (by kernel_rfl) ?_ _
                        clear hHeld
                        go_wp2_with fail
                        go_ret2
                        first | exact ⟨_, false, rfl, zd, no_of hno⟩ | exact ⟨⟨_, rfl⟩, zd⟩ | exact ⟨⟨_, rfl⟩, zd, hno⟩ | exact ⟨_, rfl, zd⟩
            · have hno : ¬ Cok c X := fun h => by rcases (hC.1 h).2 with h | h | h <;> (have := h.1; omega)
              have b0 : (c.ph == 0) = false := by rw [beq_eq_false_iff_ne]; exact h0
              have b1 : (c.ph == 1) = false := by rw [beq_eq_false_iff_ne]; exact h1
              have b2 : (c.ph == 2) = false := by rw [beq_eq_false_iff_ne]; exact h2
              clear hC
              go_wp2_with fail
              go_ret2
              first | exact ⟨_, false, rfl, zz, no_of hno⟩ | exact ⟨⟨_, rfl⟩, zz⟩ | exact ⟨⟨_, rfl⟩, zz, hno⟩ | exact ⟨_, rfl, zz⟩
end Go.Proofs.YtdpbgcilkidbaaaDoor
