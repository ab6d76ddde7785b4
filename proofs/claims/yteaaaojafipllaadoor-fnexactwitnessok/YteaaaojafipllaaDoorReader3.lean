/-
  The sum that a reader reckons; whether its slot is right.
-/
import Derived.Test.YteaaaojafipllaaDoorReader2
import Derived.Test.YteaaaojafipllaaDoorJoinB8
import Derived.Test.YteaaaojafipllaaDoorJoinB7
namespace Go.Proofs.YteaaaojafipllaaDoor
open Go.RowKit Go.MuLone

/-- append(b, x...), b bytes of the call's own, x the bytes of a box. -/
theorem wpList_append_bytes {w : World} {ops : Array Oper} {rest : List Oper} {o : Oper} {a : Act} {Q : Exit → Act → World → Prop} (hgd : o.guard = none) (s x : Operand)
    (ho : o.op = .call { callee := .builtin .append, args := #[s, x], argTypes := #[76, 76] })
    (base : Nat) (v : Value) (l y : List UInt8) (hs : a.eval s = v) (hown : w.ownsRow base 5 1 v l.length (bv l))
    (X n : Nat) (hn : y.length = n) (hx : a.eval x = .slice (some ⟨X, 0, none⟩) n n) (hcell : ∀ j u, (bv y)[j]? = some u → w.cell? ((⟨X, 0, none⟩ : Addr).add j) = some u)
    (hlen : l.length < 1000000) (hy : n < 1000000) (hbase : base ≤ w.heap.size)
    (h : ∀ v' w', w'.ownsRow base 5 1 v' (l ++ y).length (bv (l ++ y)) → w.grownBy w' v.ownBlock → wpList Tryd.prog ops Q rest (a.put o.dst v') w') : wpList Tryd.prog ops Q (o :: rest) a w := by
  obtain ⟨i0, hi, hz0, hz1, hz2⟩ := info_parts info5
  refine wpList_append_own w hgd s x 76 ho base 5 i0 (.int .u8 0) 1 1 Tryd.underlying76 hi hz0 hz1 hz2 rfl (by decide) v l.length (bv l) hs hown ⟨X, 0, none⟩ n n (bv y) hx (by rw [bv_length]; omega) hcell ?_ ?_ ?_ hbase ?_
  · intro u hu
    obtain ⟨z, _, rfl⟩ := List.mem_map.1 hu
    rfl
  · unfold maxLen; omega
  · omega
  · intro v' w' h1 h2 _
    refine h v' w' ?_ h2
    rw [List.length_append, hn]
    simpa [bv] using h1

/-- The six words that are summed. -/
def wl (s : Sl) : List UInt64 := [s.q, s.z, s.r.a, s.r.b, s.r.c, s.r.d]
def sixt (s : Sl) (j : Nat) : List UInt8 := ((wl s).take j).flatMap wb
theorem sixt_step (s : Sl) (j : Nat) (h : j < (wl s).length) : sixt s (j + 1) = sixt s j ++ wb (wl s)[j] := by
  unfold sixt
  rw [List.take_succ_eq_append_getElem h, List.flatMap_append]
  simp
theorem sixt_len (s : Sl) (j : Nat) (h : j ≤ 6) : (sixt s j).length = 8 * j := by
  obtain rfl | rfl | rfl | rfl | rfl | rfl | rfl : j = 0 ∨ j = 1 ∨ j = 2 ∨ j = 3 ∨ j = 4 ∨ j = 5 ∨ j = 6 := by omega
  all_goals rfl
theorem sixt_six (s : Sl) : sixt s 6 = six s := by
  simp [sixt, wl, six, db, List.flatMap]
theorem SB.at {X : Nat} {s : Sl} {W : World} (h : SB X s W) (j : Nat) (hj : j < (wl s).length) : W.cell? ⟨X, 1 + j, none⟩ = some (.int .u64 ((wl s)[j].toNat : Int)) := by
  obtain ⟨-, -, h1, h2, h3, h4, h5, h6⟩ := h
  have hj' : j < 6 := hj
  obtain rfl | rfl | rfl | rfl | rfl | rfl : j = 0 ∨ j = 1 ∨ j = 2 ∨ j = 3 ∨ j = 4 ∨ j = 5 := by omega
  all_goals assumption
theorem SB.grown {B : Nat} {s : Sl} {W W' : World} {row : Option Nat} (h : SB B s W) (hg : W.grownBy W' row) (hr : row ≠ some B) : SB B s W' := by
  obtain ⟨h0, a0, a1, a2, a3, a4, a5, a6⟩ := h
  have hb : W'.heap[B]? = W.heap[B]? := hg.block B h0 (fun e => hr e.symm)
  have e : ∀ i, W'.cell? ⟨B, i, none⟩ = W.cell? ⟨B, i, none⟩ := fun i => World.cell?_of_block (w := W) (a := ⟨B, i, none⟩) hb
  exact ⟨Nat.lt_of_lt_of_le h0 hg.size, (e _).trans a0, (e _).trans a1, (e _).trans a2, (e _).trans a3, (e _).trans a4, (e _).trans a5, (e _).trans a6⟩
/-- What stands in the loop: the bytes so far, the words' box X, the reader B. -/
def SM (w : World) (X B : Nat) (s : Sl) (l : Value) (j : Nat) (W : World) : Prop :=
  W.ownsRow (X + 1) 5 1 l (sixt s j).length (bv (sixt s j)) ∧ SB X s W ∧ Rr B s 1 0 s W ∧ w.grownBy W (some B) ∧ w.heap.size ≤ X
theorem grownBy_new {W0 W W' : World} {B : Nat} {r : Option Nat} (h : W0.grownBy W (some B)) (h' : W.grownBy W' r) (hr : ∀ k, r = some k → W0.heap.size ≤ k) : W0.grownBy W' (some B) :=
  ⟨h'.os.trans h.os, h'.tape.trans h.tape, h'.output.trans h.output, Nat.le_trans h.size h'.size, fun k hk hne => (h'.block k (Nat.lt_of_lt_of_le hk h.size) (fun e => by have := hr k e.symm; omega)).trans (h.block k hk hne)⟩
theorem SM.row {w W W' : World} {X B j : Nat} {s : Sl} {l l' : Value} (h : SM w X B s l j W) (hB : B < w.heap.size) (ho : W'.ownsRow (X + 1) 5 1 l' (sixt s (j + 1)).length (bv (sixt s (j + 1)))) (hg : W.grownBy W' l.ownBlock) : SM w X B s l' (j + 1) W' := by
  obtain ⟨h1, h2, h3, h4, h5⟩ := h
  have hr : ∀ k, l.ownBlock = some k → X + 1 ≤ k := fun k e => (h1.lt _ e).1
  exact ⟨ho, h2.grown hg (fun e => by have := hr _ e; omega), h3.grown hg (fun e => by have := hr _ e; omega), grownBy_new h4 hg (fun k e => by have := hr _ e; omega), h5⟩
theorem SM.call {w W W' : World} {X B j : Nat} {s : Sl} {l : Value} (h : SM w X B s l j W) (hb : Below W.heap.size W W') : SM w X B s l j W' := by
  obtain ⟨h1, h2, h3, h4, h5⟩ := h
  have hg : W.grownBy W' none := ⟨hb.os, hb.tape, hb.output, hb.size, fun k hk _ => hb.block k hk⟩
  exact ⟨h1.kept hg (by rcases hx : l.ownBlock with _ | b; exact .inl rfl; exact .inr (fun e => by cases e)), h2.call hb, h3.call hb, grownBy_new h4 hg (fun k e => by cases e), h5⟩

set_option maxRecDepth 100000 in
set_option maxHeartbeats 1600000 in
theorem sum_is (B : Nat) (s t : Sl) (k : Int) (w : World) (h : Rr B s k 0 t w) (hk : k = 0 ∨ k = 1 ∧ t = s) :
    Calls Tryd.prog 50 #[.pointer (some ⟨B, 0, none⟩)] w fun e w' => e = .returned (.int .u64 ((sumOf s).toNat : Int)) ∧ Rr B s 1 0 s w' ∧ w.grownBy w' (some B) := by
  have hB := h.cell
  have cw := words_any B s t k w h hk
  have hf := fld_a
  clear h hk
  go_enter Tryd.func50, Tryd.ntmps50
  go_wp2_with (go_at_call 49; refine cw.mono ?_; rintro e w1 ⟨rfl, h1, g1⟩; clear cw)
  have hb1 : Below w1.heap.size w1 (w1.alloc (.cells #[Value.int IntKind.u64 ((s).m.toNat : Int), Value.int IntKind.u64 ((s).q.toNat : Int), Value.int IntKind.u64 ((s).z.toNat : Int), Value.int IntKind.u64 ((s).r.a.toNat : Int), Value.int IntKind.u64 ((s).r.b.toNat : Int), Value.int IntKind.u64 ((s).r.c.toNat : Int), Value.int IntKind.u64 ((s).r.d.toNat : Int)] 112)) := (Below.refl _ _).alloc (Nat.le_refl _) _
  have HT : Hid (SM w w1.heap.size B s (.slice none 0 0) 0 (w1.alloc (.cells #[Value.int IntKind.u64 ((s).m.toNat : Int), Value.int IntKind.u64 ((s).q.toNat : Int), Value.int IntKind.u64 ((s).z.toNat : Int), Value.int IntKind.u64 ((s).r.a.toNat : Int), Value.int IntKind.u64 ((s).r.b.toNat : Int), Value.int IntKind.u64 ((s).r.c.toNat : Int), Value.int IntKind.u64 ((s).r.d.toNat : Int)] 112))) := ⟨World.ownsRow_nil _ _ _ _, SB.new w1 s _, h1.call hb1, grownBy_new g1 (World.grownBy_alloc w1 _ none) (fun k e => by cases e), g1.size⟩
  clear h1 g1 hb1
  go_loopw [4, 12] (fun l i wr => ∃ j : Nat, j ≤ 6 ∧ i = .int .i64 (j : Int) ∧ Hid (SM w w1.heap.size B s l j wr)) (fun _ i _ => 6 - (intOf i).toNat)
  case atStart => exact ⟨0, by omega, rfl, HT⟩
  case round =>
    obtain ⟨j, hj, rfl, HR⟩ := hrel
    by_cases hlt : j < 6
    · have hlw : j < (wl s).length := hlt
      have hc := HR.out.2.1.at j hlw
      obtain ⟨x, hx⟩ : ∃ x, x = (wl s)[j] := ⟨_, rfl⟩
      rw [← hx] at hc
      have HX : Hid (sixt s (j + 1) = sixt s j ++ wb x) := by show _ = _; rw [hx]; exact sixt_step s j hlw
      have HC : Hid (w1.heap.size + 1 ≤ wr.heap.size) := HR.out.2.1.1
      clear hx hlw
      go_wp2_with (first
        | (go_at_call 58; refine (bow_is x _).mono ?_; rintro e w2 ⟨rfl, rfl⟩)
        | (at_builtin; refine wpList_append_bytes rfl _ _ rfl (w1.heap.size + 1) _ (sixt s j) (wb x) rfl ((HR.out.call (by repeat' (first | (with_reducible exact Below.refl _ _) | (with_reducible assumption) | (with_reducible refine below_drewN ?_ _) | (with_reducible refine Below.setCell ?_ ?_ _) | (with_reducible refine Below.alloc ?_ ?_ _) | (with_reducible refine Below.drew ?_) | go_size))).1) (wr.heap.size + 1 + 1) 8 rfl rfl ?c1 ?c2 (by omega) ?c3 ?_))
      case c1 =>
        intro i u hu
        have hi : i < 8 := by
          have := (List.getElem?_eq_some_iff.1 hu).1
          rw [bv_length] at this
          exact this
        obtain rfl | rfl | rfl | rfl | rfl | rfl | rfl | rfl : i = 0 ∨ i = 1 ∨ i = 2 ∨ i = 3 ∨ i = 4 ∨ i = 5 ∨ i = 6 ∨ i = 7 := by omega
        all_goals (simp [bv, wb] at hu; subst hu; simp [Addr.add, go_sem])
      case c2 => rw [sixt_len s j hj]; omega
      case c3 => have := HC.out; simp; omega
      intro v' w3 ho3 hg3
      go_wp2_with fail
      go_roundw
      case rel =>
        refine ⟨j + 1, by omega, by go_num, ?_⟩
        have h1 := HR.out.call ((((Below.refl _ _).alloc (Nat.le_refl _) (.cells #[Value.int IntKind.u8 ((by8 x 56).toNat : Int), Value.int IntKind.u8 ((by8 x 48).toNat : Int), Value.int IntKind.u8 ((by8 x 40).toNat : Int), Value.int IntKind.u8 ((by8 x 32).toNat : Int), Value.int IntKind.u8 ((by8 x 24).toNat : Int), Value.int IntKind.u8 ((by8 x 16).toNat : Int), Value.int IntKind.u8 ((by8 x 8).toNat : Int), Value.int IntKind.u8 ((by8 x 0).toNat : Int)] 125)).alloc (by simp) (.cells #[Value.int IntKind.u8 ((by8 x 56).toNat : Int), Value.int IntKind.u8 ((by8 x 48).toNat : Int), Value.int IntKind.u8 ((by8 x 40).toNat : Int), Value.int IntKind.u8 ((by8 x 32).toNat : Int), Value.int IntKind.u8 ((by8 x 24).toNat : Int), Value.int IntKind.u8 ((by8 x 16).toNat : Int), Value.int IntKind.u8 ((by8 x 8).toNat : Int), Value.int IntKind.u8 ((by8 x 0).toNat : Int)] 125)).alloc (by simp; omega) (.cells #[Value.int IntKind.u8 ((by8 x 56).toNat : Int), Value.int IntKind.u8 ((by8 x 48).toNat : Int), Value.int IntKind.u8 ((by8 x 40).toNat : Int), Value.int IntKind.u8 ((by8 x 32).toNat : Int), Value.int IntKind.u8 ((by8 x 24).toNat : Int), Value.int IntKind.u8 ((by8 x 16).toNat : Int), Value.int IntKind.u8 ((by8 x 8).toNat : Int), Value.int IntKind.u8 ((by8 x 0).toNat : Int)] 125))
        exact h1.row hB (by rw [HX.out, List.length_append]; exact ho3) hg3
      case measure => simp [intOf]; omega
    · have h6 : j = 6 := by omega
      subst h6
      have hcv := run_str_own (P := Tryd.prog) wr (w1.heap.size + 1) _ (sixt s 6) HR.out.1 Tryd.underlying76 Tryd.underlying5 Tryd.underlying9
      rw [sixt_six] at hcv
      go_wp2_with (go_at_call 54; refine (ho_impl_all _ _).mono ?_; rintro e w4 ⟨rfl, hb4⟩; have h4 := HR.out.call hb4)
      go_ret
      exact ⟨by rw [w_or1]; rfl, h4.2.2.1, h4.2.2.2.1⟩
end Go.Proofs.YteaaaojafipllaaDoor
