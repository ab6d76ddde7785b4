/-
  PathRoot of the program, walked (the second part).
-/
import Derived.Test.YtkdgdmicnfgdjaaPRoot
import Derived.Test.YtkdgdmicnfgdjaaGrowLen2
import Derived.Test.YtkdgdmicnfgdjaaInOrd
namespace Go.Proofs.Ytkdgdmicnfgdjaa
open Go.RowKit Go.Shelf
attribute [local go_sem] Oper.semAt_some

theorem keeps_grown {A C : World} {X B : Nat} (h : A.grownBy C (some X)) (hX : X < B) : KeepsFrom B A C := KeepsFrom.of_grownBy h (fun j e => by cases e; exact hX)

set_option maxRecDepth 100000 in
set_option maxHeartbeats 4000000 in
theorem pr_impl_in (n i : Nat) (s : ByteArray) (P : List Qd) (v : Value) (w : World) (h256 : n ≤ 256) (hi : i < n) (hs : s.size ≤ 40) (hP : P.length = dp n n i) (hT : Dgs w v P) (hnone : ∀ a l c, v = .slice (some a) l c → a.spot = none) :
    Calls Try.prog 21 #[.int .i64 (n : Int), .int .i64 (i : Int), .string s, v] w fun e w' => e = .returned (.tuple #[.agg #[.int .u64 ((up n n i (leafD s) P).a.toNat : Int), .int .u64 ((up n n i (leafD s) P).b.toNat : Int), .int .u64 ((up n n i (leafD s) P).c.toNat : Int), .int .u64 ((up n n i (leafD s) P).d.toNat : Int)], .bool true]) ∧ Below w.heap.size w w' := by
  have hfold : (foldR (leafD s, P) (over n i hi)).1 = up n n i (leafD s) P := by
    have := foldR_cl n i n 0 n (Nat.zero_le _) hi (Nat.le_refl _) (leafD s) P [] (by omega) hP
    rw [List.append_nil] at this
    unfold over
    rw [this]
    rfl
  have hD := dp_le n n i
  have cp : ∀ V : World, Calls Try.prog 36 #[.int .i64 (n : Int), .int .i64 (i : Int)] V fun e w' => e = .returned (.int .i64 (P.length : Int)) ∧ Below V.heap.size V w' := fun V => by rw [hP]; exact pl_impl_in n i h256 hi V
  have cl0 := fun V : World => hl_impl s V (by omega)
  rw [← hfold]
  obtain ⟨oa, cap, rfl, hlen⟩ := hT.len
  have hne1 : ((P.length : Int) == -1) = false := by rw [beq_eq_false_iff_ne]; omega
  have hsI : ¬ 40 < (s.size : Int) := by omega
  have hss : s.size ≤ 9223372036854775807 := by omega
  have hl : leafD s = dg (ByteArray.mk #[0] ++ s) := rfl
  rw [← hl] at cl0
  generalize leafD s = q at cl0 ⊢
  refine (callsIn_wide (n := 9)).1 ?_
  refine callsIn_of_wp_marks Try.func21 rfl trivial ?_ rfl
  simp only [Try.ntmps21, List.size_toArray, List.length_cons, List.length_nil, Nat.reduceAdd, Nat.reduceSub, Array.replicate_succ, Array.replicate_zero, List.push_toArray, List.append_toArray, List.nil_append, List.cons_append]
  clear hfold hl hs hP
  gi_wp2_with (first
    | (refine ⟨trivial, ?_⟩; gi_at_call 36; refine (callsIn_wide.2 (cp _)).mono ?_; rintro e w1 ⟨rfl, hb1⟩; have ci1 := (hb1.cell (p := ⟨w.heap.size, 0, none⟩) (by show w.heap.size < _; simp only [World.size_alloc]; omega)).trans (cell_al _ (cell_box w (.int .i64 (i : Int)) 3).1))
    | (refine ⟨trivial, ?_⟩; gi_at_call 45; refine (callsIn_wide.2 (cl0 _)).mono ?_; rintro e w2 ⟨rfl, hb2⟩; have ci2 := (hb2.cell (p := ⟨w.heap.size, 0, none⟩) (by have := hb1.size; show w.heap.size < _; simp only [World.size_alloc] at this ⊢; omega)).trans (cell_al _ ci1); have ci3 := cell_al (.cells #[Value.int IntKind.u64 ((q).a.toNat : Int), Value.int IntKind.u64 ((q).b.toNat : Int), Value.int IntKind.u64 ((q).c.toNat : Int), Value.int IntKind.u64 ((q).d.toNat : Int)] 36) ci2)
    | (refine ⟨trivial, ?_⟩; gi_at_call 37; refine (over_in _ _ _ _).mono ?_; rintro e w' ⟨rfl, rfl⟩))
  generalize Value.bool (decide (40 < (s.size : Int))) = vb
  have hs1 := hb1.size
  have hs2 := hb2.size
  simp only [World.size_alloc] at hs1 hs2
  have b1 : Below w.heap.size w w1 := (((Below.refl w.heap.size w).alloc (Nat.le_refl _) _).alloc (by simp) _).trans (hb1.mono (by simp only [World.size_alloc]; omega))
  have b2 : Below w.heap.size w w2 := (b1.alloc (by omega) _).trans (hb2.mono (by simp only [World.size_alloc]; omega))
  have hB0 : Below w.heap.size w (((w2.alloc (.cells #[Value.int IntKind.u64 ((q).a.toNat : Int), Value.int IntKind.u64 ((q).b.toNat : Int), Value.int IntKind.u64 ((q).c.toNat : Int), Value.int IntKind.u64 ((q).d.toNat : Int)] 36)).alloc (.cells #[.int .i64 (n : Int)] 3)).alloc (.cells #[.int .i64 (i : Int)] 3)) := (((b2.alloc (by omega) _).alloc (by simp only [World.size_alloc]; omega) _).alloc (by simp only [World.size_alloc]; omega) _)
  have hz0 : Rt (w.heap.size + 1) ⟨0, 0, 0, 0⟩ (((w2.alloc (.cells #[Value.int IntKind.u64 ((q).a.toNat : Int), Value.int IntKind.u64 ((q).b.toNat : Int), Value.int IntKind.u64 ((q).c.toNat : Int), Value.int IntKind.u64 ((q).d.toNat : Int)] 36)).alloc (.cells #[.int .i64 (n : Int)] 3)).alloc (.cells #[.int .i64 (i : Int)] 3)) := by
    have := ((((((Rt.new (w.alloc (.cells #[.int .i64 (i : Int)] 3)) ⟨0, 0, 0, 0⟩ 36).behind hb1).alloc _).behind hb2).alloc (.cells #[Value.int IntKind.u64 ((q).a.toNat : Int), Value.int IntKind.u64 ((q).b.toNat : Int), Value.int IntKind.u64 ((q).c.toNat : Int), Value.int IntKind.u64 ((q).d.toNat : Int)] 36)).alloc (.cells #[.int .i64 (n : Int)] 3)).alloc (.cells #[.int .i64 (i : Int)] 3)
    rwa [World.size_alloc] at this
  have hq0 : Rt w2.heap.size q (((w2.alloc (.cells #[Value.int IntKind.u64 ((q).a.toNat : Int), Value.int IntKind.u64 ((q).b.toNat : Int), Value.int IntKind.u64 ((q).c.toNat : Int), Value.int IntKind.u64 ((q).d.toNat : Int)] 36)).alloc (.cells #[.int .i64 (n : Int)] 3)).alloc (.cells #[.int .i64 (i : Int)] 3)) := ((Rt.new w2 q 36).alloc _).alloc _
  have hr0 : Rdr w1.heap.size P (((w2.alloc (.cells #[Value.int IntKind.u64 ((q).a.toNat : Int), Value.int IntKind.u64 ((q).b.toNat : Int), Value.int IntKind.u64 ((q).c.toNat : Int), Value.int IntKind.u64 ((q).d.toNat : Int)] 36)).alloc (.cells #[.int .i64 (n : Int)] 3)).alloc (.cells #[.int .i64 (i : Int)] 3)) := by
    have r1 : Rdr w1.heap.size P (w1.alloc (.cells #[.slice oa P.length cap, .slice none 0 0] 74)) := by
      refine ⟨by simp, by simp [go_sem], .slice oa P.length cap, by simp [go_sem], ?_⟩
      rcases hT.call (b1.alloc (by omega) (.cells #[.slice oa P.length cap, .slice none 0 0] 74)) with ⟨h0, h00⟩ | ⟨a, cap', hv, hl, hm, hbl, hc⟩
      · exact .inl ⟨h00, oa, cap, by rw [h00]; rfl⟩
      · obtain ⟨rfl, _, rfl⟩ : oa = some a ∧ P.length = P.length ∧ cap = cap' := by simpa using hv
        have hsp := hnone a _ _ rfl
        by_cases hp0 : 0 < P.length
        · have hbw : a.block < w.heap.size := by
            rcases hT with ⟨hx, _⟩ | ⟨a2, cap2, hv2, _, _, hb2', _⟩
            · cases hx
            · obtain ⟨ha, _, _⟩ : a = a2 ∧ P.length = P.length ∧ cap = cap2 := by simpa using hv2
              rw [ha]; exact hb2' hp0
          refine .inr ⟨a.block, a.off, cap, ?_, hl, hm, by omega, by simp only [World.size_alloc]; omega, fun j hj => ?_⟩
          · cases a; simp_all
          · have := hc j hj
            cases a
            simp only at hsp
            subst hsp
            rwa [Addr.add_mid] at this
        · exact .inl ⟨List.length_eq_zero_iff.1 (by omega), _, cap, by rw [show P.length = 0 by omega]⟩
    exact (((r1.behind hb2).behind ((Below.refl _ _).alloc (Nat.le_refl _) _)).behind ((Below.refl _ _).alloc (Nat.le_refl _) _)).behind ((Below.refl _ _).alloc (Nat.le_refl _) _)
  have hi0 : (((w2.alloc (.cells #[Value.int IntKind.u64 ((q).a.toNat : Int), Value.int IntKind.u64 ((q).b.toNat : Int), Value.int IntKind.u64 ((q).c.toNat : Int), Value.int IntKind.u64 ((q).d.toNat : Int)] 36)).alloc (.cells #[.int .i64 (n : Int)] 3)).alloc (.cells #[.int .i64 (i : Int)] 3)).cell? ⟨w.heap.size, 0, none⟩ = some (.int .i64 (i : Int)) := cell_al _ (cell_al _ ci3)
  have hn1 := cell_box (w2.alloc (.cells #[Value.int IntKind.u64 ((q).a.toNat : Int), Value.int IntKind.u64 ((q).b.toNat : Int), Value.int IntKind.u64 ((q).c.toNat : Int), Value.int IntKind.u64 ((q).d.toNat : Int)] 36)) (.int .i64 (n : Int)) 3
  have hn2 := cell_box ((w2.alloc (.cells #[Value.int IntKind.u64 ((q).a.toNat : Int), Value.int IntKind.u64 ((q).b.toNat : Int), Value.int IntKind.u64 ((q).c.toNat : Int), Value.int IntKind.u64 ((q).d.toNat : Int)] 36)).alloc (.cells #[.int .i64 (n : Int)] 3)) (.int .i64 (i : Int)) 3
  simp only [World.size_alloc] at hn1 hn2
  have hst := over_stops n i h256 hi 8 (w2.heap.size + 1) (w2.heap.size + 1 + 1) (w2.heap.size + 1) (((w2.alloc (.cells #[Value.int IntKind.u64 ((q).a.toNat : Int), Value.int IntKind.u64 ((q).b.toNat : Int), Value.int IntKind.u64 ((q).c.toNat : Int), Value.int IntKind.u64 ((q).d.toNat : Int)] 36)).alloc (.cells #[.int .i64 (n : Int)] 3)).alloc (.cells #[.int .i64 (i : Int)] 3)) (by simp only [World.size_alloc]; omega) (by simp only [World.size_alloc]; omega) (by simp only [World.size_alloc]; omega) (cell_al _ hn1.1) hn2.1
  have hsz : (((w2.alloc (.cells #[Value.int IntKind.u64 ((q).a.toNat : Int), Value.int IntKind.u64 ((q).b.toNat : Int), Value.int IntKind.u64 ((q).c.toNat : Int), Value.int IntKind.u64 ((q).d.toNat : Int)] 36)).alloc (.cells #[.int .i64 (n : Int)] 3)).alloc (.cells #[.int .i64 (i : Int)] 3)).heap.size = w2.heap.size + 3 := by simp only [World.size_alloc]
  clear hn1 hn2 ci1 ci2 ci3 b1 b2 hb1 hb2
  generalize (((w2.alloc (.cells #[Value.int IntKind.u64 ((q).a.toNat : Int), Value.int IntKind.u64 ((q).b.toNat : Int), Value.int IntKind.u64 ((q).c.toNat : Int), Value.int IntKind.u64 ((q).d.toNat : Int)] 36)).alloc (.cells #[.int .i64 (n : Int)] 3)).alloc (.cells #[.int .i64 (i : Int)] 3)) = W0 at hB0 hz0 hq0 hr0 hi0 hst hsz ⊢
  refine wpIn_rangeFunc_ownH rfl (by omega) (gf := 73) (lb := #[.pointer (some ⟨w2.heap.size + 1, 0, none⟩), .pointer (some ⟨w2.heap.size + 1 + 1, 0, none⟩)]) rfl trivial (enters_of Try.func73 (by kernel_rfl) rfl)
    hst Keep.trans (fun W l o o' _ h hc _ => keep_b W l o o' h hc) (Below.refl _ _) (fun _ => rfl)
    (fun pre W => (W.cell? ⟨w.heap.size, 0, none⟩ = some (.int .i64 (i : Int)) ∧ Rt (w.heap.size + 1) ⟨0, 0, 0, 0⟩ W ∧ Rdr w1.heap.size (foldR (q, P) pre).2 W ∧ Rt w2.heap.size (foldR (q, P) pre).1 W) ∧ Below w.heap.size w W)
    (fun _ _ _ => False)
    (OwnFrom.and (Own.from (fun s A B row hs hg hr => ⟨cell_kept hs.1 hg hr, hs.2.1.own _ hg hr, hs.2.2.1.own hg hr, hs.2.2.2.own _ hg hr⟩) _) (ownFrom_below (Nat.le_refl _) (by omega)))
    (fun _ _ _ _ _ hs _ _ => hs)
    ⟨⟨hi0, hz0, hr0, hq0⟩, hB0⟩
    (fun x a' W => ∃ Bx, w2.heap.size < Bx ∧ Two Bx x.1.1 x.1.2 W ∧ a' = { tmps := #[.int .i64 (n : Int), .int .i64 (i : Int), .string s, .slice oa P.length cap, undef, .pointer (some ⟨w.heap.size, 0, none⟩), undef, undef, .pointer (some ⟨w.heap.size + 1, 0, none⟩), .bool false, .int .i64 (P.length : Int), .pointer (some ⟨w1.heap.size, 0, none⟩), .pointer (some ⟨w2.heap.size, 0, none⟩), .pointer (some ⟨Bx, 0, none⟩), .int .i64 (n : Int), .int .i64 (i : Int), .int .i64 (P.length : Int), .int .i64 (P.length : Int), .bool false, .bool false, .string s, .int .i64 (s.size : Int), vb, vb, vb, .slice oa P.length cap, .int .i64 (P.length : Int), .int .i64 (P.length : Int), .bool false, vb, undef, .slice oa P.length cap, .agg #[.slice oa P.length cap, .slice none 0 0], .string s, .agg #[.int .u64 ((q).a.toNat : Int), .int .u64 ((q).b.toNat : Int), .int .u64 ((q).c.toNat : Int), .int .u64 ((q).d.toNat : Int)], .int .i64 (n : Int), .int .i64 (i : Int), .func (.func 73) #[] #[.pointer (some ⟨w2.heap.size + 1, 0, none⟩), .pointer (some ⟨w2.heap.size + 1 + 1, 0, none⟩)], .agg #[.int .i64 (x.1.1 : Int), .int .i64 (x.1.2 : Int)], undef, undef, undef, undef, undef, undef, undef, undef, undef, undef], defers := [] })
    (fun x a' s A B row hs hg hr => by
      obtain ⟨Bx, hlt, ht, ha⟩ := hs
      exact ⟨Bx, hlt, Two.own Bx _ _ () A B row ht hg (fun r e => (hr r e).2), ha⟩)
    ?assign ?body ?done ?stop
  case assign =>
    rintro l pre x W K ⟨⟨hc0, hc1, hc2, hc3⟩, hB⟩ hK
    simp only [encN]
    gi_wp2
    exact hK _ _ ((KeepsOthers.alloc _ _).from _) (Keep.of_below ((Below.refl _ W).alloc (Nat.le_refl _) _)) ⟨⟨cell_al _ hc0, hc1.alloc _, hc2.behind ((Below.refl _ _).alloc (Nat.le_refl _) _), hc3.alloc _⟩, hB.alloc hB.size _⟩ ⟨W.heap.size, hc3.1, Two.new W _ _ _, rfl⟩
  case body =>
    rintro l pre ⟨⟨lo, hh⟩, hx1, hx2, hx3, hx4⟩ a' W hl ⟨r, hr⟩ ⟨⟨hc0, hc1, hc2, hc3⟩, hB⟩ ⟨Bx, hBx, ht, rfl⟩ hlt
    simp only at hx1 hx2 hx3 hx4 ht ⊢
    have hsp := sp_lt0 (n := hh - lo) hx3
    have cio0 := fun (c d : Qd) (V : World) => inOrder_is lo (sp (hh - lo)) hh i rfl hx3 (by omega) (by omega) (by omega) c d V
    have estep : foldR (q, P) (pre ++ [⟨(lo, hh), hx1, hx2, hx3, hx4⟩]) = stepR (foldR (q, P) pre) (⟨(lo, hh), hx1, hx2, hx3, hx4⟩ : Nd n i) := foldR_snoc _ _ _
    obtain ⟨⟨c, M⟩, hcM⟩ : ∃ s, s = foldR (q, P) pre := ⟨_, rfl⟩
    rw [← hcM] at hc2 hc3 estep
    simp only at hc2 hc3
    have cn := fun (V : World) (h : Rdr w1.heap.size M V) => next_is w1.heap.size M V h
    obtain ⟨-, t0, t1, -, -⟩ := id ht
    have hltI : w.heap.size < W.heap.size := by obtain ⟨o, ho, _⟩ := cells_at hc0; exact (Array.getElem?_eq_some_iff.1 ho).1
    obtain ⟨x1, x2, cio, es⟩ : ∃ x1 x2 : Qd, (∀ V : World, Calls Try.prog 47 #[.agg #[.int .i64 (lo : Int), .int .i64 (hh : Int)], .int .i64 (i : Int), .agg #[.int .u64 ((c).a.toNat : Int), .int .u64 ((c).b.toNat : Int), .int .u64 ((c).c.toNat : Int), .int .u64 ((c).d.toNat : Int)], .agg #[.int .u64 ((headD M).a.toNat : Int), .int .u64 ((headD M).b.toNat : Int), .int .u64 ((headD M).c.toNat : Int), .int .u64 ((headD M).d.toNat : Int)]] V fun e w' => e = .returned (.tuple #[.agg #[.int .u64 ((x1).a.toNat : Int), .int .u64 ((x1).b.toNat : Int), .int .u64 ((x1).c.toNat : Int), .int .u64 ((x1).d.toNat : Int)], .agg #[.int .u64 ((x2).a.toNat : Int), .int .u64 ((x2).b.toNat : Int), .int .u64 ((x2).c.toNat : Int), .int .u64 ((x2).d.toNat : Int)]]) ∧ Below V.heap.size V w') ∧ stepR (c, M) (⟨(lo, hh), hx1, hx2, hx3, hx4⟩ : Nd n i) = (pairD x1 x2, M.tail) := by
      by_cases hk : i < lo + sp (hh - lo)
      · refine ⟨c, headD M, fun V => ?_, by simp only [stepR]; rw [if_pos hk]⟩
        have := cio0 c (headD M) V
        rwa [if_pos hk] at this
      · refine ⟨headD M, c, fun V => ?_, by simp only [stepR]; rw [if_neg hk]⟩
        have := cio0 c (headD M) V
        rwa [if_neg hk] at this
    rw [es] at estep
    obtain ⟨y, hy⟩ : ∃ y, y = pairD x1 x2 := ⟨_, rfl⟩
    have ch : ∀ V : World, Calls Try.prog 46 #[.agg #[.int .u64 ((x1).a.toNat : Int), .int .u64 ((x1).b.toNat : Int), .int .u64 ((x1).c.toNat : Int), .int .u64 ((x1).d.toNat : Int)], .agg #[.int .u64 ((x2).a.toNat : Int), .int .u64 ((x2).b.toNat : Int), .int .u64 ((x2).c.toNat : Int), .int .u64 ((x2).d.toNat : Int)]] V fun e w' => e = .returned (.agg #[.int .u64 ((y).a.toNat : Int), .int .u64 ((y).b.toNat : Int), .int .u64 ((y).c.toNat : Int), .int .u64 ((y).d.toNat : Int)]) ∧ Below V.heap.size V w' := by rw [hy]; exact fun V => hp_impl x1 x2 V
    rw [← hy] at estep
    generalize headD M = e0 at cn cio
    have HE : Hid (foldR (q, P) (pre ++ [⟨(lo, hh), hx1, hx2, hx3, hx4⟩]) = (y, M.tail)) := estep
    have lw1 := hc2.1
    have lw2 := hc3.1
    have q1 : w1.heap.size < w2.heap.size := by omega
    have hbx : Bx < W.heap.size := by obtain ⟨o, ho, _⟩ := cells_at t0; exact (Array.getElem?_eq_some_iff.1 ho).1
    obtain ⟨-, ⟨p0, p1, p2, p3⟩, -⟩ := id hc3
    have hmx : Try.prog.follows .mixedOrders = true := by kernel_rfl
    clear hy es estep hcM hsp hst cio0
    gi_wp2_with fail
    gi_region_with_o (first
      | ((try refine ⟨trivial, ?_⟩); gi_at_call 48; (refine (CallsIn.inRound l (callsIn_wide.2 (cn _ (Rdr.behind hc2 ((Below.refl _ W).drew))))).mono ?_; rintro e w5 ⟨rfl, D5, hg5⟩; have R5 := (Rt.drew hc3).grown hg5 (by omega); obtain ⟨-, ⟨u0, u1, u2, u3⟩, -⟩ := id R5; have c5 := hg5.cell (a := ⟨w.heap.size, 0, none⟩) hc0 (fun e => by have e' : w.heap.size = w1.heap.size := (by injection e); omega); have s0 := hg5.cell (a := ⟨Bx, 0, none⟩) t0 (fun e => by have e' : Bx = w1.heap.size := (by injection e); omega); have s1 := hg5.cell (a := ⟨Bx, 1, none⟩) t1 (fun e => by have e' : Bx = w1.heap.size := (by injection e); omega)))
      | ((try refine ⟨trivial, ?_⟩); gi_at_call 47; (refine (CallsIn.inRound l (callsIn_wide.2 (cio _))).mono ?_; rintro e w7 ⟨rfl, hb7⟩; have R7 := R5.behind hb7))
      | ((try refine ⟨trivial, ?_⟩); gi_at_call 46; (refine (CallsIn.inRound l (callsIn_wide.2 (ch _))).mono ?_; rintro e w6 ⟨rfl, hb6⟩; have R6 := R7.behind hb6; obtain ⟨-, ⟨v0, v1, v2, v3⟩, f0, f1, f2, f3⟩ := id R6)))
    all_goals gi_wp2
    all_goals
      have k5 : W.heap.size ≤ w5.heap.size := hg5.size
      have k7 := hb7.size
      have k6 := hb6.size
      have dr : Below W.heap.size W W.drew := (Below.refl _ W).drew
      have l5 : w.heap.size < w5.heap.size := by omega
      have l4 : w.heap.size ≤ W.heap.size := by omega
      have l7 : w.heap.size < w7.heap.size := by omega
      have c6 := (hb6.cell (p := ⟨w.heap.size, 0, none⟩) l7).trans ((hb7.cell (p := ⟨w.heap.size, 0, none⟩) l5).trans c5)
      have Z6 := (((Rt.drew hc1).grown hg5 (by omega)).behind hb7).behind hb6
      have D6 := (D5.behind hb7).behind hb6
      have B5 : Below w.heap.size w w5 := hB.drew.grown hg5 l4 (fun k e => by cases e; omega)
      have B6 := (B5.trans (hb7.mono (by omega))).trans (hb6.mono (by omega))
      refine ⟨?_, ?_, ⟨?_, ?_, ?_, ?_⟩, ?_⟩
      · exact (((((keeps_below dr).from W0.heap.size).trans (keeps_grown hg5 (by omega))).trans ((keeps_below hb7).from _)).trans ((keeps_below hb6).from _)).trans (((((KeepsOthers.setCell _ _ _).trans (KeepsOthers.setCell _ _ _)).trans (KeepsOthers.setCell _ _ _)).trans (KeepsOthers.setCell _ _ _)).from _)
      · exact (((((((Keep.of_below dr).trans (Keep.grown hg5 (by omega))).trans (Keep.of_below hb7)).trans (Keep.of_below hb6)).trans (Keep.set (by simp) _)).trans (Keep.set (by simp) _)).trans (Keep.set (by simp) _)).trans (Keep.set (by simp) _)
      · exact c_set (c_set (c_set (c_set c6 (by show w2.heap.size ≠ w.heap.size; omega)) (by show w2.heap.size ≠ w.heap.size; omega)) (by show w2.heap.size ≠ w.heap.size; omega)) (by show w2.heap.size ≠ w.heap.size; omega)
      · exact (((Z6.set _ 0 _ (by omega)).set _ 1 _ (by omega)).set _ 2 _ (by omega)).set _ 3 _ (by omega)
      · rw [HE.out]; exact (((D6.set _ 0 _ q1).set _ 1 _ q1).set _ 2 _ q1).set _ 3 _ q1
      · rw [HE.out]; exact R6.put y
      · exact (((B6.setCell (p := ⟨w2.heap.size, 0, none⟩) (by show w.heap.size ≤ w2.heap.size; omega) _).setCell (p := ⟨w2.heap.size, 1, none⟩) (by show w.heap.size ≤ w2.heap.size; omega) _).setCell (p := ⟨w2.heap.size, 2, none⟩) (by show w.heap.size ≤ w2.heap.size; omega) _).setCell (p := ⟨w2.heap.size, 3, none⟩) (by show w.heap.size ≤ w2.heap.size; omega) _
  case done =>
    rintro D ys W hD' rfl ⟨⟨_, hc1, _, hc3⟩, hB⟩ hK
    obtain ⟨-, ⟨x0, x1, x2, x3⟩, -⟩ := id hc3
    obtain ⟨-, ⟨y0, y1, y2, y3⟩, f0, f1, f2, f3⟩ := id hc1
    gi_wp2
    have hR := hc1.put (foldR (q, P) (over n i hi)).1
    have hB' := (((hB.setCell (p := ⟨w.heap.size + 1, 0, none⟩) (Nat.le_succ _) (Value.int IntKind.u64 (((foldR (q, P) (over n i hi)).1.a).toNat : Int))).setCell (p := ⟨w.heap.size + 1, 1, none⟩) (Nat.le_succ _) (Value.int IntKind.u64 (((foldR (q, P) (over n i hi)).1.b).toNat : Int))).setCell (p := ⟨w.heap.size + 1, 2, none⟩) (Nat.le_succ _) (Value.int IntKind.u64 (((foldR (q, P) (over n i hi)).1.c).toNat : Int))).setCell (p := ⟨w.heap.size + 1, 3, none⟩) (Nat.le_succ _) (Value.int IntKind.u64 (((foldR (q, P) (over n i hi)).1.d).toNat : Int))
    have hK' := (KeepsOthers.setCell _ ⟨w.heap.size + 1, 3, none⟩ (Value.int IntKind.u64 (((foldR (q, P) (over n i hi)).1.d).toNat : Int))).same D _ ((KeepsOthers.setCell _ ⟨w.heap.size + 1, 2, none⟩ (Value.int IntKind.u64 (((foldR (q, P) (over n i hi)).1.c).toNat : Int))).same D _ ((KeepsOthers.setCell _ ⟨w.heap.size + 1, 1, none⟩ (Value.int IntKind.u64 (((foldR (q, P) (over n i hi)).1.b).toNat : Int))).same D _ ((KeepsOthers.setCell W ⟨w.heap.size + 1, 0, none⟩ (Value.int IntKind.u64 (((foldR (q, P) (over n i hi)).1.a).toNat : Int))).same D _ hK rfl) rfl) rfl) rfl
    generalize foldR (q, P) (over n i hi) = fr at hR hB' hK' ⊢
    refine ⟨by simp, .inl ⟨_, _, rfl, run_takeDeferred hK', ?_⟩⟩
    have hR' := hR.own _ (grownBy_putObj' _ D (.deferred none)) (fun r e => by cases e; exact ⟨_, hK', rfl⟩)
    obtain ⟨-, ⟨r0, r1, r2, r3⟩, -⟩ := hR'
    refine ⟨.tuple #[.agg #[.int .u64 ((fr.1).a.toNat : Int), .int .u64 ((fr.1).b.toNat : Int), .int .u64 ((fr.1).c.toNat : Int), .int .u64 ((fr.1).d.toNat : Int)], .bool true], ?_, rfl, hB'.trans (belowK_b (w := w) (Nat.le_refl _) _ D _ _ (by omega) hK' rfl rfl)⟩
    simp [results, Try.results21, go_sem, r0, r1, r2, r3]
  case stop =>
    rintro D c pre W _ _ h _
    exact h.elim
end Go.Proofs.Ytkdgdmicnfgdjaa
