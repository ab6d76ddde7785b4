/-
  A slot mended, by the document.
-/
import Derived.Test.YtepgmdgcappfpaaMend
import Derived.Test.YtepgmdgcappfpaaPlay2
namespace Go.Proofs.Ytepgmdgcappfpaa
open Go.RowKit Go.MuLone

/-- append(b, l), b a row of raw writes of the call's own, l one of them. -/
theorem wpList_append_raw {w : World} {ops : Array Oper} {rest : List Oper} {o : Oper} {a : Act} {Q : Exit → Act → World → Prop} (hgd : o.guard = none) (s x : Operand)
    (ho : o.op = .call { callee := .builtin .append, args := #[s, x], argTypes := #[31, 31] })
    (base : Nat) (v : Value) (K : List Rw) (l : Rw) (hs : a.eval s = v) (hown : w.ownsRow base 56 3 v K.length (rcs K))
    (B : Nat) (hx : a.eval x = .slice (some ⟨B, 0, none⟩) 1 1) (hc : ∀ j u, (rc l)[j]? = some u → w.cell? ((⟨B, 0, none⟩ : Addr).add j) = some u)
    (hlen : K.length ≤ 1048576) (hbase : base ≤ w.heap.size)
    (h : ∀ v' w', w'.ownsRow base 56 3 v' (K ++ [l]).length (rcs (K ++ [l])) → w.grownBy w' v.ownBlock → wpList Try.prog ops Q rest (a.put o.dst v') w') : wpList Try.prog ops Q (o :: rest) a w := by
  obtain ⟨i0, hi, hz0, hz1, hz2⟩ := info_parts infoRw
  refine wpList_append_own w hgd s x 31 ho base 56 i0 _ 3 24 Try.underlying31 hi hz0 hz1 hz2 rfl (by decide) v K.length (rcs K) hs hown ⟨B, 0, none⟩ 1 1 (rc l) hx rfl hc rc_one (by unfold maxLen; omega) (by omega) hbase ?_
  intro v' w' h1 h2 _
  refine h v' w' ?_ h2
  rw [rcs_append, List.length_append]
  simpa [rcs] using h1
theorem owr_len {W : World} {base n : Nat} {v : Value} {xs : List Value} (h : W.ownsRow base 56 3 v n xs) : ∃ oa cap, v = .slice oa n cap := by
  obtain ⟨_, ⟨rfl, rfl⟩ | ⟨g, cap, cur, rfl, _⟩⟩ := h
  · exact ⟨none, 0, rfl⟩
  · exact ⟨some ⟨g, 0, none⟩, cap, rfl⟩
/-- What an owned row of raw writes is, seen as a slice. -/
theorem owr_rws {W : World} {base : Nat} {v : Value} {L : List Rw} (h : W.ownsRow base 56 3 v L.length (rcs L)) : Rws W v L := by
  obtain ⟨hx, ⟨rfl, h0⟩ | ⟨g, cap, cur, rfl, hb, hg, hn, hm, hs, ht⟩⟩ := id h
  · exact .inl ⟨rfl, List.length_eq_zero_iff.1 h0⟩
  · refine .inr ⟨⟨g, 0, none⟩, cap, rfl, hn, hm, fun _ => ((h.lt g rfl).2), fun i hi => ?_⟩
    have at_ : ∀ t, t < 3 → (rcs L)[i * 3 + t]? = (rc L[i])[t]? := by
      intro t ht
      have e : L = L.take i ++ L[i] :: L.drop (i + 1) := by
        conv => lhs; rw [← List.take_append_drop i L, List.drop_eq_getElem_cons hi]
      have hl : (rcs (L.take i)).length = i * 3 := by rw [rcs_len, List.length_take]; omega
      have e2 : rcs L = rcs (L.take i) ++ (rc L[i] ++ rcs (L.drop (i + 1))) := by
        conv => lhs; rw [e]
        rw [rcs_append]
        rfl
      rw [e2, List.getElem?_append_right (by omega), List.getElem?_append_left (by rw [hl]; show _ < 3; omega), hl]
      congr 1
      omega
    have hc := fun (j : Nat) (hj : j < L.length * 3) => h.cellAt j hj
    rw [Addr.add_mid, Nat.zero_add]
    refine ⟨?_, ?_, ?_⟩
    · rw [hc (i * 3) (by omega)]; exact (at_ 0 (by omega)).trans rfl
    · show W.cell? ⟨g, i * 3 + 1, none⟩ = _
      rw [hc (i * 3 + 1) (by omega)]; exact (at_ 1 (by omega)).trans rfl
    · show W.cell? ⟨g, i * 3 + 2, none⟩ = _
      rw [hc (i * 3 + 2) (by omega)]; exact (at_ 2 (by omega)).trans rfl
theorem own_downR {W : World} {b base n : Nat} {v : Value} {xs : List Value} (h : W.ownsRow base 56 3 v n xs) (hb : b ≤ base) : W.ownsRow b 56 3 v n xs := by
  obtain ⟨hx, h⟩ := h
  refine ⟨hx, ?_⟩
  rcases h with h | ⟨g, cap, cur, e, hg, rest⟩
  · exact .inl h
  · exact .inr ⟨g, cap, cur, e, by omega, rest⟩
theorem sl_at {T : Nat} {s : Sl} {W : World} (h : Lies T 0 [.int .u64 ((s).m.toNat : Int), .int .u64 ((s).q.toNat : Int), .int .u64 ((s).z.toNat : Int), .int .u64 ((s).r.a.toNat : Int), .int .u64 ((s).r.b.toNat : Int), .int .u64 ((s).r.c.toNat : Int), .int .u64 ((s).r.d.toNat : Int)] W) (k : Nat) (hk : k < 7) : W.cell? ⟨T, k, none⟩ = some (.int .u64 (((ws7 s).getD k 0).toNat : Int)) := by
  have := h k (.int .u64 (((ws7 s).getD k 0).toNat : Int)) (by
    obtain rfl | rfl | rfl | rfl | rfl | rfl | rfl : k = 0 ∨ k = 1 ∨ k = 2 ∨ k = 3 ∨ k = 4 ∨ k = 5 ∨ k = 6 := by omega
    all_goals rfl)
  rwa [Nat.zero_add] at this
/-- What stands while the words of a slot are gone through. -/
def CL (W : World) (T : Nat) (s : Sl) (v : Value) (L : List Rw) (wr : World) : Prop :=
  (Lies T 0 [.int .u64 ((s).m.toNat : Int), .int .u64 ((s).q.toNat : Int), .int .u64 ((s).z.toNat : Int), .int .u64 ((s).r.a.toNat : Int), .int .u64 ((s).r.b.toNat : Int), .int .u64 ((s).r.c.toNat : Int), .int .u64 ((s).r.d.toNat : Int)] wr ∧ ∃ cs fr, wr.heap[T]? = some (.cells cs 75 fr)) ∧ wr.ownsRow (W.heap.size + 1) 56 3 v L.length (rcs L) ∧ Below W.heap.size W wr ∧ W.heap.size ≤ T ∧ T < wr.heap.size ∧ W.heap.size + 1 ≤ wr.heap.size
theorem CL.ne {W wr : World} {T : Nat} {s : Sl} {v : Value} {L : List Rw} (h : CL W T s v L wr) : v.ownBlock ≠ some T := by
  intro e
  obtain ⟨⟨-, cs, fr, hT⟩, ho, -⟩ := h
  obtain ⟨_, ⟨rfl, _⟩ | ⟨g, cap, cur, rfl, _, hg, _⟩⟩ := ho
  · cases e
  · injection e with e
    subst e
    rw [hg] at hT
    injection hT with hT
    injection hT with _ h2
    exact absurd h2 (by decide)
theorem CL.more {W w1 w2 : World} {T : Nat} {s : Sl} {v v' : Value} {L L' : List Rw} (h : CL W T s v L w1) (ho : w2.ownsRow (W.heap.size + 1) 56 3 v' L'.length (rcs L')) (hg : w1.grownBy w2 v.ownBlock) : CL W T s v' L' w2 := by
  have hn := h.ne
  obtain ⟨⟨h1, cs, fr, hT⟩, h2, h3, h4, h5, h7⟩ := h
  have hsz := hg.size
  exact ⟨⟨h1.grown hg h5 hn, cs, fr, (hg.block T h5 (fun e => hn e.symm)).trans hT⟩, ho, h3.grown hg h3.size (fun k hk => by have := (h2.lt k hk).1; omega), h4, by omega, by omega⟩
theorem CL.alloc {W w1 : World} {T : Nat} {s : Sl} {v : Value} {L : List Rw} (h : CL W T s v L w1) (o : Obj) : CL W T s v L (w1.alloc o) := by
  obtain ⟨⟨h1, cs, fr, hT⟩, h2, h3, h4, h5, h7⟩ := h
  exact ⟨⟨h1.call ((Below.refl _ _).alloc (Nat.le_refl _) _) h5, cs, fr, ((Below.refl w1.heap.size w1).alloc (Nat.le_refl _) o).block T h5 |>.trans hT⟩, h2.alloc _, h3.alloc h3.size _, h4, by simp only [World.size_alloc]; omega, by simp only [World.size_alloc]; omega⟩
set_option maxRecDepth 20000 in
set_option maxHeartbeats 4000000 in
theorem clear_spec (n : Int) (s : Sl) (W : World) :
    Calls Try.prog 20 #[.int .i64 n, .agg #[.int .u64 ((s).m.toNat : Int), .int .u64 ((s).q.toNat : Int), .int .u64 ((s).z.toNat : Int), .int .u64 ((s).r.a.toNat : Int), .int .u64 ((s).r.b.toNat : Int), .int .u64 ((s).r.c.toNat : Int), .int .u64 ((s).r.d.toNat : Int)]] W fun e w' => ∃ v, e = .returned v ∧ w'.ownsRow (W.heap.size + 1) 56 3 v (lclear n s).length (rcs (lclear n s)) ∧ Below W.heap.size W w' := by
  have cs := fun V : World => sok_spec s V
  have hS0 := (SB.new W s 27).call ((Below.refl _ _).alloc (Nat.le_refl _) (.cells #[] 56))
  have z0 : Below W.heap.size W ((W.alloc (.cells #[Value.int IntKind.u64 ((s).m.toNat : Int), Value.int IntKind.u64 ((s).q.toNat : Int), Value.int IntKind.u64 ((s).z.toNat : Int), Value.int IntKind.u64 ((s).r.a.toNat : Int), Value.int IntKind.u64 ((s).r.b.toNat : Int), Value.int IntKind.u64 ((s).r.c.toNat : Int), Value.int IntKind.u64 ((s).r.d.toNat : Int)] 27)).alloc (.cells #[] 56)) := (by repeat' (first | (with_reducible exact Below.refl _ _) | (with_reducible assumption) | (with_reducible refine below_drewN ?_ _) | (with_reducible refine Below.setCell ?_ ?_ _) | (with_reducible refine Below.alloc ?_ ?_ _) | (with_reducible refine Below.drew ?_) | go_size))
  have ho0 : ((W.alloc (.cells #[Value.int IntKind.u64 ((s).m.toNat : Int), Value.int IntKind.u64 ((s).q.toNat : Int), Value.int IntKind.u64 ((s).z.toNat : Int), Value.int IntKind.u64 ((s).r.a.toNat : Int), Value.int IntKind.u64 ((s).r.b.toNat : Int), Value.int IntKind.u64 ((s).r.c.toNat : Int), Value.int IntKind.u64 ((s).r.d.toNat : Int)] 27)).alloc (.cells #[] 56)).ownsRow (W.heap.size + 1) 56 3 (.slice (some ⟨W.heap.size + 1, 0, none⟩) 0 0) 0 [] := by
    have := World.ownsRow_lit (base := W.heap.size + 1) (e := 56) (size := 3) (W.alloc (.cells #[Value.int IntKind.u64 ((s).m.toNat : Int), Value.int IntKind.u64 ((s).q.toNat : Int), Value.int IntKind.u64 ((s).z.toNat : Int), Value.int IntKind.u64 ((s).r.a.toNat : Int), Value.int IntKind.u64 ((s).r.b.toNat : Int), Value.int IntKind.u64 ((s).r.c.toNat : Int), Value.int IntKind.u64 ((s).r.d.toNat : Int)] 27)) #[] 0 (by simp) (by unfold maxLen; omega) rfl
    simp only [World.size_alloc] at this
    exact this
  obtain ⟨-, a0, a1, a2, a3, a4, a5, a6⟩ := id hS0
  go_enter Try.func20, Try.ntmps20
  go_wp2_with (go_at_call 21; refine (cs _).mono ?_; rintro e w1 ⟨rfl, hb1⟩; have z1 := below_after z0 hb1 z0.size; have ho1 := own_callR ho0 hb1; have hz1 := hb1.size; simp only [World.size_alloc] at hz1; obtain ⟨-, c0, c1, c2, c3, c4, c5, c6⟩ := hS0.call hb1; clear a0 a1 a2 a3 a4 a5 a6 hS0 ho0 z0 hb1; cases hok : slok s)
  all_goals first
    | (go_ret
       have e : lclear n s = [] := by unfold lclear; rw [hok]; rfl
       rw [e]
       exact ⟨_, rfl, ho1, z1⟩)
    | skip
  have HT : Hid (CL W w1.heap.size s (.slice (some ⟨W.heap.size + 1, 0, none⟩) 0 0) (clr n s 0) (w1.alloc (.cells #[Value.int IntKind.u64 ((s).m.toNat : Int), Value.int IntKind.u64 ((s).q.toNat : Int), Value.int IntKind.u64 ((s).z.toNat : Int), Value.int IntKind.u64 ((s).r.a.toNat : Int), Value.int IntKind.u64 ((s).r.b.toNat : Int), Value.int IntKind.u64 ((s).r.c.toNat : Int), Value.int IntKind.u64 ((s).r.d.toNat : Int)] 75))) :=
    ⟨⟨Lies.new w1 [.int .u64 ((s).m.toNat : Int), .int .u64 ((s).q.toNat : Int), .int .u64 ((s).z.toNat : Int), .int .u64 ((s).r.a.toNat : Int), .int .u64 ((s).r.b.toNat : Int), .int .u64 ((s).r.c.toNat : Int), .int .u64 ((s).r.d.toNat : Int)] 75, _, _, heap_alloc_new w1 _⟩, ho1.alloc _, z1.alloc z1.size _, z1.size, by simp, by simp only [World.size_alloc]; omega⟩
  have HE : Hid (lclear n s = clr n s 7) := by unfold lclear; rw [hok]; rfl
  have hTW := z1.size
  clear ho1 c0 c1 c2 c3 c4 c5 c6 z1 cs hok
  go_loopw [5, 7] (fun u i wr => ∃ (k : Nat) (oa : Option Addr) (cap : Nat), k ≤ 7 ∧ i = .int .i64 (k : Int) ∧ u = .slice oa (clr n s k).length cap ∧ Hid (CL W w1.heap.size s u (clr n s k) wr)) (fun _ i _ => 7 - (intOf i).toNat)
  case atStart => exact ⟨0, some ⟨W.heap.size + 1, 0, none⟩, 0, by omega, rfl, rfl, HT⟩
  case round =>
    obtain ⟨k, oa, cap, hk, rfl, rfl, HR⟩ := hrel
    by_cases hlt : k < 7
    · have hcl : clr n s (k + 1) = if (ws7 s).getD k 0 = 0 then clr n s k else clr n s k ++ [⟨n, (k : Int), 0⟩] := rfl
      have hx0 := sl_at HR.out.1.1 k hlt
      have hll := clr_len n s k
      have hkI : (k : Int) < 7 := by omega
      have hk0 : (0 : Int) ≤ (k : Int) := by omega
      have HCL : Hid (clr n s (k + 1) = if (ws7 s).getD k 0 = 0 then clr n s k else clr n s k ++ [⟨n, (k : Int), 0⟩]) := hcl
      clear hcl
      obtain ⟨x, hxx⟩ : ∃ x, x = (ws7 s).getD k 0 := ⟨_, rfl⟩
      rw [← hxx] at HCL hx0
      obtain ⟨K, hK⟩ : ∃ K, K = clr n s k := ⟨_, rfl⟩
      rw [← hK] at HCL HR hll ⊢
      clear hxx
      by_cases hx : x = 0
      · have hx1 : ((x.toNat : Int) != 0) = false := by rw [hx]; rfl
        have HN : Hid (clr n s (k + 1) = K) := HCL.out.trans (if_pos hx)
        clear HCL HT hx hK
        go_wp2_with fail
        exact ⟨⟨k + 1, oa, cap, by omega, by go_num, by rw [HN.out], by rw [HN.out]; exact HR⟩, by simp [intOf]; omega⟩
      · have hx1 : ((x.toNat : Int) != 0) = true := by
          rw [bne_iff_ne]
          intro e
          exact hx (UInt64.toNat_inj.1 (by simpa using e))
        have HN : Hid (clr n s (k + 1) = K ++ [⟨n, (k : Int), 0⟩]) := HCL.out.trans (if_neg hx)
        have HO : Hid ((wr.alloc (.cells #[.int .i64 n, .int .i64 (k : Int), .int .u64 0] 56)).ownsRow (W.heap.size + 1) 56 3 (.slice oa K.length cap) K.length (rcs K)) := HR.out.2.1.alloc _
        have hsz : W.heap.size + 1 ≤ wr.heap.size := HR.out.2.2.2.2.2
        clear HCL HT hx hK
        go_wp2_with (first
          | (with_reducible refine wpl_build #[.int .i64 n, .int .i64 (k : Int), .int .u64 0] (by kernel_rfl) ?_)
          | (at_builtin; refine wpList_append_raw rfl (.tmp 39) (.tmp 43) rfl (W.heap.size + 1) (.slice oa K.length cap) K ⟨n, (k : Int), 0⟩ rfl HO.out wr.heap.size rfl (rc_cells (by simp [go_sem]) (by simp [go_sem]) (by simp [go_sem])) (by omega) (by simp only [World.size_alloc]; omega) ?_; intro v' w3 ho3 hg3; have HR3 := (HR.out.alloc _).more ho3 hg3; obtain ⟨oc, cq, hv3⟩ := owr_len ho3; subst hv3; rw [show (K ++ [(⟨n, (k : Int), 0⟩ : Rw)]).length = K.length + 1 from by simp] at HR3; simp only [List.length_append, List.length_cons, List.length_nil, Nat.zero_add]))
        exact ⟨⟨k + 1, oc, cq, by omega, by go_num, by rw [HN.out]; simp, by rw [HN.out]; exact HR3⟩, by simp [intOf]; omega⟩
    · have hkk : k = 7 := by omega
      subst hkk
      have hR := HR.out
      have hE := HE.out
      rw [← hE] at hR
      clear HE HR HT
      go_wp2_with fail
      go_ret
      rw [← hE]
      exact ⟨_, rfl, hR.2.1, hR.2.2.1⟩
end Go.Proofs.Ytepgmdgcappfpaa
