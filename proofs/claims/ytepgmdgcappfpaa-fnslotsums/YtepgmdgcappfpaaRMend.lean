/-
  RecordMend on both sides.
-/
import Derived.Test.YtepgmdgcappfpaaMendS
namespace Go.Proofs.Ytepgmdgcappfpaa
open Go.RowKit Go.MuLone

/-- The raw writes of a recovery. -/
def rmend (s t : Sl) : List Rw := lclear 1 s ++ lclear 2 t
theorem wpList_append_rawA {w : World} {ops : Array Oper} {rest : List Oper} {o : Oper} {a : Act} {Q : Exit → Act → World → Prop} (hgd : o.guard = none) (s x : Operand)
    (ho : o.op = .call { callee := .builtin .append, args := #[s, x], argTypes := #[31, 31] })
    (base : Nat) (v : Value) (K : List Rw) (l : Rw) (hs : a.eval s = v) (hown : w.ownsRow base 56 3 v K.length (rcs K))
    (B : Nat) (hx : a.eval x = .slice (some ⟨B, 0, none⟩) 1 1) (hc : ∀ j u, (rc l)[j]? = some u → w.cell? ((⟨B, 0, none⟩ : Addr).add j) = some u)
    (hlen : K.length ≤ 1048576) (hbase : base ≤ w.heap.size)
    (h : ∀ g cap w', w'.ownsRow base 56 3 (.slice (some ⟨g, 0, none⟩) (K.length + 1) cap) (K.length + 1) (rcs (K ++ [l])) → w.grownBy w' v.ownBlock → (v.ownBlock = some g ∨ g = w.heap.size) → wpList Try.prog ops Q rest (a.put o.dst (.slice (some ⟨g, 0, none⟩) (K.length + 1) cap)) w') : wpList Try.prog ops Q (o :: rest) a w := by
  obtain ⟨i0, hi, hz0, hz1, hz2⟩ := info_parts infoRw
  refine wpList_append_lies w hgd s x 31 ho base 56 i0 _ 3 24 Try.underlying31 hi hz0 hz1 hz2 rfl (by decide) v K.length (rcs K) hs hown ⟨B, 0, none⟩ 1 1 (rc l) hx rfl hc rc_one (by decide) (by unfold maxLen; omega) (by omega) hbase _ rfl ?_
  intro g cap w' h1 h2 h3 _
  refine h g cap w' ?_ h2 h3
  rw [rcs_append]
  simpa [rcs] using h1
/-- Two rows of raw writes, apart. -/
def R2 (W : World) (u : Value) (LL : List Rw) (v : Value) (L : List Rw) (wr : World) : Prop :=
  wr.ownsRow (W.heap.size + 1) 56 3 u LL.length (rcs LL) ∧ wr.ownsRow (W.heap.size + 1) 56 3 v L.length (rcs L) ∧ (∀ k, u.ownBlock = some k → v.ownBlock ≠ some k) ∧ Below W.heap.size W wr ∧ W.heap.size + 1 ≤ wr.heap.size
theorem R2.more {W w1 w2 : World} {u v : Value} {LL L : List Rw} {l : Rw} {g cap : Nat} (o : Obj) (h : R2 W u LL v L w1)
    (ho : w2.ownsRow (W.heap.size + 1) 56 3 (.slice (some ⟨g, 0, none⟩) (LL.length + 1) cap) (LL.length + 1) (rcs (LL ++ [l]))) (hg : (w1.alloc o).grownBy w2 u.ownBlock) (hat : u.ownBlock = some g ∨ g = (w1.alloc o).heap.size) :
    R2 W (.slice (some ⟨g, 0, none⟩) (LL.length + 1) cap) (LL ++ [l]) v L w2 := by
  obtain ⟨h1, h2, h3, h4, h5⟩ := h
  have hsz := hg.size
  simp only [World.size_alloc] at hsz
  refine ⟨by rw [List.length_append]; exact ho, (h2.alloc o).kept hg ?_, ?_, (h4.alloc h4.size o).grown hg (by simp only [World.size_alloc]; omega) (fun k hk => by have := (h1.lt k hk).1; omega), by omega⟩
  · cases hv : v.ownBlock with
    | none => exact .inl rfl
    | some k => exact .inr (fun e => h3 k e.symm hv)
  · intro k hk e
    obtain rfl : g = k := by simpa [Value.ownBlock] using hk
    rcases hat with hat | hat
    · exact h3 g hat e
    · have := (h2.lt g e).2
      rw [World.size_alloc] at hat
      omega
set_option maxRecDepth 20000 in
set_option maxHeartbeats 4000000 in
theorem rmend_spec (s t : Sl) (W : World) :
    Calls Try.prog 7 #[.agg #[.int .u64 ((s).m.toNat : Int), .int .u64 ((s).q.toNat : Int), .int .u64 ((s).z.toNat : Int), .int .u64 ((s).r.a.toNat : Int), .int .u64 ((s).r.b.toNat : Int), .int .u64 ((s).r.c.toNat : Int), .int .u64 ((s).r.d.toNat : Int), .int .u64 ((t).m.toNat : Int), .int .u64 ((t).q.toNat : Int), .int .u64 ((t).z.toNat : Int), .int .u64 ((t).r.a.toNat : Int), .int .u64 ((t).r.b.toNat : Int), .int .u64 ((t).r.c.toNat : Int), .int .u64 ((t).r.d.toNat : Int)]] W fun e w' => ∃ v, e = .returned v ∧ w'.ownsRow W.heap.size 56 3 v (rmend s t).length (rcs (rmend s t)) ∧ Below W.heap.size W w' := by
  have c1 := fun V : World => clear_spec 1 s V
  have c2 := fun V : World => clear_spec 2 t V
  have l1 := lclear_len 1 s
  have l2 := lclear_len 2 t
  have er : rmend s t = lclear 1 s ++ lclear 2 t := rfl
  rw [er]
  generalize lclear 1 s = L1 at c1 l1 ⊢
  generalize lclear 2 t = L2 at c2 l2 ⊢
  have z0 : Below W.heap.size W (W.alloc (.cells #[.int .u64 ((s).m.toNat : Int), .int .u64 ((s).q.toNat : Int), .int .u64 ((s).z.toNat : Int), .int .u64 ((s).r.a.toNat : Int), .int .u64 ((s).r.b.toNat : Int), .int .u64 ((s).r.c.toNat : Int), .int .u64 ((s).r.d.toNat : Int), .int .u64 ((t).m.toNat : Int), .int .u64 ((t).q.toNat : Int), .int .u64 ((t).z.toNat : Int), .int .u64 ((t).r.a.toNat : Int), .int .u64 ((t).r.b.toNat : Int), .int .u64 ((t).r.c.toNat : Int), .int .u64 ((t).r.d.toNat : Int)] 29)) := (Below.refl _ _).alloc (Nat.le_refl _) _
  have hD := DK.new W (s, t) 29
  have A1 : Lies W.heap.size 0 [.int .u64 ((s).m.toNat : Int), .int .u64 ((s).q.toNat : Int), .int .u64 ((s).z.toNat : Int), .int .u64 ((s).r.a.toNat : Int), .int .u64 ((s).r.b.toNat : Int), .int .u64 ((s).r.c.toNat : Int), .int .u64 ((s).r.d.toNat : Int)] (W.alloc (.cells #[.int .u64 ((s).m.toNat : Int), .int .u64 ((s).q.toNat : Int), .int .u64 ((s).z.toNat : Int), .int .u64 ((s).r.a.toNat : Int), .int .u64 ((s).r.b.toNat : Int), .int .u64 ((s).r.c.toNat : Int), .int .u64 ((s).r.d.toNat : Int), .int .u64 ((t).m.toNat : Int), .int .u64 ((t).q.toNat : Int), .int .u64 ((t).z.toNat : Int), .int .u64 ((t).r.a.toNat : Int), .int .u64 ((t).r.b.toNat : Int), .int .u64 ((t).r.c.toNat : Int), .int .u64 ((t).r.d.toNat : Int)] 29)) := hD.at1
  go_enter Try.func7, Try.ntmps7
  go_wp2_with (first
    | (have hh := A2; go_at_call 20; refine (c2 _).mono ?_; rintro e w2 ⟨v2, rfl, ho2, hb2⟩; have z2 := below_after z1 hb2 z1.size; have ho12 := own_callR ho1 hb2)
    | (go_at_call 20; refine (c1 _).mono ?_; rintro e w1 ⟨v1, rfl, ho1, hb1⟩; have z1 := below_after z0 hb1 z0.size; have A2 : Lies W.heap.size 7 [.int .u64 ((t).m.toNat : Int), .int .u64 ((t).q.toNat : Int), .int .u64 ((t).z.toNat : Int), .int .u64 ((t).r.a.toNat : Int), .int .u64 ((t).r.b.toNat : Int), .int .u64 ((t).r.c.toNat : Int), .int .u64 ((t).r.d.toNat : Int)] w1 := (hD.call hb1).at2)
    | (with_reducible refine wpl_load agg_slot W.heap.size 0 [.int .u64 ((s).m.toNat : Int), .int .u64 ((s).q.toNat : Int), .int .u64 ((s).z.toNat : Int), .int .u64 ((s).r.a.toNat : Int), .int .u64 ((s).r.b.toNat : Int), .int .u64 ((s).r.c.toNat : Int), .int .u64 ((s).r.d.toNat : Int)] (by kernel_rfl) ?_ A1 ?_; · (simp [Act.eval]; done))
    | (with_reducible refine wpl_load agg_slot W.heap.size 7 [.int .u64 ((t).m.toNat : Int), .int .u64 ((t).q.toNat : Int), .int .u64 ((t).z.toNat : Int), .int .u64 ((t).r.a.toNat : Int), .int .u64 ((t).r.b.toNat : Int), .int .u64 ((t).r.c.toNat : Int), .int .u64 ((t).r.d.toNat : Int)] (by kernel_rfl) ?_ A2 ?_; · (simp [Act.eval]; done)))
  have hs1 : W.heap.size + 1 ≤ w1.heap.size := Nat.le_trans (by simp) hb1.size
  have hs2 := hb2.size
  have HT : Hid (R2 W v1 (L1 ++ L2.take 0) v2 L2 w2) := by
    rw [List.take_zero, List.append_nil]
    refine ⟨own_downR ho12 (by simp only [World.size_alloc]; omega), own_downR ho2 (by omega), fun k hk e => ?_, z2, by omega⟩
    have h1 := (ho1.lt k hk).2
    have h2 := (ho2.lt k e).1
    omega
  obtain ⟨oa, ca, rfl⟩ := owr_len ho1
  obtain ⟨ob, cb, rfl⟩ := owr_len ho2
  clear ho1 ho2 ho12 z1 z2 A1 A2 c1 c2 hD hb1 hb2 z0 hs1 hs2 er
  go_loopw [3, 5] (fun u i wr => ∃ (k : Nat) (oc : Option Addr) (cc : Nat), k ≤ L2.length ∧ i = .int .i64 (k : Int) ∧ u = .slice oc (L1.length + k) cc ∧ Hid (R2 W u (L1 ++ L2.take k) (.slice ob L2.length cb) L2 wr)) (fun _ i _ => L2.length - (intOf i).toNat)
  case atStart => exact ⟨0, oa, ca, by omega, rfl, rfl, HT⟩
  case round =>
    obtain ⟨k, oc, cc, hk, rfl, rfl, HR⟩ := hrel
    have hlen : (L1 ++ L2.take k).length = L1.length + k := by rw [List.length_append, List.length_take]; omega
    by_cases hlt : k < L2.length
    · have hst : L1 ++ L2.take (k + 1) = (L1 ++ L2.take k) ++ [L2[k]] := by rw [List.take_succ_eq_append_getElem hlt, List.append_assoc]
      obtain ⟨a, hoa, hbl, hc⟩ := (owr_rws HR.out.2.1).cells k hlt
      subst hoa
      have hd := hc k hlt
      obtain ⟨q, hq⟩ : ∃ q, q = L2[k] := ⟨_, rfl⟩
      rw [← hq] at hd hst
      obtain ⟨K, hK⟩ : ∃ K, K = L1 ++ L2.take k := ⟨_, rfl⟩
      rw [← hK] at hst hlen HR
      have HN : Hid (L1 ++ L2.take (k + 1) = K ++ [q]) := hst
      have HL : Hid (K.length = L1.length + k) := hlen
      have hKl : K.length ≤ 100 := by omega
      obtain ⟨d0, d1, d2⟩ := hd
      have HO : Hid (∀ o, (wr.alloc o).ownsRow (W.heap.size + 1) 56 3 (.slice oc K.length cc) K.length (rcs K)) := fun o => by
        have := HR.out.1.alloc o
        rwa [← hlen] at this
      have hab : (a.add (k * 3)).block < wr.heap.size := by rw [add_block]; exact hbl
      have hsz : W.heap.size + 1 ≤ wr.heap.size := HR.out.2.2.2.2
      have hk0 : (0 : Int) ≤ (k : Int) := by omega
      have hkI : (k : Int) < (L2.length : Int) := by omega
      clear hst hq hK hc HT
      rw [← HL.out]
      clear hlen
      go_wp2_with (at_builtin; refine wpList_append_rawA rfl (.tmp 18) (.tmp 23) rfl (W.heap.size + 1) (.slice oc K.length cc) K q rfl (HO.out _) wr.heap.size rfl (rc_cells (by simp [go_sem]) (by simp [go_sem]) (by simp [go_sem])) (by omega) (by simp only [World.size_alloc]; omega) ?_; intro g cp w3 ho3 hg3 hat3; have HR3 := (by have := HR.out; rw [← HL.out] at this; exact this.more _ ho3 hg3 hat3 : R2 W (.slice (some ⟨g, 0, none⟩) (K.length + 1) cp) (K ++ [q]) (.slice (some a) L2.length cb) L2 w3))
      exact ⟨⟨k + 1, some ⟨g, 0, none⟩, cp, by omega, by go_num, by rw [HL.out, Nat.add_assoc], by rw [HN.out]; exact HR3⟩, by simp [intOf]; omega⟩
    · have hkk : k = L2.length := by omega
      subst hkk
      have hR := HR.out
      rw [List.take_length] at hR
      clear HR HT
      go_wp2_with fail
      go_ret
      exact ⟨_, rfl, own_downR hR.1 (by omega), hR.2.2.2.1⟩
theorem dput_snd (d : Sl × Sl) (k : Nat) (x : UInt64) : (dput d ⟨1, (k : Int), x⟩).2 = d.2 := rfl
theorem PK.one' {B : Nat} {d : Sl × Sl} {v : Value} {W : World} (h : PK B d v W) : Lies B 0 [.int .u64 ((d.1).m.toNat : Int), .int .u64 ((d.1).q.toNat : Int), .int .u64 ((d.1).z.toNat : Int), .int .u64 ((d.1).r.a.toNat : Int), .int .u64 ((d.1).r.b.toNat : Int), .int .u64 ((d.1).r.c.toNat : Int), .int .u64 ((d.1).r.d.toNat : Int)] W := h.2.1.part 0 7
theorem PK.two' {B : Nat} {d : Sl × Sl} {v : Value} {W : World} (h : PK B d v W) : Lies B 7 [.int .u64 ((d.2).m.toNat : Int), .int .u64 ((d.2).q.toNat : Int), .int .u64 ((d.2).z.toNat : Int), .int .u64 ((d.2).r.a.toNat : Int), .int .u64 ((d.2).r.b.toNat : Int), .int .u64 ((d.2).r.c.toNat : Int), .int .u64 ((d.2).r.d.toNat : Int)] W := by
  have := h.2.1.part 7 7
  rwa [Nat.zero_add] at this
set_option maxRecDepth 20000 in
set_option maxHeartbeats 4000000 in
theorem rmend_impl (s t : Sl) (W : World) :
    Calls Try.prog 6 #[.agg #[.int .u64 ((s).m.toNat : Int), .int .u64 ((s).q.toNat : Int), .int .u64 ((s).z.toNat : Int), .int .u64 ((s).r.a.toNat : Int), .int .u64 ((s).r.b.toNat : Int), .int .u64 ((s).r.c.toNat : Int), .int .u64 ((s).r.d.toNat : Int), .int .u64 ((t).m.toNat : Int), .int .u64 ((t).q.toNat : Int), .int .u64 ((t).z.toNat : Int), .int .u64 ((t).r.a.toNat : Int), .int .u64 ((t).r.b.toNat : Int), .int .u64 ((t).r.c.toNat : Int), .int .u64 ((t).r.d.toNat : Int)]] W fun e w' => ∃ v, e = .returned v ∧ w'.ownsRow W.heap.size 56 3 v (rmend s t).length (rcs (rmend s t)) ∧ Below W.heap.size W w' := by
  have cp := fun V : World => playOn_is (s, t) V
  simp only at cp
  have z0 : Below W.heap.size W (W.alloc (.cells #[.int .u64 ((s).m.toNat : Int), .int .u64 ((s).q.toNat : Int), .int .u64 ((s).z.toNat : Int), .int .u64 ((s).r.a.toNat : Int), .int .u64 ((s).r.b.toNat : Int), .int .u64 ((s).r.c.toNat : Int), .int .u64 ((s).r.d.toNat : Int), .int .u64 ((t).m.toNat : Int), .int .u64 ((t).q.toNat : Int), .int .u64 ((t).z.toNat : Int), .int .u64 ((t).r.a.toNat : Int), .int .u64 ((t).r.b.toNat : Int), .int .u64 ((t).r.c.toNat : Int), .int .u64 ((t).r.d.toNat : Int)] 29)) := (Below.refl _ _).alloc (Nat.le_refl _) _
  have A1 : Lies W.heap.size 0 [.int .u64 ((s).m.toNat : Int), .int .u64 ((s).q.toNat : Int), .int .u64 ((s).z.toNat : Int), .int .u64 ((s).r.a.toNat : Int), .int .u64 ((s).r.b.toNat : Int), .int .u64 ((s).r.c.toNat : Int), .int .u64 ((s).r.d.toNat : Int), .int .u64 ((t).m.toNat : Int), .int .u64 ((t).q.toNat : Int), .int .u64 ((t).z.toNat : Int), .int .u64 ((t).r.a.toNat : Int), .int .u64 ((t).r.b.toNat : Int), .int .u64 ((t).r.c.toNat : Int), .int .u64 ((t).r.d.toNat : Int)] (W.alloc (.cells #[.int .u64 ((s).m.toNat : Int), .int .u64 ((s).q.toNat : Int), .int .u64 ((s).z.toNat : Int), .int .u64 ((s).r.a.toNat : Int), .int .u64 ((s).r.b.toNat : Int), .int .u64 ((s).r.c.toNat : Int), .int .u64 ((s).r.d.toNat : Int), .int .u64 ((t).m.toNat : Int), .int .u64 ((t).q.toNat : Int), .int .u64 ((t).z.toNat : Int), .int .u64 ((t).r.a.toNat : Int), .int .u64 ((t).r.b.toNat : Int), .int .u64 ((t).r.c.toNat : Int), .int .u64 ((t).r.d.toNat : Int)] 29)) := (DK.new W (s, t) 29).atAll
  have hs1 := fun (B : Nat) (V : World) => pslot_is B 1 V
  have hs2 := fun (B : Nat) (V : World) => pslot_is B 2 V
  simp only [if_true] at hs1
  simp only [show ((2 : Int) = 1) = False from by simp, if_false, if_true] at hs2
  have l1 := lclear_len 1 s
  have l2 := lclear_len 2 t
  have cm1 := fun (B : Nat) (V : World) (h : PLY B (s, t) [] V) => mend_is B 0 1 (.inl rfl) (fun d => d.2 = t) (fun d k hd => by rw [dput_snd]; exact hd) s (s, t) [] V h rfl (by simp) (hs1 B) (fun V v hV => hV.one')
  have cm2 := fun (B : Nat) (d : Sl × Sl) (hd : d.2 = t) (V : World) (h : PLY B d ([] ++ lclear 1 s) V) => mend_is B 7 2 (.inr rfl) (fun _ => True) (fun _ _ _ => trivial) t d ([] ++ lclear 1 s) V h trivial (by rw [List.nil_append]; omega) (hs2 B) (fun V v hV => by have := hV.two'; rwa [hd] at this)
  go_enter Try.func6, Try.ntmps6
  go_wp2_with (first
    | (have hh := hp2; go_at_call 19; refine (cm2 B d2 hd2 _ hp2).mono ?_; rintro e w3 ⟨rfl, ⟨d3, -, v3, hk3, ho3⟩, hb3⟩; have z3 := z2.trans (hb3.mono hB); have c21 := hk3.cell 21 v3 rfl)
    | (go_at_call 19; refine (cm1 B _ hp1).mono ?_; rintro e w2 ⟨rfl, ⟨d2, hd2, hp2⟩, hb2⟩; have z2 := z1.trans (hb2.mono hB))
    | (go_at_call 18; refine (cp _).mono ?_; rintro e w1 ⟨B, rfl, hp1, hb1, hB1⟩; have z1 := below_after z0 hb1 z0.size; have hB : W.heap.size ≤ B := Nat.le_trans z0.size hB1)
    | (with_reducible refine wpl_load agg_disk W.heap.size 0 [.int .u64 ((s).m.toNat : Int), .int .u64 ((s).q.toNat : Int), .int .u64 ((s).z.toNat : Int), .int .u64 ((s).r.a.toNat : Int), .int .u64 ((s).r.b.toNat : Int), .int .u64 ((s).r.c.toNat : Int), .int .u64 ((s).r.d.toNat : Int), .int .u64 ((t).m.toNat : Int), .int .u64 ((t).q.toNat : Int), .int .u64 ((t).z.toNat : Int), .int .u64 ((t).r.a.toNat : Int), .int .u64 ((t).r.b.toNat : Int), .int .u64 ((t).r.c.toNat : Int), .int .u64 ((t).r.d.toNat : Int)] (by kernel_rfl) (by kernel_rfl) A1 ?_))
  go_ret
  rw [List.nil_append] at ho3
  exact ⟨_, rfl, own_downR ho3 (by omega), z3⟩
end Go.Proofs.Ytepgmdgcappfpaa
