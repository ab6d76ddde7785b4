/-
  A disk, a size and a root drawn.
-/
import Derived.Test.YtepgmdgcappfpaaDDisk
import Derived.Test.YtepgmdgcappfpaaJoinB43
import Derived.Test.YtepgmdgcappfpaaRMend
import Derived.Test.YtepgmdgcappfpaaCuts
import Derived.Test.YtepgmdgcappfpaaDWs3
namespace Go.Proofs.Ytepgmdgcappfpaa
open Go.RowKit Go.MuLone

theorem res3 {fn : Func} {p q r : Tmp} {t u : TypeId} {n m : Nat} (ht : AggTy t n) (hu : AggTy u m) (h : fn.results = #[.cell p t, .tmp q, .cell r u]) (tmps : Array Value) (w : World) (b c : Nat) (vs us : List Value) (hn : vs.length = n) (hm : us.length = m)
    (hp : tmps.getD p undef = .pointer (some ⟨b, 0, none⟩)) (hr : tmps.getD r undef = .pointer (some ⟨c, 0, none⟩)) (x : Value) (hq : tmps.getD q undef = x) (hl : Lies b 0 vs w) (hk : Lies c 0 us w) :
    (results fn tmps).run Try.prog w = .ok (.tuple #[.agg vs.toArray, x, .agg us.toArray]) w := by
  obtain ⟨⟨d, hu1, hd1⟩, hi1⟩ := ht
  obtain ⟨⟨d2, hu2, hd2⟩, hi2⟩ := hu
  have hp' : tmps[p]?.getD undef = .pointer (some ⟨b, 0, none⟩) := by simpa using hp
  have hr' : tmps[r]?.getD undef = .pointer (some ⟨c, 0, none⟩) := by simpa using hr
  have hq' : tmps[q]?.getD undef = x := by simpa using hq
  simp [results, h, hp', hr', hq', asAddr, run_lv t b 0 vs w d hd1 hu1 (by rw [hn]; exact hi1) hl, run_lv u c 0 us w d2 hd2 hu2 (by rw [hm]; exact hi2) hk]
/-- What stands while they are drawn. -/
def DRw (W : World) (v : Value) (L : List UInt8) (p : Nat) (w : World) : Prop :=
  RdAt (W.heap.size + 1 + 1) v L p w ∧ Room W.heap.size 0 14 w ∧ Room (W.heap.size + 1) 0 4 w ∧ Below W.heap.size W w
theorem DRw.pick {W : World} {v : Value} {L : List UInt8} {p p' : Nat} {w w' : World} (h : DRw W v L p w) (hr : RdAt (W.heap.size + 1 + 1) v L p' w') (g : w.grownBy w' (some (W.heap.size + 1 + 1))) : DRw W v L p' w' := by
  obtain ⟨h1, h2, h3, h4⟩ := h
  have := h1.1
  exact ⟨hr, h2.grown g (by omega) (fun e => by injection e with e; omega), h3.grown g (by omega) (fun e => by injection e with e; omega), h4.grown g h4.size (fun k e => by injection e with e; omega)⟩
theorem DRw.call {W : World} {v : Value} {L : List UInt8} {p : Nat} {w w' : World} (h : DRw W v L p w) (hb : Below w.heap.size w w') : DRw W v L p w' := by
  obtain ⟨h1, h2, h3, h4⟩ := h
  have := h1.1
  exact ⟨h1.grown (belG hb), h2.call hb (by omega), h3.call hb (by omega), below_after h4 hb h4.size⟩
theorem DRw.put {W : World} {v : Value} {L : List UInt8} {p : Nat} {w : World} (h : DRw W v L p w) (vs : List Value) (hv : vs.length = 14) :
    Lies W.heap.size 0 vs (w.setCells W.heap.size 0 vs) ∧ Room (W.heap.size + 1) 0 4 (w.setCells W.heap.size 0 vs) ∧ Below W.heap.size W (w.setCells W.heap.size 0 vs) ∧ W.heap.size + 1 < (w.setCells W.heap.size 0 vs).heap.size := by
  obtain ⟨h1, h2, h3, h4⟩ := h
  have := h1.1
  have g := sc_grown w W.heap.size 0 vs
  exact ⟨Lies.sc hv h2, h3.grown g (by omega) (fun e => by injection e with e; omega), Below.sc _ (Nat.le_refl _) vs 0 _ h4, by rw [sc_size]; omega⟩
set_option maxRecDepth 20000 in
theorem agg_dg4 : AggTy 25 4 := ⟨⟨_, Try.underlying25, rfl⟩, by kernel_rfl⟩
end Go.Proofs.Ytepgmdgcappfpaa

/-
  What the laws of records have in common: the boxes of a drawn disk, size and root.
-/
namespace Go.Proofs.Ytepgmdgcappfpaa
open Go.RowKit Go.MuLone

set_option maxRecDepth 20000 in
theorem agg_rec : AggTy 34 6 := ⟨⟨_, Try.underlying34, rfl⟩, by kernel_rfl⟩
/-- The boxes of the disk and of the root. -/
def LT7 (D : Nat) (d : Sl × Sl) (q : Qd) (wx : World) : Prop := Lies D 0 [.int .u64 ((d.1).m.toNat : Int), .int .u64 ((d.1).q.toNat : Int), .int .u64 ((d.1).z.toNat : Int), .int .u64 ((d.1).r.a.toNat : Int), .int .u64 ((d.1).r.b.toNat : Int), .int .u64 ((d.1).r.c.toNat : Int), .int .u64 ((d.1).r.d.toNat : Int), .int .u64 ((d.2).m.toNat : Int), .int .u64 ((d.2).q.toNat : Int), .int .u64 ((d.2).z.toNat : Int), .int .u64 ((d.2).r.a.toNat : Int), .int .u64 ((d.2).r.b.toNat : Int), .int .u64 ((d.2).r.c.toNat : Int), .int .u64 ((d.2).r.d.toNat : Int)] wx ∧ Lies (D + 1) 0 [.int .u64 ((q.a).toNat : Int), .int .u64 ((q.b).toNat : Int), .int .u64 ((q.c).toNat : Int), .int .u64 ((q.d).toNat : Int)] wx ∧ D + 1 < wx.heap.size
theorem LT7.call {D : Nat} {d : Sl × Sl} {q : Qd} {w1 w2 : World} (h : LT7 D d q w1) (hb : Below w1.heap.size w1 w2) : LT7 D d q w2 := by
  obtain ⟨h1, h2, h3⟩ := h
  exact ⟨h1.call hb (by omega), h2.call hb (by omega), Nat.lt_of_lt_of_le h3 hb.size⟩
theorem LT7.new (w : World) (d : Sl × Sl) (q : Qd) : LT7 w.heap.size d q ((w.alloc (.cells #[.int .u64 ((d.1).m.toNat : Int), .int .u64 ((d.1).q.toNat : Int), .int .u64 ((d.1).z.toNat : Int), .int .u64 ((d.1).r.a.toNat : Int), .int .u64 ((d.1).r.b.toNat : Int), .int .u64 ((d.1).r.c.toNat : Int), .int .u64 ((d.1).r.d.toNat : Int), .int .u64 ((d.2).m.toNat : Int), .int .u64 ((d.2).q.toNat : Int), .int .u64 ((d.2).z.toNat : Int), .int .u64 ((d.2).r.a.toNat : Int), .int .u64 ((d.2).r.b.toNat : Int), .int .u64 ((d.2).r.c.toNat : Int), .int .u64 ((d.2).r.d.toNat : Int)] 29)).alloc (.cells #[.int .u64 ((q.a).toNat : Int), .int .u64 ((q.b).toNat : Int), .int .u64 ((q.c).toNat : Int), .int .u64 ((q.d).toNat : Int)] 25)) := by
  refine ⟨?_, ?_, by simp⟩
  · exact (Lies.new w [.int .u64 ((d.1).m.toNat : Int), .int .u64 ((d.1).q.toNat : Int), .int .u64 ((d.1).z.toNat : Int), .int .u64 ((d.1).r.a.toNat : Int), .int .u64 ((d.1).r.b.toNat : Int), .int .u64 ((d.1).r.c.toNat : Int), .int .u64 ((d.1).r.d.toNat : Int), .int .u64 ((d.2).m.toNat : Int), .int .u64 ((d.2).q.toNat : Int), .int .u64 ((d.2).z.toNat : Int), .int .u64 ((d.2).r.a.toNat : Int), .int .u64 ((d.2).r.b.toNat : Int), .int .u64 ((d.2).r.c.toNat : Int), .int .u64 ((d.2).r.d.toNat : Int)] 29).call ((Below.refl _ _).alloc (Nat.le_refl _) _) (by simp)
  · have := Lies.new (w.alloc (.cells #[.int .u64 ((d.1).m.toNat : Int), .int .u64 ((d.1).q.toNat : Int), .int .u64 ((d.1).z.toNat : Int), .int .u64 ((d.1).r.a.toNat : Int), .int .u64 ((d.1).r.b.toNat : Int), .int .u64 ((d.1).r.c.toNat : Int), .int .u64 ((d.1).r.d.toNat : Int), .int .u64 ((d.2).m.toNat : Int), .int .u64 ((d.2).q.toNat : Int), .int .u64 ((d.2).z.toNat : Int), .int .u64 ((d.2).r.a.toNat : Int), .int .u64 ((d.2).r.b.toNat : Int), .int .u64 ((d.2).r.c.toNat : Int), .int .u64 ((d.2).r.d.toNat : Int)] 29)) [.int .u64 ((q.a).toNat : Int), .int .u64 ((q.b).toNat : Int), .int .u64 ((q.c).toNat : Int), .int .u64 ((q.d).toNat : Int)] 25
    simp only [World.size_alloc] at this
    exact this
/-- A box of one's own, made behind. -/
theorem Lies.fresh {w : World} (vs : List Value) (ty : TypeId) (V : World) (hV : V = w.alloc (.cells vs.toArray ty)) : Lies w.heap.size 0 vs V := by
  subst hV
  exact Lies.new w vs ty
end Go.Proofs.Ytepgmdgcappfpaa

/-
  What is read of a disk that is mended, cut anywhere.
-/
namespace Go.Proofs.Ytepgmdgcappfpaa
open Go.RowKit Go.MuLone

theorem dws_cons (d : Sl × Sl) (l : Rw) (P : List Rw) : dws d (l :: P) = dws (dput d l) P := rfl
theorem dws_app (d : Sl × Sl) (P R : List Rw) : dws d (P ++ R) = dws (dws d P) R := by unfold dws; rw [List.foldl_append]
theorem sput_m0 (s : Sl) (o : Int) : (sput s o 0).m = s.m ∨ (sput s o 0).m = 0 := by
  unfold sput
  split
  · exact .inr rfl
  · refine .inl ?_
    split
    · rfl
    · split
      · rfl
      · split
        · rfl
        · split
          · rfl
          · split
            · rfl
            · split <;> rfl
theorem play1 : ∀ (P : List Rw), (∀ l ∈ P, l.f = 1 ∧ l.s = 0) → ∀ s t : Sl, (dws (s, t) P).2 = t ∧ ((dws (s, t) P).1.m = s.m ∨ (dws (s, t) P).1.m = 0)
  | [], _, s, t => ⟨rfl, .inl rfl⟩
  | l :: P, h, s, t => by
    obtain ⟨h1, h2⟩ := h l (List.mem_cons_self ..)
    have e : dput (s, t) l = (sput s l.t 0, t) := by unfold dput; rw [if_pos h1, h2]
    rw [dws_cons, e]
    obtain ⟨k1, k2⟩ := play1 P (fun l hl => h l (List.mem_cons_of_mem _ hl)) (sput s l.t 0) t
    refine ⟨k1, ?_⟩
    rcases k2 with k2 | k2
    · rcases sput_m0 s l.t with h3 | h3
      · exact .inl (k2.trans h3)
      · exact .inr (k2.trans h3)
    · exact .inr k2
theorem play2 : ∀ (P : List Rw), (∀ l ∈ P, l.f = 2 ∧ l.s = 0) → ∀ s t : Sl, (dws (s, t) P).1 = s ∧ ((dws (s, t) P).2.m = t.m ∨ (dws (s, t) P).2.m = 0)
  | [], _, s, t => ⟨rfl, .inl rfl⟩
  | l :: P, h, s, t => by
    obtain ⟨h1, h2⟩ := h l (List.mem_cons_self ..)
    have e : dput (s, t) l = (s, sput t l.t 0) := by unfold dput; rw [if_neg (by rw [h1]; decide), if_pos h1, h2]
    rw [dws_cons, e]
    obtain ⟨k1, k2⟩ := play2 P (fun l hl => h l (List.mem_cons_of_mem _ hl)) s (sput t l.t 0)
    refine ⟨k1, ?_⟩
    rcases k2 with k2 | k2
    · rcases sput_m0 t l.t with h3 | h3
      · exact .inl (k2.trans h3)
      · exact .inr (k2.trans h3)
    · exact .inr k2
theorem clr_all (n : Int) (s : Sl) : ∀ k, ∀ l ∈ clr n s k, l.f = n ∧ l.s = 0
  | 0, l, h => by simp [clr] at h
  | k + 1, l, h => by
    unfold clr at h
    split at h
    · exact clr_all n s k l h
    · rcases List.mem_append.1 h with h | h
      · exact clr_all n s k l h
      · rw [List.mem_singleton] at h
        subst h
        exact ⟨rfl, rfl⟩
theorem clr_head (n : Int) (s : Sl) (h : s.m ≠ 0) : ∀ k, ∃ P, clr n s (k + 1) = ⟨n, 0, 0⟩ :: P
  | 0 => ⟨[], by unfold clr; rw [if_neg (by simpa [ws7] using h)]; rfl⟩
  | k + 1 => by
    obtain ⟨P, hP⟩ := clr_head n s h k
    unfold clr
    split
    · exact ⟨P, hP⟩
    · rw [hP]
      exact ⟨_, rfl⟩
theorem lclear_all (n : Int) (s : Sl) : ∀ l ∈ lclear n s, l.f = n ∧ l.s = 0 := by
  intro l h
  unfold lclear at h
  split at h
  · cases h
  · exact clr_all n s 7 l h
theorem take_nil_or {α : Type} (L : List α) (k : Nat) : L.take k = [] ∨ ∃ x P j, L = x :: P ∧ L.take k = x :: P.take j := by
  cases L with
  | nil => exact .inl (by simp)
  | cons x P =>
    cases k with
    | zero => exact .inl rfl
    | succ j => exact .inr ⟨x, P, j, rfl, rfl⟩
theorem mend_one (s t : Sl) (k : Nat) : (dws (s, t) ((lclear 1 s).take k)).2 = t ∧ ((dws (s, t) ((lclear 1 s).take k)).1 = s ∨ slok s = false ∧ slok (dws (s, t) ((lclear 1 s).take k)).1 = false) := by
  have hall := lclear_all 1 s
  obtain ⟨h1, h2⟩ := play1 ((lclear 1 s).take k) (fun l hl => hall l (List.mem_of_mem_take hl)) s t
  refine ⟨h1, ?_⟩
  cases hs : slok s with
  | true =>
    refine .inl ?_
    rw [show lclear 1 s = [] by unfold lclear; rw [if_pos hs], List.take_nil]
    rfl
  | false =>
    rcases take_nil_or (lclear 1 s) k with h | ⟨x, P, j, h, h'⟩
    · rw [h]
      exact .inl rfl
    · refine .inr ⟨rfl, ?_⟩
      by_cases hm : s.m = 0
      · exact slok_m0 _ (h2.elim (fun e => e.trans hm) id)
      · obtain ⟨P', hP'⟩ := clr_head 1 s hm 6
        have e : lclear 1 s = ⟨1, 0, 0⟩ :: P' := by unfold lclear; rw [if_neg (by rw [hs]; decide)]; exact hP'
        rw [h'] at h2 ⊢
        obtain ⟨rfl, rfl⟩ : x = ⟨1, 0, 0⟩ ∧ P = P' := by rw [e] at h; injection h with a b; exact ⟨a.symm, b.symm⟩
        rw [dws_cons]
        have h3 := (play1 (P.take j) (fun l hl => hall l (by rw [h]; exact List.mem_cons_of_mem _ (List.mem_of_mem_take hl))) (sput s 0 0) t).2
        refine slok_m0 _ ?_
        rcases h3 with h3 | h3
        · exact h3
        · exact h3
theorem mend_two (s t : Sl) (k : Nat) : (dws (s, t) ((lclear 2 t).take k)).1 = s ∧ ((dws (s, t) ((lclear 2 t).take k)).2 = t ∨ slok t = false ∧ slok (dws (s, t) ((lclear 2 t).take k)).2 = false) := by
  have hall := lclear_all 2 t
  obtain ⟨h1, h2⟩ := play2 ((lclear 2 t).take k) (fun l hl => hall l (List.mem_of_mem_take hl)) s t
  refine ⟨h1, ?_⟩
  cases hs : slok t with
  | true =>
    refine .inl ?_
    rw [show lclear 2 t = [] by unfold lclear; rw [if_pos hs], List.take_nil]
    rfl
  | false =>
    rcases take_nil_or (lclear 2 t) k with h | ⟨x, P, j, h, h'⟩
    · rw [h]
      exact .inl rfl
    · refine .inr ⟨rfl, ?_⟩
      by_cases hm : t.m = 0
      · exact slok_m0 _ (h2.elim (fun e => e.trans hm) id)
      · obtain ⟨P', hP'⟩ := clr_head 2 t hm 6
        have e : lclear 2 t = ⟨2, 0, 0⟩ :: P' := by unfold lclear; rw [if_neg (by rw [hs]; decide)]; exact hP'
        rw [h'] at h2 ⊢
        obtain ⟨rfl, rfl⟩ : x = ⟨2, 0, 0⟩ ∧ P = P' := by rw [e] at h; injection h with a b; exact ⟨a.symm, b.symm⟩
        rw [dws_cons]
        have h3 := (play2 (P.take j) (fun l hl => hall l (by rw [h]; exact List.mem_cons_of_mem _ (List.mem_of_mem_take hl))) s (sput t 0 0)).2
        refine slok_m0 _ ?_
        rcases h3 with h3 | h3
        · exact h3
        · exact h3
theorem rread_eq (s t s' t' : Sl) (h : s' = s ∨ slok s = false ∧ slok s' = false) (h' : t' = t ∨ slok t = false ∧ slok t' = false) : rread s' t' = rread s t := by
  rcases h with rfl | ⟨h1, h2⟩
  · rcases h' with rfl | ⟨h3, h4⟩
    · rfl
    · unfold rread
      rw [h3, h4]
      simp
  · rcases h' with rfl | ⟨h3, h4⟩
    · unfold rread
      rw [h1, h2]
      simp
    · unfold rread
      rw [h1, h2, h3, h4]
      simp
/-- A recovery that is cut loses nothing. -/
theorem mend_cut (s t : Sl) (k : Nat) : ((dws (s, t) ((rmend s t).take k)).1 = s ∨ slok s = false ∧ slok (dws (s, t) ((rmend s t).take k)).1 = false) ∧ ((dws (s, t) ((rmend s t).take k)).2 = t ∨ slok t = false ∧ slok (dws (s, t) ((rmend s t).take k)).2 = false) := by
  unfold rmend
  rw [List.take_append, dws_app]
  obtain ⟨h1, h2⟩ := mend_one s t k
  generalize hd : dws (s, t) ((lclear 1 s).take k) = d at h1 h2 ⊢
  obtain ⟨s', t'⟩ := d
  simp only at h1 h2
  subst h1
  obtain ⟨h3, h4⟩ := mend_two s' t' (k - (lclear 1 s).length)
  rw [h3]
  exact ⟨h2, h4⟩
theorem rread_mend (s t : Sl) (k : Nat) : rread (dws (s, t) ((rmend s t).take k)).1 (dws (s, t) ((rmend s t).take k)).2 = rread s t := by
  obtain ⟨h1, h2⟩ := mend_cut s t k
  exact rread_eq _ _ _ _ h1 h2
/-- What is read of a disk to which a keep was cut at any place. -/
theorem rread_kept (s t : Sl) (n : Int) (q : Qd) (c : Nat) (hn : -9223372036854775808 ≤ n ∧ n ≤ 9223372036854775807) :
    (((rraws s t n q).length = 8 ∧ 8 ≤ c) ∧ ∃ y : Sl, (y.q.toNat : Int) = ((rread s t).1.q.toNat : Int) + 1 ∧ (y.z.toNat : Int) = n ∧ y.r = q ∧ ((rread s t).1.q.toNat : Int) < 1000000000 ∧ (rread (dws (s, t) ((rraws s t n q).take (ncut (c : Int) (rraws s t n q).length))).1 (dws (s, t) ((rraws s t n q).take (ncut (c : Int) (rraws s t n q).length))).2).1 = y) ∨
    (((rraws s t n q).length = 8 → c < 8) ∧ rread (dws (s, t) ((rraws s t n q).take (ncut (c : Int) (rraws s t n q).length))).1 (dws (s, t) ((rraws s t n q).take (ncut (c : Int) (rraws s t n q).length))).2 = rread s t) := by
  have hb := (rread_bnd s t).1
  have hok := want_ok (rread s t).1 n q hb hn.1 hn.2
  cases h : slok (y1 (want (rread s t).1 n q)) with
  | false =>
    rw [rraws_none s t n q h]
    exact .inr ⟨(fun h => absurd h (by simp)), (by rw [List.take_nil]; rfl)⟩
  | true =>
    have h8 : (rraws s t n q).length = 8 := by rw [rraws_full s t n q h]; rfl
    rw [h] at hok
    have hok' := Bool.and_eq_true_iff.1 hok.symm
    have g1 := of_decide_eq_true hok'.1
    have g2 := of_decide_eq_true hok'.2
    by_cases hc : 8 ≤ c
    · refine .inl ⟨⟨h8, hc⟩, y1 (want (rread s t).1 n q), want_q _ n q hb, want_z _ n q g1.1 g1.2, rfl, g2, ?_⟩
      rw [rread_full s t n q _ (by rw [h8]; unfold ncut; split; omega; split <;> omega) h]
    · refine .inr ⟨fun _ => by omega, rread_cut s t n q _ (by rw [h8]; unfold ncut; split; omega; split <;> omega)⟩
end Go.Proofs.Ytepgmdgcappfpaa

/-
  What a disk is when it is mended whole.
-/
namespace Go.Proofs.Ytepgmdgcappfpaa
open Go.RowKit Go.MuLone

/-- A slot whose first words are emptied. -/
def zk (s : Sl) : Nat → Sl
  | 0 => s
  | k + 1 => sput (zk s k) (k : Int) 0
theorem zk_at (s : Sl) (k : Nat) (hk : k < 7) : (ws7 (zk s k)).getD k 0 = (ws7 s).getD k 0 := by
  obtain rfl | rfl | rfl | rfl | rfl | rfl | rfl : k = 0 ∨ k = 1 ∨ k = 2 ∨ k = 3 ∨ k = 4 ∨ k = 5 ∨ k = 6 := by omega
  all_goals rfl
theorem sput_id (x : Sl) (k : Nat) (hk : k < 7) (h : (ws7 x).getD k 0 = 0) : sput x (k : Int) 0 = x := by
  obtain ⟨m, q, z, ⟨a, b, c, d⟩⟩ := x
  obtain rfl | rfl | rfl | rfl | rfl | rfl | rfl : k = 0 ∨ k = 1 ∨ k = 2 ∨ k = 3 ∨ k = 4 ∨ k = 5 ∨ k = 6 := by omega
  all_goals (simp [ws7] at h; subst h; rfl)
theorem zk_all (s : Sl) : zk s 7 = zro := rfl
theorem clr_one (s t : Sl) : ∀ k, k ≤ 7 → dws (s, t) (clr 1 s k) = (zk s k, t)
  | 0, _ => rfl
  | k + 1, hk => by
    unfold clr
    split
    · rename_i h
      rw [clr_one s t k (by omega), show zk s (k + 1) = zk s k from sput_id _ k (by omega) ((zk_at s k (by omega)).trans h)]
    · rw [dws_app, clr_one s t k (by omega), dws_cons, dws_nil]
      rfl
theorem clr_two (s t : Sl) : ∀ k, k ≤ 7 → dws (s, t) (clr 2 t k) = (s, zk t k)
  | 0, _ => rfl
  | k + 1, hk => by
    unfold clr
    split
    · rename_i h
      rw [clr_two s t k (by omega), show zk t (k + 1) = zk t k from sput_id _ k (by omega) ((zk_at t k (by omega)).trans h)]
    · rw [dws_app, clr_two s t k (by omega), dws_cons, dws_nil]
      rfl
/-- A slot that is right, or nothing. -/
def fixd (s : Sl) : Sl := if slok s then s else zro
theorem rmend_whole (s t : Sl) : dws (s, t) (rmend s t) = (fixd s, fixd t) := by
  have h1 : ∀ t, dws (s, t) (lclear 1 s) = (fixd s, t) := fun t => by
    unfold lclear fixd
    split
    · rfl
    · rw [clr_one s t 7 (by omega), zk_all]
  have h2 : ∀ s, dws (s, t) (lclear 2 t) = (s, fixd t) := fun s => by
    unfold lclear fixd
    split
    · rfl
    · rw [clr_two s t 7 (by omega), zk_all]
  unfold rmend
  rw [dws_app, h1, h2]
theorem clr_zro (n : Int) : ∀ k, clr n zro k = []
  | 0 => rfl
  | k + 1 => by
    have h : (ws7 zro).getD k 0 = 0 := by
      show ([0, 0, 0, 0, 0, 0, 0] : List UInt64).getD k 0 = 0
      by_cases hk : k < 7
      · obtain rfl | rfl | rfl | rfl | rfl | rfl | rfl : k = 0 ∨ k = 1 ∨ k = 2 ∨ k = 3 ∨ k = 4 ∨ k = 5 ∨ k = 6 := by omega
        all_goals rfl
      · rw [List.getD_eq_getElem?_getD, List.getElem?_eq_none (by simp; omega)]
        rfl
    unfold clr
    rw [if_pos h, clr_zro n k]
theorem lclear_fixd (n : Int) (s : Sl) : lclear n (fixd s) = [] := by
  unfold lclear
  split
  · rfl
  · rename_i h
    have e : fixd s = zro := by
      unfold fixd at h ⊢
      split at h
      · rename_i h'
        exact absurd h' h
      · rename_i h'
        rw [if_neg h']
    rw [e]
    exact clr_zro n 7
theorem rmend_fixd (s t : Sl) : rmend (fixd s) (fixd t) = [] := by unfold rmend; rw [lclear_fixd, lclear_fixd]; rfl
theorem fixd_or (s : Sl) : slok (fixd s) = true ∨ fixd s = zro := by
  unfold fixd
  split
  · rename_i h; exact .inl h
  · exact .inr rfl
theorem rmend_len (s t : Sl) : (rmend s t).length ≤ 14 := by
  unfold rmend
  rw [List.length_append]
  have := lclear_len 1 s
  have := lclear_len 2 t
  omega
end Go.Proofs.Ytepgmdgcappfpaa
