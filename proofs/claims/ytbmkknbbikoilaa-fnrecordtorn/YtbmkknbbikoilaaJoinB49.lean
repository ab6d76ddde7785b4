/-
  What the laws of records have in common: the boxes of a drawn disk, size and root.
-/
import Derived.Test.YtbmkknbbikoilaaDRaws
import Derived.Test.YtbmkknbbikoilaaJoinB46
import Derived.Test.YtbmkknbbikoilaaRMend
import Derived.Test.YtbmkknbbikoilaaCuts
import Derived.Test.YtbmkknbbikoilaaRows
import Derived.Test.YtbmkknbbikoilaaJoinB1
import Derived.Test.YtbmkknbbikoilaaJoinB2
import Derived.Deep.QuietTactic
import Derived.BigQuiet
import Derived.Deep.RegionWith
import Derived.Deep.RegionHeld3
import Derived.Deep.RegionHeld
import Derived.Deep.CutRange
import Derived.Deep.DeepCutAuto
import Derived.Deep.CutBlock
import Derived.Laws.Tables
import Derived.Test.YtbmkknbbikoilaaJoinB14
import Derived.Test.YtbmkknbbikoilaaWalks11
import Derived.Test.YtbmkknbbikoilaaLawLeaf
namespace Go.Proofs.Ytbmkknbbikoilaa
open Go.RowKit Go.MuLone

set_option maxRecDepth 20000 in
theorem agg_rec : AggTy 47 6 := ⟨⟨_, Try.underlying47, rfl⟩, by kernel_rfl⟩
/-- The boxes of the disk and of the root. -/
def LT7 (D : Nat) (d : Sl × Sl) (q : Qd) (wx : World) : Prop := Lies D 0 [.int .u64 ((d.1).m.toNat : Int), .int .u64 ((d.1).q.toNat : Int), .int .u64 ((d.1).z.toNat : Int), .int .u64 ((d.1).r.a.toNat : Int), .int .u64 ((d.1).r.b.toNat : Int), .int .u64 ((d.1).r.c.toNat : Int), .int .u64 ((d.1).r.d.toNat : Int), .int .u64 ((d.2).m.toNat : Int), .int .u64 ((d.2).q.toNat : Int), .int .u64 ((d.2).z.toNat : Int), .int .u64 ((d.2).r.a.toNat : Int), .int .u64 ((d.2).r.b.toNat : Int), .int .u64 ((d.2).r.c.toNat : Int), .int .u64 ((d.2).r.d.toNat : Int)] wx ∧ Lies (D + 1) 0 [.int .u64 ((q.a).toNat : Int), .int .u64 ((q.b).toNat : Int), .int .u64 ((q.c).toNat : Int), .int .u64 ((q.d).toNat : Int)] wx ∧ D + 1 < wx.heap.size
theorem LT7.call {D : Nat} {d : Sl × Sl} {q : Qd} {w1 w2 : World} (h : LT7 D d q w1) (hb : Below w1.heap.size w1 w2) : LT7 D d q w2 := by
  obtain ⟨h1, h2, h3⟩ := h
  exact ⟨h1.call hb (by omega), h2.call hb (by omega), Nat.lt_of_lt_of_le h3 hb.size⟩
theorem LT7.new (w : World) (d : Sl × Sl) (q : Qd) : LT7 w.heap.size d q ((w.alloc (.cells #[.int .u64 ((d.1).m.toNat : Int), .int .u64 ((d.1).q.toNat : Int), .int .u64 ((d.1).z.toNat : Int), .int .u64 ((d.1).r.a.toNat : Int), .int .u64 ((d.1).r.b.toNat : Int), .int .u64 ((d.1).r.c.toNat : Int), .int .u64 ((d.1).r.d.toNat : Int), .int .u64 ((d.2).m.toNat : Int), .int .u64 ((d.2).q.toNat : Int), .int .u64 ((d.2).z.toNat : Int), .int .u64 ((d.2).r.a.toNat : Int), .int .u64 ((d.2).r.b.toNat : Int), .int .u64 ((d.2).r.c.toNat : Int), .int .u64 ((d.2).r.d.toNat : Int)] 35)).alloc (.cells #[.int .u64 ((q.a).toNat : Int), .int .u64 ((q.b).toNat : Int), .int .u64 ((q.c).toNat : Int), .int .u64 ((q.d).toNat : Int)] 31)) := by
  refine ⟨?_, ?_, by simp⟩
  · exact (Lies.new w [.int .u64 ((d.1).m.toNat : Int), .int .u64 ((d.1).q.toNat : Int), .int .u64 ((d.1).z.toNat : Int), .int .u64 ((d.1).r.a.toNat : Int), .int .u64 ((d.1).r.b.toNat : Int), .int .u64 ((d.1).r.c.toNat : Int), .int .u64 ((d.1).r.d.toNat : Int), .int .u64 ((d.2).m.toNat : Int), .int .u64 ((d.2).q.toNat : Int), .int .u64 ((d.2).z.toNat : Int), .int .u64 ((d.2).r.a.toNat : Int), .int .u64 ((d.2).r.b.toNat : Int), .int .u64 ((d.2).r.c.toNat : Int), .int .u64 ((d.2).r.d.toNat : Int)] 35).call ((Below.refl _ _).alloc (Nat.le_refl _) _) (by simp)
  · have := Lies.new (w.alloc (.cells #[.int .u64 ((d.1).m.toNat : Int), .int .u64 ((d.1).q.toNat : Int), .int .u64 ((d.1).z.toNat : Int), .int .u64 ((d.1).r.a.toNat : Int), .int .u64 ((d.1).r.b.toNat : Int), .int .u64 ((d.1).r.c.toNat : Int), .int .u64 ((d.1).r.d.toNat : Int), .int .u64 ((d.2).m.toNat : Int), .int .u64 ((d.2).q.toNat : Int), .int .u64 ((d.2).z.toNat : Int), .int .u64 ((d.2).r.a.toNat : Int), .int .u64 ((d.2).r.b.toNat : Int), .int .u64 ((d.2).r.c.toNat : Int), .int .u64 ((d.2).r.d.toNat : Int)] 35)) [.int .u64 ((q.a).toNat : Int), .int .u64 ((q.b).toNat : Int), .int .u64 ((q.c).toNat : Int), .int .u64 ((q.d).toNat : Int)] 31
    simp only [World.size_alloc] at this
    exact this
/-- A box of one's own, made behind. -/
theorem Lies.fresh {w : World} (vs : List Value) (ty : TypeId) (V : World) (hV : V = w.alloc (.cells vs.toArray ty)) : Lies w.heap.size 0 vs V := by
  subst hV
  exact Lies.new w vs ty
end Go.Proofs.Ytbmkknbbikoilaa

/-
  What is read of a disk that is mended, cut anywhere.
-/
namespace Go.Proofs.Ytbmkknbbikoilaa
open Go.RowKit Go.MuLone

theorem dws_cons (d : Sl × Sl) (l : Rw) (P : List Rw) : dws d (l :: P) = dws (dput d l) P := rfl
theorem dws_app (d : Sl × Sl) (P R : List Rw) : dws d (P ++ R) = dws (dws d P) R := by unfold dws; rw [List.foldl_append]
theorem sput_m0 (s : Sl) (o : Int) : (sput s o 0).m = s.m ∨ (sput s o 0).m = 0 := by
  unfold sput
  split
  · exact .inr rfl
  · refine .inl ?_
    split
    · rfl
    · split
      · rfl
      · split
        · rfl
        · split
          · rfl
          · split
            · rfl
            · split <;> rfl
theorem play1 : ∀ (P : List Rw), (∀ l ∈ P, l.f = 1 ∧ l.s = 0) → ∀ s t : Sl, (dws (s, t) P).2 = t ∧ ((dws (s, t) P).1.m = s.m ∨ (dws (s, t) P).1.m = 0)
  | [], _, s, t => ⟨rfl, .inl rfl⟩
  | l :: P, h, s, t => by
    obtain ⟨h1, h2⟩ := h l (List.mem_cons_self ..)
    have e : dput (s, t) l = (sput s l.t 0, t) := by unfold dput; rw [if_pos h1, h2]
    rw [dws_cons, e]
    obtain ⟨k1, k2⟩ := play1 P (fun l hl => h l (List.mem_cons_of_mem _ hl)) (sput s l.t 0) t
    refine ⟨k1, ?_⟩
    rcases k2 with k2 | k2
    · rcases sput_m0 s l.t with h3 | h3
      · exact .inl (k2.trans h3)
      · exact .inr (k2.trans h3)
    · exact .inr k2
theorem play2 : ∀ (P : List Rw), (∀ l ∈ P, l.f = 2 ∧ l.s = 0) → ∀ s t : Sl, (dws (s, t) P).1 = s ∧ ((dws (s, t) P).2.m = t.m ∨ (dws (s, t) P).2.m = 0)
  | [], _, s, t => ⟨rfl, .inl rfl⟩
  | l :: P, h, s, t => by
    obtain ⟨h1, h2⟩ := h l (List.mem_cons_self ..)
    have e : dput (s, t) l = (s, sput t l.t 0) := by unfold dput; rw [if_neg (by rw [h1]; decide), if_pos h1, h2]
    rw [dws_cons, e]
    obtain ⟨k1, k2⟩ := play2 P (fun l hl => h l (List.mem_cons_of_mem _ hl)) s (sput t l.t 0)
    refine ⟨k1, ?_⟩
    rcases k2 with k2 | k2
    · rcases sput_m0 t l.t with h3 | h3
      · exact .inl (k2.trans h3)
      · exact .inr (k2.trans h3)
    · exact .inr k2
theorem clr_all (n : Int) (s : Sl) : ∀ k, ∀ l ∈ clr n s k, l.f = n ∧ l.s = 0
  | 0, l, h => by simp [clr] at h
  | k + 1, l, h => by
    unfold clr at h
    split at h
    · exact clr_all n s k l h
    · rcases List.mem_append.1 h with h | h
      · exact clr_all n s k l h
      · rw [List.mem_singleton] at h
        subst h
        exact ⟨rfl, rfl⟩
theorem clr_head (n : Int) (s : Sl) (h : s.m ≠ 0) : ∀ k, ∃ P, clr n s (k + 1) = ⟨n, 0, 0⟩ :: P
  | 0 => ⟨[], by unfold clr; rw [if_neg (by simpa [ws7] using h)]; rfl⟩
  | k + 1 => by
    obtain ⟨P, hP⟩ := clr_head n s h k
    unfold clr
    split
    · exact ⟨P, hP⟩
    · rw [hP]
      exact ⟨_, rfl⟩
theorem lclear_all (n : Int) (s : Sl) : ∀ l ∈ lclear n s, l.f = n ∧ l.s = 0 := by
  intro l h
  unfold lclear at h
  split at h
  · cases h
  · exact clr_all n s 7 l h
theorem take_nil_or {α : Type} (L : List α) (k : Nat) : L.take k = [] ∨ ∃ x P j, L = x :: P ∧ L.take k = x :: P.take j := by
  cases L with
  | nil => exact .inl (by simp)
  | cons x P =>
    cases k with
    | zero => exact .inl rfl
    | succ j => exact .inr ⟨x, P, j, rfl, rfl⟩
theorem mend_one (s t : Sl) (k : Nat) : (dws (s, t) ((lclear 1 s).take k)).2 = t ∧ ((dws (s, t) ((lclear 1 s).take k)).1 = s ∨ slok s = false ∧ slok (dws (s, t) ((lclear 1 s).take k)).1 = false) := by
  have hall := lclear_all 1 s
  obtain ⟨h1, h2⟩ := play1 ((lclear 1 s).take k) (fun l hl => hall l (List.mem_of_mem_take hl)) s t
  refine ⟨h1, ?_⟩
  cases hs : slok s with
  | true =>
    refine .inl ?_
    rw [show lclear 1 s = [] by unfold lclear; rw [if_pos hs], List.take_nil]
    rfl
  | false =>
    rcases take_nil_or (lclear 1 s) k with h | ⟨x, P, j, h, h'⟩
    · rw [h]
      exact .inl rfl
    · refine .inr ⟨rfl, ?_⟩
      by_cases hm : s.m = 0
      · exact slok_m0 _ (h2.elim (fun e => e.trans hm) id)
      · obtain ⟨P', hP'⟩ := clr_head 1 s hm 6
        have e : lclear 1 s = ⟨1, 0, 0⟩ :: P' := by unfold lclear; rw [if_neg (by rw [hs]; decide)]; exact hP'
        rw [h'] at h2 ⊢
        obtain ⟨rfl, rfl⟩ : x = ⟨1, 0, 0⟩ ∧ P = P' := by rw [e] at h; injection h with a b; exact ⟨a.symm, b.symm⟩
        rw [dws_cons]
        have h3 := (play1 (P.take j) (fun l hl => hall l (by rw [h]; exact List.mem_cons_of_mem _ (List.mem_of_mem_take hl))) (sput s 0 0) t).2
        refine slok_m0 _ ?_
        rcases h3 with h3 | h3
        · exact h3
        · exact h3
theorem mend_two (s t : Sl) (k : Nat) : (dws (s, t) ((lclear 2 t).take k)).1 = s ∧ ((dws (s, t) ((lclear 2 t).take k)).2 = t ∨ slok t = false ∧ slok (dws (s, t) ((lclear 2 t).take k)).2 = false) := by
  have hall := lclear_all 2 t
  obtain ⟨h1, h2⟩ := play2 ((lclear 2 t).take k) (fun l hl => hall l (List.mem_of_mem_take hl)) s t
  refine ⟨h1, ?_⟩
  cases hs : slok t with
  | true =>
    refine .inl ?_
    rw [show lclear 2 t = [] by unfold lclear; rw [if_pos hs], List.take_nil]
    rfl
  | false =>
    rcases take_nil_or (lclear 2 t) k with h | ⟨x, P, j, h, h'⟩
    · rw [h]
      exact .inl rfl
    · refine .inr ⟨rfl, ?_⟩
      by_cases hm : t.m = 0
      · exact slok_m0 _ (h2.elim (fun e => e.trans hm) id)
      · obtain ⟨P', hP'⟩ := clr_head 2 t hm 6
        have e : lclear 2 t = ⟨2, 0, 0⟩ :: P' := by unfold lclear; rw [if_neg (by rw [hs]; decide)]; exact hP'
        rw [h'] at h2 ⊢
        obtain ⟨rfl, rfl⟩ : x = ⟨2, 0, 0⟩ ∧ P = P' := by rw [e] at h; injection h with a b; exact ⟨a.symm, b.symm⟩
        rw [dws_cons]
        have h3 := (play2 (P.take j) (fun l hl => hall l (by rw [h]; exact List.mem_cons_of_mem _ (List.mem_of_mem_take hl))) s (sput t 0 0)).2
        refine slok_m0 _ ?_
        rcases h3 with h3 | h3
        · exact h3
        · exact h3
theorem rread_eq (s t s' t' : Sl) (h : s' = s ∨ slok s = false ∧ slok s' = false) (h' : t' = t ∨ slok t = false ∧ slok t' = false) : rread s' t' = rread s t := by
  rcases h with rfl | ⟨h1, h2⟩
  · rcases h' with rfl | ⟨h3, h4⟩
    · rfl
    · unfold rread
      rw [h3, h4]
      simp
  · rcases h' with rfl | ⟨h3, h4⟩
    · unfold rread
      rw [h1, h2]
      simp
    · unfold rread
      rw [h1, h2, h3, h4]
      simp
/-- A recovery that is cut loses nothing. -/
theorem mend_cut (s t : Sl) (k : Nat) : ((dws (s, t) ((rmend s t).take k)).1 = s ∨ slok s = false ∧ slok (dws (s, t) ((rmend s t).take k)).1 = false) ∧ ((dws (s, t) ((rmend s t).take k)).2 = t ∨ slok t = false ∧ slok (dws (s, t) ((rmend s t).take k)).2 = false) := by
  unfold rmend
  rw [List.take_append, dws_app]
  obtain ⟨h1, h2⟩ := mend_one s t k
  generalize hd : dws (s, t) ((lclear 1 s).take k) = d at h1 h2 ⊢
  obtain ⟨s', t'⟩ := d
  simp only at h1 h2
  subst h1
  obtain ⟨h3, h4⟩ := mend_two s' t' (k - (lclear 1 s).length)
  rw [h3]
  exact ⟨h2, h4⟩
theorem rread_mend (s t : Sl) (k : Nat) : rread (dws (s, t) ((rmend s t).take k)).1 (dws (s, t) ((rmend s t).take k)).2 = rread s t := by
  obtain ⟨h1, h2⟩ := mend_cut s t k
  exact rread_eq _ _ _ _ h1 h2
/-- What is read of a disk to which a keep was cut at any place. -/
theorem rread_kept (s t : Sl) (n : Int) (q : Qd) (c : Nat) (hn : -9223372036854775808 ≤ n ∧ n ≤ 9223372036854775807) :
    (((rraws s t n q).length = 8 ∧ 8 ≤ c) ∧ ∃ y : Sl, (y.q.toNat : Int) = ((rread s t).1.q.toNat : Int) + 1 ∧ (y.z.toNat : Int) = n ∧ y.r = q ∧ ((rread s t).1.q.toNat : Int) < 1000000000 ∧ (rread (dws (s, t) ((rraws s t n q).take (ncut (c : Int) (rraws s t n q).length))).1 (dws (s, t) ((rraws s t n q).take (ncut (c : Int) (rraws s t n q).length))).2).1 = y) ∨
    (((rraws s t n q).length = 8 → c < 8) ∧ rread (dws (s, t) ((rraws s t n q).take (ncut (c : Int) (rraws s t n q).length))).1 (dws (s, t) ((rraws s t n q).take (ncut (c : Int) (rraws s t n q).length))).2 = rread s t) := by
  have hb := (rread_bnd s t).1
  have hok := want_ok (rread s t).1 n q hb hn.1 hn.2
  cases h : slok (y1 (want (rread s t).1 n q)) with
  | false =>
    rw [rraws_none s t n q h]
    exact .inr ⟨(fun h => absurd h (by simp)), (by rw [List.take_nil]; rfl)⟩
  | true =>
    have h8 : (rraws s t n q).length = 8 := by rw [rraws_full s t n q h]; rfl
    rw [h] at hok
    have hok' := Bool.and_eq_true_iff.1 hok.symm
    have g1 := of_decide_eq_true hok'.1
    have g2 := of_decide_eq_true hok'.2
    by_cases hc : 8 ≤ c
    · refine .inl ⟨⟨h8, hc⟩, y1 (want (rread s t).1 n q), want_q _ n q hb, want_z _ n q g1.1 g1.2, rfl, g2, ?_⟩
      rw [rread_full s t n q _ (by rw [h8]; unfold ncut; split; omega; split <;> omega) h]
    · refine .inr ⟨fun _ => by omega, rread_cut s t n q _ (by rw [h8]; unfold ncut; split; omega; split <;> omega)⟩
end Go.Proofs.Ytbmkknbbikoilaa

/-
  l1PairText.
-/
namespace Go.Proofs.Ytbmkknbbikoilaa
open Go.RowKit

set_option maxRecDepth 100000 in
theorem db_len (q : Qd) : (db q).length = 32 := rfl

end Go.Proofs.Ytbmkknbbikoilaa

/-
  HashPair of the specification.
-/
namespace Go.Proofs.Ytbmkknbbikoilaa
open Go.RowKit

end Go.Proofs.Ytbmkknbbikoilaa
