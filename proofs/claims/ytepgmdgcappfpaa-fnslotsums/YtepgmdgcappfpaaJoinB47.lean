/-
  What is read of a disk to which a keep was cut.
-/
import Derived.Test.YtepgmdgcappfpaaRRaws2
import Derived.Test.YtepgmdgcappfpaaRows
import Derived.Deep.RegionHeld
namespace Go.Proofs.Ytepgmdgcappfpaa
open Go.RowKit Go.MuLone

theorem slok_m0 (t : Sl) (h : t.m = 0) : slok t = false := by
  cases e : slok t with
  | false => rfl
  | true =>
    unfold slok at e
    rw [Bool.and_eq_true, decide_eq_true_iff] at e
    exact absurd (e.1.symm.trans h) (sum_ne t)
theorem kraws_le (n : Int) (y : Sl) : (kraws n y).length ≤ 1000 := by
  unfold kraws
  split
  · show 8 ≤ 1000
    omega
  · simp
theorem dws_nil (d : Sl × Sl) : dws d [] = d := rfl
theorem k8_len (n : Int) (y : Sl) : (k8 n y).length = 8 := rfl
/-- A keep into the first slot, cut: the other stays, and the first is as it was, or has no sum. -/
theorem k8_one (s t y : Sl) (c : Nat) (hc : c ≤ 7) : (dws (s, t) ((k8 1 y).take c)).2 = t ∧ ((dws (s, t) ((k8 1 y).take c)).1 = s ∨ (dws (s, t) ((k8 1 y).take c)).1.m = 0) := by
  obtain rfl | rfl | rfl | rfl | rfl | rfl | rfl | rfl : c = 0 ∨ c = 1 ∨ c = 2 ∨ c = 3 ∨ c = 4 ∨ c = 5 ∨ c = 6 ∨ c = 7 := by omega
  · exact ⟨rfl, .inl rfl⟩
  all_goals exact ⟨rfl, .inr rfl⟩
theorem k8_two (s t y : Sl) (c : Nat) (hc : c ≤ 7) : (dws (s, t) ((k8 2 y).take c)).1 = s ∧ ((dws (s, t) ((k8 2 y).take c)).2 = t ∨ (dws (s, t) ((k8 2 y).take c)).2.m = 0) := by
  obtain rfl | rfl | rfl | rfl | rfl | rfl | rfl | rfl : c = 0 ∨ c = 1 ∨ c = 2 ∨ c = 3 ∨ c = 4 ∨ c = 5 ∨ c = 6 ∨ c = 7 := by omega
  · exact ⟨rfl, .inl rfl⟩
  all_goals exact ⟨rfl, .inr rfl⟩
theorem k8_one8 (s t y : Sl) (c : Nat) (hc : 8 ≤ c) : dws (s, t) ((k8 1 y).take c) = (y1 y, t) := by
  rw [List.take_of_length_le (by rw [k8_len]; exact hc)]
  rfl
theorem k8_two8 (s t y : Sl) (c : Nat) (hc : 8 ≤ c) : dws (s, t) ((k8 2 y).take c) = (s, y1 y) := by
  rw [List.take_of_length_le (by rw [k8_len]; exact hc)]
  rfl
/-- A slot that is not read may become one that is not right. -/
theorem rread_one (s t s' : Sl) (h : (rread s t).2 ≠ 1) (h' : s' = s ∨ slok s' = false) : rread s' t = rread s t := by
  rcases h' with rfl | h'
  · rfl
  · unfold rread at h ⊢
    by_cases hs : slok s = true ∧ (slok t = false ∨ t.q.toNat ≤ s.q.toNat)
    · rw [if_pos hs] at h
      exact absurd rfl h
    · rw [if_neg hs, if_neg (by rw [h']; simp)]
theorem rread_two (s t t' : Sl) (h : (rread s t).2 = 1) (h' : t' = t ∨ slok t' = false) : rread s t' = rread s t := by
  rcases h' with rfl | h'
  · rfl
  · unfold rread at h ⊢
    by_cases hs : slok s = true ∧ (slok t = false ∨ t.q.toNat ≤ s.q.toNat)
    · rw [if_pos hs, if_pos ⟨hs.1, .inl h'⟩]
    · rw [if_neg hs] at h
      split at h <;> simp at h
/-- The number of the slot that a keep writes. -/
def tonum (s t : Sl) : Int := if (rread s t).2 = 1 then 2 else 1
theorem rraws_full (s t : Sl) (n : Int) (q : Qd) (h : slok (y1 (want (rread s t).1 n q)) = true) : rraws s t n q = k8 (tonum s t) (want (rread s t).1 n q) := by
  unfold rraws kraws tonum
  rw [if_pos h]
theorem rraws_none (s t : Sl) (n : Int) (q : Qd) (h : slok (y1 (want (rread s t).1 n q)) = false) : rraws s t n q = [] := by
  unfold rraws kraws
  rw [if_neg (by rw [h]; decide)]
theorem rread_cut (s t : Sl) (n : Int) (q : Qd) (c : Nat) (hc : c ≤ 7) : rread (dws (s, t) ((rraws s t n q).take c)).1 (dws (s, t) ((rraws s t n q).take c)).2 = rread s t := by
  cases h : slok (y1 (want (rread s t).1 n q)) with
  | false =>
    rw [rraws_none s t n q h, List.take_nil]
    rfl
  | true =>
    rw [rraws_full s t n q h]
    unfold tonum
    by_cases h1 : (rread s t).2 = 1
    · rw [if_pos h1]
      obtain ⟨e1, e2⟩ := k8_two s t (want (rread s t).1 n q) c hc
      rw [e1]
      exact rread_two s t _ h1 (e2.imp id (slok_m0 _))
    · rw [if_neg h1]
      obtain ⟨e1, e2⟩ := k8_one s t (want (rread s t).1 n q) c hc
      rw [e1]
      exact rread_one s t _ h1 (e2.imp id (slok_m0 _))
theorem want_q (x : Sl) (n : Int) (q : Qd) (hx : (x.q.toNat : Int) ≤ 1000000000) : ((y1 (want x n q)).q.toNat : Int) = (x.q.toNat : Int) + 1 := by
  show ((toU ((x.q.toNat : Int) + 1)).toNat : Int) = _
  rw [toU_nat]
  omega
theorem want_z (x : Sl) (n : Int) (q : Qd) (h1 : 1 ≤ n) (h2 : n ≤ 256) : ((y1 (want x n q)).z.toNat : Int) = n := by
  show ((toU n).toNat : Int) = _
  rw [toU_nat]
  omega
/-- A keep that is done wholly is read, in the other slot. -/
theorem rread_full (s t : Sl) (n : Int) (q : Qd) (c : Nat) (hc : 8 ≤ c) (h : slok (y1 (want (rread s t).1 n q)) = true) :
    rread (dws (s, t) ((rraws s t n q).take c)).1 (dws (s, t) ((rraws s t n q).take c)).2 = (y1 (want (rread s t).1 n q), tonum s t) := by
  have hq := want_q (rread s t).1 n q (rread_bnd s t).1
  rw [rraws_full s t n q h]
  generalize want (rread s t).1 n q = y at h hq ⊢
  unfold tonum
  by_cases h1 : (rread s t).2 = 1
  · rw [if_pos h1, k8_two8 s t y c hc]
    have e : (rread s t).1 = s := by
      unfold rread at h1 ⊢
      split
      · rfl
      · rename_i hn
        rw [if_neg hn] at h1
        split at h1 <;> simp at h1
    rw [e] at hq
    unfold rread
    rw [if_neg (by
      rintro ⟨-, h2 | h2⟩
      · rw [h] at h2
        exact absurd h2 (by decide)
      · have h3 : (y1 y).q.toNat ≤ s.q.toNat := h2
        omega), if_pos h]
  · rw [if_neg h1, k8_one8 s t y c hc]
    unfold rread
    refine if_pos ⟨h, ?_⟩
    cases ht : slok t with
    | false => exact .inl rfl
    | true =>
      refine .inr ?_
      have e : (rread s t).1 = t := by
        unfold rread at h1 ⊢
        split
        · rename_i hp
          rw [if_pos hp] at h1
          exact absurd rfl h1
        · rfl
      rw [e] at hq
      show t.q.toNat ≤ (y1 y).q.toNat
      omega
theorem tonum_ne (s t : Sl) : tonum s t ≠ (rread s t).2 := by
  unfold tonum
  split
  · rename_i h; rw [h]; decide
  · rename_i h; exact fun e => h e.symm
end Go.Proofs.Ytepgmdgcappfpaa

/-
  A region that draws its order, whose last operation (number l: it waits for all others) writes what the others load: the condition S stands up to it.
-/
namespace Go.Proofs.Ytepgmdgcappfpaa
open Go

section
variable {P : Program} {ops : Array Oper} {Q : Exit → Act → World → Prop} {md : Region.Mode} {S : World → Prop} {l : Nat}
/-- Whatever order is picked from here on, and S holds behind every operation but number l. -/
def wpAnyX (P : Program) (md : Region.Mode) (ops : Array Oper) (Q : Exit → Act → World → Prop) (S : World → Prop) (l : Nat) : Nat → Array Bool → Act → World → Prop
  | 0, listed, a, w => Region.ready md ops listed = [] ∧ Q .normal a w
  | fuel + 1, listed, a, w =>
    (Region.ready md ops listed = [] → Q .normal a w) ∧
    ∀ i ∈ Region.ready md ops listed, wpOp P ops Q i (fun a' w' => (i ≠ l → S w') ∧ wpAnyX P md ops Q S l fuel (listed.setIfInBounds i true) a' w') a w
theorem wpAny_of_X : ∀ (fuel : Nat) (listed : Array Bool) (a : Act) (w : World), wpAnyX P md ops Q S l fuel listed a w → wpAny P md ops Q fuel listed a w
  | 0, _, _, _, h => h
  | fuel + 1, _, _, _, h => ⟨h.1, fun i hi => wpOp_mono (fun a' w' h' => wpAny_of_X fuel _ a' w' h'.2) (h.2 i hi)⟩
/-- Operation number l waits for number i. -/
def waitsX (md : Region.Mode) (ops : Array Oper) (l i : Nat) : Bool := match ops[l]? with | some o => o.after.any (fun e => Region.binds md e && (e.on == i)) | none => true
theorem waitsX_spec {i : Nat} {listed : Array Bool} (h : waitsX md ops l i = true) (hi : i ∈ Region.ready md ops listed) (hl : l ∈ Region.ready md ops listed) : False := by
  obtain ⟨hun, o, ho, hall⟩ := mem_ready.1 hl
  unfold waitsX at h
  rw [ho] at h
  simp only [Array.any_eq_true'] at h
  obtain ⟨e, he, h2⟩ := h
  rw [Bool.and_eq_true, beq_iff_eq] at h2
  obtain ⟨h3, rfl⟩ := h2
  have h1 := hall e he h3
  have h0 := (mem_ready.1 hi).1
  rcases Nat.lt_or_ge e.on listed.size with h' | h'
  · simp [h'] at h0 h1; rw [h0] at h1; cases h1
  · simp [Array.getElem?_eq_none h'] at h1
theorem wpAnyX_first {i : Nat} {oi : Oper} {v : Value} (hi : ops[i]? = some oi) (hsel : ∀ (j : Nat) (o : Oper) cs b, ops[j]? = some o → o.op ≠ .select cs b)
    (hQ : ∀ c a w, Q (.panic c) (a.put oi.dst v) w → Q (.panic c) a w) (hil : i ≠ l) (hw : waitsX md ops l i = true) :
    ∀ (fuel : Nat) (listed : Array Bool) (a : Act) (w : World),
      (∀ j oj, ops[j]? = some oj → j ≠ i → listed.getD j true = false → (∀ e ∈ oj.after, Region.binds md e = true → e.on ≠ i) → oi.apart ops oj = true) →
      i ∈ Region.ready md ops listed → YieldsIf P ops S oi v a → S w →
      wpAnyX P md ops Q S l fuel (listed.setIfInBounds i true) (a.put oi.dst v) w → wpAnyX P md ops Q S l (fuel + 1) listed a w := by
  intro fuel
  induction fuel with
  | zero =>
    intro listed a w _ hr hy hS H
    refine ⟨fun h => (by rw [h] at hr; cases hr), fun j hj => ?_⟩
    by_cases hji : j = i
    · subst hji; exact hy.wpOp hi hS ⟨fun _ => hS, H⟩
    · have := ready_mono hj hji
      rw [H.1] at this
      cases this
  | succ fuel ih =>
    intro listed a w hfree hr hy hS H
    refine ⟨fun h => (by rw [h] at hr; cases hr), fun j hj => ?_⟩
    by_cases hji : j = i
    · subst hji; exact hy.wpOp hi hS ⟨fun _ => hS, H⟩
    · have hjl : j ≠ l := fun e => waitsX_spec hw hr (e ▸ hj)
      have h1 := H.2 j (ready_mono hj hji)
      obtain ⟨hjun, oj, hoj, hall⟩ := mem_ready.1 hj
      have hnot : ∀ e ∈ oj.after, Region.binds md e = true → e.on ≠ i := fun e he hb heq => by
        have h1 := hall e he hb
        have h0 := (mem_ready.1 hr).1
        rw [heq] at h1
        rcases Nat.lt_or_ge i listed.size with h' | h'
        · simp [h'] at h0 h1; rw [h0] at h1; cases h1
        · simp [Array.getElem?_eq_none h'] at h1
      have h2 := wpOp_putIf hoj (hfree j oj hoj hji hjun hnot) (fun cs b => hsel i oi cs b hi) (fun cs b => hsel j oj cs b hoj) hQ hy h1
      have hfree' : ∀ k ok, ops[k]? = some ok → k ≠ i → (listed.setIfInBounds j true).getD k true = false →
          (∀ e ∈ ok.after, Region.binds md e = true → e.on ≠ i) → oi.apart ops ok = true := fun k ok hk hki hun hno => by
        refine hfree k ok hk hki ?_ hno
        by_cases hjk : j = k
        · subst hjk; exact hjun
        · rw [getD_set_ne true hjk] at hun; exact hun
      refine wpOp_mono (fun a' w' h3 => ⟨h3.2.1, ih (listed.setIfInBounds j true) a' w' hfree' (ready_mono hr (Ne.symm hji)) h3.1 (h3.2.1 hjl) ?_⟩) h2
      rw [Array.setIfInBounds_comm _ _ hji]
      exact h3.2.2
theorem wpAnyX_take {i : Nat} {oi : Oper} {v : Value} {fuel : Nat} {listed : Array Bool} {a : Act} {w : World} (hi : ops[i]? = some oi)
    (hs : Region.noSelect ops = true) (hf : Region.free md ops listed i = true) (hr : (Region.ready md ops listed).contains i = true) (hw : (i != l && waitsX md ops l i) = true)
    (hQ : ∀ c a w, Q (.panic c) (a.put oi.dst v) w → Q (.panic c) a w) (hy : YieldsIf P ops S oi v a) (hS : S w)
    (h : wpAnyX P md ops Q S l fuel (listed.setIfInBounds i true) (a.put oi.dst v) w) : wpAnyX P md ops Q S l (fuel + 1) listed a w := by
  rw [Bool.and_eq_true, bne_iff_ne] at hw
  exact wpAnyX_first hi (Region.noSelect_spec hs) hQ hw.1 hw.2 fuel listed a w (Region.free_spec hi hf) (by simpa using hr) hy hS h
theorem wpAnyX_done {listed : Array Bool} {a : Act} {w : World} (hr : Region.ready md ops listed = []) (h : Q .normal a w) :
    ∀ fuel, wpAnyX P md ops Q S l fuel listed a w
  | 0 => ⟨hr, h⟩
  | _ + 1 => ⟨fun _ => h, by rw [hr]; simp⟩
/-- One operation comes up next. -/
theorem wpAnyX_ready {fuel : Nat} {listed : Array Bool} {a : Act} {w : World} {i : Nat} {o : Oper} (hr : Region.ready md ops listed = [i]) (ho : ops[i]? = some o)
    (h : ∀ K' : Act → World → Prop, Shut (∀ a w, S w → (S w → wpAnyX P md ops Q S l fuel (listed.setIfInBounds i true) a w) → K' a w) → if Region.wanted o (yielded ops a.tmps) = true then Oper.wp P o a w K' Q else K' (a.put o.dst undef) w) :
    wpAnyX P md ops Q S l (fuel + 1) listed a w := by
  refine ⟨fun h0 => absurd (hr ▸ h0) (by simp), ?_⟩
  rw [hr]
  intro j hj
  rw [List.mem_singleton] at hj
  subst hj
  exact wpOp_step ho (fun K' hK => h K' (fun a w hS hW => hK a w ⟨fun _ => hS, hW hS⟩))
/-- The last operation: S need not be shown behind it. -/
theorem wpAnyX_last {fuel : Nat} {listed : Array Bool} {a : Act} {w : World} {o : Oper} (hr : Region.ready md ops listed = [l]) (ho : ops[l]? = some o)
    (h : ∀ K' : Act → World → Prop, Shut (∀ a w, wpAnyX P md ops Q S l fuel (listed.setIfInBounds l true) a w → K' a w) → if Region.wanted o (yielded ops a.tmps) = true then Oper.wp P o a w K' Q else K' (a.put o.dst undef) w) :
    wpAnyX P md ops Q S l (fuel + 1) listed a w := by
  refine ⟨fun h0 => absurd (hr ▸ h0) (by simp), ?_⟩
  rw [hr]
  intro j hj
  rw [List.mem_singleton] at hj
  subst hj
  exact wpOp_step ho (fun K' hK => h K' (fun a w hW => hK a w ⟨fun e => absurd rfl e, hW⟩))
theorem wp_region_X {id : Nat} {a : Act} {w : World} (l : Nat) (hm : P.follows .mixedOrders = true) (hS : S w.drew)
    (h : S w.drew → wpAnyX P .any ops Q S l ops.size (Array.replicate ops.size false) a w.drew) : (Code.region id ops true).wp P Q a w :=
  wp_region_any hm (wpAny_of_X _ _ _ _ (h hS))
end
end Go.Proofs.Ytepgmdgcappfpaa
