/-
  TreePeaks of the program.
-/
import Derived.Test.YtgpbodanaeelaaaCut2
import Derived.Test.YtgpbodanaeelaaaJoinB40
namespace Go.Proofs.Ytgpbodanaeelaaa
open Go.RowKit

/-- The roots of the runs of a list of leaves. -/
def tk (T : List ByteArray) : List Qd := if _h : T.length = 0 ∨ 256 < T.length then [] else rootN 256 (T.take (hf T.length)) :: tk (T.drop (hf T.length))
termination_by T.length
decreasing_by
  have := (hf_tab ⟨T.length, by omega⟩).2.2 (by show 1 ≤ T.length; omega)
  simp only at this
  rw [List.length_drop]
  omega
theorem tk_nil : tk [] = [] := by rw [tk]; simp
theorem tk_cons {T : List ByteArray} (h0 : T.length ≠ 0) (h : T.length ≤ 256) : tk T = rootN 256 (T.take (hf T.length)) :: tk (T.drop (hf T.length)) := by
  rw [tk, dif_neg (by omega)]
theorem hf_le {n : Nat} (h0 : n ≠ 0) (h : n ≤ 256) : 1 ≤ hf n ∧ hf n ≤ n := (hf_tab ⟨n, by omega⟩).2.2 (by show 1 ≤ n; omega)
theorem tk_len : ∀ (n : Nat) (T : List ByteArray), T.length ≤ n → T.length ≤ 256 → (tk T).length ≤ T.length := by
  intro n
  induction n with
  | zero => intro T h _; have : T = [] := List.length_eq_zero_iff.1 (by omega); subst this; rw [tk_nil]; simp
  | succ n ih =>
    intro T h h2
    by_cases h0 : T.length = 0
    · have : T = [] := List.length_eq_zero_iff.1 h0
      subst this; rw [tk_nil]; simp
    · have hh := hf_le h0 h2
      have := ih (T.drop (hf T.length)) (by rw [List.length_drop]; omega) (by rw [List.length_drop]; omega)
      rw [tk_cons h0 h2, List.length_cons]
      rw [List.length_drop] at this
      omega
/-- What TreePeaks makes of leaves. -/
def tkL (S : List ByteArray) : List Qd := if lok S = true then tk S else []
theorem tkL_len (S : List ByteArray) : (tkL S).length ≤ 256 := by
  unfold tkL
  split
  · rename_i h
    have := (lok_yes h).1
    exact Nat.le_trans (tk_len S.length S (Nat.le_refl _) this) this
  · simp
/-- What stands ahead of each round. -/
def TP (w : World) (K : List Qd) (W : World) : Prop := Stk w.heap.size w.heap.size (fun _ => False) K W ∧ Ty w.heap.size W ∧ Below w.heap.size w W
theorem TP.call {w W W' : World} {K : List Qd} (h : TP w K W) (hb : Below W.heap.size W W') : TP w K W' := ⟨h.1.grown hb, h.2.1.below hb, h.2.2.trans (hb.mono h.2.2.size)⟩
theorem TP.stl {w W : World} {K : List Qd} (h : TP w K W) : Ytgpbodanaeelaaa.stl w.heap.size W = K.length := h.1.stl
set_option maxRecDepth 20000 in
set_option maxHeartbeats 1000000 in
theorem tpk_impl (S : List ByteArray) (v : Value) (w : World) (hT : Txt w v S) :
    Calls Try.prog 7 #[v] w fun e w' => ∃ u, e = .returned u ∧ w'.ownsRow w.heap.size 31 4 u (tkL S).length (qcs (tkL S)) ∧ Below w.heap.size w w' := by
  have ck0 : ∀ V : World, Below w.heap.size w V → Calls Try.prog 25 #[v] V fun e w' => e = .returned (.bool (lok S)) ∧ V = w' := fun V hV => (lok_impl V v S (hT.call hV)).mono (fun e w' h => ⟨h.1, h.2.symm⟩)
  by_cases hno : lok S = false
  · have e : tkL S = [] := by unfold tkL; rw [if_neg (by rw [hno]; decide)]
    rw [e]
    rw [hno] at ck0
    obtain ⟨oa, cap, rfl⟩ : ∃ a cap, v = .slice a S.length cap := by
      rcases hT with ⟨rfl, rfl⟩ | ⟨a, cap, rfl, _⟩
      · exact ⟨none, 0, rfl⟩
      · exact ⟨some a, cap, rfl⟩
    clear hT e hno
    go_enter Try.func7, Try.ntmps7
    go_wp2_with (go_at_call 25; refine (ck0 _ (Below.refl _ _)).mono ?_; rintro e w0 ⟨rfl, rfl⟩; clear ck0)
    exact bodyPost_ret (v := .slice none 0 0) (by simp [results, Try.results7, go_sem]) rfl ⟨_, rfl, World.ownsRow_nil _ _ _ _, Below.refl _ _⟩
  have hok : lok S = true := by simpa using hno
  obtain ⟨h256, h40⟩ := lok_yes hok
  have e : tkL S = tk S := by unfold tkL; rw [if_pos hok]
  rw [e]
  rw [hok] at ck0
  obtain ⟨R, hR⟩ : ∃ R, R = tk S := ⟨_, rfl⟩
  have hRl : R.length ≤ 256 := by rw [hR]; exact Nat.le_trans (tk_len S.length S (Nat.le_refl _) h256) h256
  have HR : Hid (tk S = R) := hR.symm
  rw [← hR]
  have ct : ∀ V : World, Below w.heap.size w V → Calls Try.prog 27 #[v] V fun e w' => e = .returned (treeV 256 S) ∧ Below V.heap.size V w' := fun V hV => tree_is 256 S v V h256 h256 (hT.call hV)
  have cc := fun V : World => cut_is S h256 V
  obtain ⟨T0, hT0⟩ : ∃ T0, T0 = treeV 256 S := ⟨_, rfl⟩
  rw [← hT0] at ct cc
  obtain ⟨p0, hp0⟩ : ∃ p0, p0 = treeV 256 (S.take (hf S.length)) := ⟨_, rfl⟩
  obtain ⟨q0, hq0⟩ : ∃ q0, q0 = treeV 256 (S.drop (hf S.length)) := ⟨_, rfl⟩
  rw [← hp0, ← hq0] at cc
  have HS0 : Hid (p0 = treeV 256 (S.take (hf S.length)) ∧ q0 = treeV 256 (S.drop (hf S.length)) ∧ S.length ≤ 256 ∧ (∀ s ∈ S, s.size ≤ 40) ∧ R.length ≤ 256) := ⟨hp0, hq0, h256, h40, hRl⟩
  obtain ⟨oa, cap, rfl⟩ : ∃ a cap, v = .slice a S.length cap := by
    rcases hT with ⟨rfl, rfl⟩ | ⟨a, cap, rfl, _⟩
    · exact ⟨none, 0, rfl⟩
    · exact ⟨some a, cap, rfl⟩
  have tp0 : TP w [] (w.alloc (.cells #[.slice none 0 0] 46)) := ⟨(Stk.new (L := []) 46 (World.ownsRow_nil w w.heap.size _ _) (Nat.le_refl _) (Nat.le_refl _)).weak, Ty.new w _, (Below.refl _ _).alloc (Nat.le_refl _) _⟩
  clear hT e hok hno hR hT0 hp0 hq0 h256 h40 hRl
  go_enter Try.func7, Try.ntmps7
  go_wp2_with (first
    | (go_at_call 25; refine (ck0 _ (Below.refl _ _)).mono ?_; rintro e w0 ⟨rfl, rfl⟩; clear ck0)
    | (go_at_call 27; refine (ct _ ((Below.refl _ _).alloc (Nat.le_refl _) _)).mono ?_; rintro e w1 ⟨rfl, hb1⟩; clear ct; have tp1 := tp0.call hb1; clear tp0 hb1)
    | (go_at_call 26; refine (cc _).mono ?_; rintro e w2 ⟨rfl, hb2⟩; clear cc; have tp2 := tp1.call hb2; clear tp1 hb2))
  have HT2 : Hid (TP w [] w2) := tp2
  clear tp2
  go_loopw [4, 5] (fun p q wr => ∃ (T : List ByteArray) (K : List Qd), p = treeV 256 (T.take (hf T.length)) ∧ q = treeV 256 (T.drop (hf T.length)) ∧ Hid (K ++ tk T = R ∧ T.length ≤ 256 ∧ ∀ s ∈ T, s.size ≤ 40) ∧ Hid (TP w K wr)) (fun _ _ wr => R.length - stl w.heap.size wr)
  case atStart => exact ⟨S, [], HS0.out.1, HS0.out.2.1, ⟨by rw [List.nil_append]; exact HR.out, HS0.out.2.2.1, HS0.out.2.2.2.1⟩, HT2⟩
  case round =>
    obtain ⟨T, K, rfl, rfl, HE, HP⟩ := hrel
    obtain ⟨eR, l256, l40⟩ := HE.out
    obtain ⟨k1, k2, k3⟩ := HP.out
    have lw : w.heap.size ≤ wr.heap.size := k3.size
    by_cases h0 : T.length = 0
    · have : T = [] := List.length_eq_zero_iff.1 h0
      subst this
      simp only [List.take_nil, List.drop_nil]
      rw [show treeV 256 [] = Value.nilIface from rfl]
      rw [tk_nil, List.append_nil] at eR
      subst eR
      obtain ⟨h0', h1, h2, u, h3, h4, h5⟩ := k1
      obtain ⟨ub, uq, rfl⟩ := own_len h5
      clear HE HP HS0 HT2 HR l40 h0 l256
      go_wp2_with fail
      exact bodyPost_ret (v := .slice ub K.length uq) (by simp [results, Try.results7, go_sem]) rfl ⟨_, rfl, h5, k3⟩
    · have hh := hf_le h0 l256
      obtain ⟨k, hk⟩ : ∃ k, k = hf T.length := ⟨_, rfl⟩
      have eT := tk_cons h0 l256
      rw [← hk] at hh eT ⊢
      have lt : (T.take k).length = k := by rw [List.length_take]; omega
      have ld : (T.drop k).length = T.length - k := by rw [List.length_drop]
      have cr := fun V : World => root_is 256 (T.take k) V (by omega) (by omega) (fun s hs => l40 s (List.mem_of_mem_take hs))
      have cd := fun V : World => cut_is (T.drop k) (by omega) V
      obtain ⟨z, hz⟩ : ∃ z, z = rootN 256 (T.take k) := ⟨_, rfl⟩
      rw [← hz] at cr eT
      have HE2 : Hid ((K ++ [z]) ++ tk (T.drop k) = R ∧ (T.drop k).length ≤ 256 ∧ (∀ s ∈ T.drop k, s.size ≤ 40)) := ⟨by rw [List.append_assoc, List.singleton_append, ← eT]; exact eR, by omega, fun s hs => l40 s (List.mem_of_mem_drop hs)⟩
      have hKR : K.length + 1 ≤ R.length := by rw [← HE2.out.1]; simp
      have hKs : K.length ≤ 1048576 := by have := HS0.out.2.2.2.2; omega
      have hst : Ytgpbodanaeelaaa.stl w.heap.size wr = K.length := k1.stl
      obtain ⟨t, x, hx⟩ := treeV_some 256 (T.take k) (by omega) (by omega)
      obtain ⟨tr, htr⟩ : ∃ tr, tr = treeV 256 (T.drop k) := ⟨_, rfl⟩
      obtain ⟨p1, hp1⟩ : ∃ p1, p1 = treeV 256 ((T.drop k).take (hf (T.drop k).length)) := ⟨_, rfl⟩
      obtain ⟨q1, hq1⟩ : ∃ q1, q1 = treeV 256 ((T.drop k).drop (hf (T.drop k).length)) := ⟨_, rfl⟩
      rw [← htr, ← hp1, ← hq1] at cd
      rw [hx] at cr ⊢
      rw [← htr]
      have cq := fun W : World => push_is w.heap.size w.heap.size K z W
      have HPQ : Hid (p1 = treeV 256 ((T.drop k).take (hf (T.drop k).length)) ∧ q1 = treeV 256 ((T.drop k).drop (hf (T.drop k).length))) := ⟨hp1, hq1⟩
      clear HE HP HS0 HT2 HR l40 h0 l256 eR eT hz hx htr hp1 hq1 lt ld hk hh
      go_wp2_with (first
        | (go_at_call 29; refine (cr _).mono ?_; rintro e w3 ⟨rfl, hb3⟩; clear cr; have a1 := k1.grown hb3; have a2 := k2.below hb3; have a3 := k3.trans (hb3.mono lw); have lw3 : w.heap.size ≤ w3.heap.size := a3.size; clear hb3 k1 k2 k3)
        | (go_at_call 28; refine (cq _ a1 a2 hKs lw3).mono ?_; rintro e w4 ⟨rfl, b1, b2, hb4⟩; clear cq; have b3 := a3.trans hb4; clear a1 a2 a3 hb4)
        | (go_at_call 26; refine (cd _).mono ?_; rintro e w5 ⟨rfl, hb5⟩; clear cd; have tp5 := (show TP w (K ++ [z]) w4 from ⟨b1, b2, b3⟩).call hb5; clear b1 b2 b3 hb5))
      refine ⟨⟨T.drop k, K ++ [z], HPQ.out.1, HPQ.out.2, HE2, tp5⟩, ?_⟩
      have := tp5.stl
      rw [List.length_append, List.length_singleton] at this
      omega
end Go.Proofs.Ytgpbodanaeelaaa
