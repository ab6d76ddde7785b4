/-
  TreePeaks of the model.
-/
import Derived.Test.YtgpbodanaeelaaaTPk
namespace Go.Proofs.Ytgpbodanaeelaaa
open Go.RowKit

theorem half_is (n : Nat) (h1 : 1 ≤ n) (h256 : n ≤ 256) (w : World) : Calls Try.prog 36 #[.int .i64 (n : Int)] w fun e w' => e = .returned (.int .i64 (hf n : Int)) ∧ w = w' := by
  go_enter Try.func36, Try.ntmps36
  go_wp2
  go_loopw [3] (fun v wr => ∃ j m : Nat, v = .int .i64 (m : Int) ∧ Hid (m = 2 ^ j) ∧ m ≤ n ∧ wr = w) (fun v _ => n - (intOf v).toNat)
  case atStart => exact ⟨0, 1, rfl, rfl, by omega, rfl⟩
  case round =>
    obtain ⟨j, m, rfl, HM, hm, rfl⟩ := hrel
    have hpos : 0 < m := by rw [HM.out]; exact Nat.two_pow_pos j
    by_cases hlt : 2 * m ≤ n
    · have hltI : (2 : Int) * (m : Int) ≤ (n : Int) := by omega
      go_wp2
      go_roundw
      case rel => exact ⟨j + 1, 2 * m, by go_num, (by show _ = _; rw [HM.out, Nat.pow_succ]; omega), hlt, trivial⟩
      case measure => simp [intOf]; omega
    · have hltI : ¬ (2 : Int) * (m : Int) ≤ (n : Int) := by omega
      have hs : hf n = m := by
        unfold hf sp
        have e : Nat.log2 (n + 1 - 1) = j := (Nat.log2_eq_iff (by omega)).2 ⟨by rw [← HM.out]; omega, by rw [Nat.pow_succ, ← HM.out]; omega⟩
        rw [e, HM.out]
      have HS : Hid (hf n = m) := hs
      clear hs
      go_wp2
      go_ret
      exact ⟨by rw [HS.out]; rfl, rfl⟩
set_option maxRecDepth 20000 in
set_option maxHeartbeats 1000000 in
theorem tpk_spec (S : List ByteArray) (v : Value) (w : World) (hT : Txt w v S) :
    Calls Try.prog 16 #[v] w fun e w' => ∃ u, e = .returned u ∧ w'.ownsRow w.heap.size 31 4 u (tkL S).length (qcs (tkL S)) ∧ Below w.heap.size w w' := by
  have ck0 : ∀ V : World, Below w.heap.size w V → Calls Try.prog 8 #[v] V fun e w' => e = .returned (.bool (lok S)) ∧ V = w' := fun V hV => (lok_spec V v S (hT.call hV)).mono (fun e w' h => ⟨h.1, h.2.symm⟩)
  obtain ⟨oa, cap, rfl⟩ : ∃ a cap, v = .slice a S.length cap := by
    rcases hT with ⟨rfl, rfl⟩ | ⟨a, cap, rfl, _⟩
    · exact ⟨none, 0, rfl⟩
    · exact ⟨some a, cap, rfl⟩
  by_cases hno : lok S = false
  · have e : tkL S = [] := by unfold tkL; rw [if_neg (by rw [hno]; decide)]
    rw [e]
    rw [hno] at ck0
    clear hT e hno
    go_enter Try.func16, Try.ntmps16
    go_wp2_with (go_at_call 8; refine (ck0 _ ((Below.refl _ _).alloc (Nat.le_refl _) _)).mono ?_; rintro e w0 ⟨rfl, rfl⟩; clear ck0)
    exact bodyPost_ret (v := .slice (some ⟨w.heap.size, 0, none⟩) 0 0) (by simp [results, Try.results16, go_sem]) rfl ⟨_, rfl, World.ownsRow_lit w #[] 0 (Nat.le_refl _) (by unfold maxLen; omega) rfl, (by repeat' (first | (with_reducible exact Below.refl _ _) | (with_reducible assumption) | (with_reducible refine below_drewN ?_ _) | (with_reducible refine Below.setCell ?_ ?_ _) | (with_reducible refine Below.alloc ?_ ?_ _) | (with_reducible refine Below.drew ?_) | go_size))⟩
  have hok : lok S = true := by simpa using hno
  obtain ⟨h256, h40⟩ := lok_yes hok
  have e : tkL S = tk S := by unfold tkL; rw [if_pos hok]
  rw [e]
  rw [hok] at ck0
  obtain ⟨R, hR⟩ : ∃ R, R = tk S := ⟨_, rfl⟩
  have hRl : R.length ≤ 256 := by rw [hR]; exact Nat.le_trans (tk_len S.length S (Nat.le_refl _) h256) h256
  have HR : Hid (tk S = R ∧ R.length ≤ 256 ∧ ∀ s ∈ S, s.size ≤ 40) := ⟨hR.symm, hRl, h40⟩
  rw [← hR]
  have HD : Hid (Txt w (.slice oa S.length cap) S) := hT
  clear hT e hok hno hR h40 hRl
  go_enter Try.func16, Try.ntmps16
  go_wp2_with (go_at_call 8; refine (ck0 _ ((Below.refl _ _).alloc (Nat.le_refl _) _)).mono ?_; rintro e w0 ⟨rfl, rfl⟩; clear ck0)
  have HS : Hid ((w.alloc (.cells #[] 31)).ownsRow w.heap.size 31 4 (.slice (some ⟨w.heap.size, 0, none⟩) 0 0) 0 [] ∧ Below w.heap.size w (w.alloc (.cells #[] 31))) := ⟨World.ownsRow_lit w #[] 0 (Nat.le_refl _) (by unfold maxLen; omega) rfl, (by repeat' (first | (with_reducible exact Below.refl _ _) | (with_reducible assumption) | (with_reducible refine below_drewN ?_ _) | (with_reducible refine Below.setCell ?_ ?_ _) | (with_reducible refine Below.alloc ?_ ?_ _) | (with_reducible refine Below.drew ?_) | go_size))⟩
  go_loopw [3, 4] (fun u i wr => ∃ (k : Nat) (K : List Qd) (ob : Option Addr) (cb : Nat), k ≤ S.length ∧ i = .int .i64 (k : Int) ∧ u = .slice ob K.length cb ∧ Hid (K ++ tk (S.drop k) = R) ∧ Hid (wr.ownsRow w.heap.size 31 4 (.slice ob K.length cb) K.length (qcs K) ∧ Below w.heap.size w wr)) (fun _ i _ => ((S.length : Int) - intOf i).toNat)
  case atStart => exact ⟨0, [], _, _, Nat.zero_le _, rfl, rfl, by rw [List.drop_zero, List.nil_append]; exact HR.out.1, HS⟩
  case round =>
    obtain ⟨k, K, ob, cb, hk, rfl, rfl, HE, HK⟩ := hrel
    obtain ⟨k1, k2⟩ := HK.out
    have lw : w.heap.size ≤ wr.heap.size := k2.size
    by_cases hlt : k < S.length
    · obtain ⟨a, rfl⟩ : ∃ a, oa = some a := by
        rcases HD.out with ⟨_, h0'⟩ | ⟨a, cap', hv, _⟩
        · rw [h0'] at hlt; simp at hlt
        · injection hv with hv _ _
          exact ⟨a, hv⟩
      have hT1 := HD.out.call k2
      obtain ⟨_, hlc⟩ : True ∧ S.length ≤ cap := by
        rcases hT1 with ⟨h, _⟩ | ⟨a', cap', he, hl, hm, hb, hc⟩
        · simp at h
        · obtain ⟨rfl, rfl⟩ : a = a' ∧ cap = cap' := by simpa using he
          exact ⟨trivial, hl⟩
      have ld : (S.drop k).length = S.length - k := by rw [List.length_drop]
      have hh := hf_le (n := S.length - k) (by omega) (by omega)
      have eT := tk_cons (T := S.drop k) (by omega) (by omega)
      have chf := fun V : World => half_is (S.length - k) (by omega) (by omega) V
      obtain ⟨d, hd⟩ : ∃ d, d = hf (S.length - k) := ⟨_, rfl⟩
      rw [ld, ← hd, List.drop_drop] at eT
      rw [← hd] at chf hh
      have hT2 := hT1.drop k (by omega)
      rw [← ld] at hT2
      have hT3 := hT2.take d (by omega)
      have cr : ∀ V : World, Below wr.heap.size wr V → Calls Try.prog 34 #[.slice (some (a.add k)) d (cap - k)] V fun e w' => e = .returned (.agg #[.int .u64 ((rootN 256 ((S.drop k).take d)).a.toNat : Int), .int .u64 ((rootN 256 ((S.drop k).take d)).b.toNat : Int), .int .u64 ((rootN 256 ((S.drop k).take d)).c.toNat : Int), .int .u64 ((rootN 256 ((S.drop k).take d)).d.toNat : Int)]) ∧ Below V.heap.size V w' := fun V hV => l2root_is 256 ((S.drop k).take d) _ V (by rw [List.length_take]; omega) (by rw [List.length_take]; omega) (fun s hs => HR.out.2.2 s (List.mem_of_mem_drop (List.mem_of_mem_take hs))) (hT3.call hV)
      obtain ⟨z, hz⟩ : ∃ z, z = rootN 256 ((S.drop k).take d) := ⟨_, rfl⟩
      rw [← hz] at cr eT
      have HE2 : Hid ((K ++ [z]) ++ tk (S.drop (k + d)) = R) := by
        show _ = _
        rw [List.append_assoc, List.singleton_append, ← eT]
        exact HE.out
      have hKs : K.length ≤ 1048576 := by
        have e3 := congrArg List.length HE2.out
        rw [List.length_append, List.length_append] at e3
        have := HR.out.2.1
        omega
      obtain ⟨N, hN⟩ : ∃ N, N = S.length := ⟨_, rfl⟩
      have HN : Hid (N = S.length) := hN
      rw [← hN] at chf hlt hk hlc h256 hh ⊢
      have hsub : IntKind.i64.wrap ((N : Int) - (k : Int)) = ((N - k : Nat) : Int) := by rw [IntWalk.i64_in _ (by omega)]; omega
      have hadd : IntKind.i64.wrap ((k : Int) + (d : Int)) = ((k + d : Nat) : Int) := by rw [IntWalk.i64_in _ (by omega)]; omega
      obtain ⟨e1, he1⟩ : ∃ e1, e1 = k + d := ⟨_, rfl⟩
      rw [← he1] at hadd HE2
      have hkI : (k : Int) < (N : Int) := by omega
      have x1 : (k : Int) ≤ (e1 : Int) := by omega
      have x2 : (e1 : Int) ≤ (cap : Int) := by omega
      have x3 : e1 - k = d := by omega
      have x4 : k ≤ e1 := by omega
      have x5 : e1 ≤ cap := by omega
      have HX : Hid (e1 = k + d ∧ 1 ≤ d ∧ d ≤ N - k) := ⟨he1, hh.1, hh.2⟩
      obtain ⟨g, hg⟩ : ∃ g, g = N - k := ⟨_, rfl⟩
      rw [← hg] at hsub chf
      have HO : Hid (wr.ownsRow w.heap.size 31 4 (.slice ob K.length cb) K.length (qcs K)) := k1
      clear HS HK HE hT1 hT2 hT3 eT hz hd ld hN he1 hg hh k1 HD
      go_wp2_with (first
        | (go_at_call 36; refine (chf _).mono ?_; rintro e w3 ⟨rfl, rfl⟩; clear chf)
        | (go_at_call 34; refine (cr _ (Below.refl _ _)).mono ?_; rintro e w4 ⟨rfl, hb4⟩; clear cr; have hs4 := hb4.size; have HO4 := own_call HO.out hb4; have k4 := k2.trans (hb4.mono lw))
        | (at_builtin; refine wpList_append_dg rfl _ _ rfl w.heap.size _ K z rfl (HO4.alloc _) w4.heap.size rfl (qc_cells (by simp [go_sem]) (by simp [go_sem]) (by simp [go_sem]) (by simp [go_sem])) hKs (by simp only [World.size_alloc]; omega) ?_; intro v' w5 ho5 hg5; obtain ⟨oc, cq, hv5⟩ := own_len ho5; subst hv5))
      have hx := HX.out
      refine ⟨⟨e1, K ++ [z], oc, cq, by omega, rfl, by rw [List.length_append]; rfl, HE2, ho5, (k4.alloc (by omega) (.cells #[Value.int IntKind.u64 ((z).a.toNat : Int), Value.int IntKind.u64 ((z).b.toNat : Int), Value.int IntKind.u64 ((z).c.toNat : Int), Value.int IntKind.u64 ((z).d.toNat : Int)] 31)).grown hg5 (by simp only [World.size_alloc]; omega) (fun k e => (HO4.lt k e).1)⟩, by simp only [intOf]; omega⟩
    · have hke : k = S.length := by omega
      subst hke
      have eR := HE.out
      rw [List.drop_length, tk_nil, List.append_nil] at eR
      subst eR
      clear HS HK HE HD HR
      go_wp2_with fail
      exact bodyPost_ret (v := .slice ob K.length cb) (by simp [results, Try.results16, go_sem]) rfl ⟨_, rfl, k1, k2⟩
end Go.Proofs.Ytgpbodanaeelaaa
