/-
  The law of the peaks that grow leaf by leaf, walked.
-/
import Derived.Test.YtgpbodanaeelaaaJoinB44
import Derived.Test.YtgpbodanaeelaaaPkGrow
import Derived.Test.YtgpbodanaeelaaaJoinB40
import Derived.Deep.RegionHeld3
namespace Go.Proofs.Ytgpbodanaeelaaa
open Go.RowKit

set_option maxRecDepth 20000 in
set_option maxHeartbeats 1000000 in
theorem samed_is (W : World) (u v : Value) (L : List Qd) (h : Dgs W u L) (h' : Dgs W v L) :
    Calls Try.prog 15 #[u, v] W fun e w' => e = .returned (.bool true) ∧ Below W.heap.size W w' := by
  by_cases hS : L = []
  · obtain ⟨a, c, rfl, _⟩ := h.len
    obtain ⟨a', c', rfl, _⟩ := h'.len
    subst hS
    clear h h'
    go_enter Try.func15, Try.ntmps15
    go_wp2_with fail
    refine wp_loop_rounds 1 ?_
    rw [rounds_succ]
    go_wp2
    go_ret
    exact ⟨rfl, Below.refl _ _⟩
  · rcases h with ⟨_, h0⟩ | ⟨a, cap, rfl, hl, hm, hbl, hc⟩
    · exact absurd h0 hS
    rcases h' with ⟨_, h0⟩ | ⟨a', cap', rfl, hl', hm', hbl', hc'⟩
    · exact absurd h0 hS
    have hcl : L.length ≤ 9223372036854775807 := by unfold maxLen at hm; omega
    go_enter Try.func15, Try.ntmps15
    go_wp2_with fail
    go_loopw [5] (fun i wr => ∃ k : Nat, k ≤ L.length ∧ i = .int .i64 (k : Int) ∧ Hid (Below W.heap.size W wr)) (fun i _ => L.length - (intOf i).toNat)
    case atStart => exact ⟨0, by omega, rfl, Below.refl _ _⟩
    case round =>
      obtain ⟨k, hk, rfl, HB⟩ := hrel
      by_cases hlt : k < L.length
      · have hd : DAt wr (a.add (k * 4)) L[k] := (hc k hlt).below HB.out (by rw [add_block]; exact hbl (by omega))
        have hd' : DAt wr (a'.add (k * 4)) L[k] := (hc' k hlt).below HB.out (by rw [add_block]; exact hbl' (by omega))
        obtain ⟨q, hq⟩ : ∃ q, q = L[k] := ⟨_, rfl⟩
        rw [← hq] at hd hd'
        have hk0 : (0 : Int) ≤ (k : Int) := by omega
        have hkI : (k : Int) < (L.length : Int) := by omega
        clear hq hc hc'
        go_wp2_with fail
        obtain ⟨d0, d1, d2, d3⟩ := hd
        obtain ⟨e0, e1, e2, e3⟩ := hd'
        go_region_held3 (fun w' => w'.cell? (a.add (k * 4)) = some (Value.int IntKind.u64 ((q.a).toNat : Int)) ∧ w'.cell? ⟨(a.add (k * 4)).block, (a.add (k * 4)).off + 1, none⟩ = some (Value.int IntKind.u64 ((q.b).toNat : Int)) ∧ w'.cell? ⟨(a.add (k * 4)).block, (a.add (k * 4)).off + 2, none⟩ = some (Value.int IntKind.u64 ((q.c).toNat : Int)) ∧ w'.cell? ⟨(a.add (k * 4)).block, (a.add (k * 4)).off + 3, none⟩ = some (Value.int IntKind.u64 ((q.d).toNat : Int)) ∧ w'.cell? (a'.add (k * 4)) = some (Value.int IntKind.u64 ((q.a).toNat : Int)) ∧ w'.cell? ⟨(a'.add (k * 4)).block, (a'.add (k * 4)).off + 1, none⟩ = some (Value.int IntKind.u64 ((q.b).toNat : Int)) ∧ w'.cell? ⟨(a'.add (k * 4)).block, (a'.add (k * 4)).off + 2, none⟩ = some (Value.int IntKind.u64 ((q.c).toNat : Int)) ∧ w'.cell? ⟨(a'.add (k * 4)).block, (a'.add (k * 4)).off + 3, none⟩ = some (Value.int IntKind.u64 ((q.d).toNat : Int))) ((refine ⟨?_, ?_, ?_, ?_, ?_, ?_, ?_, ?_⟩ <;> assumption)) (fail)
        go_wp2_with fail
        exact ⟨⟨k + 1, by omega, by go_num, HB.out.drew⟩, by simp [intOf]; omega⟩
      · go_wp2
        go_ret
        exact ⟨rfl, HB.out⟩
/-- PeaksAdd put to the peaks of the first leaves. -/
theorem add_step {S : List ByteArray} (hok : lok S = true) {k : Nat} (hk : k < S.length) (h40 : S.length ≤ 40) :
    paOk (k : Int) (tk (S.take k)) S[k] ∧ paL (k : Int) (tk (S.take k)) S[k] = tk (S.take (k + 1)) := by
  have hl : (S.take k).length = k := by rw [List.length_take]; omega
  have hp : paOk (k : Int) (tk (S.take k)) S[k] := by
    refine ⟨by omega, by omega, ?_, (lok_yes hok).2 _ (List.getElem_mem _)⟩
    unfold pcI
    rw [if_neg (by omega), tk_count k (S.take k) (by omega) (by omega), hl, Int.toNat_natCast]
  refine ⟨hp, ?_⟩
  unfold paL
  rw [if_pos hp, Int.toNat_natCast, List.take_succ_eq_append_getElem hk]
  have := tk_grow k (S.take k) S[k] (by omega) (by omega)
  rw [this, hl]
end Go.Proofs.Ytgpbodanaeelaaa
