/-
  Leaves that may be too many or too long.
-/
import Derived.Test.YtgpbodanaeelaaaDraw7
namespace Go.Proofs.Ytgpbodanaeelaaa
open Go.RowKit

theorem grown_none {W W' : World} (hb : Below W.heap.size W W') : W.grownBy W' none := ⟨hb.os, hb.tape, hb.output, hb.size, fun k hk _ => hb.block k hk⟩
set_option maxRecDepth 20000 in
set_option maxHeartbeats 1000000 in
theorem some_is (X B : Nat) (v : Value) (L : List UInt8) (W : World) (h : LRd X B v L 0 W) :
    Calls Try.prog 24 #[.pointer (some ⟨X, 0, none⟩)] W fun e w' => ∃ (u : Value) (S : List ByteArray), e = .returned u ∧ Txt w' u S ∧ S.length ≤ 300 ∧ (∀ s ∈ S, s.size ≤ 100000) ∧ W.grownBy w' (some B) := by
  have c1 := fun (V : World) (h : RdAt B v L 0 V) => pick_is B v L 0 V h (by omega) 24 (by omega) (by omega)
  have c2 := fun (V : World) (h : RdAt B v L 1 V) => pick_is B v L 1 V h (by omega) 2 (by omega) (by omega)
  have c3 := fun (V : World) (n : Nat) (hn : n ≤ 300) => full_is n hn V
  have c4 := fun (V : World) (h : LRd X B v L 1 V) => lsize_is X B v L 1 V h (by omega)
  have c5 := fun (V : World) (h : LRd X B v L 3 V) (n : Nat) (hn : n ≤ 70) => leaves_is X B v L 3 V h n (by omega) (by omega)
  have c6 := fun V : World => many_is (ByteArray.mk #[108]) rfl 41 (by omega) V
  have hXW := h.2.2.1
  obtain ⟨h1, h2, h3, h4⟩ := id h
  have HL : Hid (LRd X B v L 0 W) := h
  clear h
  go_enter Try.func24, Try.ntmps24
  go_wp2_with (first
    | (go_at_call_of 41 (Value.int IntKind.i64 24); refine (c1 _ h1).mono ?_; rintro e w1 ⟨r, hr, rfl, R1, g1⟩; have L1 := HL.out.next R1 g1; have x1 := L1.2.2.2; have s1 := g1.size; clear c1)
    | (go_at_call_of 41 (Value.int IntKind.i64 2); refine (c2 _ R1).mono ?_; rintro e w2 ⟨r2, hr2, rfl, R2, g2⟩; have a2 : IntKind.i64.wrap (256 + (r2 : Int)) = ((256 + r2 : Nat) : Int) := (by rw [IntWalk.i64_in _ (by omega)]; omega); have n2 : 256 + r2 ≤ 300 := (by omega); have g12 := grown_two g1 g2; have s2 := g2.size; clear c2)
    | (go_at_call 42; refine (c3 _ (256 + r2) n2).mono ?_; rintro e w3 ⟨u, S, rfl, hSn, ho, hb3, hz⟩; clear c3)
    | (go_at_call 44; refine (c4 _ L1).mono ?_; rintro e w2 ⟨n, hn, rfl, L2, g2⟩; have g12 := grown_two g1 g2; have s2 := g2.size; clear c4)
    | (go_at_call 43; refine (c5 _ L2 n hn).mono ?_; rintro e w3 ⟨u, S, p3, rfl, hSn, hp3, o3, l3, g3, z3⟩; have s3 := g3.size; have g123 := grown_two g12 g3; obtain ⟨ob, cb, rfl⟩ := owt_len o3; have HSn : Hid (S.length ≤ 70) := (by show _ ≤ _; omega); clear c5 hSn)
    | (go_at_call 45; refine (c6 _).mono ?_; rintro e w4 ⟨s, hs, rfl, hw4⟩; replace hw4 := hw4.symm; subst hw4; clear c6)
    | (at_builtin; refine wpList_append_txt rfl _ _ rfl w2.heap.size _ S s rfl (o3.alloc _) w3.heap.size rfl (by simp [go_sem]) (by have := HSn.out; omega) (by simp only [World.size_alloc]; omega) ?_; intro v' w5 ho5 hg5; obtain ⟨oc, cq, hv5⟩ := owt_len ho5; subst hv5))
  · go_ret
    exact ⟨_, S, rfl, own_txt ho, by omega, hz, grown_row g12 (grown_none hb3) (fun k e => by cases e)⟩
  · go_ret
    refine ⟨.slice oc (S ++ [s]).length cq, S ++ [s], by rw [List.length_append]; rfl, own_txt ho5, by have := HSn.out; rw [List.length_append, List.length_singleton]; omega, fun q hq => ?_, grown_row (grown_row g123 (World.grownBy_alloc w3 _ none) (fun k e => by cases e)) hg5 (fun j e => by have := (o3.lt j e).1; omega)⟩
    rcases List.mem_append.1 hq with hq | hq
    · exact z3 q hq
    · simp at hq; subst hq; exact hs
  · go_ret
    exact ⟨_, S, rfl, own_txt o3, by have := HSn.out; omega, z3, g123⟩
set_option maxRecDepth 20000 in
theorem open2_is (W : World) (v : Value) (L : List UInt8) (h : Byt W v L) :
    Calls Try.prog 23 #[v] W fun e w' => ∃ (X : Nat) (v' : Value) (L' : List UInt8), e = .returned (.pointer (some ⟨X, 0, none⟩)) ∧ LRd X W.heap.size v' L' 0 w' ∧ Below W.heap.size W w' := by
  have c := open_is W v L h
  obtain ⟨oa, n, cap, rfl⟩ : ∃ a n cap, v = .slice a n cap := by
    rcases h with ⟨rfl, _⟩ | ⟨a, cap, rfl, _⟩
    · exact ⟨none, 0, 0, rfl⟩
    · exact ⟨some a, _, cap, rfl⟩
  clear h
  go_enter Try.func23, Try.ntmps23
  go_wp2_with (go_at_call 40; refine c.mono ?_; rintro e w1 ⟨v', L', rfl, hr, hb⟩; clear c)
  have hs := hr.1
  go_ret
  refine ⟨w1.heap.size, v', L', rfl, ⟨hr.grown (World.grownBy_alloc w1 _ none), hs, by simp, by simp [go_sem]⟩, hb.alloc (by omega) _⟩
set_option maxRecDepth 20000 in
theorem drawRoot_is (W : World) (v : Value) (L : List UInt8) (h : Byt W v L) :
    Calls Try.prog 17 #[v] W fun e w' => ∃ (u : Value) (S : List ByteArray), e = .returned u ∧ Txt w' u S ∧ S.length ≤ 300 ∧ (∀ s ∈ S, s.size ≤ 100000) ∧ Below W.heap.size W w' := by
  have c := open2_is W v L h
  obtain ⟨oa, n, cap, rfl⟩ : ∃ a n cap, v = .slice a n cap := by
    rcases h with ⟨rfl, _⟩ | ⟨a, cap, rfl, _⟩
    · exact ⟨none, 0, 0, rfl⟩
    · exact ⟨some a, _, cap, rfl⟩
  clear h
  go_enter Try.func17, Try.ntmps17
  go_wp2_with (first
    | (go_at_call 23; refine c.mono ?_; rintro e w1 ⟨X, v', L', rfl, hr, hb⟩; clear c)
    | (go_at_call 24; refine (some_is X W.heap.size v' L' _ hr).mono ?_; rintro e w2 ⟨u, S, rfl, hT, hl, hz, hg⟩))
  go_ret
  exact ⟨u, S, rfl, hT, hl, hz, hb.grown hg hb.size (fun k e => by injection e with e; omega)⟩
end Go.Proofs.Ytgpbodanaeelaaa
