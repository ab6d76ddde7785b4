/-
  One leaf more, as the program does it.
-/
import Derived.Test.YtegihccdpohnnaaLg2
namespace Go.Proofs.Ytegihccdpohnnaa
open Go.RowKit

/-- The boxes of a log and of a number, one behind the other. -/
abbrev bX (w : World) (v : Value) : World := (w.alloc (.cells #[v] 26)).alloc (.cells #[.int .i64 0] 3)
theorem belowX (w : World) (v : Value) : Below w.heap.size w (bX w v) := ((Below.refl _ _).alloc (Nat.le_refl _) _).alloc (by simp) _
theorem cellX (w : World) (v : Value) : (bX w v).cell? ⟨w.heap.size + 1, 0, none⟩ = some (.int .i64 0) := by
  have h := (Lies.new (w.alloc (.cells #[v] 26)) [.int .i64 0] 3) 0 _ rfl
  rwa [World.size_alloc] at h
theorem cellY (w : World) (v : Value) : (bX w v).cell? ⟨w.heap.size, 0, none⟩ = some v := by
  have h := ((Lies.new w [v] 26).call ((Below.refl _ _).alloc (Nat.le_refl _) (.cells #[.int .i64 0] 3)) (by simp)) 0 _ rfl
  exact h
theorem own_callT2 {W W' : World} {base n : Nat} {v : Value} {xs : List Value} (h : W.ownsRow base 9 1 v n xs) (hb : Below W.heap.size W W') : W'.ownsRow base 9 1 v n xs := own_callT h hb
set_option maxRecDepth 20000 in
set_option maxHeartbeats 2000000 in
theorem la_impl (W : World) (v : Value) (S : List ByteArray) (x : ByteArray) (h : Txt W v S) (hx : x.size ≤ 1048576) :
    Calls Try.prog 7 #[.agg #[v], .string x] W fun e w' => ∃ u, e = .returned (.tuple #[.agg #[u], .bool (la S x).2]) ∧ w'.ownsRow (W.heap.size + 2) 9 1 u (la S x).1.length (tcs (la S x).1) ∧ Below W.heap.size W w' := by
  have B0 : LB W v _ := LB.new W v 26 26
  have cl := fun (V : World) (h : Txt V v S) => lok_impl V v S h
  go_enter Try.func7, Try.ntmps7
  go_upto_region 1 with fail
  generalize (W.alloc (.cells #[v] 26)).alloc (.cells #[.slice none 0 0] 26) = w0 at B0 ⊢
  obtain ⟨a0, r0, l0, z0⟩ := id B0
  have T0 := h.call z0
  cases hk : lok S with
  | false =>
    have e : la S x = ([], false) := by unfold la; rw [if_pos hk]
    rw [hk] at cl
    go_wp2_with (first
      | (go_at_call 15; refine (cl _ T0).mono ?_; rintro e w1 ⟨rfl, hw⟩; replace hw := hw.symm; subst hw)
      | (with_reducible refine wpl_build #[.slice none 0 0] (by kernel_rfl) ?_)
      | (with_reducible refine wpl_store agg_log (W.heap.size + 1) 0 [.slice none 0 0] (by kernel_rfl) (by kernel_rfl) (by kernel_rfl) (by kernel_rfl) r0 ?_; have k1 := Lies.sc (vs := [.slice none 0 0]) rfl r0; have k2 := Below.sc (W.heap.size + 1) (by omega) [.slice none 0 0] 0 _ z0; generalize World.setCells _ (W.heap.size + 1) 0 [.slice none 0 0] = wz at k1 k2 ⊢))
    exact bodyPost_ret (v := .tuple #[.agg #[.slice none 0 0], .bool false]) (resL agg_log Try.results7 _ _ (W.heap.size + 1) [.slice none 0 0] (by kernel_rfl) (by kernel_rfl) _ (by kernel_rfl) k1) rfl (by first | (rw [e]; exact ⟨_, rfl, World.ownsRow_nil _ _ _ _, k2⟩) | exact ⟨_, rfl, World.ownsRow_nil _ _ _ _, k2⟩)
  | true =>
    obtain ⟨hl, hs⟩ := lok_len hk
    rw [hk] at cl
    have c2 := fun (V : World) (Bf Bl : Nat) (hf : Bf < V.heap.size) (hl1 : Bl < V.heap.size) => col_is S v (fun s hs1 => Nat.le_trans (hs s hs1) (by decide)) (by omega) Bf Bl V hf hl1
    have HL : Lies W.heap.size 0 [v] w0 := fun j u hj => by
      match j, hj with
      | 0, hj => simp at hj; subst hj; exact a0
    go_upto_region 4 with (first
      | (go_at_call 15; refine (cl _ T0).mono ?_; rintro e w1 ⟨rfl, hw⟩; replace hw := hw.symm; subst hw)
      | (with_reducible refine wpl_load agg_log W.heap.size 0 [v] (by kernel_rfl) (by kernel_rfl) HL ?_)
      | (go_at_call 17; refine (lvf_is _ _ _).mono ?_; rintro e w2 ⟨rfl, hw⟩; subst hw)
      | (go_at_call 16; refine (c2 _ (w0.heap.size + 1) w0.heap.size (by go_size) (by go_size) (cellX w0 v) (cellY w0 v) (T0.call (belowX w0 v))).mono ?_; rintro e w2 ⟨u, rfl, o2, b2⟩; have B2 := B0.call (below_after (belowX w0 v) b2 (by go_size)); clear b2 a0 r0 z0 T0 HL))
    obtain ⟨ou, cu, rfl⟩ := owt_len o2
    have o3 : World.ownsRow _ (W.heap.size + 2) 9 1 _ _ _ := World.ownsRow.mono o2 (by simp only [bX, World.size_alloc]; omega)
    clear c2 cl o2 hs B0 l0
    rename_i w2 _
    obtain ⟨a0, r0, l0', z0⟩ := id B2
    clear B2
    by_cases h1 : S.length = 256
    · have e : la S x = (S, false) := by unfold la; rw [if_neg (by rw [hk]; decide), if_pos (.inl (by omega))]
      have hI : (S.length : Int) = 256 := by omega
      clear h1 hk hl
      go_wp2_with (first
        | (with_reducible refine wpl_build #[.slice ou S.length cu] (by kernel_rfl) ?_)
        | (with_reducible refine wpl_store agg_log (W.heap.size + 1) 0 [.slice ou S.length cu] (by kernel_rfl) (by kernel_rfl) (by kernel_rfl) (by kernel_rfl) r0 ?_; have k1 := Lies.sc (vs := [.slice ou S.length cu]) rfl r0; have k2 := Below.sc (W.heap.size + 1) (by omega) [.slice ou S.length cu] 0 _ z0; have k3 := own_apart o3 (Nat.lt_succ_self (W.heap.size + 1)) [.slice ou S.length cu] 0; generalize World.setCells _ (W.heap.size + 1) 0 [.slice ou S.length cu] = wz at k1 k2 k3 ⊢))
      exact bodyPost_ret (v := .tuple #[.agg #[.slice ou S.length cu], .bool false]) (resL agg_log Try.results7 _ _ (W.heap.size + 1) [.slice ou S.length cu] (by kernel_rfl) (by kernel_rfl) _ (by kernel_rfl) k1) rfl (by first | (rw [e]; exact ⟨_, rfl, k3, k2⟩) | exact ⟨_, rfl, k3, k2⟩)
    · have hI : ¬ (S.length : Int) = 256 := by omega
      by_cases h2 : 40 < x.size
      · have e : la S x = (S, false) := by unfold la; rw [if_neg (by rw [hk]; decide), if_pos (.inr h2)]
        have hI2 : (40 : Int) < (x.size : Int) := by omega
        clear h1 h2 hk hl
        go_wp2_with (first
          | (with_reducible refine wpl_build #[.slice ou S.length cu] (by kernel_rfl) ?_)
          | (with_reducible refine wpl_store agg_log (W.heap.size + 1) 0 [.slice ou S.length cu] (by kernel_rfl) (by kernel_rfl) (by kernel_rfl) (by kernel_rfl) r0 ?_; have k1 := Lies.sc (vs := [.slice ou S.length cu]) rfl r0; have k2 := Below.sc (W.heap.size + 1) (by omega) [.slice ou S.length cu] 0 _ z0; have k3 := own_apart o3 (Nat.lt_succ_self (W.heap.size + 1)) [.slice ou S.length cu] 0; generalize World.setCells _ (W.heap.size + 1) 0 [.slice ou S.length cu] = wz at k1 k2 k3 ⊢))
        exact bodyPost_ret (v := .tuple #[.agg #[.slice ou S.length cu], .bool false]) (resL agg_log Try.results7 _ _ (W.heap.size + 1) [.slice ou S.length cu] (by kernel_rfl) (by kernel_rfl) _ (by kernel_rfl) k1) rfl (by first | (rw [e]; exact ⟨_, rfl, k3, k2⟩) | exact ⟨_, rfl, k3, k2⟩)
      · have e : la S x = (S ++ [x], true) := by unfold la; rw [if_neg (by rw [hk]; decide), if_neg (by omega)]
        have hI2 : ¬ (40 : Int) < (x.size : Int) := by omega
        have hl9 : S.length ≤ 1048576 := by omega
        have c3 := fun V : World => sclone_l x V hx
        clear h1 h2 hk hl
        go_wp2_with (first
          | (go_at_call 18; refine (c3 _).mono ?_; rintro e w4 ⟨rfl, b4⟩; have hz4 := b4.size; have o4 := own_callT2 o3 b4; have r4 := r0.call b4 l0'; have z4 := below_after z0 b4 z0.size)
          | (at_builtin; refine wpList_append_txk rfl _ _ rfl (W.heap.size + 2) _ S S.length x rfl rfl (o4.alloc _) w4.heap.size rfl (by first | (simp [go_sem]; done) | (simp [go_sem]; rfl)) hl9 (by simp only [World.size_alloc]; omega) ?_; intro oc cq w3 ho3 hg3; have r0 := (r4.call ((Below.refl _ _).alloc (Nat.le_refl _) (.cells #[.string x] 9)) (by omega)).grown hg3 (by simp only [World.size_alloc]; omega) (fun e => by have := (o3.lt _ e).1; omega); have z0 := (z4.alloc z4.size _).grown hg3 (by simp only [World.size_alloc]; omega) (fun j e => by have := (o3.lt j e).1; omega))
          | (with_reducible refine wpl_build #[.slice oc (S.length + 1) cq] (by kernel_rfl) ?_)
          | (with_reducible refine wpl_store agg_log (W.heap.size + 1) 0 [.slice oc (S.length + 1) cq] (by kernel_rfl) (by kernel_rfl) (by kernel_rfl) (by kernel_rfl) r0 ?_; have k1 := Lies.sc (vs := [.slice oc (S.length + 1) cq]) rfl r0; have k2 := Below.sc (W.heap.size + 1) (by omega) [.slice oc (S.length + 1) cq] 0 _ z0; have k3 := own_apart ho3 (Nat.lt_succ_self (W.heap.size + 1)) [.slice oc (S.length + 1) cq] 0; generalize World.setCells _ (W.heap.size + 1) 0 [.slice oc (S.length + 1) cq] = wz at k1 k2 k3 ⊢))
        exact bodyPost_ret (v := .tuple #[.agg #[.slice oc (S.length + 1) cq], .bool true]) (resL agg_log Try.results7 _ _ (W.heap.size + 1) [.slice oc (S.length + 1) cq] (by kernel_rfl) (by kernel_rfl) _ (by kernel_rfl) k1) rfl (by first | (rw [e]; exact ⟨_, rfl, by simpa using k3, k2⟩) | exact ⟨_, rfl, by simpa using k3, k2⟩)
end Go.Proofs.Ytegihccdpohnnaa
