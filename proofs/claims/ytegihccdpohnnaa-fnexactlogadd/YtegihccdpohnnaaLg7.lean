/-
  The law of LogAdd, walked.
-/
import Derived.Test.YtegihccdpohnnaaLg6
namespace Go.Proofs.Ytegihccdpohnnaa
open Go.RowKit

set_option maxRecDepth 20000 in
set_option maxHeartbeats 4000000 in
theorem lawLogAdd (v : Value) (S : List ByteArray) (x : ByteArray) (w : World) (h : Txt w v S ∧ ∀ s ∈ S, s.size ≤ maxLen) :
    Calls Try.prog 3 #[.agg #[v], .string x] w fun e w' => e = .returned (.bool true) ∧ Below w.heap.size w w' := by
  obtain ⟨hT, hs⟩ := h
  have c1 := fun (W : World) (h : Txt W v S) => szlog_is W v S h hs
  have hb0 : Below w.heap.size w (w.alloc (.cells #[v] 24)) := (by repeat' (first | (with_reducible exact Below.refl _ _) | (with_reducible assumption) | (with_reducible refine below_drewN ?_ _) | (with_reducible refine Below.setCell ?_ ?_ _) | (with_reducible refine Below.alloc ?_ ?_ _) | (with_reducible refine Below.drew ?_) | go_size))
  have hB0 : C1 w.heap.size v (w.alloc (.cells #[v] 24)) := C1.new w v 24
  by_cases hbig : 1048576 < x.size
  · have hI : (1048576 : Int) < (x.size : Int) := by omega
    clear c1 hT hs hB0
    obtain ⟨n, hn⟩ : ∃ n, n = x.size := ⟨_, rfl⟩
    go_enter Try.func3, Try.ntmps3
    go_wp2_with fail
    go_ret
    exact ⟨rfl, hb0⟩
  have hI : ¬ (1048576 : Int) < (x.size : Int) := by omega
  have hx : x.size ≤ 1048576 := by omega
  have k1 := fun (W : World) (u : Value) (h : Txt W u S) => la_spec W u S x h hx
  have k2 := fun (W : World) (u : Value) (h : Txt W u S) => la_impl W u S x h hx
  have hY0 : S.length ≤ 1048576 → (la S x).1.length ≤ 1048576 := la_len S x
  generalize la S x = R at k1 k2 hY0
  obtain ⟨Y, b'⟩ := R
  have hTB := TxL.of hT
  have hT0 := hT.call hb0
  obtain ⟨oa, cap, hv⟩ := hT.len
  clear hbig hx
  go_enter Try.func3, Try.ntmps3
  clear hT hs
  subst hv
  go_wp2_with (go_at_call 4; refine (c1 _ hT0).mono ?_; rintro e w1 ⟨r, rfl, hb1, hr⟩; have hB1 := hB0.call hb1; have z1 := below_after hb0 hb1 hb0.size; have hQ1 : QT w (.slice oa S.length cap) S w1 := ⟨hTB.below z1 (Nat.le_refl _), hB1, z1⟩; obtain ⟨l1, d0, -⟩ := id hB1; clear hB0 hB1 hb0 hb1 hT0 hTB c1)
  · go_ret
    exact ⟨rfl, z1⟩
  · have hlen := (hr (by omega))
    have hY := hY0 hlen
    have c2 := fun (W : World) (h : Txt W (.slice oa S.length cap) S) => tolog_is W _ S h hlen
    clear hY0 hr z1
    go_wp2_with (first
      | (go_at_call 8; refine (eqlog_is _ _ _ Y hG5.txt hA5.2.2.1.1).mono ?_; rintro e w9 ⟨rfl, hb9⟩; have hQ9 := hQ5.call hb9; have hA9 := hA5.call hb9; have hX9 := hX5.call hb9; have hG9 := hG5.call hb9; have s9 := hb9.size; obtain ⟨-, v0, -⟩ := id hX9.1; obtain ⟨-, q0, -⟩ := id hQ9.2.1)
      | (go_at_call 7; refine (k2 _ _ hX4.2.2.1).mono ?_; rintro e w5 ⟨u5, rfl, G5, hb5⟩; obtain ⟨o5, c5, hu5⟩ := owt_len G5; subst hu5; have s5 := hb5.size; have hQ5 := (hQ4.call hb5).call ((Below.refl w5.heap.size w5).alloc (Nat.le_refl _) _ : Below w5.heap.size w5 (w5.alloc (.cells #[.slice o5 Y.length c5] 26))); have hA5 := (hA4.call hb5).call ((Below.refl w5.heap.size w5).alloc (Nat.le_refl _) _ : Below w5.heap.size w5 (w5.alloc (.cells #[.slice o5 Y.length c5] 26))); have hX5 := (hX4.call hb5).call ((Below.refl w5.heap.size w5).alloc (Nat.le_refl _) _ : Below w5.heap.size w5 (w5.alloc (.cells #[.slice o5 Y.length c5] 26))); have hG5 := OT.new (c := w4.heap.size) G5 (by simp; omega) (by simp only [World.size_alloc] at s5; omega) 26; obtain ⟨-, b0, -⟩ := id hA5.2.2.2)
      | (have hh := hA3; go_at_call 6; refine (c2 _ hQ3.1.1).mono ?_; rintro e w4 ⟨B, rfl, lB, R4, T4, hb4⟩; have s4 := hb4.size; have lB4 := R4.1; have hQ4 := (hQ3.call hb4).call ((Below.refl w4.heap.size w4).alloc (Nat.le_refl _) _ : Below w4.heap.size w4 (w4.alloc (.cells #[.slice (some ⟨B, 0, none⟩) S.length S.length] 26))); have hA4 := (hA3.call hb4).call ((Below.refl w4.heap.size w4).alloc (Nat.le_refl _) _ : Below w4.heap.size w4 (w4.alloc (.cells #[.slice (some ⟨B, 0, none⟩) S.length S.length] 26))); have hX4 := XT.new R4 T4 26)
      | (go_at_call 5; refine (k1 _ _ T2).mono ?_; rintro e w3 ⟨u3, rfl, G3, hb3⟩; obtain ⟨o3, c3, hu3⟩ := owt_len G3; subst hu3; have s3 := hb3.size; have hQ3 := (hQ2.call hb3).call ((Below.refl w3.heap.size w3).alloc (Nat.le_refl _) _ : Below w3.heap.size w3 (w3.alloc (.cells #[.slice o3 Y.length c3] 26))); have hA3 := AT.new (own_txtL G3) 26; obtain ⟨-, e0, -⟩ := id hQ3.2.1)
      | (go_at_call 6; refine (c2 _ hQ1.1.1).mono ?_; rintro e w2 ⟨B2', rfl, lB2, R2, T2, hb2⟩; have s2 := hb2.size; have hQ2 := hQ1.call hb2))
    have lX9 := hX9.1.1
    have lA9 := hA9.2.1
    have lg9 := hG9.2.1.1
    have lwB : w.heap.size < B := by have := hQ3.2.1.1; omega
    have lBX : B < w4.heap.size := lB4
    simp only [World.size_alloc] at lB s5 s4
    go_region_held3 (fun w' => w'.cell? ⟨w4.heap.size, 0, none⟩ = some (.slice (some ⟨B, 0, none⟩) S.length S.length) ∧ w'.cell? ⟨w.heap.size, 0, none⟩ = some (.slice oa S.length cap)) ((refine ⟨?_, ?_⟩ <;> (repeat (first | (with_reducible assumption) | (with_reducible refine c_drew ?_) | (with_reducible refine c_alloc ?_))))) ((first
      | ((try go_simp); go_at_call 8; refine (eqlog_is _ _ _ S (hX10.2.2.1.call (by repeat' (first | (with_reducible exact Below.refl _ _) | (with_reducible assumption) | (with_reducible refine below_drewN ?_ _) | (with_reducible refine Below.setCell ?_ ?_ _) | (with_reducible refine Below.alloc ?_ ?_ _) | (with_reducible refine Below.drew ?_) | go_size))) (T10.call (by repeat' (first | (with_reducible exact Below.refl _ _) | (with_reducible assumption) | (with_reducible refine below_drewN ?_ _) | (with_reducible refine Below.setCell ?_ ?_ _) | (with_reducible refine Below.alloc ?_ ?_ _) | (with_reducible refine Below.drew ?_) | go_size)))).mono ?_; rintro e w11 ⟨rfl, hb11⟩; have e11 : Below w10.heap.size w10 w11 := below_after (by repeat' (first | (with_reducible exact Below.refl _ _) | (with_reducible assumption) | (with_reducible refine below_drewN ?_ _) | (with_reducible refine Below.setCell ?_ ?_ _) | (with_reducible refine Below.alloc ?_ ?_ _) | (with_reducible refine Below.drew ?_) | go_size)) hb11 (by first | (simp; done) | (simp; omega) | omega); have hQ11 := hQ10.call e11; have hA11 := hA10.call e11; have hX11 := hX10.call e11; have hG11 := hG10.call e11; have s11 := e11.size; obtain ⟨-, v0'', -⟩ := id hX11.1; obtain ⟨-, q0'', -⟩ := id hQ11.2.1)
      | ((try go_simp); go_at_call 6; refine (c2 _ (hQ9.1.1.call (by repeat' (first | (with_reducible exact Below.refl _ _) | (with_reducible assumption) | (with_reducible refine below_drewN ?_ _) | (with_reducible refine Below.setCell ?_ ?_ _) | (with_reducible refine Below.alloc ?_ ?_ _) | (with_reducible refine Below.drew ?_) | go_size)))).mono ?_; rintro e w10 ⟨b10, rfl, lb10, R10, T10, hb10⟩; have e10 : Below w9.heap.size w9 w10 := below_after (by repeat' (first | (with_reducible exact Below.refl _ _) | (with_reducible assumption) | (with_reducible refine below_drewN ?_ _) | (with_reducible refine Below.setCell ?_ ?_ _) | (with_reducible refine Below.alloc ?_ ?_ _) | (with_reducible refine Below.drew ?_) | go_size)) hb10 (by first | (simp; done) | (simp; omega) | omega); have hQ10 := hQ9.call e10; have hA10 := hA9.call e10; have hX10 := hX9.call e10; have hG10 := hG9.call e10; have s10 := e10.size; obtain ⟨-, v0', -⟩ := id hX10.1; obtain ⟨-, q0', -⟩ := id hQ10.2.1)))
    clear hQ9 hA9 hX9 hG9 hQ10 hA10 hX10 hG10 v0 q0 v0' q0' R10 T10 e10 e11 hQ1 hQ2 hQ3 hQ4 hQ5 hA3 hA4 hA5 hX4 hX5 hG5 b0 e0 d0
    go_wp2_with (first
      | (go_at_call 10; refine (heldlogG w18 _ Y.length r14 hH18 hY).mono ?_; rintro e w19 ⟨rfl, hb19⟩; have hQ19 := hQ18.call hb19)
      | (go_at_call 8; refine (eqlog_is _ _ _ Y hG17.txt hA17.2.2.1.1).mono ?_; rintro e w18 ⟨rfl, hb18⟩; have hQ18 := hQ17.call hb18; have hH18 := hH17.call hb18; have hC18 := hC17.call hb18; obtain ⟨-, a0, -⟩ := id hC18)
      | (have hh := R16; go_at_call 7; refine (k2 _ _ T16).mono ?_; rintro e w17 ⟨u17, rfl, G17, hb17⟩; obtain ⟨o17, c17, hu17⟩ := owt_len G17; subst hu17; have s17 := hb17.size; have hQ17 := (hQ16.call hb17).call ((Below.refl w17.heap.size w17).alloc (Nat.le_refl _) _ : Below w17.heap.size w17 (w17.alloc (.cells #[.slice o17 Y.length c17] 26))); have hA17 := (hA16.call hb17).call ((Below.refl w17.heap.size w17).alloc (Nat.le_refl _) _ : Below w17.heap.size w17 (w17.alloc (.cells #[.slice o17 Y.length c17] 26))); have hC17 := (hC16.call hb17).call ((Below.refl w17.heap.size w17).alloc (Nat.le_refl _) _ : Below w17.heap.size w17 (w17.alloc (.cells #[.slice o17 Y.length c17] 26))); have hH17 := (hH16.call hb17).call ((Below.refl w17.heap.size w17).alloc (Nat.le_refl _) _ : Below w17.heap.size w17 (w17.alloc (.cells #[.slice o17 Y.length c17] 26))); have hG17 := OT.new (c := w16.heap.size) G17 (Nat.le_add_right _ _) s17 26; obtain ⟨-, b0, -⟩ := id hA17.2.2.2)
      | (go_at_call 6; refine (c2 _ hQ15.1.1).mono ?_; rintro e w16 ⟨B16, rfl, lB16, R16, T16, hb16⟩; have s16 := hb16.size; have hQ16 := hQ15.call hb16; have hA16 := hA15.call hb16; have hC16 := hC15.call hb16; have hH16 := hH15.call hb16)
      | (go_at_call 10; refine (heldlogG w14 _ Y.length r14 hH14 hY).mono ?_; rintro e w15 ⟨rfl, hb15⟩; have hQ15 := hQ14.call hb15; have hA15 := hA14.call hb15; have hC15 := hC14.call hb15; have hH15 := hH14.call hb15; have s15 := hb15.size; obtain ⟨-, q0, -⟩ := id hQ15.2.1; clear hQ14 hA14 hC14 hH14 hb15)
      | (have hh := hG13; go_at_call 9; refine (marklogR w13 w4.heap.size _ Y hG13.2.2.1 hY).mono ?_; rintro e w14 ⟨r14, row, rfl, hg14, hrow, hH14⟩; have hbl : Below w4.heap.size w13 w14 := below_rowT hg14 (fun j e => (hrow j e).1) (by omega); have hQ14 := hQ13.step hbl (by omega); have hA14 := hA13.step hbl (by omega); have hC14 := hG13.2.1.grown hg14 (fun e => by obtain ⟨_, h2, c, h3⟩ := hrow _ e; exact h2 (hG13.2.2.2 _ _ h3)); have s14 := hg14.size; have n14 : ¬ (r14 : Int) < 0 := (by omega); obtain ⟨-, a0, -⟩ := id hC14; clear hQ13 hA13 hG13 hg14 hrow hbl hh)
      | (go_at_call 8; refine (eqlog_is w12 _ _ Y hG12.txt hA12.2.2.1.1).mono ?_; rintro e w13 ⟨rfl, hb13⟩; have hQ13 := hQ12.call hb13; have hA13 := hA12.call hb13; have hG13 := hG12.call hb13; have s13 := hb13.size; obtain ⟨-, a0, -⟩ := id hG13.2.1; clear hQ12 hA12 hG12 hb13)
      | (go_at_call 9; refine (marklogX w11 B S.length S.length hX11.2.1 hlen).mono ?_; rintro e w12 ⟨r12, rfl, hg12⟩; have hbl : Below B w11 w12 := grown_below_at hg12 (by omega); have hQ12 := hQ11.step hbl lwB; have hA12 := hA11.step hbl (by omega); have hG12 := hG11.grown hg12 (fun j e => by injection e with e; omega); have n12 : ¬ (r12 : Int) < 0 := (by omega); have s12 := hg12.size; obtain ⟨-, a0, -⟩ := id hG12.2.1; obtain ⟨-, b0, -⟩ := id hA12.2.2.2; clear hQ11 hA11 hX11 hG11 hg12 hbl))
    go_ret
    exact ⟨rfl, hQ19.2.2⟩
end Go.Proofs.Ytegihccdpohnnaa
