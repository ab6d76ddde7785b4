/-
  The law of the forms of a digest, walked.
-/
import Derived.Test.YtjfiafnbmejaeaaDraw1
import Derived.Test.YtjfiafnbmejaeaaWalks25
namespace Go.Proofs.Ytjfiafnbmejaeaa
open Go.RowKit

/-- What HashRead tells of a text. -/
def rb (T : ByteArray) : Bool := decide (T.size = 64) && T.data.toList.all okd
def rq (T : ByteArray) : Qd := if rb T then bd (unb T.data.toList) else { a := 0, b := 0, c := 0, d := 0 }
theorem len_data (T : ByteArray) : T.data.toList.length = T.size := Array.length_toList
theorem hr_impl_all (T : ByteArray) (w : World) : Calls Try.prog 26 #[.string T] w fun e w' => e = .returned (.tuple #[.agg #[.int .u64 ((rq T).a.toNat : Int), .int .u64 ((rq T).b.toNat : Int), .int .u64 ((rq T).c.toNat : Int), .int .u64 ((rq T).d.toNat : Int)], .bool (rb T)]) ∧ Below w.heap.size w w' := by
  by_cases h64 : T.size = 64
  · by_cases ho : T.data.toList.all okd = true
    · have hb : rb T = true := by unfold rb; rw [decide_eq_true h64, ho]; rfl
      have hq : rq T = bd (unb T.data.toList) := by unfold rq; rw [hb]; rfl
      rw [hb, hq]
      exact hr_impl_good T w h64 ((hexs_unb 32 _ (by rw [len_data]; omega)).2 ho)
    · have hb : rb T = false := by unfold rb; rw [Bool.not_eq_true] at ho; rw [ho, Bool.and_false]
      have hq : rq T = { a := 0, b := 0, c := 0, d := 0 } := by unfold rq; rw [hb]; rfl
      rw [hb, hq]
      exact hr_impl_bad T w h64 (fun h => ho ((hexs_unb 32 _ (by rw [len_data]; omega)).1 h))
  · have hb : rb T = false := by unfold rb; rw [decide_eq_false h64, Bool.false_and]
    have hq : rq T = { a := 0, b := 0, c := 0, d := 0 } := by unfold rq; rw [hb]; rfl
    rw [hb, hq]
    exact hr_impl_no T w h64
theorem hr_spec_all (T : ByteArray) (w : World) : Calls Try.prog 29 #[.string T] w fun e w' => e = .returned (.tuple #[.agg #[.int .u64 ((rq T).a.toNat : Int), .int .u64 ((rq T).b.toNat : Int), .int .u64 ((rq T).c.toNat : Int), .int .u64 ((rq T).d.toNat : Int)], .bool (rb T)]) ∧ Below w.heap.size w w' := by
  by_cases h64 : T.size = 64
  · have hs := hr_spec_yes T w h64
    by_cases ho : T.data.toList.all okd = true
    · have hb : rb T = true := by unfold rb; rw [decide_eq_true h64, ho]; rfl
      have hq : rq T = bd (unb T.data.toList) := by unfold rq; rw [hb]; rfl
      rw [hb, hq]
      rw [if_pos ho] at hs
      exact hs
    · have hb : rb T = false := by unfold rb; rw [Bool.not_eq_true] at ho; rw [ho, Bool.and_false]
      have hq : rq T = { a := 0, b := 0, c := 0, d := 0 } := by unfold rq; rw [hb]; rfl
      rw [hb, hq]
      rw [if_neg ho] at hs
      exact hs
  · have hb : rb T = false := by unfold rb; rw [decide_eq_false h64, Bool.false_and]
    have hq : rq T = { a := 0, b := 0, c := 0, d := 0 } := by unfold rq; rw [hb]; rfl
    rw [hb, hq]
    exact hr_spec_no T w h64
theorem text_read (q : Qd) (w : World) : Calls Try.prog 26 #[.string (str (hexs (db q)))] w fun e w' => e = .returned (.tuple #[.agg #[.int .u64 ((q).a.toNat : Int), .int .u64 ((q).b.toNat : Int), .int .u64 ((q).c.toNat : Int), .int .u64 ((q).d.toNat : Int)], .bool true]) ∧ Below w.heap.size w w' := by
  have hb : rb (str (hexs (db q))) = true := by
    unfold rb
    have e : (str (hexs (db q))).size = 64 := by show (hexs (db q)).toArray.size = 64; simp [hexs_length, db_len]
    rw [decide_eq_true e, Bool.true_and]
    exact all_hexs _
  have hq : rq (str (hexs (db q))) = q := by
    unfold rq
    rw [hb]
    show bd (unb (hexs (db q))) = q
    rw [unb_hexs, bd_db]
  have h := hr_impl_all (str (hexs (db q))) w
  rw [hb, hq] at h
  exact h
theorem bytes_back (q : Qd) (w : World) : Calls Try.prog 24 #[.string (str (db q))] w fun e w' => e = .returned (.tuple #[.agg #[.int .u64 ((q).a.toNat : Int), .int .u64 ((q).b.toNat : Int), .int .u64 ((q).c.toNat : Int), .int .u64 ((q).d.toNat : Int)], .bool true]) ∧ Below w.heap.size w w' := by
  have h := hbk_impl_yes (str (db q)) w rfl
  have e : bd (seg (str (db q)) 0 32) = q := by
    rw [seg_all (str (db q)) 32 rfl]
    exact bd_db q
  rw [e] at h
  exact h
/-- A text that is read, written again, is the text. -/
theorem read_text (T : ByteArray) (h : rb T = true) : str (hexs (db (rq T))) = T := by
  have hq : rq T = bd (unb T.data.toList) := by unfold rq; rw [h]; rfl
  unfold rb at h
  rw [Bool.and_eq_true, decide_eq_true_iff] at h
  rw [hq, db_bd _ (unb_length 32 _ (by rw [len_data]; omega)), (hexs_unb 32 _ (by rw [len_data]; omega)).2 h.2]
/-- 32 bytes, read and written again. -/
theorem back_bytes (U : ByteArray) (h : U.size = 32) : str (db (bd (seg U 0 32))) = U := by
  rw [seg_all U 32 h, db_bd _ (by rw [len_data]; exact h)]

set_option maxRecDepth 20000 in
set_option maxHeartbeats 4000000 in
theorem lawForms (v : Value) (L : List UInt8) (w : World) (hV : Byt w v L) :
    Calls Try.prog 4 #[v] w fun e w' => e = .returned (.bool true) ∧ Below w.heap.size w w' := by
  obtain ⟨oa, cap, hv⟩ : ∃ a cap, v = .slice a L.length cap := by
    rcases hV with ⟨rfl, rfl⟩ | ⟨a, cap, rfl, _⟩
    · exact ⟨none, 0, rfl⟩
    · exact ⟨some a, cap, rfl⟩
  by_cases hbig : 1048576 < L.length
  · have hbI : (1048576 : Int) < (L.length : Int) := by omega
    subst hv
    clear hV
    go_enter Try.func4, Try.ntmps4
    go_wp2_with fail
    go_ret
    exact ⟨rfl, Below.refl _ _⟩
  · have hbI : ¬ (1048576 : Int) < (L.length : Int) := by omega
    subst hv
    have k1 := fun (W : World) (h : Below w.heap.size w W) => drawBytes_is W _ L (hV.call h)
    have k2 := fun (W : World) (h : Below w.heap.size w W) => drawRead_is W _ L (hV.call h)
    have k3 := fun (W : World) (h : Below w.heap.size w W) => drawBack_is W _ L (hV.call h)
    clear hV
    go_enter Try.func4, Try.ntmps4
    go_wp2_with (first
      | (go_at_call 23; refine (k1 w (Below.refl _ _)).mono ?_; rintro e w1 ⟨q, rfl, hb1⟩; have hD1 : Dig w1.heap.size q (w1.alloc (.cells #[Value.int IntKind.u64 ((q).a.toNat : Int), Value.int IntKind.u64 ((q).b.toNat : Int), Value.int IntKind.u64 ((q).c.toNat : Int), Value.int IntKind.u64 ((q).d.toNat : Int)] 25)) := Dig.new w1 q; have hs1 := hb1.size; obtain ⟨B, hB⟩ : ∃ B, B = str (db q) := ⟨_, rfl⟩; obtain ⟨X, hX⟩ : ∃ X, X = str (hexs (db q)) := ⟨_, rfl⟩; have hBs : B.size = 32 := (by rw [hB]; rfl); have hXs : X.size = 64 := (by rw [hX]; show (hexs (db q)).toArray.size = 64; simp [hexs_length, db_len]); have g1 := (fun W : World => hby_impl q W); have g2 := (fun W : World => bytes_back q W); have g3 := (fun W : World => ht_impl q W); have g4 := (fun W : World => text_read q W); rw [← hB] at g1 g2; rw [← hX] at g3 g4; clear hB hX)
      | (go_at_call 25; have hh := hD5; refine (g1 _).mono ?_; rintro e w6 ⟨rfl, hb6⟩; have hD6 : Dig w1.heap.size q w6 := (hD5.alloc _).call hb6; obtain ⟨_, d60, d61, d62, d63⟩ := hD6; have hB6 : Below w.heap.size w w6 := below_after (hB5.alloc hB5.size _) hb6 (by have := hB5.size; simp only [World.size_alloc]; omega))
      | (go_at_call 25; refine (g1 _).mono ?_; rintro e w2 ⟨rfl, hb2⟩; have hD2 := hD1.call hb2; have hB2 : Below w.heap.size w w2 := below_after (hb1.alloc hs1 _) hb2 (by simp only [World.size_alloc]; omega))
      | (go_at_call_of 24 B; refine (g2 w2).mono ?_; rintro e w3 ⟨rfl, hb3⟩; have hD3 := hD2.call hb3; obtain ⟨_, d30, d31, d32, d33⟩ := hD3; have hB3 : Below w.heap.size w w3 := below_after hB2 hb3 hB2.size)
      | (go_at_call 27; have hh := hB6; refine (g3 w6).mono ?_; rintro e w7 ⟨rfl, hb7⟩; have hB7 : Below w.heap.size w w7 := below_after hB6 hb7 hB6.size)
      | (go_at_call 27; refine (g3 _).mono ?_; rintro e w4 ⟨rfl, hb4⟩; have hD4 := ((hD2.call hb3).alloc _).call hb4; have hA4 : Dig w3.heap.size q w4 := (Dig.new w3 q).call hb4; have hB4 : Below w.heap.size w w4 := below_after (hB3.alloc hB3.size _) hb4 (by have := hB3.size; simp only [World.size_alloc]; omega))
      | (go_at_call_of 26 X; refine (g4 w4).mono ?_; rintro e w5 ⟨rfl, hb5⟩; have hD5 := hD4.call hb5; have hA5 := hA4.call hb5; obtain ⟨_, d50, d51, d52, d53⟩ := hD5; obtain ⟨_, a50, a51, a52, a53⟩ := hA5; have hD5 := hD4.call hb5; have hB5 : Below w.heap.size w w5 := below_after hB4 hb5 hB4.size)
      | (go_at_call 28; refine (k2 w7 hB7).mono ?_; rintro e w8 ⟨T, hT, rfl, hb8⟩; have hB8 : Below w.heap.size w w8 := below_after hB7 hb8 hB7.size))
    clear g1 g2 g3 g4 k1 k2 d30 d31 d32 d33 d50 d51 d52 d53 a50 a51 a52 a53 d60 d61 d62 d63 hD1 hD2 hD4 hA4 hD5
    have j1 := fun W : World => hr_impl_all T W
    have j2 := fun W : World => hr_spec_all T W
    have j3 := fun W : World => ht_impl (rq T) W
    obtain ⟨y, hy⟩ : ∃ y, y = rq T := ⟨_, rfl⟩
    have hrt := read_text T
    rw [← hy] at j1 j2 j3 hrt
    clear hy
    have stage3 : ∀ U : ByteArray, (∃ (z : Qd) (b : Bool), (∀ W : World, Calls Try.prog 24 #[.string U] W fun e w' => e = .returned (.tuple #[.agg #[.int .u64 ((z).a.toNat : Int), .int .u64 ((z).b.toNat : Int), .int .u64 ((z).c.toNat : Int), .int .u64 ((z).d.toNat : Int)], .bool b]) ∧ Below W.heap.size W w') ∧ ((b = true ∧ U.size = 32 ∧ str (db z) = U) ∨ (b = false ∧ U.size ≠ 32))) := fun U => by
      by_cases h32 : U.size = 32
      · exact ⟨_, true, fun W => hbk_impl_yes U W h32, .inl ⟨rfl, h32, back_bytes U h32⟩⟩
      · exact ⟨{ a := 0, b := 0, c := 0, d := 0 }, false, fun W => hbk_impl_no U W h32, .inr ⟨rfl, h32⟩⟩
    have HST : Hid (∀ U : ByteArray, (∃ (z : Qd) (b : Bool), (∀ W : World, Calls Try.prog 24 #[.string U] W fun e w' => e = .returned (.tuple #[.agg #[.int .u64 ((z).a.toNat : Int), .int .u64 ((z).b.toNat : Int), .int .u64 ((z).c.toNat : Int), .int .u64 ((z).d.toNat : Int)], .bool b]) ∧ Below W.heap.size W w') ∧ ((b = true ∧ U.size = 32 ∧ str (db z) = U) ∨ (b = false ∧ U.size ≠ 32)))) := stage3
    clear stage3
    cases hb : rb T with
    | false =>
      rw [hb] at j1 j2
      clear hb hrt j3
      go_wp2_with (first
        | (go_at_call 26; refine (j1 w8).mono ?_; rintro e w9 ⟨rfl, hb9⟩; have hB9 : Below w.heap.size w w9 := below_after hB8 hb9 hB8.size)
        | (go_at_call 29; refine (j2 _).mono ?_; rintro e w10 ⟨rfl, hb10⟩; have hB10 : Below w.heap.size w w10 := below_after (hB9.alloc hB9.size _) hb10 (by have := hB9.size; simp only [World.size_alloc]; omega))
        | (go_at_call 30; refine (k3 _ (hB10.alloc hB10.size _)).mono ?_; rintro e w12 ⟨U, hU, rfl, hb12⟩; have hB12 : Below w.heap.size w w12 := below_after (hB10.alloc hB10.size _) hb12 (by have := hB10.size; simp only [World.size_alloc]; omega)))
      obtain ⟨z, b, g, hc⟩ := HST.out U
      have gb := fun W : World => hby_impl z W
      clear HST j1 j2
      rcases hc with ⟨rfl, h32, hzU⟩ | ⟨rfl, h32⟩
      · rw [hzU] at gb
        have h32I : (U.size : Int) = 32 := by omega
        clear hzU
        go_wp2_with (first
          | (go_at_call 24; refine (g w12).mono ?_; rintro e w13 ⟨rfl, hb13⟩; have hB13 : Below w.heap.size w w13 := below_after hB12 hb13 hB12.size)
          | (go_at_call 25; refine (gb _).mono ?_; rintro e w14 ⟨rfl, hb14⟩; have hB14 : Below w.heap.size w w14 := below_after (hB13.alloc hB13.size _) hb14 (by have := hB13.size; simp only [World.size_alloc]; omega)))
        go_ret
        exact ⟨rfl, hB14⟩
      · have h32I : ((U.size : Int) == 32) = false := by rw [beq_eq_false_iff_ne]; omega
        go_wp2_with (go_at_call 24; refine (g w12).mono ?_; rintro e w13 ⟨rfl, hb13⟩; have hB13 : Below w.heap.size w w13 := below_after hB12 hb13 hB12.size)
        go_ret
        exact ⟨rfl, hB13.alloc hB13.size _⟩
    | true =>
      rw [hb] at j1 j2
      rw [hrt hb] at j3
      clear hb hrt
      go_wp2_with (first
        | (go_at_call 26; refine (j1 w8).mono ?_; rintro e w9 ⟨rfl, hb9⟩; have hB9 : Below w.heap.size w w9 := below_after hB8 hb9 hB8.size)
        | (go_at_call 29; refine (j2 _).mono ?_; rintro e w10 ⟨rfl, hb10⟩; have hB10 : Below w.heap.size w w10 := below_after (hB9.alloc hB9.size _) hb10 (by have := hB9.size; simp only [World.size_alloc]; omega); have hC10 : Dig w9.heap.size y w10 := (Dig.new w9 y).call hb10; obtain ⟨_, c0, c1, c2, c3⟩ := hC10)
        | (go_at_call 27; refine (j3 _).mono ?_; rintro e w11 ⟨rfl, hb11⟩; have hB11 : Below w.heap.size w w11 := below_after (hB10.alloc hB10.size _) hb11 (by have := hB10.size; simp only [World.size_alloc]; omega))
        | (go_at_call 30; refine (k3 w11 hB11).mono ?_; rintro e w12 ⟨U, hU, rfl, hb12⟩; have hB12 : Below w.heap.size w w12 := below_after hB11 hb12 hB11.size))
      obtain ⟨z, b, g, hc⟩ := HST.out U
      have gb := fun W : World => hby_impl z W
      clear HST j1 j2
      rcases hc with ⟨rfl, h32, hzU⟩ | ⟨rfl, h32⟩
      · rw [hzU] at gb
        have h32I : (U.size : Int) = 32 := by omega
        clear hzU
        go_wp2_with (first
          | (go_at_call 24; refine (g w12).mono ?_; rintro e w13 ⟨rfl, hb13⟩; have hB13 : Below w.heap.size w w13 := below_after hB12 hb13 hB12.size)
          | (go_at_call 25; refine (gb _).mono ?_; rintro e w14 ⟨rfl, hb14⟩; have hB14 : Below w.heap.size w w14 := below_after (hB13.alloc hB13.size _) hb14 (by have := hB13.size; simp only [World.size_alloc]; omega)))
        go_ret
        exact ⟨rfl, hB14⟩
      · have h32I : ((U.size : Int) == 32) = false := by rw [beq_eq_false_iff_ne]; omega
        go_wp2_with (go_at_call 24; refine (g w12).mono ?_; rintro e w13 ⟨rfl, hb13⟩; have hB13 : Below w.heap.size w w13 := below_after hB12 hb13 hB12.size)
        go_ret
        exact ⟨rfl, hB13.alloc hB13.size _⟩
end Go.Proofs.Ytjfiafnbmejaeaa
