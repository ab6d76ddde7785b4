/-
  HashText of the program and of the specification, and its law, walked.
-/
import Derived.Test.YtjfiafnbmejaeaaWalks21
import Derived.Test.YtjfiafnbmejaeaaWalks7
import Derived.Deep.RegionLaw
namespace Go.Proofs.Ytjfiafnbmejaeaa
open Go.RowKit

set_option maxRecDepth 20000 in
set_option maxHeartbeats 2000000 in
theorem ht_impl (q : Qd) (w : World) :
    Calls Try.prog 27 #[.agg #[.int .u64 ((q).a.toNat : Int), .int .u64 ((q).b.toNat : Int), .int .u64 ((q).c.toNat : Int), .int .u64 ((q).d.toNat : Int)]] w fun e w' => e = .returned (.string (str (hexs (db q)))) ∧ Below w.heap.size w w' := by
  obtain ⟨E, hE⟩ : ∃ E, E = hexs (db q) := ⟨_, rfl⟩
  have h1 := fun W : World => dob2_is (db q) rfl W
  rw [← hE] at h1 ⊢
  have hl : E.length = 64 := by rw [hE, hexs_length]; rfl
  clear hE
  have HONE : Hid ((bv E).toArray.all (·.oneCell') = true) := by
    show _ = _
    simp [bv, Value.oneCell']
  have hsz : (bv E).toArray.size = 64 := by simp [bv_length, hl]
  have HI : Hid ((Try.prog.info? 66).map (·.size) = some (bv E).toArray.size) := info64.trans (congrArg some hsz.symm)
  have HS : Hid (64 = (bv E).toArray.size) := hsz.symm
  have hcv := fun W : World => run_str_last W 66 E 64 hl
  clear hsz hl
  go_enter Try.func27, Try.ntmps27
  go_wp2_with (first | (go_at_call 57; refine (bod_is _ _).mono ?_; rintro e w1 ⟨rfl, hb1⟩) | (go_at_call 59; refine (h1 _).mono ?_; rintro e w2 ⟨rfl, hb2⟩) | (refine wpList_store_row rfl 66 _ _ rfl w2.heap.size (bv E).toArray rfl rfl 66 _ (heap_alloc_last w2 _) HI.out HS.out HONE.out ?_; rw [World.setRow_alloc_new]))
  have hz1 := hb1.size
  have hz2 := hb2.size
  simp only [World.size_alloc] at hz1
  go_ret
  exact ⟨rfl, (below_after (below_after ((Below.refl _ _).alloc (Nat.le_refl _) _) hb1 (by simp only [World.size_alloc]; omega)) hb2 (by omega)).alloc (by omega) _⟩

/-- append(b, x, y), b bytes of the call's own, as one step of a region that draws. -/
theorem step_append_two {w : World} {ops : Array Oper} {o : Oper} {a : Act} {K : Act → World → Prop} {Q : Exit → Act → World → Prop} {E : Prop} (hgd : o.guard = none) (s x : Operand)
    (ho : o.op = .call { callee := .builtin .append, args := #[s, x], argTypes := #[22, 22] })
    (base : Nat) (v : Value) (l : List UInt8) (y z : UInt8) (hs : a.eval s = v) (hown : w.ownsRow base 5 1 v l.length (bv l))
    (ad : Addr) (hx : a.eval x = .slice (some ad) 2 2) (hcell : w.cell? ad = some (.int .u8 (y.toNat : Int))) (hcell1 : w.cell? (ad.add 1) = some (.int .u8 (z.toNat : Int)))
    (hlen : l.length < 1000000000) (hbase : base ≤ w.heap.size)
    (h : ∀ v' w', w'.ownsRow base 5 1 v' (l ++ [y, z]).length (bv (l ++ [y, z])) → w.grownBy w' v.ownBlock → K (a.put o.dst v') w') : if Region.wanted o (yielded ops a.tmps) = true then Oper.wp Try.prog o a w K Q else E := by
  have hw : Region.wanted o (yielded ops a.tmps) = true := by simp [Region.wanted, hgd]
  rw [if_pos hw]
  obtain ⟨i0, hi, hz0, hz1, hz2⟩ := info_parts info5
  refine wp_append_own w s x 22 ho base 5 i0 (.int .u8 0) 1 1 Try.underlying22 hi hz0 hz1 hz2 rfl (by decide) v l.length (bv l) hs hown ad 2 2 [.int .u8 (y.toNat : Int), .int .u8 (z.toNat : Int)] hx rfl ?_ ?_ ?_ ?_ hbase ?_
  · intro j u hj
    match j, hj with
    | 0, hj => simp at hj; subst hj; simpa [Addr.add] using hcell
    | 1, hj => simp at hj; subst hj; exact hcell1
  · intro u hu; simp at hu; rcases hu with rfl | rfl <;> rfl
  · unfold maxLen; omega
  · omega
  · intro v' w' h1 h2 _
    refine h v' w' ?_ h2
    simpa [bv] using h1

theorem hex_int (v : Int) (h0 : 0 ≤ v) (h1 : v < 16) (w : World) : Calls Try.prog 67 #[.int .i64 v] w fun e w' => e = .returned (.int .u8 ((hx v.toNat).toNat : Int)) ∧ w' = w := by
  have h := hex_is v.toNat (by omega) w
  rwa [Int.toNat_of_nonneg h0] at h

set_option maxRecDepth 20000 in
set_option maxHeartbeats 2000000 in
theorem ht_spec (q : Qd) (w : World) :
    Calls Try.prog 43 #[.agg #[.int .u64 ((q).a.toNat : Int), .int .u64 ((q).b.toNat : Int), .int .u64 ((q).c.toNat : Int), .int .u64 ((q).d.toNat : Int)]] w fun e w' => e = .returned (.string (str (hexs (db q)))) ∧ Below w.heap.size w w' := by
  obtain ⟨S, hS⟩ : ∃ S, S = str (db q) := ⟨_, rfl⟩
  have h1 := fun W : World => hby_spec q W
  have e1 : hexs (db q) = hexs S.data.toList := by rw [hS]
  rw [← hS] at h1
  rw [e1]
  have hl : S.size = 32 := by rw [hS]; rfl
  clear hS e1
  go_enter Try.func43, Try.ntmps43
  go_wp2_with (first | (go_at_call 41; refine (h1 _).mono ?_; rintro e w1 ⟨rfl, hb1⟩))
  have hz1 := hb1.size
  simp only [World.size_alloc] at hz1
  have hB1 : Below w.heap.size w w1 := below_after ((Below.refl _ _).alloc (Nat.le_refl _) _) hb1 (by simp only [World.size_alloc]; omega)
  clear hb1
  go_loopw [4, 5] (fun v i wr => ∃ k : Nat, k ≤ S.size ∧ i = .int .i64 (k : Int) ∧ wr.ownsRow w.heap.size 5 1 v (hexs (S.data.toList.take k)).length (bv (hexs (S.data.toList.take k))) ∧ Below w.heap.size w wr) (fun _ i _ => S.size - (intOf i).toNat)
  case atStart => exact ⟨0, by omega, rfl, World.ownsRow_lit _ _ 0 (by omega) (by unfold maxLen; omega) rfl, hB1.alloc (by omega) _⟩
  case round =>
    obtain ⟨k, hk, rfl, hown, hb⟩ := hrel
    by_cases hlt : k < S.size
    · have HL : Hid ((hexs (S.data.toList.take k)).length < 1000000000) := by
        show _ < _
        rw [hexs_length, List.length_take]
        omega
      obtain ⟨x, hxk⟩ : ∃ x, x = S[k] := ⟨_, rfl⟩
      have HT : Hid (hexs (S.data.toList.take (k + 1)) = hexs (S.data.toList.take k) ++ [hx8 x, lx8 x]) := by
        show _ = _
        rw [hexs_take _ k (by simpa using hlt), hxk]
        rfl
      have hx256 := u8_lt x
      have hxc : (S[k].toNat : Int) = (x.toNat : Int) := by rw [hxk]
      obtain ⟨y, hy⟩ : ∃ y : Int, y = (x.toNat : Int) := ⟨_, rfl⟩
      obtain ⟨u, hu⟩ : ∃ u : Int, u = y / 16 := ⟨_, rfl⟩
      obtain ⟨v, hv⟩ : ∃ v : Int, v = y % 16 := ⟨_, rfl⟩
      have ca := fun W : World => hex_int u (by omega) (by omega) W
      have cb := fun W : World => hex_int v (by omega) (by omega) W
      have e8 : hx u.toNat = hx8 x := by unfold hx8; congr 1; omega
      have f8 : hx v.toNat = lx8 x := by unfold lx8; congr 1; omega
      rw [e8] at ca
      rw [f8] at cb
      have hy0 : 0 ≤ y := by omega
      have hy1 : y < 256 := by omega
      have hd : y.tdiv 16 = u := by rw [hu]; exact Int.tdiv_eq_ediv_of_nonneg hy0
      have hm : y.tmod 16 = v := by rw [hv]; exact Int.tmod_eq_emod_of_nonneg hy0
      have hd2 : y / 16 = u := hu.symm
      have hm2 : y % 16 = v := hv.symm
      have hwy : IntKind.i64.wrap y = y := IntWalk.i64_in _ (by omega)
      have hwu : IntKind.i64.wrap u = u := IntWalk.i64_in _ (by omega)
      have hwv : IntKind.i64.wrap v = v := IntWalk.i64_in _ (by omega)
      rw [← hy] at hxc
      clear hy hxk hx256 hu hv e8 f8
      go_wp2_with fail
      go_region_law (first
        | (refine step_append_two rfl _ _ rfl w.heap.size _ (hexs (S.data.toList.take k)) (hx8 x) (lx8 x) rfl (hown.alloc _) ⟨wr.heap.size, 0, none⟩ rfl (by simp [go_sem]) (by simp [go_sem]) HL.out (by have := hb.size; simp; omega) ?_; intro v' w3 hown' hgrow)
        | (go_simp; go_at_call_of 67 u; refine (ca _).mono ?_; rintro e w2 ⟨rfl, rfl⟩; go_simp)
        | (go_simp; go_at_call_of 67 v; refine (cb _).mono ?_; rintro e w2 ⟨rfl, rfl⟩; go_simp))
      all_goals (go_wp2_with fail)
      all_goals go_roundw
      all_goals try (case measure => simp [intOf]; omega)
      all_goals (case rel => exact ⟨k + 1, by omega, by go_num, by rw [HT.out]; exact hown', ((hb.drew).alloc hb.size _).grown hgrow (by have := hb.size; simp; omega) (fun j hj => (hown.lt j hj).1)⟩)
    · have hk' : S.data.toList.take k = S.data.toList := List.take_of_length_le (by have : S.size = S.data.size := rfl; simp; omega)
      rw [hk'] at hown
      have hcv := run_str_own (P := Try.prog) wr w.heap.size _ (hexs S.data.toList) hown Try.underlying22 Try.underlying5 Try.underlying9
      clear hk'
      go_wp2
      go_ret
      exact ⟨rfl, hb⟩

set_option maxRecDepth 20000 in
set_option maxHeartbeats 2000000 in
theorem lawText (q : Qd) (w : World) :
    Calls Try.prog 12 #[.agg #[.int .u64 ((q).a.toNat : Int), .int .u64 ((q).b.toNat : Int), .int .u64 ((q).c.toNat : Int), .int .u64 ((q).d.toNat : Int)]] w fun e w' => e = .returned (.bool true) ∧ Below w.heap.size w w' := by
  go_enter Try.func12, Try.ntmps12
  go_wp2_with (first | (go_at_call 34; refine (toD_is _ _).mono ?_; rintro e w0 ⟨rfl, rfl⟩) | (go_at_call 43; refine (ht_spec _ _).mono ?_; rintro e wN ⟨rfl, hbN⟩; have hzN := hbN.size; (try simp only [World.size_drew] at hzN); (try simp only [World.size_alloc] at hzN); have fN0 : wN.cell? ⟨w.heap.size, 0, none⟩ = some (Value.int IntKind.u64 (((q).a).toNat : Int)) := (hbN.cell (p := ⟨w.heap.size, 0, none⟩) (by first | (simp; done) | (simp; omega) | omega)).trans (by (first | ((repeat (first | (with_reducible assumption) | (with_reducible refine c_drew ?_) | (with_reducible refine c_drewN ?_) | (with_reducible refine c_alloc ?_) | (with_reducible refine c_set ?_ (by first | (simp; done) | (simp; omega) | omega)))); done) | (go_simp; done) | (simp [go_sem]; done) | (simp [go_sem, *]; done))); have fN1 : wN.cell? ⟨w.heap.size, 1, none⟩ = some (Value.int IntKind.u64 (((q).b).toNat : Int)) := (hbN.cell (p := ⟨w.heap.size, 1, none⟩) (by first | (simp; done) | (simp; omega) | omega)).trans (by (first | ((repeat (first | (with_reducible assumption) | (with_reducible refine c_drew ?_) | (with_reducible refine c_drewN ?_) | (with_reducible refine c_alloc ?_) | (with_reducible refine c_set ?_ (by first | (simp; done) | (simp; omega) | omega)))); done) | (go_simp; done) | (simp [go_sem]; done) | (simp [go_sem, *]; done))); have fN2 : wN.cell? ⟨w.heap.size, 2, none⟩ = some (Value.int IntKind.u64 (((q).c).toNat : Int)) := (hbN.cell (p := ⟨w.heap.size, 2, none⟩) (by first | (simp; done) | (simp; omega) | omega)).trans (by (first | ((repeat (first | (with_reducible assumption) | (with_reducible refine c_drew ?_) | (with_reducible refine c_drewN ?_) | (with_reducible refine c_alloc ?_) | (with_reducible refine c_set ?_ (by first | (simp; done) | (simp; omega) | omega)))); done) | (go_simp; done) | (simp [go_sem]; done) | (simp [go_sem, *]; done))); have fN3 : wN.cell? ⟨w.heap.size, 3, none⟩ = some (Value.int IntKind.u64 (((q).d).toNat : Int)) := (hbN.cell (p := ⟨w.heap.size, 3, none⟩) (by first | (simp; done) | (simp; omega) | omega)).trans (by (first | ((repeat (first | (with_reducible assumption) | (with_reducible refine c_drew ?_) | (with_reducible refine c_drewN ?_) | (with_reducible refine c_alloc ?_) | (with_reducible refine c_set ?_ (by first | (simp; done) | (simp; omega) | omega)))); done) | (go_simp; done) | (simp [go_sem]; done) | (simp [go_sem, *]; done)))) | (go_at_call 27; refine (ht_impl _ _).mono ?_; rintro e w2 ⟨rfl, hb2⟩))
  have hz2 := hb2.size
  simp only [World.size_alloc] at hz2
  go_ret
  exact ⟨rfl, (by repeat' (first | (with_reducible exact Below.refl _ _) | (with_reducible assumption) | (with_reducible refine below_drewN ?_ _) | (with_reducible refine Below.setCell ?_ ?_ _) | (with_reducible refine Below.alloc ?_ ?_ _) | (with_reducible refine Below.drew ?_) | (with_reducible refine below_setRow ?_ ?_ _) | (with_reducible refine below_after ?_ (by with_reducible assumption) ?_) | go_size))⟩
end Go.Proofs.Ytjfiafnbmejaeaa
