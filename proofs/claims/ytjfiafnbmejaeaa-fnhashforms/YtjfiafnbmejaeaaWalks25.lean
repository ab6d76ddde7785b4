/-
  HashRead of the specification, walked.
-/
import Derived.Test.YtjfiafnbmejaeaaWalks24
namespace Go.Proofs.Ytjfiafnbmejaeaa
open Go.RowKit

def uh (c : UInt8) : Int := if okd c then (dv c : Int) else -1
theorem uh_of (c : UInt8) : uh c = if 48 ≤ c.toNat ∧ c.toNat ≤ 57 then (c.toNat : Int) - 48 else if 97 ≤ c.toNat ∧ c.toNat ≤ 102 then (c.toNat : Int) - 87 else -1 := by
  have key : ∀ n, n < 256 → uh (UInt8.ofNat n) = if 48 ≤ (UInt8.ofNat n).toNat ∧ (UInt8.ofNat n).toNat ≤ 57 then ((UInt8.ofNat n).toNat : Int) - 48 else if 97 ≤ (UInt8.ofNat n).toNat ∧ (UInt8.ofNat n).toNat ≤ 102 then ((UInt8.ofNat n).toNat : Int) - 87 else -1 := by decide +kernel
  have := key c.toNat (u8_lt c)
  rwa [UInt8.ofNat_toNat] at this
/-- l1Unhex. -/
theorem unhex_is (c : UInt8) (w : World) : Calls Try.prog 60 #[.int .u8 (c.toNat : Int)] w fun e w' => e = .returned (.int .i64 (uh c)) ∧ w' = w := by
  have hc := u8_lt c
  obtain ⟨d, hd⟩ : ∃ d, d = uh c := ⟨_, rfl⟩
  have HD : Hid (d = if 48 ≤ c.toNat ∧ c.toNat ≤ 57 then (c.toNat : Int) - 48 else if 97 ≤ c.toNat ∧ c.toNat ≤ 102 then (c.toNat : Int) - 87 else -1) := hd.trans (uh_of c)
  rw [← hd]
  clear hd
  generalize hy : (c.toNat : Int) = y at HD ⊢
  have HY : Hid ((c.toNat : Int) = y) := hy
  have hy0 : 0 ≤ y := by omega
  have hy1 : y < 256 := by omega
  clear hy
  by_cases h1 : 48 ≤ y
  · by_cases h2 : y ≤ 57
    · go_enter Try.func60, Try.ntmps60
      go_wp2
      go_ret
      refine ⟨congrArg Ending.returned (congrArg (Value.int IntKind.i64) ?_), rfl⟩
      have e := HD.out
      have e2 := HY.out
      rw [if_pos (by omega)] at e
      show y - 48 = _
      omega
    · by_cases h3 : 97 ≤ y
      · by_cases h4 : y ≤ 102
        · go_enter Try.func60, Try.ntmps60
          go_wp2
          go_ret
          refine ⟨congrArg Ending.returned (congrArg (Value.int IntKind.i64) ?_), rfl⟩
          have e := HD.out
          have e2 := HY.out
          rw [if_neg (by omega), if_pos (by omega)] at e
          show y - 97 + 10 = _
          omega
        · go_enter Try.func60, Try.ntmps60
          go_wp2
          go_ret
          refine ⟨congrArg Ending.returned (congrArg (Value.int IntKind.i64) ?_), rfl⟩
          have e := HD.out
          have e2 := HY.out
          rw [if_neg (by omega), if_neg (by omega)] at e
          rw [e]
      · go_enter Try.func60, Try.ntmps60
        go_wp2
        go_ret
        refine ⟨congrArg Ending.returned (congrArg (Value.int IntKind.i64) ?_), rfl⟩
        have e := HD.out
        have e2 := HY.out
        rw [if_neg (by omega), if_neg (by omega)] at e
        rw [e]
  · go_enter Try.func60, Try.ntmps60
    go_wp2
    go_ret
    refine ⟨congrArg Ending.returned (congrArg (Value.int IntKind.i64) ?_), rfl⟩
    have e := HD.out
    have e2 := HY.out
    rw [if_neg (by omega), if_neg (by omega)] at e
    rw [e]

set_option maxRecDepth 20000 in
set_option maxHeartbeats 1000000 in
theorem hr_spec_no (s : ByteArray) (w : World) (hn : s.size ≠ 64) :
    Calls Try.prog 29 #[.string s] w fun e w' => e = .returned (.tuple #[.agg #[.int .u64 0, .int .u64 0, .int .u64 0, .int .u64 0], .bool false]) ∧ Below w.heap.size w w' := by
  have hb : (((s.size : Int)) != 64) = true := by rw [bne_iff_ne]; omega
  go_enter Try.func29, Try.ntmps29
  go_wp2
  exact bodyPost_ret (v := .tuple #[.agg #[.int .u64 0, .int .u64 0, .int .u64 0, .int .u64 0], .bool false]) (by simp [results, Try.results29, go_sem]) rfl ⟨rfl, (by repeat' (first | (with_reducible exact Below.refl _ _) | (with_reducible assumption) | (with_reducible refine below_drewN ?_ _) | (with_reducible refine Below.setCell ?_ ?_ _) | (with_reducible refine Below.alloc ?_ ?_ _) | (with_reducible refine Below.drew ?_) | go_size))⟩

theorem own_start (w : World) (A : Obj) : ((w.alloc A).alloc (.cells #[] 5)).ownsRow (w.heap.size + 1) 5 1 (.slice (some ⟨w.heap.size + 1, 0, none⟩) 0 0) 0 [] := by
  have h : ((w.alloc A).alloc (.cells #[] 5)).ownsRow (w.heap.size + 1) 5 1 (.slice (some ⟨(w.alloc A).heap.size, 0, none⟩) 0 0) 0 [] := World.ownsRow_lit _ _ 0 (Nat.le_of_eq (World.size_alloc _ _).symm) (by unfold maxLen; omega) rfl
  rw [World.size_alloc] at h
  exact h

set_option maxRecDepth 20000 in
set_option maxHeartbeats 1000000 in
theorem hr_spec_yes (s : ByteArray) (w : World) (hn : s.size = 64) :
    Calls Try.prog 29 #[.string s] w fun e w' => e = .returned (if s.data.toList.all okd then (.tuple #[.agg #[.int .u64 ((bd (unb s.data.toList)).a.toNat : Int), .int .u64 ((bd (unb s.data.toList)).b.toNat : Int), .int .u64 ((bd (unb s.data.toList)).c.toNat : Int), .int .u64 ((bd (unb s.data.toList)).d.toNat : Int)], .bool true]) else (.tuple #[.agg #[.int .u64 0, .int .u64 0, .int .u64 0, .int .u64 0], .bool false])) ∧ Below w.heap.size w w' := by
  have hb : (((s.size : Int)) != 64) = false := by rw [hn]; rfl
  obtain ⟨R, hR⟩ : ∃ R, R = (if s.data.toList.all okd then (Value.tuple #[.agg #[.int .u64 ((bd (unb s.data.toList)).a.toNat : Int), .int .u64 ((bd (unb s.data.toList)).b.toNat : Int), .int .u64 ((bd (unb s.data.toList)).c.toNat : Int), .int .u64 ((bd (unb s.data.toList)).d.toNat : Int)], .bool true]) else (.tuple #[.agg #[.int .u64 0, .int .u64 0, .int .u64 0, .int .u64 0], .bool false])) := ⟨_, rfl⟩
  have HR : Hid (R = (if s.data.toList.all okd then (Value.tuple #[.agg #[.int .u64 ((bd (unb s.data.toList)).a.toNat : Int), .int .u64 ((bd (unb s.data.toList)).b.toNat : Int), .int .u64 ((bd (unb s.data.toList)).c.toNat : Int), .int .u64 ((bd (unb s.data.toList)).d.toNat : Int)], .bool true]) else (.tuple #[.agg #[.int .u64 0, .int .u64 0, .int .u64 0, .int .u64 0], .bool false]))) := hR
  rw [← hR]
  clear hR
  go_enter Try.func29, Try.ntmps29
  go_wp2_with fail
  go_loopw [4, 5] (fun v i wr => ∃ k j : Nat, k ≤ 32 ∧ Hid (j = 2 * k) ∧ i = .int .i64 (j : Int) ∧ wr.ownsRow (w.heap.size + 1) 5 1 v (unb (s.data.toList.take j)).length (bv (unb (s.data.toList.take j))) ∧ Hid ((s.data.toList.take j).all okd = true) ∧ Below (w.heap.size + 1) (w.alloc (.cells #[Value.int IntKind.u64 0, Value.int IntKind.u64 0, Value.int IntKind.u64 0, Value.int IntKind.u64 0] 25)) wr) (fun _ i _ => 64 - (intOf i).toNat)
  case atStart => exact ⟨0, 0, by omega, rfl, rfl, own_start w _, rfl, (Below.refl _ _).alloc (Nat.le_of_eq (World.size_alloc _ _).symm) _⟩
  case round =>
    obtain ⟨k, j, hk, HJ, rfl, hown, HA, hb2⟩ := hrel
    have hz := hb2.size
    simp only [World.size_alloc] at hz
    have HBW : Hid (Below w.heap.size w wr) := ((Below.refl w.heap.size w).alloc (Nat.le_refl _) _).trans (hb2.mono (by omega))
    have R0 : Hid (∀ j, j < 4 → wr.cell? ⟨w.heap.size, j, none⟩ = some (.int .u64 0)) := fun j hj => (hb2.cell (by simp only; omega)).trans (by
      have hj' : j = 0 ∨ j = 1 ∨ j = 2 ∨ j = 3 := by omega
      rcases hj' with rfl | rfl | rfl | rfl <;> simp [go_sem])
    have F0 : Hid (∀ j, j < 4 → wr.frozen? ⟨w.heap.size, j, none⟩ = false) := fun j hj => (hb2.frozen (by simp only; omega)).trans (by
      have hj' : j = 0 ∨ j = 1 ∨ j = 2 ∨ j = 3 := by omega
      rcases hj' with rfl | rfl | rfl | rfl <;> simp [go_sem])
    have c0 := R0.out 0 (by omega)
    have c1 := R0.out 1 (by omega)
    have c2 := R0.out 2 (by omega)
    have c3 := R0.out 3 (by omega)
    have f0 := F0.out 0 (by omega)
    have f1 := F0.out 1 (by omega)
    have f2 := F0.out 2 (by omega)
    have f3 := F0.out 3 (by omega)
    by_cases hlt : j < 64
    · have hj1 : j + 1 < 64 := by have := HJ.out; omega
      have hltI : (j : Int) < 64 := by omega
      have hj0 : (0 : Int) ≤ (j : Int) := by omega
      have hjI : (j : Int) + 1 < 64 := by omega
      have hw1 : IntKind.i64.wrap ((j : Int) + 1) = (j : Int) + 1 := IntWalk.i64_in _ (by omega)
      have bj : j < s.size := by omega
      have bj1 : j + 1 < s.size := by omega
      obtain ⟨x, hx⟩ : ∃ x, x = s[j] := ⟨_, rfl⟩
      obtain ⟨y, hy⟩ : ∃ y, y = s[j + 1] := ⟨_, rfl⟩
      have hT : (s.data.toList.take (j + 2)) = s.data.toList.take j ++ [x, y] := by
        have h := take_two s.data.toList k (by have := HJ.out; have : s.size = s.data.size := rfl; simp; omega)
        have ej := HJ.out
        subst ej
        rw [hx, hy]
        exact h
      have hlen : (s.data.toList.take j).length = 2 * k := by
        have := HJ.out
        have : s.size = s.data.size := rfl
        rw [List.length_take]; simp; omega
      have hall : s.data.toList.all okd = true → okd x = true ∧ okd y = true := fun h => by
        have h2 : (s.data.toList.take (j + 2)).all okd = true := by
          rw [List.all_eq_true] at h ⊢
          exact fun z hz => h z (List.mem_of_mem_take hz)
        rw [hT] at h2
        simp at h2
        exact ⟨h2.2.1, h2.2.2⟩
      have ca := fun W : World => unhex_is x W
      have cb := fun W : World => unhex_is y W
      have hsx : (s[j].toNat : Int) = (x.toNat : Int) := by rw [hx]
      have hsy : (s[j + 1].toNat : Int) = (y.toNat : Int) := by rw [hy]
      obtain ⟨X, hX⟩ : ∃ X : Int, X = (x.toNat : Int) := ⟨_, rfl⟩
      obtain ⟨Y, hY⟩ : ∃ Y : Int, Y = (y.toNat : Int) := ⟨_, rfl⟩
      rw [← hX] at hsx ca
      rw [← hY] at hsy cb
      clear hX hY hx hy
      by_cases ox : okd x = true
      · by_cases oy : okd y = true
        · have ex : uh x = (dv x : Int) := by unfold uh; rw [if_pos ox]
          have ey : uh y = (dv y : Int) := by unfold uh; rw [if_pos oy]
          have dx := dv_lt x
          have dy := dv_lt y
          obtain ⟨a, ha⟩ : ∃ a : Int, a = uh x := ⟨_, rfl⟩
          obtain ⟨b, hbq⟩ : ∃ b : Int, b = uh y := ⟨_, rfl⟩
          rw [← ha] at ca
          rw [← hbq] at cb
          have a0 : ¬ a < 0 := by omega
          have b0 : ¬ b < 0 := by omega
          have a16 : a < 16 := by omega
          have b16 : b < 16 := by omega
          have hw2 : IntKind.u8.wrap (16 * a + b) = 16 * a + b := by rw [IntKind.wrap_u8]; omega
          have HV : Hid (16 * a + b = ((UInt8.ofNat (16 * dv x + dv y)).toNat : Int)) := by
            show _ = _
            rw [UInt8.toNat_ofNat']
            omega
          have HU : Hid (unb (s.data.toList.take (j + 2)) = unb (s.data.toList.take j) ++ [UInt8.ofNat (16 * dv x + dv y)]) := by
            show _ = _
            rw [hT, unb_append k _ _ hlen]
            rfl
          have HA2 : Hid ((s.data.toList.take (j + 2)).all okd = true) := by
            show _ = _
            rw [hT, List.all_append, HA.out]
            simp [ox, oy]
          have HL : Hid ((unb (s.data.toList.take j)).length < 1000000000) := by
            show _ < _
            rw [unb_length k _ hlen]; omega
          obtain ⟨z, hz8⟩ : ∃ z, z = UInt8.ofNat (16 * dv x + dv y) := ⟨_, rfl⟩
          rw [← hz8] at HV HU
          clear hT hall hlen ex ey dx dy ha hbq ox oy hz8
          go_wp2_with (first
            | (go_at_call_of 60 X; refine (ca _).mono ?_; rintro e w2 ⟨rfl, hw⟩; replace hw := hw.symm; subst hw)
            | (go_at_call_of 60 Y; refine (cb _).mono ?_; rintro e w2 ⟨rfl, hw⟩; replace hw := hw.symm; subst hw)
            | (at_builtin; refine wpList_append_byte rfl _ _ rfl (w.heap.size + 1) _ (unb (s.data.toList.take j)) z rfl (hown.alloc _) ⟨wr.heap.size, 0, none⟩ rfl ?c1 ?c2 ?c3 ?_))
          case c1 => rw [← HV.out]; simp [go_sem]
          case c2 => exact HL.out
          case c3 => simp; omega
          intro v' w1 hown' hgrow
          go_wp2_with fail
          go_roundw
          case rel => exact ⟨k + 1, j + 2, (by have := HJ.out; omega), (by show _ = _; have := HJ.out; omega), by go_num, by rw [HU.out, List.length_append, List.length_singleton]; exact hown', HA2, (hb2.alloc (by omega) _).grown hgrow (by simp; omega) (fun j hj => (hown.lt j hj).1)⟩
          case measure => simp [intOf]; omega
        · have ex : uh x = (dv x : Int) := by unfold uh; rw [if_pos ox]
          have ey : uh y = -1 := by unfold uh; rw [if_neg oy]
          rw [ex] at ca
          rw [ey] at cb
          have HNO : Hid (R = .tuple #[.agg #[.int .u64 0, .int .u64 0, .int .u64 0, .int .u64 0], .bool false]) := by
            show _ = _
            rw [HR.out, if_neg (fun h => oy (hall h).2)]
          clear hT hall hlen ex ey ox oy
          have dx0 : ¬ (dv x : Int) < 0 := by omega
          go_wp2_with (first
            | (go_at_call_of 60 X; refine (ca _).mono ?_; rintro e w2 ⟨rfl, hw⟩; replace hw := hw.symm; subst hw)
            | (go_at_call_of 60 Y; refine (cb _).mono ?_; rintro e w2 ⟨rfl, hw⟩; replace hw := hw.symm; subst hw))
          obtain ⟨q0, q1, q2, q3⟩ := four_set (w := wr) (b := w.heap.size) (x0 := Value.int IntKind.u64 0) (x1 := Value.int IntKind.u64 0) (x2 := Value.int IntKind.u64 0) (x3 := Value.int IntKind.u64 0) (fun i hi => by rw [R0.out i hi]; rfl)
          exact bodyPost_ret (v := R) (by rw [HNO.out]; simp [results, Try.results29, go_sem, q0, q1, q2, q3]) rfl ⟨rfl, by repeat' (first | (with_reducible exact HBW.out) | (with_reducible refine Below.setCell ?_ ?_ _) | go_size)⟩
      · have ex : uh x = -1 := by unfold uh; rw [if_neg ox]
        rw [ex] at ca
        have HNO : Hid (R = .tuple #[.agg #[.int .u64 0, .int .u64 0, .int .u64 0, .int .u64 0], .bool false]) := by
          show _ = _
          rw [HR.out, if_neg (fun h => ox (hall h).1)]
        obtain ⟨b, hbq⟩ : ∃ b : Int, b = uh y := ⟨_, rfl⟩
        rw [← hbq] at cb
        clear hT hall hlen ex ox hbq
        go_wp2_with (first
          | (go_at_call_of 60 X; refine (ca _).mono ?_; rintro e w2 ⟨rfl, hw⟩; replace hw := hw.symm; subst hw)
          | (go_at_call_of 60 Y; refine (cb _).mono ?_; rintro e w2 ⟨rfl, hw⟩; replace hw := hw.symm; subst hw))
        obtain ⟨q0, q1, q2, q3⟩ := four_set (w := wr) (b := w.heap.size) (x0 := Value.int IntKind.u64 0) (x1 := Value.int IntKind.u64 0) (x2 := Value.int IntKind.u64 0) (x3 := Value.int IntKind.u64 0) (fun i hi => by rw [R0.out i hi]; rfl)
        exact bodyPost_ret (v := R) (by rw [HNO.out]; simp [results, Try.results29, go_sem, q0, q1, q2, q3]) rfl ⟨rfl, by repeat' (first | (with_reducible exact HBW.out) | (with_reducible refine Below.setCell ?_ ?_ _) | go_size)⟩
    · have hj64 : j = 64 := by have := HJ.out; omega
      subst hj64
      have hge : ¬ ((64 : Nat) : Int) < 64 := by omega
      have ht : s.data.toList.take 64 = s.data.toList := List.take_of_length_le (by have : s.size = s.data.size := rfl; simp; omega)
      rw [ht] at hown HA
      have hl : (unb s.data.toList).length = 32 := unb_length 32 _ (by have : s.size = s.data.size := rfl; simp; omega)
      have hcv := run_str_own (P := Try.prog) wr (w.heap.size + 1) _ (unb s.data.toList) hown Try.underlying22 Try.underlying5 Try.underlying9
      have cc := fun W : World => hbk_spec_yes (str (unb s.data.toList)) W (show (unb s.data.toList).toArray.size = 32 by simp [hl])
      rw [seg_all (str (unb s.data.toList)) 32 (show (unb s.data.toList).toArray.size = 32 by simp [hl])] at cc
      obtain ⟨E, hE⟩ : ∃ E, E = unb s.data.toList := ⟨_, rfl⟩
      have HYES : Hid (R = .tuple #[.agg #[.int .u64 ((bd E).a.toNat : Int), .int .u64 ((bd E).b.toNat : Int), .int .u64 ((bd E).c.toNat : Int), .int .u64 ((bd E).d.toNat : Int)], .bool true]) := by
        show _ = _
        rw [HR.out, if_pos HA.out, hE]
      have cc2 : ∀ W : World, Calls Try.prog 42 #[.string (str E)] W fun e w' => e = .returned (.tuple #[.agg #[.int .u64 ((bd E).a.toNat : Int), .int .u64 ((bd E).b.toNat : Int), .int .u64 ((bd E).c.toNat : Int), .int .u64 ((bd E).d.toNat : Int)], .bool true]) ∧ Below W.heap.size W w' := fun W => by
        rw [hE]; exact cc W
      rw [← hE] at hcv
      clear cc ht hl hE
      go_wp2_with (go_at_call 42; refine (cc2 _).mono ?_; rintro e w3 ⟨rfl, hb3⟩; have s0 : w3.cell? ⟨w.heap.size, 0, none⟩ = some (.int .u64 0) := (hb3.cell (by simp only; omega)).trans c0; have s1 : w3.cell? ⟨w.heap.size, 1, none⟩ = some (.int .u64 0) := (hb3.cell (by simp only; omega)).trans c1; have s2 : w3.cell? ⟨w.heap.size, 2, none⟩ = some (.int .u64 0) := (hb3.cell (by simp only; omega)).trans c2; have s3 : w3.cell? ⟨w.heap.size, 3, none⟩ = some (.int .u64 0) := (hb3.cell (by simp only; omega)).trans c3; have t0 : w3.frozen? ⟨w.heap.size, 0, none⟩ = false := (hb3.frozen (by simp only; omega)).trans f0; have t1 : w3.frozen? ⟨w.heap.size, 1, none⟩ = false := (hb3.frozen (by simp only; omega)).trans f1; have t2 : w3.frozen? ⟨w.heap.size, 2, none⟩ = false := (hb3.frozen (by simp only; omega)).trans f2; have t3 : w3.frozen? ⟨w.heap.size, 3, none⟩ = false := (hb3.frozen (by simp only; omega)).trans f3; have hB3 : Below w.heap.size w w3 := below_after HBW.out hb3 (by omega))
      obtain ⟨q0, q1, q2, q3⟩ := four_set_at (w := w3) (b := w.heap.size) (q := bd E) s0 s1 s2 s3
      exact bodyPost_ret (v := R) (by rw [HYES.out]; simp [results, Try.results29, go_sem, q0, q1, q2, q3]) rfl ⟨rfl, by repeat' (first | (with_reducible exact hB3) | (with_reducible refine Below.setCell ?_ ?_ _) | go_size)⟩
end Go.Proofs.Ytjfiafnbmejaeaa
