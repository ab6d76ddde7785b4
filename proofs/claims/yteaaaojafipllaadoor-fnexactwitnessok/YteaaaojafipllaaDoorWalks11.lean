/-
  HashOf of the specification.
-/
import Derived.Test.YteaaaojafipllaaDoorRows
import Derived.Test.YteaaaojafipllaaDoorJoinB6
import Derived.Test.YteaaaojafipllaaDoorJoinB7
import Derived.Deep.QuietTactic
import Derived.BigQuiet
import Derived.Deep.RegionWith
import Derived.Deep.RegionHeld3
import Derived.Deep.CutRange
import Derived.Deep.DeepCutAuto
import Derived.Deep.CutBlock
import Derived.Laws.Tables
import Derived.Test.YteaaaojafipllaaDoorJoinB8
import Derived.Test.YteaaaojafipllaaDoorWalks2
import Derived.Test.YteaaaojafipllaaDoorWalks6
import Derived.Test.YteaaaojafipllaaDoorJoinB14
namespace Go.Proofs.YteaaaojafipllaaDoor
open Go.RowKit

theorem l1w_int (s : ByteArray) (i : Int) (w : World) (hs : s.size ≤ 9223372036854775000) (h0 : 0 ≤ i) (h8 : i + 8 ≤ s.size) :
    Calls Tryd.prog 33 #[.string s, .int .i64 i] w fun e w' => e = .returned (.int .u64 ((bw (seg s i.toNat 8)).toNat : Int)) ∧ w' = w := by
  obtain ⟨n, rfl⟩ := Int.eq_ofNat_of_zero_le h0
  have := l1w_is s n w hs (by omega)
  simpa using this

theorem l1zeros_int (i : Int) (w : World) (h0 : 0 ≤ i) (h1 : i ≤ 1000) :
    Calls Tryd.prog 30 #[.int .i64 i] w fun e w' => e = .returned (.string (str (List.replicate i.toNat 0))) ∧ Below w.heap.size w w' := by
  obtain ⟨n, rfl⟩ := Int.eq_ofNat_of_zero_le h0
  have := l1zeros_is n w (by omega)
  simpa using this
theorem l1b_len (m : Nat) (w : World) (_h1 : m < 18446744073709551616) :
    Calls Tryd.prog 31 #[.int .u64 (IntKind.u64.wrap (m : Int))] w fun e w' => e = .returned (.string (str (wb (UInt64.ofNat m)))) ∧ Below w.heap.size w w' := by
  have e : IntKind.u64.wrap (m : Int) = ((UInt64.ofNat m).toNat : Int) := by rw [IntKind.wrap_u64, UInt64.toNat_ofNat']; omega
  rw [e]
  exact l1b_is (UInt64.ofNat m) w

theorem hb_spec4 (s : Qd) (a b c d : UInt64) (w : World) :
    Calls Tryd.prog 32 #[.agg #[.int .u64 ((s).a.toNat : Int), .int .u64 ((s).b.toNat : Int), .int .u64 ((s).c.toNat : Int), .int .u64 ((s).d.toNat : Int)], .agg #[.int .u64 ((a).toNat : Int), .int .u64 ((b).toNat : Int), .int .u64 ((c).toNat : Int), .int .u64 ((d).toNat : Int)]] w fun e w' => e = .returned (.agg #[.int .u64 ((HB s { a := a, b := b, c := c, d := d }).a.toNat : Int), .int .u64 ((HB s { a := a, b := b, c := c, d := d }).b.toNat : Int), .int .u64 ((HB s { a := a, b := b, c := c, d := d }).c.toNat : Int), .int .u64 ((HB s { a := a, b := b, c := c, d := d }).d.toNat : Int)]) ∧ Below w.heap.size w w' := hb_spec s { a := a, b := b, c := c, d := d } w
theorem four_set_at {w : World} {b : Nat} {q : Qd} {y0 y1 y2 y3 : Value} (h0 : w.cell? ⟨b, 0, none⟩ = some y0) (h1 : w.cell? ⟨b, 1, none⟩ = some y1) (h2 : w.cell? ⟨b, 2, none⟩ = some y2) (h3 : w.cell? ⟨b, 3, none⟩ = some y3) :
    ((((w.setCell ⟨b, 0, none⟩ (Value.int IntKind.u64 ((q.a).toNat : Int))).setCell ⟨b, 1, none⟩ (Value.int IntKind.u64 ((q.b).toNat : Int))).setCell ⟨b, 2, none⟩ (Value.int IntKind.u64 ((q.c).toNat : Int))).setCell ⟨b, 3, none⟩ (Value.int IntKind.u64 ((q.d).toNat : Int))).cell? ⟨b, 0, none⟩ = some (Value.int IntKind.u64 ((q.a).toNat : Int)) ∧ ((((w.setCell ⟨b, 0, none⟩ (Value.int IntKind.u64 ((q.a).toNat : Int))).setCell ⟨b, 1, none⟩ (Value.int IntKind.u64 ((q.b).toNat : Int))).setCell ⟨b, 2, none⟩ (Value.int IntKind.u64 ((q.c).toNat : Int))).setCell ⟨b, 3, none⟩ (Value.int IntKind.u64 ((q.d).toNat : Int))).cell? ⟨b, 1, none⟩ = some (Value.int IntKind.u64 ((q.b).toNat : Int)) ∧ ((((w.setCell ⟨b, 0, none⟩ (Value.int IntKind.u64 ((q.a).toNat : Int))).setCell ⟨b, 1, none⟩ (Value.int IntKind.u64 ((q.b).toNat : Int))).setCell ⟨b, 2, none⟩ (Value.int IntKind.u64 ((q.c).toNat : Int))).setCell ⟨b, 3, none⟩ (Value.int IntKind.u64 ((q.d).toNat : Int))).cell? ⟨b, 2, none⟩ = some (Value.int IntKind.u64 ((q.c).toNat : Int)) ∧ ((((w.setCell ⟨b, 0, none⟩ (Value.int IntKind.u64 ((q.a).toNat : Int))).setCell ⟨b, 1, none⟩ (Value.int IntKind.u64 ((q.b).toNat : Int))).setCell ⟨b, 2, none⟩ (Value.int IntKind.u64 ((q.c).toNat : Int))).setCell ⟨b, 3, none⟩ (Value.int IntKind.u64 ((q.d).toNat : Int))).cell? ⟨b, 3, none⟩ = some (Value.int IntKind.u64 ((q.d).toNat : Int)) :=
  four_set (w := w) (b := b) (x0 := Value.int IntKind.u64 ((q.a).toNat : Int)) (x1 := Value.int IntKind.u64 ((q.b).toNat : Int)) (x2 := Value.int IntKind.u64 ((q.c).toNat : Int)) (x3 := Value.int IntKind.u64 ((q.d).toNat : Int)) (fun i hi => by
    have hi' : i = 0 ∨ i = 1 ∨ i = 2 ∨ i = 3 := by omega
    rcases hi' with rfl | rfl | rfl | rfl
    · rw [h0]; rfl
    · rw [h1]; rfl
    · rw [h2]; rfl
    · rw [h3]; rfl)

/-- One byte in a row, as a string. -/
theorem run_str_one (W : World) (b : Nat) (x : UInt8) (h : W.cell? ⟨b, 0, none⟩ = some (.int .u8 (x.toNat : Int))) :
    (convert 76 9 (.slice (some ⟨b, 0, none⟩) 1 1)).run Tryd.prog W = .ok (.string (str [x])) W := by
  rw [run_convert_bytes_string _ 76 9 5 _ _ _ Tryd.underlying76 Tryd.underlying5 Tryd.underlying9]
  refine run_str_cells _ _ _ _ [x] rfl (fun j u hu => ?_)
  match j, hu with
  | 0, hu => simp [bv] at hu; subst hu; simpa [Addr.add] using h

set_option maxHeartbeats 4000000 in
theorem ho_spec_big (s : ByteArray) (w : World) (hbig : 20000 < s.size) :
    Calls Tryd.prog 19 #[.string s] w fun e w' => e = .returned (.agg #[.int .u64 0, .int .u64 0, .int .u64 0, .int .u64 0]) ∧ Below w.heap.size w w' := by
  have hb : (20000 : Int) < (s.size : Int) := by omega
  go_enter Tryd.func19, Tryd.ntmps19
  go_wp2_with fail
  exact bodyPost_ret (v := .agg #[.int .u64 0, .int .u64 0, .int .u64 0, .int .u64 0]) (by simp [results, Tryd.results19, go_sem]) rfl ⟨rfl, (by repeat' (first | (with_reducible exact Below.refl _ _) | (with_reducible assumption) | (with_reducible refine below_drewN ?_ _) | (with_reducible refine Below.setCell ?_ ?_ _) | (with_reducible refine Below.alloc ?_ ?_ _) | (with_reducible refine Below.drew ?_) | go_size))⟩

set_option maxHeartbeats 4000000 in
theorem ho_spec_t (s : ByteArray) (w : World) (hs : s.size ≤ 20000) :
    Calls Tryd.prog 19 #[.string s] w fun e w' => e = .returned (.agg #[.int .u64 ((hashOf (bare s.data.toList)).a.toNat : Int), .int .u64 ((hashOf (bare s.data.toList)).b.toNat : Int), .int .u64 ((hashOf (bare s.data.toList)).c.toNat : Int), .int .u64 ((hashOf (bare s.data.toList)).d.toNat : Int)]) ∧ Below w.heap.size w w' := by
  have hb : ¬ (20000 : Int) < (s.size : Int) := by omega
  have HS : Hid (s.size ≤ 20000) := hs
  have hbl : (bare s.data.toList).length ≤ 20000 := by
    have h1 := bare_le s.data.toList
    have h2 : s.data.toList.length = s.size := rfl
    omega
  clear hs
  generalize ht : bare s.data.toList = t at *
  have HT : Hid (bare s.data.toList = t) := ht
  clear ht
  go_enter Tryd.func19, Tryd.ntmps19
  go_wp2_with (go_at_call 29; refine (l1bare_is s _ (by have := HS.out; omega)).mono ?_; rintro e wN ⟨rfl, hbN⟩; rw [HT.out]; have hzN := hbN.size; (try simp only [World.size_drew] at hzN); (try simp only [World.size_alloc] at hzN))
  go_cut [4] (fun t4 wx => t4 = .string (str (pad t)) ∧ Below (w.heap.size + 1) (w.alloc (.cells #[Value.int IntKind.u64 0, Value.int IntKind.u64 0, Value.int IntKind.u64 0, Value.int IntKind.u64 0] 34)) wx)
  case first =>
    have hp0 : (0 : Int) ≤ (32 - ((t.length : Int) + 9) % 32) % 32 := by omega
    have hp1 : (32 - ((t.length : Int) + 9) % 32) % 32 ≤ 1000 := by omega
    have HP : Hid (((32 - ((t.length : Int) + 9) % 32) % 32).toNat = padN t.length) := by
      show _ = _
      unfold padN
      omega
    generalize hpn : (32 - ((t.length : Int) + 9) % 32) % 32 = pn at *
    clear hpn
    have hpt : pn.toNat ≤ 1000 := by omega
    obtain ⟨o1, ho1⟩ : ∃ o1 : List UInt8, o1 = [128] := ⟨_, rfl⟩
    obtain ⟨z, hz⟩ : ∃ z : List UInt8, z = List.replicate pn.toNat 0 := ⟨_, rfl⟩
    obtain ⟨l8, hl8⟩ : ∃ l8 : List UInt8, l8 = wb (UInt64.ofNat t.length) := ⟨_, rfl⟩
    obtain ⟨t1, ht1⟩ : ∃ t1 : List UInt8, t1 = t ++ o1 := ⟨_, rfl⟩
    obtain ⟨t2, ht2⟩ : ∃ t2 : List UInt8, t2 = t1 ++ z := ⟨_, rfl⟩
    obtain ⟨t3, ht3⟩ : ∃ t3 : List UInt8, t3 = t2 ++ l8 := ⟨_, rfl⟩
    have n1 : o1.length = 1 := by rw [ho1]; rfl
    have nz : z.length ≤ 1000 := by rw [hz, List.length_replicate]; omega
    have n8 : l8.length = 8 := by rw [hl8]; rfl
    have m1 : t1.length ≤ 20001 := by rw [ht1, List.length_append]; omega
    have m2 : t2.length ≤ 21001 := by rw [ht2, List.length_append]; omega
    have ha1 : ∀ W : World, (Op.stringOp .add (str t) (str o1)).run Tryd.prog W = .ok (.string (str t1)) W := fun W => by rw [ht1]; exact run_string_add_lists W t o1 (by omega) (by omega)
    have ha2 : ∀ W : World, (Op.stringOp .add (str t1) (str z)).run Tryd.prog W = .ok (.string (str t2)) W := fun W => by rw [ht2]; exact run_string_add_lists W t1 z (by omega) (by omega)
    have ha3 : ∀ W : World, (Op.stringOp .add (str t2) (str l8)).run Tryd.prog W = .ok (.string (str t3)) W := fun W => by rw [ht3]; exact run_string_add_lists W t2 l8 (by omega) (by omega)
    have H3 : Hid (t3 = pad t) := by
      show _ = _
      rw [ht3, ht2, ht1, hl8, hz, ho1, HP.out]
      unfold pad
      simp
    have HZ : Hid (z = List.replicate pn.toNat 0) := hz
    have H8 : Hid (l8 = wb (UInt64.ofNat t.length)) := hl8
    have hcv : ∀ (W : World) (b : Nat), W.cell? ⟨b, 0, none⟩ = some (.int .u8 128) → (convert 76 9 (.slice (some ⟨b, 0, none⟩) 1 1)).run Tryd.prog W = .ok (.string (str o1)) W := fun W b h => by rw [ho1]; exact run_str_one W b 128 h
    clear ho1 hz hl8 ht1 ht2 ht3 n1 nz n8 m1 m2 HP
    go_region_with (first
      | (go_at_call 30; refine (l1zeros_int pn _ hp0 hp1).mono ?_; rw [← HZ.out]; rintro e wZ ⟨rfl, hbZ⟩; have hzZ := hbZ.size; (try simp only [World.size_drew] at hzZ); (try simp only [World.size_alloc] at hzZ); try (have yZ := fun o => hbZ.cell (p := ⟨wN.heap.size, o, none⟩) (by first | (simp; done) | (simp; omega) | omega)))
      | (go_at_call 31; refine (l1b_len t.length _ (by omega)).mono ?_; rw [← H8.out]; rintro e wB ⟨rfl, hbB⟩; have hzB := hbB.size; (try simp only [World.size_drew] at hzB); (try simp only [World.size_alloc] at hzB); try (have yB := fun o => hbB.cell (p := ⟨wN.heap.size, o, none⟩) (by first | (simp; done) | (simp; omega) | omega)); try (have yC := fun o => hbB.cell (p := ⟨wZ.heap.size, o, none⟩) (by first | (simp; done) | (simp; omega) | omega))))
    all_goals (go_wp2_with fail; go_meet)
    all_goals (refine ⟨(show _ = Value.string (str t3) from rfl).trans (by rw [H3.out]), ?_⟩)
    all_goals (have hbN' := hbN; simp only [World.size_alloc] at hbN')
    all_goals (repeat' (first | (with_reducible assumption) | (with_reducible refine Below.alloc ?_ ?_ _) | (with_reducible refine Below.drew ?_) | (with_reducible refine below_after ?_ hbB ?_) | (with_reducible refine below_after ?_ hbZ ?_) | go_size))
  case rest =>
    obtain ⟨rfl, hbel⟩ := hcut
    clear hbN hzN
    have hlen := pad_le t
    have hmod := pad_mod t
    have HR : Hid (hashOf t = blocks H0 ((pad t).length / 32) (pad t)) := rfl
    generalize pad t = p at *
    generalize (32 - ((t.length : Int) + 9) % 32) % 32 = pn at *
    go_wp2_with fail
    go_loopw [6] (fun i wr => ∃ k m : Nat, Hid (m = 32 * k) ∧ i = .int .i64 (m : Int) ∧ m ≤ p.length ∧ wc.heap.size < wr.heap.size ∧ Below (w.heap.size + 1) (w.alloc (.cells #[Value.int IntKind.u64 0, Value.int IntKind.u64 0, Value.int IntKind.u64 0, Value.int IntKind.u64 0] 34)) wr ∧ wr.cell? ⟨wc.heap.size, 0, none⟩ = some (Value.int IntKind.u64 (((blocks H0 k p).a).toNat : Int)) ∧ wr.cell? ⟨wc.heap.size, 1, none⟩ = some (Value.int IntKind.u64 (((blocks H0 k p).b).toNat : Int)) ∧ wr.cell? ⟨wc.heap.size, 2, none⟩ = some (Value.int IntKind.u64 (((blocks H0 k p).c).toNat : Int)) ∧ wr.cell? ⟨wc.heap.size, 3, none⟩ = some (Value.int IntKind.u64 (((blocks H0 k p).d).toNat : Int)) ∧ wr.frozen? ⟨wc.heap.size, 0, none⟩ = false ∧ wr.frozen? ⟨wc.heap.size, 1, none⟩ = false ∧ wr.frozen? ⟨wc.heap.size, 2, none⟩ = false ∧ wr.frozen? ⟨wc.heap.size, 3, none⟩ = false) (fun i _ => p.length - (intOf i).toNat)
    case atStart =>
      refine ⟨0, 0, rfl, rfl, by omega, by simp, hbel.alloc (by have := hbel.size; simp at this; omega) _, ?_⟩
      simp [go_sem, blocks, H0]
    case round =>
      obtain ⟨k, m, HM, rfl, hm, hz, hb, e0, e1, e2, e3, g0, g1, g2, g3⟩ := hrel
      by_cases hlt : m < p.length
      · have hm32 : m + 32 ≤ p.length := by have := HM.out; omega
        have hI1 : (m : Int) + 32 ≤ (p.length : Int) := by omega
        have hI2 : (m : Int) + 32 ≤ 30000 := by omega
        have hI0 : (0 : Int) ≤ (m : Int) := by omega
        have hw8 : IntKind.i64.wrap ((m : Int) + 8) = (m : Int) + 8 := IntWalk.i64_in _ (by omega)
        have hw16 : IntKind.i64.wrap ((m : Int) + 16) = (m : Int) + 16 := IntWalk.i64_in _ (by omega)
        have hw24 : IntKind.i64.wrap ((m : Int) + 24) = (m : Int) + 24 := IntWalk.i64_in _ (by omega)
        have hsz : (str p).size ≤ 9223372036854775000 := by show p.toArray.size ≤ _; simp; omega
        have HSZ : Hid ((str p).size ≤ 9223372036854775000) := hsz
        have HS2 : Hid ((m : Int) + 32 ≤ ((str p).size : Int)) := by show (m : Int) + 32 ≤ ((p.toArray.size : Nat) : Int); simpa using hI1
        clear hsz
        have HQ : Hid (HB (blocks H0 k p) { a := bw (seg (str p) m 8), b := bw (seg (str p) ((m : Int) + 8).toNat 8), c := bw (seg (str p) ((m : Int) + 16).toNat 8), d := bw (seg (str p) ((m : Int) + 24).toNat 8) } = blocks H0 (k + 1) p) := by
          show _ = _
          have h := bd_seg (str p) m
          have e1 : ((m : Int) + 8).toNat = m + 8 := by omega
          have e2 : ((m : Int) + 16).toNat = m + 16 := by omega
          have e3 : ((m : Int) + 24).toNat = m + 24 := by omega
          rw [blocks_succ, e1, e2, e3, ← h, ← HM.out]
          rfl
        go_upto_block 1 with fail
        go_cut [] (fun wx => wc.heap.size < wx.heap.size ∧ Below (w.heap.size + 1) (w.alloc (.cells #[Value.int IntKind.u64 0, Value.int IntKind.u64 0, Value.int IntKind.u64 0, Value.int IntKind.u64 0] 34)) wx ∧ wx.cell? ⟨wc.heap.size, 0, none⟩ = some (Value.int IntKind.u64 (((blocks H0 (k + 1) p).a).toNat : Int)) ∧ wx.cell? ⟨wc.heap.size, 1, none⟩ = some (Value.int IntKind.u64 (((blocks H0 (k + 1) p).b).toNat : Int)) ∧ wx.cell? ⟨wc.heap.size, 2, none⟩ = some (Value.int IntKind.u64 (((blocks H0 (k + 1) p).c).toNat : Int)) ∧ wx.cell? ⟨wc.heap.size, 3, none⟩ = some (Value.int IntKind.u64 (((blocks H0 (k + 1) p).d).toNat : Int)) ∧ wx.frozen? ⟨wc.heap.size, 0, none⟩ = false ∧ wx.frozen? ⟨wc.heap.size, 1, none⟩ = false ∧ wx.frozen? ⟨wc.heap.size, 2, none⟩ = false ∧ wx.frozen? ⟨wc.heap.size, 3, none⟩ = false)
        case first =>
          go_wp2_with fail
          go_region_with (first
            | (go_at_call 33; refine (l1w_int (str p) _ _ HSZ.out ?_ ?_).mono ?_; (omega); (have := HS2.out; omega); rintro e w' ⟨rfl, rfl⟩)
            | (go_at_call 32; refine (hb_spec4 (blocks H0 k p) _ _ _ _ _).mono ?_; rintro e wN ⟨rfl, hbN⟩; have hzN := hbN.size; (try simp only [World.size_drew] at hzN); (try simp only [World.size_alloc] at hzN); have fN0 : wN.cell? ⟨wc.heap.size, 0, none⟩ = some (Value.int IntKind.u64 (((blocks H0 k p).a).toNat : Int)) := (hbN.cell (p := ⟨wc.heap.size, 0, none⟩) (by first | (simp; done) | (simp; omega) | omega)).trans (by (first | ((repeat (first | (with_reducible assumption) | (with_reducible refine c_drew ?_) | (with_reducible refine c_drewN ?_) | (with_reducible refine c_alloc ?_) | (with_reducible refine c_set ?_ (by first | (simp; done) | (simp; omega) | omega)))); done) | (go_simp; done) | (simp [go_sem]; done) | (simp [go_sem, *]; done))); have fN1 : wN.cell? ⟨wc.heap.size, 1, none⟩ = some (Value.int IntKind.u64 (((blocks H0 k p).b).toNat : Int)) := (hbN.cell (p := ⟨wc.heap.size, 1, none⟩) (by first | (simp; done) | (simp; omega) | omega)).trans (by (first | ((repeat (first | (with_reducible assumption) | (with_reducible refine c_drew ?_) | (with_reducible refine c_drewN ?_) | (with_reducible refine c_alloc ?_) | (with_reducible refine c_set ?_ (by first | (simp; done) | (simp; omega) | omega)))); done) | (go_simp; done) | (simp [go_sem]; done) | (simp [go_sem, *]; done))); have fN2 : wN.cell? ⟨wc.heap.size, 2, none⟩ = some (Value.int IntKind.u64 (((blocks H0 k p).c).toNat : Int)) := (hbN.cell (p := ⟨wc.heap.size, 2, none⟩) (by first | (simp; done) | (simp; omega) | omega)).trans (by (first | ((repeat (first | (with_reducible assumption) | (with_reducible refine c_drew ?_) | (with_reducible refine c_drewN ?_) | (with_reducible refine c_alloc ?_) | (with_reducible refine c_set ?_ (by first | (simp; done) | (simp; omega) | omega)))); done) | (go_simp; done) | (simp [go_sem]; done) | (simp [go_sem, *]; done))); have fN3 : wN.cell? ⟨wc.heap.size, 3, none⟩ = some (Value.int IntKind.u64 (((blocks H0 k p).d).toNat : Int)) := (hbN.cell (p := ⟨wc.heap.size, 3, none⟩) (by first | (simp; done) | (simp; omega) | omega)).trans (by (first | ((repeat (first | (with_reducible assumption) | (with_reducible refine c_drew ?_) | (with_reducible refine c_drewN ?_) | (with_reducible refine c_alloc ?_) | (with_reducible refine c_set ?_ (by first | (simp; done) | (simp; omega) | omega)))); done) | (go_simp; done) | (simp [go_sem]; done) | (simp [go_sem, *]; done))); have gN0 : wN.frozen? ⟨wc.heap.size, 0, none⟩ = false := (hbN.frozen (p := ⟨wc.heap.size, 0, none⟩) (by first | (simp; done) | (simp; omega) | omega)).trans (by first | (simp [go_sem]; done) | (go_simp; done) | (simp [go_sem, *]; done)); have gN1 : wN.frozen? ⟨wc.heap.size, 1, none⟩ = false := (hbN.frozen (p := ⟨wc.heap.size, 1, none⟩) (by first | (simp; done) | (simp; omega) | omega)).trans (by first | (simp [go_sem]; done) | (go_simp; done) | (simp [go_sem, *]; done)); have gN2 : wN.frozen? ⟨wc.heap.size, 2, none⟩ = false := (hbN.frozen (p := ⟨wc.heap.size, 2, none⟩) (by first | (simp; done) | (simp; omega) | omega)).trans (by first | (simp [go_sem]; done) | (go_simp; done) | (simp [go_sem, *]; done)); have gN3 : wN.frozen? ⟨wc.heap.size, 3, none⟩ = false := (hbN.frozen (p := ⟨wc.heap.size, 3, none⟩) (by first | (simp; done) | (simp; omega) | omega)).trans (by first | (simp [go_sem]; done) | (go_simp; done) | (simp [go_sem, *]; done))))
          all_goals (go_wp2_with fail; go_meet)
          all_goals (
            have hq := four_set_at (w := wN) (b := wc.heap.size) (q := HB (blocks H0 k p) { a := bw (seg (str p) m 8), b := bw (seg (str p) ((m : Int) + 8).toNat 8), c := bw (seg (str p) ((m : Int) + 16).toNat 8), d := bw (seg (str p) ((m : Int) + 24).toNat 8) }) fN0 fN1 fN2 fN3
            rw [HQ.out] at hq
            rw [HQ.out]
            have hzc := hbel.size
            simp only [World.size_alloc] at hzc
            refine ⟨by simp; omega, ?_, hq.1, hq.2.1, hq.2.2.1, hq.2.2.2, ?_, ?_, ?_, ?_⟩
            · refine (((Below.setCell ?_ ?_ _).setCell ?_ _).setCell ?_ _).setCell ?_ _
              · exact below_after hb.drew hbN (by simp; omega)
              all_goals (simp; omega)
            all_goals (simp only [World.frozen?_setCell]; assumption))
        case rest =>
          obtain ⟨hzx, hbx, x0, x1, x2, x3, y0, y1, y2, y3⟩ := hcut
          have hw32 : IntKind.i64.wrap ((m : Int) + 32) = (m : Int) + 32 := IntWalk.i64_in _ (by omega)
          go_wp2_with fail
          go_roundw
          case rel => exact ⟨k + 1, m + 32, (by have := HM.out; show _ = _; omega), by go_num, by omega, hzx, hbx, x0, x1, x2, x3, y0, y1, y2, y3⟩
          case measure => simp [intOf]; omega
      · have hmp : m = p.length := by omega
        have hk : k = p.length / 32 := by have := HM.out; omega
        rw [← hk] at HR
        have HMP : Hid (m = p.length) := hmp
        have HK : Hid (k = p.length / 32) := hk
        clear hmp hk
        have hge : ¬ (m : Int) < (p.length : Int) := by omega
        have r0 : wr.cell? ⟨w.heap.size, 0, none⟩ = some (.int .u64 0) := (hb.cell (p := ⟨w.heap.size, 0, none⟩) (by simp)).trans (by simp [go_sem])
        have s0 : wr.frozen? ⟨w.heap.size, 0, none⟩ = false := (hb.frozen (p := ⟨w.heap.size, 0, none⟩) (by simp)).trans (by simp [go_sem])
        have r1 : wr.cell? ⟨w.heap.size, 1, none⟩ = some (.int .u64 0) := (hb.cell (p := ⟨w.heap.size, 1, none⟩) (by simp)).trans (by simp [go_sem])
        have s1 : wr.frozen? ⟨w.heap.size, 1, none⟩ = false := (hb.frozen (p := ⟨w.heap.size, 1, none⟩) (by simp)).trans (by simp [go_sem])
        have r2 : wr.cell? ⟨w.heap.size, 2, none⟩ = some (.int .u64 0) := (hb.cell (p := ⟨w.heap.size, 2, none⟩) (by simp)).trans (by simp [go_sem])
        have s2 : wr.frozen? ⟨w.heap.size, 2, none⟩ = false := (hb.frozen (p := ⟨w.heap.size, 2, none⟩) (by simp)).trans (by simp [go_sem])
        have r3 : wr.cell? ⟨w.heap.size, 3, none⟩ = some (.int .u64 0) := (hb.cell (p := ⟨w.heap.size, 3, none⟩) (by simp)).trans (by simp [go_sem])
        have s3 : wr.frozen? ⟨w.heap.size, 3, none⟩ = false := (hb.frozen (p := ⟨w.heap.size, 3, none⟩) (by simp)).trans (by simp [go_sem])
        go_wp2_with fail
        have hq := four_set_at (w := wr) (b := w.heap.size) (q := blocks H0 k p) r0 r1 r2 r3
        obtain ⟨q0, q1, q2, q3⟩ := hq
        rw [HR.out]
        exact bodyPost_ret (v := .agg #[.int .u64 ((blocks H0 k p).a.toNat : Int), .int .u64 ((blocks H0 k p).b.toNat : Int), .int .u64 ((blocks H0 k p).c.toNat : Int), .int .u64 ((blocks H0 k p).d.toNat : Int)]) (by simp [results, Tryd.results19, go_sem, q0, q1, q2, q3]) rfl ⟨rfl, (by have h1 : Below w.heap.size w wr := ((Below.refl _ _).alloc (Nat.le_refl _) _).trans (hb.mono (by omega)); repeat' (first | (with_reducible exact h1) | (with_reducible refine Below.setCell ?_ ?_ _) | go_size))⟩
end Go.Proofs.YteaaaojafipllaaDoor
