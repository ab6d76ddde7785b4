/-
  A witness that is ok: the specification's side.
-/
import Derived.Test.YteaaaojafipllaaDoorWi2
import Derived.Test.YteaaaojafipllaaDoorWHeld
namespace Go.Proofs.YteaaaojafipllaaDoor
open Go.RowKit Go.MuLone

/-- The first k wishes are in order, and for more than h. -/
def AscW (h : Int) (L : List Wh) (k : Nat) : Prop := ∀ i, ∀ hi : i < L.length, i < k → (1 ≤ L[i].w ∧ L[i].w ≤ 20) ∧ (1 ≤ L[i].e ∧ L[i].e ≤ 1000000) ∧ (h + 1 ≤ L[i].s ∧ L[i].s ≤ 256) ∧ (∀ _ : 0 < i, L[i - 1].w < L[i].w)
theorem AscW.zero (h : Int) (L : List Wh) : AscW h L 0 := fun i _ h => by omega
theorem AscW.step {h : Int} {L : List Wh} {k : Nat} (ha : AscW h L k) (hk : k < L.length) (h1 : 1 ≤ L[k].w ∧ L[k].w ≤ 20) (h2 : 1 ≤ L[k].e ∧ L[k].e ≤ 1000000) (h3 : h + 1 ≤ L[k].s ∧ L[k].s ≤ 256) (h4 : ∀ _ : 0 < k, L[k - 1].w < L[k].w) : AscW h L (k + 1) := fun i hi hik => by
  by_cases e : i = k
  · subst e
    exact ⟨h1, h2, h3, h4⟩
  · exact ha i hi (by omega)
/-- When a witness is ok. -/
def Wok (d : Sl × Sl) (L : List Wh) : Prop := L.length ≤ 8 ∧ AscW (whn d.1 d.2) L L.length
theorem no_w {p : Prop} (h : ¬ p) : (false = true ↔ p) := ⟨fun e => (by cases e), fun h' => absurd h' h⟩
theorem yes_w {p : Prop} (h : p) : (true = true ↔ p) := ⟨fun _ => h, fun _ => rfl⟩
theorem slok_z {s : Sl} (h : slok s = true) : s.z.toNat ≤ 256 := by
  unfold slok at h
  rw [Bool.and_eq_true, Bool.and_eq_true] at h
  have := h.2.2
  unfold bnd at this
  have := of_decide_eq_true this
  omega
theorem whn_bnd (s t : Sl) : 0 ≤ whn s t ∧ whn s t ≤ 256 := by
  unfold whn
  split
  · omega
  · rename_i h
    refine ⟨by omega, ?_⟩
    have hz : (rread s t).1.z.toNat ≤ 256 := by
      unfold rread at h ⊢
      split
      · rename_i h1
        exact slok_z h1.1
      · rename_i h1
        rw [if_neg h1] at h
        split
        · rename_i h2
          exact slok_z (by first | exact h2 | exact h2.1)
        · rename_i h2
          rw [if_neg h2] at h
          exact absurd rfl h
    omega
/-- What stands while a witness is looked at. -/
def WA (W : World) (d : Sl × Sl) (v : Value) (w : World) : Prop := Lies W.heap.size 0 [.int .u64 ((d.1).m.toNat : Int), .int .u64 ((d.1).q.toNat : Int), .int .u64 ((d.1).z.toNat : Int), .int .u64 ((d.1).r.a.toNat : Int), .int .u64 ((d.1).r.b.toNat : Int), .int .u64 ((d.1).r.c.toNat : Int), .int .u64 ((d.1).r.d.toNat : Int), .int .u64 ((d.2).m.toNat : Int), .int .u64 ((d.2).q.toNat : Int), .int .u64 ((d.2).z.toNat : Int), .int .u64 ((d.2).r.a.toNat : Int), .int .u64 ((d.2).r.b.toNat : Int), .int .u64 ((d.2).r.c.toNat : Int), .int .u64 ((d.2).r.d.toNat : Int), v] w ∧ W.heap.size < w.heap.size ∧ Below W.heap.size W w
theorem WA.call {W : World} {d : Sl × Sl} {v : Value} {w w' : World} (h : WA W d v w) (hb : Below w.heap.size w w') : WA W d v w' :=
  ⟨h.1.call hb h.2.1, Nat.lt_of_lt_of_le h.2.1 hb.size, below_after h.2.2 hb h.2.2.size⟩
theorem WA.new (W : World) (d : Sl × Sl) (v : Value) : WA W d v (W.alloc (.cells #[.int .u64 ((d.1).m.toNat : Int), .int .u64 ((d.1).q.toNat : Int), .int .u64 ((d.1).z.toNat : Int), .int .u64 ((d.1).r.a.toNat : Int), .int .u64 ((d.1).r.b.toNat : Int), .int .u64 ((d.1).r.c.toNat : Int), .int .u64 ((d.1).r.d.toNat : Int), .int .u64 ((d.2).m.toNat : Int), .int .u64 ((d.2).q.toNat : Int), .int .u64 ((d.2).z.toNat : Int), .int .u64 ((d.2).r.a.toNat : Int), .int .u64 ((d.2).r.b.toNat : Int), .int .u64 ((d.2).r.c.toNat : Int), .int .u64 ((d.2).r.d.toNat : Int), v] 41)) :=
  ⟨Lies.new W [.int .u64 ((d.1).m.toNat : Int), .int .u64 ((d.1).q.toNat : Int), .int .u64 ((d.1).z.toNat : Int), .int .u64 ((d.1).r.a.toNat : Int), .int .u64 ((d.1).r.b.toNat : Int), .int .u64 ((d.1).r.c.toNat : Int), .int .u64 ((d.1).r.d.toNat : Int), .int .u64 ((d.2).m.toNat : Int), .int .u64 ((d.2).q.toNat : Int), .int .u64 ((d.2).z.toNat : Int), .int .u64 ((d.2).r.a.toNat : Int), .int .u64 ((d.2).r.b.toNat : Int), .int .u64 ((d.2).r.c.toNat : Int), .int .u64 ((d.2).r.d.toNat : Int), v] 41, by simp, (Below.refl _ _).alloc (Nat.le_refl _) _⟩
theorem WA.list {W : World} {d : Sl × Sl} {v : Value} {w : World} (h : WA W d v w) : w.cell? ⟨W.heap.size, 14, none⟩ = some v := by
  have := h.1 14 _ rfl
  rwa [Nat.zero_add] at this
theorem WA.disk {W : World} {d : Sl × Sl} {v : Value} {w : World} (h : WA W d v w) : Lies W.heap.size 0 [.int .u64 ((d.1).m.toNat : Int), .int .u64 ((d.1).q.toNat : Int), .int .u64 ((d.1).z.toNat : Int), .int .u64 ((d.1).r.a.toNat : Int), .int .u64 ((d.1).r.b.toNat : Int), .int .u64 ((d.1).r.c.toNat : Int), .int .u64 ((d.1).r.d.toNat : Int), .int .u64 ((d.2).m.toNat : Int), .int .u64 ((d.2).q.toNat : Int), .int .u64 ((d.2).z.toNat : Int), .int .u64 ((d.2).r.a.toNat : Int), .int .u64 ((d.2).r.b.toNat : Int), .int .u64 ((d.2).r.c.toNat : Int), .int .u64 ((d.2).r.d.toNat : Int)] w := h.1.part 0 14
theorem first_of {b k : Nat} {v : Value} {vs : List Value} {w : World} (h : Lies b k (v :: vs) w) : w.cell? ⟨b, k, none⟩ = some v := by
  have := h 0 _ rfl
  rwa [Nat.add_zero] at this
set_option maxRecDepth 20000 in
set_option maxHeartbeats 4000000 in
theorem wok_spec (W : World) (d : Sl × Sl) (g : Nat) (L : List Wh) (h : WO g L W) (hlen : L.length ≤ 1048576) :
    Calls Tryd.prog 5 #[.agg #[.int .u64 ((d.1).m.toNat : Int), .int .u64 ((d.1).q.toNat : Int), .int .u64 ((d.1).z.toNat : Int), .int .u64 ((d.1).r.a.toNat : Int), .int .u64 ((d.1).r.b.toNat : Int), .int .u64 ((d.1).r.c.toNat : Int), .int .u64 ((d.1).r.d.toNat : Int), .int .u64 ((d.2).m.toNat : Int), .int .u64 ((d.2).q.toNat : Int), .int .u64 ((d.2).z.toNat : Int), .int .u64 ((d.2).r.a.toNat : Int), .int .u64 ((d.2).r.b.toNat : Int), .int .u64 ((d.2).r.c.toNat : Int), .int .u64 ((d.2).r.d.toNat : Int), (.slice (some ⟨g, 0, none⟩) L.length L.length)]] W fun e w' => ∃ b, e = .returned (.bool b) ∧ Below W.heap.size W w' ∧ (b = true ↔ Wok d L) := by
  have H : Hid (WO g L W) := h
  have hgW := h.1
  clear h
  have cw := fun V : World => wh_spec d.1 d.2 V
  have A0 := WA.new W d (.slice (some ⟨g, 0, none⟩) L.length L.length)
  go_enter Tryd.func5, Tryd.ntmps5
  go_upto_region 1 with fail
  generalize W.alloc (.cells #[.int .u64 ((d.1).m.toNat : Int), .int .u64 ((d.1).q.toNat : Int), .int .u64 ((d.1).z.toNat : Int), .int .u64 ((d.1).r.a.toNat : Int), .int .u64 ((d.1).r.b.toNat : Int), .int .u64 ((d.1).r.c.toNat : Int), .int .u64 ((d.1).r.d.toNat : Int), .int .u64 ((d.2).m.toNat : Int), .int .u64 ((d.2).q.toNat : Int), .int .u64 ((d.2).z.toNat : Int), .int .u64 ((d.2).r.a.toNat : Int), .int .u64 ((d.2).r.b.toNat : Int), .int .u64 ((d.2).r.c.toNat : Int), .int .u64 ((d.2).r.d.toNat : Int), (.slice (some ⟨g, 0, none⟩) L.length L.length)] 41) = w0 at A0 ⊢
  have k14 := A0.list
  have zz := A0.2.2
  by_cases h8 : L.length ≤ 8
  · have h8I : ¬ (8 : Int) < (L.length : Int) := by omega
    go_upto_region 3 with fail
    have k0 := A0.disk
    clear k14 h8I
    go_upto_region 4 with (first
      | (with_reducible refine wpl_load agg_dki W.heap.size 0 [.int .u64 ((d.1).m.toNat : Int), .int .u64 ((d.1).q.toNat : Int), .int .u64 ((d.1).z.toNat : Int), .int .u64 ((d.1).r.a.toNat : Int), .int .u64 ((d.1).r.b.toNat : Int), .int .u64 ((d.1).r.c.toNat : Int), .int .u64 ((d.1).r.d.toNat : Int), .int .u64 ((d.2).m.toNat : Int), .int .u64 ((d.2).q.toNat : Int), .int .u64 ((d.2).z.toNat : Int), .int .u64 ((d.2).r.a.toNat : Int), .int .u64 ((d.2).r.b.toNat : Int), .int .u64 ((d.2).r.c.toNat : Int), .int .u64 ((d.2).r.d.toNat : Int)] (by kernel_rfl) (by kernel_rfl) k0 ?_)
      | (go_at_call 10; refine (cw _).mono ?_; rintro e w1 ⟨rfl, b1⟩; have A1 := A0.call b1; clear k0 b1 A0 zz))
    have ba := (Below.refl w1.heap.size w1).alloc (Nat.le_refl _) (.cells #[.int .i64 (whn d.1 d.2), .int .u64 (((whq d.1 d.2).a).toNat : Int), .int .u64 (((whq d.1 d.2).b).toNat : Int), .int .u64 (((whq d.1 d.2).c).toNat : Int), .int .u64 (((whq d.1 d.2).d).toNat : Int)] 47)
    have A2 := A1.call ba
    have P2 : Lies w1.heap.size 0 [.int .i64 (whn d.1 d.2), .int .u64 (((whq d.1 d.2).a).toNat : Int), .int .u64 (((whq d.1 d.2).b).toNat : Int), .int .u64 (((whq d.1 d.2).c).toNat : Int), .int .u64 (((whq d.1 d.2).d).toNat : Int)] (w1.alloc (.cells #[.int .i64 (whn d.1 d.2), .int .u64 (((whq d.1 d.2).a).toNat : Int), .int .u64 (((whq d.1 d.2).b).toNat : Int), .int .u64 (((whq d.1 d.2).c).toNat : Int), .int .u64 (((whq d.1 d.2).d).toNat : Int)] 47)) := Lies.new w1 [.int .i64 (whn d.1 d.2), .int .u64 (((whq d.1 d.2).a).toNat : Int), .int .u64 (((whq d.1 d.2).b).toNat : Int), .int .u64 (((whq d.1 d.2).c).toNat : Int), .int .u64 (((whq d.1 d.2).d).toNat : Int)] 47
    have lP : w1.heap.size < (w1.alloc (.cells #[.int .i64 (whn d.1 d.2), .int .u64 (((whq d.1 d.2).a).toNat : Int), .int .u64 (((whq d.1 d.2).b).toNat : Int), .int .u64 (((whq d.1 d.2).c).toNat : Int), .int .u64 (((whq d.1 d.2).d).toNat : Int)] 47)).heap.size := by simp
    have hWP : W.heap.size < w1.heap.size := A1.2.1
    clear ba A1 cw
    generalize w1.alloc (.cells #[.int .i64 (whn d.1 d.2), .int .u64 (((whq d.1 d.2).a).toNat : Int), .int .u64 (((whq d.1 d.2).b).toNat : Int), .int .u64 (((whq d.1 d.2).c).toNat : Int), .int .u64 (((whq d.1 d.2).d).toNat : Int)] 47) = w2 at A2 P2 lP ⊢
    generalize w1.heap.size = P at P2 lP hWP ⊢
    have hC : Wok d L ↔ AscW (whn d.1 d.2) L L.length := ⟨fun h => h.2, fun h => ⟨h8, h⟩⟩
    obtain ⟨hn0, hn1⟩ := whn_bnd d.1 d.2
    generalize whn d.1 d.2 = n at P2 hC hn0 hn1
    go_upto_region 5 with fail
    go_loopw [4] (fun i wr => ∃ k : Nat, k ≤ L.length ∧ i = .int .i64 (k : Int) ∧ Hid (AscW n L k ∧ WA W d (.slice (some ⟨g, 0, none⟩) L.length L.length) wr ∧ Lies P 0 [.int .i64 n, .int .u64 (((whq d.1 d.2).a).toNat : Int), .int .u64 (((whq d.1 d.2).b).toNat : Int), .int .u64 (((whq d.1 d.2).c).toNat : Int), .int .u64 (((whq d.1 d.2).d).toNat : Int)] wr ∧ P < wr.heap.size)) (fun i _ => L.length - (intOf i).toNat)
    case atStart => exact ⟨0, by omega, rfl, AscW.zero _ _, A2, P2, lP⟩
    case round =>
      obtain ⟨k, hkx, rfl, HK⟩ := hrel
      obtain ⟨hA, A3, P3, l3⟩ := HK.out
      clear HK A2 P2 lP
      have k14 := A3.list
      have zz := A3.2.2
      by_cases hlt : k < L.length
      · have hkI : (k : Int) < (L.length : Int) := by omega
        have hk00 : (0 : Int) ≤ (k : Int) := by omega
        have ex := (H.out.call zz).2 k hlt
        obtain ⟨x, hx⟩ : ∃ x, x = L[k] := ⟨_, rfl⟩
        have hst := hA.step hlt
        have hfail : AscW n L L.length → _ := fun h => h k hlt hlt
        rw [← hx] at ex hst hfail
        clear hx
        go_upto_region 8 with (with_reducible refine wpl_load agg_wsh g (k * 7) [.int .i64 x.w, .int .i64 x.e, .int .i64 x.s, .int .u64 ((x.q.a).toNat : Int), .int .u64 ((x.q.b).toNat : Int), .int .u64 ((x.q.c).toNat : Int), .int .u64 ((x.q.d).toNat : Int)] (by kernel_rfl) (by kernel_rfl) ex ?_)
        have ba := (Below.refl wr.heap.size wr).alloc (Nat.le_refl _) (.cells #[.int .i64 x.w, .int .i64 x.e, .int .i64 x.s, .int .u64 ((x.q.a).toNat : Int), .int .u64 ((x.q.b).toNat : Int), .int .u64 ((x.q.c).toNat : Int), .int .u64 ((x.q.d).toNat : Int)] 50)
        have A4 := A3.call ba
        have P4 := P3.call ba l3
        have l4 := Nat.lt_of_lt_of_le l3 ba.size
        have X4 : Lies wr.heap.size 0 [.int .i64 x.w, .int .i64 x.e, .int .i64 x.s, .int .u64 ((x.q.a).toNat : Int), .int .u64 ((x.q.b).toNat : Int), .int .u64 ((x.q.c).toNat : Int), .int .u64 ((x.q.d).toNat : Int)] (wr.alloc (.cells #[.int .i64 x.w, .int .i64 x.e, .int .i64 x.s, .int .u64 ((x.q.a).toNat : Int), .int .u64 ((x.q.b).toNat : Int), .int .u64 ((x.q.c).toNat : Int), .int .u64 ((x.q.d).toNat : Int)] 50)) := Lies.new wr [.int .i64 x.w, .int .i64 x.e, .int .i64 x.s, .int .u64 ((x.q.a).toNat : Int), .int .u64 ((x.q.b).toNat : Int), .int .u64 ((x.q.c).toNat : Int), .int .u64 ((x.q.d).toNat : Int)] 50
        have lX : wr.heap.size < (wr.alloc (.cells #[.int .i64 x.w, .int .i64 x.e, .int .i64 x.s, .int .u64 ((x.q.a).toNat : Int), .int .u64 ((x.q.b).toNat : Int), .int .u64 ((x.q.c).toNat : Int), .int .u64 ((x.q.d).toNat : Int)] 50)).heap.size := by simp
        clear ba A3 P3 l3 k14 zz ex
        generalize wr.alloc (.cells #[.int .i64 x.w, .int .i64 x.e, .int .i64 x.s, .int .u64 ((x.q.a).toNat : Int), .int .u64 ((x.q.b).toNat : Int), .int .u64 ((x.q.c).toNat : Int), .int .u64 ((x.q.d).toNat : Int)] 50) = w4 at A4 P4 l4 X4 lX ⊢
        generalize wr.heap.size = X at X4 lX ⊢
        have x0 := X4 0 _ rfl
        have x1 := X4 1 _ rfl
        have x2 := X4 2 _ rfl
        have p0 := P4 0 _ rfl
        rw [Nat.zero_add] at x0 x1 x2 p0
        have zz := A4.2.2
        have hwn : IntKind.i64.wrap (n + 1) = n + 1 := IntWalk.i64_in _ (by omega)
        have c1 := fun V : World => in_is x.w 1 20 V
        have c2 := fun V : World => in_is x.e 1 1000000 V
        have c3 := fun V : World => in_is x.s (n + 1) 256 V
        by_cases r1 : 1 ≤ x.w ∧ x.w ≤ 20
        · have e1 : (decide (1 ≤ x.w) && decide (x.w ≤ 20)) = true := by rw [decide_eq_true r1.1, decide_eq_true r1.2]; rfl
          rw [e1] at c1
          by_cases r2 : 1 ≤ x.e ∧ x.e ≤ 1000000
          · have e2 : (decide (1 ≤ x.e) && decide (x.e ≤ 1000000)) = true := by rw [decide_eq_true r2.1, decide_eq_true r2.2]; rfl
            rw [e2] at c2
            by_cases r3 : n + 1 ≤ x.s ∧ x.s ≤ 256
            · have e3 : (decide (n + 1 ≤ x.s) && decide (x.s ≤ 256)) = true := by rw [decide_eq_true r3.1, decide_eq_true r3.2]; rfl
              rw [e3] at c3
              clear e1 e2 e3
              go_upto_region 10 with (first
                | (go_at_call_of 11 (Value.int IntKind.i64 20); refine (c1 _).mono ?_; rintro e w9 ⟨rfl, hw9⟩; subst hw9)
                | (go_at_call_of 11 (Value.int IntKind.i64 1000000); refine (c2 _).mono ?_; rintro e w9 ⟨rfl, hw9⟩; subst hw9)
                | (go_at_call 11; refine (c3 _).mono ?_; rintro e w9 ⟨rfl, hw9⟩; subst hw9))
              clear x0 x1 x2 p0 hwn c1 c2 c3 zz
              have A5 := A4.call (Below.refl _ _).drew
              have P5 := P4.call (Below.refl _ _).drew l4
              have bd := fun V : World => (Below.refl V.heap.size V).drew
              have l5 := Nat.lt_of_lt_of_le l4 (bd _).size
              have X5 := X4.call (Below.refl _ _).drew lX
              have zd := A5.2.2
              have e14 := A5.list
              have eX := first_of X5
              by_cases hk0 : k = 0
              · subst hk0
                have HN : Hid (AscW n L 1 ∧ WA W d (.slice (some ⟨g, 0, none⟩) L.length L.length) _ ∧ Lies P 0 [.int .i64 n, .int .u64 (((whq d.1 d.2).a).toNat : Int), .int .u64 (((whq d.1 d.2).b).toNat : Int), .int .u64 (((whq d.1 d.2).c).toNat : Int), .int .u64 (((whq d.1 d.2).d).toNat : Int)] _ ∧ P < _) := ⟨hst r1 r2 r3 (fun h => absurd h (by omega)), A5, P5, l5⟩
                clear hst hfail hA A4 A5 P4 P5 X4 X5 l4 lX zd r1 r2 r3
                refine wp_region_held_drew (S := fun w' => w'.cell? ⟨W.heap.size, 14, none⟩ = some (.slice (some ⟨g, 0, none⟩) L.length L.length) ∧ w'.cell? ⟨X, 0, none⟩ = some (.int .i64 x.w)) (by kernel_rfl) ⟨e14, eX⟩ (fun hHeld => ?_)
                refine wpAnyH_take (i := 0) (oi := { dst := some 45, op := Op.move (Operand.tmp 4), type := 3, pos := "l9_witness.go:23", after := #[], guard := none }) (v := .int .i64 0) rfl (by kernel_rfl) (by kernel_rfl) (by kernel_rfl) (fun _ _ _ h => h) (Or.inl ⟨by rfl, ?_⟩) (by assumption) ?_
                · (intro wq hq; first | (go_simp; done) | (go_simp; rfl) | (go_simp; omega))
                try simp only [Act.put, List.setIfInBounds_toArray, List.set_cons_zero, List.set_cons_succ]
                refine wpAnyH_take (i := 1) (oi := { dst := some 46, op := Op.binOp BinOp.gtr 3 (Operand.tmp 45) (Operand.const (Value.int IntKind.i64 0)) 3, type := 4, pos := "l9_witness.go:23", after := #[{ on := 0, ground := Ground.data }], guard := none }) (v := .bool false) rfl (by kernel_rfl) (by kernel_rfl) (by kernel_rfl) (fun _ _ _ h => h) (Or.inl ⟨by rfl, ?_⟩) (by assumption) ?_
                · (intro wq hq; first | (go_simp; done) | (go_simp; rfl) | (go_simp; omega))
                try simp only [Act.put, List.setIfInBounds_toArray, List.set_cons_zero, List.set_cons_succ]
                refine wpAnyH_take (i := 2) (oi := { dst := some 47, op := Op.move (Operand.tmp 46), type := 4, pos := "l9_witness.go:23", after := #[{ on := 1, ground := Ground.data }], guard := none }) (v := .bool false) rfl (by kernel_rfl) (by kernel_rfl) (by kernel_rfl) (fun _ _ _ h => h) (Or.inl ⟨by rfl, ?_⟩) (by assumption) ?_
                · (intro wq hq; first | (go_simp; done) | (go_simp; rfl) | (go_simp; omega))
                try simp only [Act.put, List.setIfInBounds_toArray, List.set_cons_zero, List.set_cons_succ]
                refine wpAnyH_take (i := 3) (oi := { dst := some 48, op := Op.fieldAddr 41 (Operand.tmp 1) 1, type := 0, pos := "l9_witness.go:23", after := #[{ on := 2, ground := Ground.guard }], guard := some (2, true) }) (v := undef) rfl (by kernel_rfl) (by kernel_rfl) (by kernel_rfl) (fun _ _ _ h => h) (Or.inr ⟨by rfl, rfl⟩) (by assumption) ?_
                try simp only [Act.put, List.setIfInBounds_toArray, List.set_cons_zero, List.set_cons_succ]
                refine wpAnyH_take (i := 4) (oi := { dst := some 49, op := Op.load 39 (Operand.tmp 48), type := 39, pos := "l9_witness.go:23", after := #[{ on := 3, ground := Ground.data }, { on := 2, ground := Ground.guard }], guard := some (2, true) }) (v := undef) rfl (by kernel_rfl) (by kernel_rfl) (by kernel_rfl) (fun _ _ _ h => h) (Or.inr ⟨by rfl, rfl⟩) (by assumption) ?_
                try simp only [Act.put, List.setIfInBounds_toArray, List.set_cons_zero, List.set_cons_succ]
                refine wpAnyH_take (i := 5) (oi := { dst := some 50, op := Op.move (Operand.tmp 4), type := 3, pos := "l9_witness.go:23", after := #[{ on := 2, ground := Ground.guard }], guard := some (2, true) }) (v := undef) rfl (by kernel_rfl) (by kernel_rfl) (by kernel_rfl) (fun _ _ _ h => h) (Or.inr ⟨by rfl, rfl⟩) (by assumption) ?_
                try simp only [Act.put, List.setIfInBounds_toArray, List.set_cons_zero, List.set_cons_succ]
                refine wpAnyH_take (i := 6) (oi := { dst := some 51, op := Op.binOp BinOp.sub 3 (Operand.tmp 50) (Operand.const (Value.int IntKind.i64 1)) 3, type := 3, pos := "l9_witness.go:23", after := #[{ on := 5, ground := Ground.data }, { on := 2, ground := Ground.guard }], guard := some (2, true) }) (v := undef) rfl (by kernel_rfl) (by kernel_rfl) (by kernel_rfl) (fun _ _ _ h => h) (Or.inr ⟨by rfl, rfl⟩) (by assumption) ?_
                try simp only [Act.put, List.setIfInBounds_toArray, List.set_cons_zero, List.set_cons_succ]
                refine wpAnyH_take (i := 7) (oi := { dst := some 52, op := Op.indexAddr 39 (Operand.tmp 49) (Operand.tmp 51), type := 0, pos := "l9_witness.go:23", after := #[{ on := 4, ground := Ground.data }, { on := 6, ground := Ground.data }, { on := 2, ground := Ground.guard }], guard := some (2, true) }) (v := undef) rfl (by kernel_rfl) (by kernel_rfl) (by kernel_rfl) (fun _ _ _ h => h) (Or.inr ⟨by rfl, rfl⟩) (by assumption) ?_
                try simp only [Act.put, List.setIfInBounds_toArray, List.set_cons_zero, List.set_cons_succ]
                refine wpAnyH_take (i := 8) (oi := { dst := some 53, op := Op.fieldAddr 50 (Operand.tmp 52) 0, type := 0, pos := "l9_witness.go:23", after := #[{ on := 7, ground := Ground.data }, { on := 2, ground := Ground.guard }], guard := some (2, true) }) (v := undef) rfl (by kernel_rfl) (by kernel_rfl) (by kernel_rfl) (fun _ _ _ h => h) (Or.inr ⟨by rfl, rfl⟩) (by assumption) ?_
                try simp only [Act.put, List.setIfInBounds_toArray, List.set_cons_zero, List.set_cons_succ]
                refine wpAnyH_take (i := 9) (oi := { dst := some 54, op := Op.load 3 (Operand.tmp 53), type := 3, pos := "l9_witness.go:23", after := #[{ on := 8, ground := Ground.data }, { on := 2, ground := Ground.guard }], guard := some (2, true) }) (v := undef) rfl (by kernel_rfl) (by kernel_rfl) (by kernel_rfl) (fun _ _ _ h => h) (Or.inr ⟨by rfl, rfl⟩) (by assumption) ?_
                try simp only [Act.put, List.setIfInBounds_toArray, List.set_cons_zero, List.set_cons_succ]
                refine wpAnyH_take (i := 10) (oi := { dst := some 55, op := Op.fieldAddr 50 (Operand.tmp 5) 0, type := 0, pos := "l9_witness.go:23", after := #[{ on := 2, ground := Ground.guard }], guard := some (2, true) }) (v := undef) rfl (by kernel_rfl) (by kernel_rfl) (by kernel_rfl) (fun _ _ _ h => h) (Or.inr ⟨by rfl, rfl⟩) (by assumption) ?_
                try simp only [Act.put, List.setIfInBounds_toArray, List.set_cons_zero, List.set_cons_succ]
                refine wpAnyH_take (i := 11) (oi := { dst := some 56, op := Op.load 3 (Operand.tmp 55), type := 3, pos := "l9_witness.go:23", after := #[{ on := 10, ground := Ground.data }, { on := 2, ground := Ground.guard }], guard := some (2, true) }) (v := undef) rfl (by kernel_rfl) (by kernel_rfl) (by kernel_rfl) (fun _ _ _ h => h) (Or.inr ⟨by rfl, rfl⟩) (by assumption) ?_
                try simp only [Act.put, List.setIfInBounds_toArray, List.set_cons_zero, List.set_cons_succ]
                refine wpAnyH_take (i := 12) (oi := { dst := some 57, op := Op.binOp BinOp.geq 3 (Operand.tmp 54) (Operand.tmp 56) 3, type := 4, pos := "l9_witness.go:23", after := #[{ on := 9, ground := Ground.data }, { on := 11, ground := Ground.data }, { on := 2, ground := Ground.guard }], guard := some (2, true) }) (v := undef) rfl (by kernel_rfl) (by kernel_rfl) (by kernel_rfl) (fun _ _ _ h => h) (Or.inr ⟨by rfl, rfl⟩) (by assumption) ?_
                try simp only [Act.put, List.setIfInBounds_toArray, List.set_cons_zero, List.set_cons_succ]
                refine wpAnyH_take (i := 13) (oi := { dst := some 58, op := Op.pick (Operand.tmp 47) (Operand.tmp 57) (Operand.const (Value.bool false)), type := 4, pos := "l9_witness.go:23", after := #[{ on := 2, ground := Ground.data }, { on := 12, ground := Ground.data }], guard := none }) (v := .bool false) rfl (by kernel_rfl) (by kernel_rfl) (by kernel_rfl) (fun _ _ _ h => h) (Or.inl ⟨by rfl, ?_⟩) (by assumption) ?_
                · (intro wq hq; first | (go_simp; done) | (go_simp; rfl) | (go_simp; omega))
                try simp only [Act.put, List.setIfInBounds_toArray, List.set_cons_zero, List.set_cons_succ]
                refine wpAnyH_done (by kernel_rfl) ?_ _
                clear hHeld
                go_wp2_with fail
                exact ⟨⟨1, by omega, by go_num, HN⟩, by simp [intOf]; omega⟩
              · obtain ⟨j, hkj⟩ : ∃ j, k = j + 1 := ⟨k - 1, by omega⟩
                have hj : j < L.length := by omega
                have hwj : IntKind.i64.wrap ((k : Int) - 1) = (j : Int) := by rw [IntWalk.i64_in _ (by omega)]; omega
                have hk1 : (0 : Int) < (k : Int) := by omega
                have hjI : (j : Int) < (L.length : Int) := by omega
                have hprev : ∀ h : k - 1 < L.length, L[k - 1] = L[j] := fun h => by congr 1; omega
                have ez := first_of ((H.out.call zd).2 j hj)
                obtain ⟨z, hz⟩ : ∃ z, z = L[j] := ⟨_, rfl⟩
                rw [← hz] at ez
                by_cases hzx : z.w < x.w
                · have hzI : ¬ x.w ≤ z.w := by omega
                  have HN : Hid (AscW n L (k + 1) ∧ WA W d (.slice (some ⟨g, 0, none⟩) L.length L.length) _ ∧ Lies P 0 [.int .i64 n, .int .u64 (((whq d.1 d.2).a).toNat : Int), .int .u64 (((whq d.1 d.2).b).toNat : Int), .int .u64 (((whq d.1 d.2).c).toNat : Int), .int .u64 (((whq d.1 d.2).d).toNat : Int)] _ ∧ P < _) := ⟨hst r1 r2 r3 (fun _ => by rw [hprev, ← hz]; exact hzx), A5, P5, l5⟩
                  clear hst hfail hA A4 A5 P4 P5 X4 X5 l4 lX zd r1 r2 r3 hprev hkj hz hzx
                  refine wp_region_held_drew (S := fun w' => w'.cell? ⟨W.heap.size, 14, none⟩ = some (.slice (some ⟨g, 0, none⟩) L.length L.length) ∧ w'.cell? ⟨X, 0, none⟩ = some (.int .i64 x.w) ∧ w'.cell? ⟨g, j * 7, none⟩ = some (.int .i64 z.w)) (by kernel_rfl) ⟨e14, eX, ez⟩ (fun hHeld => ?_)
                  refine wpAnyH_take (i := 0) (oi := { dst := some 45, op := Op.move (Operand.tmp 4), type := 3, pos := "l9_witness.go:23", after := #[], guard := none }) (v := .int .i64 (k : Int)) rfl (by kernel_rfl) (by kernel_rfl) (by kernel_rfl) (fun _ _ _ h => h) (Or.inl ⟨by rfl, ?_⟩) (by assumption) ?_
                  · (intro wq hq; first | (go_simp; done) | (go_simp; rfl) | (go_simp; omega))
                  try simp only [Act.put, List.setIfInBounds_toArray, List.set_cons_zero, List.set_cons_succ]
                  refine wpAnyH_take (i := 1) (oi := { dst := some 46, op := Op.binOp BinOp.gtr 3 (Operand.tmp 45) (Operand.const (Value.int IntKind.i64 0)) 3, type := 4, pos := "l9_witness.go:23", after := #[{ on := 0, ground := Ground.data }], guard := none }) (v := .bool true) rfl (by kernel_rfl) (by kernel_rfl) (by kernel_rfl) (fun _ _ _ h => h) (Or.inl ⟨by rfl, ?_⟩) (by assumption) ?_
                  · (intro wq hq; first | (go_simp; done) | (go_simp; rfl) | (go_simp; omega))
                  try simp only [Act.put, List.setIfInBounds_toArray, List.set_cons_zero, List.set_cons_succ]
                  refine wpAnyH_take (i := 2) (oi := { dst := some 47, op := Op.move (Operand.tmp 46), type := 4, pos := "l9_witness.go:23", after := #[{ on := 1, ground := Ground.data }], guard := none }) (v := .bool true) rfl (by kernel_rfl) (by kernel_rfl) (by kernel_rfl) (fun _ _ _ h => h) (Or.inl ⟨by rfl, ?_⟩) (by assumption) ?_
                  · (intro wq hq; first | (go_simp; done) | (go_simp; rfl) | (go_simp; omega))
                  try simp only [Act.put, List.setIfInBounds_toArray, List.set_cons_zero, List.set_cons_succ]
                  refine wpAnyH_take (i := 3) (oi := { dst := some 48, op := Op.fieldAddr 41 (Operand.tmp 1) 1, type := 0, pos := "l9_witness.go:23", after := #[{ on := 2, ground := Ground.guard }], guard := some (2, true) }) (v := .pointer (some ⟨W.heap.size, 14, none⟩)) rfl (by kernel_rfl) (by kernel_rfl) (by kernel_rfl) (fun _ _ _ h => h) (Or.inl ⟨by rfl, ?_⟩) (by assumption) ?_
                  · (intro wq hq; first | (go_simp; done) | (go_simp; rfl) | (go_simp; omega))
                  try simp only [Act.put, List.setIfInBounds_toArray, List.set_cons_zero, List.set_cons_succ]
                  refine wpAnyH_take (i := 4) (oi := { dst := some 49, op := Op.load 39 (Operand.tmp 48), type := 39, pos := "l9_witness.go:23", after := #[{ on := 3, ground := Ground.data }, { on := 2, ground := Ground.guard }], guard := some (2, true) }) (v := (.slice (some ⟨g, 0, none⟩) L.length L.length)) rfl (by kernel_rfl) (by kernel_rfl) (by kernel_rfl) (fun _ _ _ h => h) (Or.inl ⟨by rfl, ?_⟩) (by assumption) ?_
                  · (intro wq hq; have hx := hq.1; clear hq; first | (go_simp; done) | (go_simp; rfl))
                  try simp only [Act.put, List.setIfInBounds_toArray, List.set_cons_zero, List.set_cons_succ]
                  refine wpAnyH_take (i := 5) (oi := { dst := some 50, op := Op.move (Operand.tmp 4), type := 3, pos := "l9_witness.go:23", after := #[{ on := 2, ground := Ground.guard }], guard := some (2, true) }) (v := .int .i64 (k : Int)) rfl (by kernel_rfl) (by kernel_rfl) (by kernel_rfl) (fun _ _ _ h => h) (Or.inl ⟨by rfl, ?_⟩) (by assumption) ?_
                  · (intro wq hq; first | (go_simp; done) | (go_simp; rfl) | (go_simp; omega))
                  try simp only [Act.put, List.setIfInBounds_toArray, List.set_cons_zero, List.set_cons_succ]
                  refine wpAnyH_take (i := 6) (oi := { dst := some 51, op := Op.binOp BinOp.sub 3 (Operand.tmp 50) (Operand.const (Value.int IntKind.i64 1)) 3, type := 3, pos := "l9_witness.go:23", after := #[{ on := 5, ground := Ground.data }, { on := 2, ground := Ground.guard }], guard := some (2, true) }) (v := .int .i64 (j : Int)) rfl (by kernel_rfl) (by kernel_rfl) (by kernel_rfl) (fun _ _ _ h => h) (Or.inl ⟨by rfl, ?_⟩) (by assumption) ?_
                  · (intro wq hq; first | (go_simp; done) | (go_simp; rfl) | (go_simp; rw [hwj]))
                  try simp only [Act.put, List.setIfInBounds_toArray, List.set_cons_zero, List.set_cons_succ]
                  refine wpAnyH_take (i := 7) (oi := { dst := some 52, op := Op.indexAddr 39 (Operand.tmp 49) (Operand.tmp 51), type := 0, pos := "l9_witness.go:23", after := #[{ on := 4, ground := Ground.data }, { on := 6, ground := Ground.data }, { on := 2, ground := Ground.guard }], guard := some (2, true) }) (v := .pointer (some ⟨g, j * 7, none⟩)) rfl (by kernel_rfl) (by kernel_rfl) (by kernel_rfl) (fun _ _ _ h => h) (Or.inl ⟨by rfl, ?_⟩) (by assumption) ?_
                  · (intro wq hq; first | (go_simp; done) | (go_simp; rfl) | (go_simp; omega))
                  try simp only [Act.put, List.setIfInBounds_toArray, List.set_cons_zero, List.set_cons_succ]
                  refine wpAnyH_take (i := 8) (oi := { dst := some 53, op := Op.fieldAddr 50 (Operand.tmp 52) 0, type := 0, pos := "l9_witness.go:23", after := #[{ on := 7, ground := Ground.data }, { on := 2, ground := Ground.guard }], guard := some (2, true) }) (v := .pointer (some ⟨g, j * 7, none⟩)) rfl (by kernel_rfl) (by kernel_rfl) (by kernel_rfl) (fun _ _ _ h => h) (Or.inl ⟨by rfl, ?_⟩) (by assumption) ?_
                  · (intro wq hq; first | (go_simp; done) | (go_simp; rfl) | (go_simp; omega))
                  try simp only [Act.put, List.setIfInBounds_toArray, List.set_cons_zero, List.set_cons_succ]
                  refine wpAnyH_take (i := 9) (oi := { dst := some 54, op := Op.load 3 (Operand.tmp 53), type := 3, pos := "l9_witness.go:23", after := #[{ on := 8, ground := Ground.data }, { on := 2, ground := Ground.guard }], guard := some (2, true) }) (v := .int .i64 z.w) rfl (by kernel_rfl) (by kernel_rfl) (by kernel_rfl) (fun _ _ _ h => h) (Or.inl ⟨by rfl, ?_⟩) (by assumption) ?_
                  · (intro wq hq; have hx := hq.2.2; clear hq; first | (go_simp; done) | (go_simp; rfl))
                  try simp only [Act.put, List.setIfInBounds_toArray, List.set_cons_zero, List.set_cons_succ]
                  refine wpAnyH_take (i := 10) (oi := { dst := some 55, op := Op.fieldAddr 50 (Operand.tmp 5) 0, type := 0, pos := "l9_witness.go:23", after := #[{ on := 2, ground := Ground.guard }], guard := some (2, true) }) (v := .pointer (some ⟨X, 0, none⟩)) rfl (by kernel_rfl) (by kernel_rfl) (by kernel_rfl) (fun _ _ _ h => h) (Or.inl ⟨by rfl, ?_⟩) (by assumption) ?_
                  · (intro wq hq; first | (go_simp; done) | (go_simp; rfl) | (go_simp; omega))
                  try simp only [Act.put, List.setIfInBounds_toArray, List.set_cons_zero, List.set_cons_succ]
                  refine wpAnyH_take (i := 11) (oi := { dst := some 56, op := Op.load 3 (Operand.tmp 55), type := 3, pos := "l9_witness.go:23", after := #[{ on := 10, ground := Ground.data }, { on := 2, ground := Ground.guard }], guard := some (2, true) }) (v := .int .i64 x.w) rfl (by kernel_rfl) (by kernel_rfl) (by kernel_rfl) (fun _ _ _ h => h) (Or.inl ⟨by rfl, ?_⟩) (by assumption) ?_
                  · (intro wq hq; have hx := hq.2.1; clear hq; first | (go_simp; done) | (go_simp; rfl))
                  try simp only [Act.put, List.setIfInBounds_toArray, List.set_cons_zero, List.set_cons_succ]
                  refine wpAnyH_take (i := 12) (oi := { dst := some 57, op := Op.binOp BinOp.geq 3 (Operand.tmp 54) (Operand.tmp 56) 3, type := 4, pos := "l9_witness.go:23", after := #[{ on := 9, ground := Ground.data }, { on := 11, ground := Ground.data }, { on := 2, ground := Ground.guard }], guard := some (2, true) }) (v := .bool false) rfl (by kernel_rfl) (by kernel_rfl) (by kernel_rfl) (fun _ _ _ h => h) (Or.inl ⟨by rfl, ?_⟩) (by assumption) ?_
                  · (intro wq hq; first | (go_simp; done) | (go_simp; rfl) | (go_simp; omega))
                  try simp only [Act.put, List.setIfInBounds_toArray, List.set_cons_zero, List.set_cons_succ]
                  refine wpAnyH_take (i := 13) (oi := { dst := some 58, op := Op.pick (Operand.tmp 47) (Operand.tmp 57) (Operand.const (Value.bool false)), type := 4, pos := "l9_witness.go:23", after := #[{ on := 2, ground := Ground.data }, { on := 12, ground := Ground.data }], guard := none }) (v := .bool false) rfl (by kernel_rfl) (by kernel_rfl) (by kernel_rfl) (fun _ _ _ h => h) (Or.inl ⟨by rfl, ?_⟩) (by assumption) ?_
                  · (intro wq hq; first | (go_simp; done) | (go_simp; rfl) | (go_simp; omega))
                  try simp only [Act.put, List.setIfInBounds_toArray, List.set_cons_zero, List.set_cons_succ]
                  refine wpAnyH_done (by kernel_rfl) ?_ _
                  clear hHeld
                  go_wp2_with fail
                  exact ⟨⟨k + 1, by omega, by go_num, HN⟩, by simp [intOf]; omega⟩
                · have hzI : x.w ≤ z.w := by omega
                  have hno : ¬ Wok d L := fun h => by
                    have := (hfail (hC.1 h)).2.2.2 (by omega)
                    rw [hprev, ← hz] at this
                    exact hzx this
                  clear hst hfail hA A4 A5 P4 P5 X4 X5 l4 lX r1 r2 r3 hprev hkj hz hzx hC
                  refine wp_region_held_drew (S := fun w' => w'.cell? ⟨W.heap.size, 14, none⟩ = some (.slice (some ⟨g, 0, none⟩) L.length L.length) ∧ w'.cell? ⟨X, 0, none⟩ = some (.int .i64 x.w) ∧ w'.cell? ⟨g, j * 7, none⟩ = some (.int .i64 z.w)) (by kernel_rfl) ⟨e14, eX, ez⟩ (fun hHeld => ?_)
                  refine wpAnyH_take (i := 0) (oi := { dst := some 45, op := Op.move (Operand.tmp 4), type := 3, pos := "l9_witness.go:23", after := #[], guard := none }) (v := .int .i64 (k : Int)) rfl (by kernel_rfl) (by kernel_rfl) (by kernel_rfl) (fun _ _ _ h => h) (Or.inl ⟨by rfl, ?_⟩) (by assumption) ?_
                  · (intro wq hq; first | (go_simp; done) | (go_simp; rfl) | (go_simp; omega))
                  try simp only [Act.put, List.setIfInBounds_toArray, List.set_cons_zero, List.set_cons_succ]
                  refine wpAnyH_take (i := 1) (oi := { dst := some 46, op := Op.binOp BinOp.gtr 3 (Operand.tmp 45) (Operand.const (Value.int IntKind.i64 0)) 3, type := 4, pos := "l9_witness.go:23", after := #[{ on := 0, ground := Ground.data }], guard := none }) (v := .bool true) rfl (by kernel_rfl) (by kernel_rfl) (by kernel_rfl) (fun _ _ _ h => h) (Or.inl ⟨by rfl, ?_⟩) (by assumption) ?_
                  · (intro wq hq; first | (go_simp; done) | (go_simp; rfl) | (go_simp; omega))
                  try simp only [Act.put, List.setIfInBounds_toArray, List.set_cons_zero, List.set_cons_succ]
                  refine wpAnyH_take (i := 2) (oi := { dst := some 47, op := Op.move (Operand.tmp 46), type := 4, pos := "l9_witness.go:23", after := #[{ on := 1, ground := Ground.data }], guard := none }) (v := .bool true) rfl (by kernel_rfl) (by kernel_rfl) (by kernel_rfl) (fun _ _ _ h => h) (Or.inl ⟨by rfl, ?_⟩) (by assumption) ?_
                  · (intro wq hq; first | (go_simp; done) | (go_simp; rfl) | (go_simp; omega))
                  try simp only [Act.put, List.setIfInBounds_toArray, List.set_cons_zero, List.set_cons_succ]
                  refine wpAnyH_take (i := 3) (oi := { dst := some 48, op := Op.fieldAddr 41 (Operand.tmp 1) 1, type := 0, pos := "l9_witness.go:23", after := #[{ on := 2, ground := Ground.guard }], guard := some (2, true) }) (v := .pointer (some ⟨W.heap.size, 14, none⟩)) rfl (by kernel_rfl) (by kernel_rfl) (by kernel_rfl) (fun _ _ _ h => h) (Or.inl ⟨by rfl, ?_⟩) (by assumption) ?_
                  · (intro wq hq; first | (go_simp; done) | (go_simp; rfl) | (go_simp; omega))
                  try simp only [Act.put, List.setIfInBounds_toArray, List.set_cons_zero, List.set_cons_succ]
                  refine wpAnyH_take (i := 4) (oi := { dst := some 49, op := Op.load 39 (Operand.tmp 48), type := 39, pos := "l9_witness.go:23", after := #[{ on := 3, ground := Ground.data }, { on := 2, ground := Ground.guard }], guard := some (2, true) }) (v := (.slice (some ⟨g, 0, none⟩) L.length L.length)) rfl (by kernel_rfl) (by kernel_rfl) (by kernel_rfl) (fun _ _ _ h => h) (Or.inl ⟨by rfl, ?_⟩) (by assumption) ?_
                  · (intro wq hq; have hx := hq.1; clear hq; first | (go_simp; done) | (go_simp; rfl))
                  try simp only [Act.put, List.setIfInBounds_toArray, List.set_cons_zero, List.set_cons_succ]
                  refine wpAnyH_take (i := 5) (oi := { dst := some 50, op := Op.move (Operand.tmp 4), type := 3, pos := "l9_witness.go:23", after := #[{ on := 2, ground := Ground.guard }], guard := some (2, true) }) (v := .int .i64 (k : Int)) rfl (by kernel_rfl) (by kernel_rfl) (by kernel_rfl) (fun _ _ _ h => h) (Or.inl ⟨by rfl, ?_⟩) (by assumption) ?_
                  · (intro wq hq; first | (go_simp; done) | (go_simp; rfl) | (go_simp; omega))
                  try simp only [Act.put, List.setIfInBounds_toArray, List.set_cons_zero, List.set_cons_succ]
                  refine wpAnyH_take (i := 6) (oi := { dst := some 51, op := Op.binOp BinOp.sub 3 (Operand.tmp 50) (Operand.const (Value.int IntKind.i64 1)) 3, type := 3, pos := "l9_witness.go:23", after := #[{ on := 5, ground := Ground.data }, { on := 2, ground := Ground.guard }], guard := some (2, true) }) (v := .int .i64 (j : Int)) rfl (by kernel_rfl) (by kernel_rfl) (by kernel_rfl) (fun _ _ _ h => h) (Or.inl ⟨by rfl, ?_⟩) (by assumption) ?_
                  · (intro wq hq; first | (go_simp; done) | (go_simp; rfl) | (go_simp; rw [hwj]))
                  try simp only [Act.put, List.setIfInBounds_toArray, List.set_cons_zero, List.set_cons_succ]
                  refine wpAnyH_take (i := 7) (oi := { dst := some 52, op := Op.indexAddr 39 (Operand.tmp 49) (Operand.tmp 51), type := 0, pos := "l9_witness.go:23", after := #[{ on := 4, ground := Ground.data }, { on := 6, ground := Ground.data }, { on := 2, ground := Ground.guard }], guard := some (2, true) }) (v := .pointer (some ⟨g, j * 7, none⟩)) rfl (by kernel_rfl) (by kernel_rfl) (by kernel_rfl) (fun _ _ _ h => h) (Or.inl ⟨by rfl, ?_⟩) (by assumption) ?_
                  · (intro wq hq; first | (go_simp; done) | (go_simp; rfl) | (go_simp; omega))
                  try simp only [Act.put, List.setIfInBounds_toArray, List.set_cons_zero, List.set_cons_succ]
                  refine wpAnyH_take (i := 8) (oi := { dst := some 53, op := Op.fieldAddr 50 (Operand.tmp 52) 0, type := 0, pos := "l9_witness.go:23", after := #[{ on := 7, ground := Ground.data }, { on := 2, ground := Ground.guard }], guard := some (2, true) }) (v := .pointer (some ⟨g, j * 7, none⟩)) rfl (by kernel_rfl) (by kernel_rfl) (by kernel_rfl) (fun _ _ _ h => h) (Or.inl ⟨by rfl, ?_⟩) (by assumption) ?_
                  · (intro wq hq; first | (go_simp; done) | (go_simp; rfl) | (go_simp; omega))
                  try simp only [Act.put, List.setIfInBounds_toArray, List.set_cons_zero, List.set_cons_succ]
                  refine wpAnyH_take (i := 9) (oi := { dst := some 54, op := Op.load 3 (Operand.tmp 53), type := 3, pos := "l9_witness.go:23", after := #[{ on := 8, ground := Ground.data }, { on := 2, ground := Ground.guard }], guard := some (2, true) }) (v := .int .i64 z.w) rfl (by kernel_rfl) (by kernel_rfl) (by kernel_rfl) (fun _ _ _ h => h) (Or.inl ⟨by rfl, ?_⟩) (by assumption) ?_
                  · (intro wq hq; have hx := hq.2.2; clear hq; first | (go_simp; done) | (go_simp; rfl))
                  try simp only [Act.put, List.setIfInBounds_toArray, List.set_cons_zero, List.set_cons_succ]
                  refine wpAnyH_take (i := 10) (oi := { dst := some 55, op := Op.fieldAddr 50 (Operand.tmp 5) 0, type := 0, pos := "l9_witness.go:23", after := #[{ on := 2, ground := Ground.guard }], guard := some (2, true) }) (v := .pointer (some ⟨X, 0, none⟩)) rfl (by kernel_rfl) (by kernel_rfl) (by kernel_rfl) (fun _ _ _ h => h) (Or.inl ⟨by rfl, ?_⟩) (by assumption) ?_
                  · (intro wq hq; first | (go_simp; done) | (go_simp; rfl) | (go_simp; omega))
                  try simp only [Act.put, List.setIfInBounds_toArray, List.set_cons_zero, List.set_cons_succ]
                  refine wpAnyH_take (i := 11) (oi := { dst := some 56, op := Op.load 3 (Operand.tmp 55), type := 3, pos := "l9_witness.go:23", after := #[{ on := 10, ground := Ground.data }, { on := 2, ground := Ground.guard }], guard := some (2, true) }) (v := .int .i64 x.w) rfl (by kernel_rfl) (by kernel_rfl) (by kernel_rfl) (fun _ _ _ h => h) (Or.inl ⟨by rfl, ?_⟩) (by assumption) ?_
                  · (intro wq hq; have hx := hq.2.1; clear hq; first | (go_simp; done) | (go_simp; rfl))
                  try simp only [Act.put, List.setIfInBounds_toArray, List.set_cons_zero, List.set_cons_succ]
                  refine wpAnyH_take (i := 12) (oi := { dst := some 57, op := Op.binOp BinOp.geq 3 (Operand.tmp 54) (Operand.tmp 56) 3, type := 4, pos := "l9_witness.go:23", after := #[{ on := 9, ground := Ground.data }, { on := 11, ground := Ground.data }, { on := 2, ground := Ground.guard }], guard := some (2, true) }) (v := .bool true) rfl (by kernel_rfl) (by kernel_rfl) (by kernel_rfl) (fun _ _ _ h => h) (Or.inl ⟨by rfl, ?_⟩) (by assumption) ?_
                  · (intro wq hq; first | (go_simp; done) | (go_simp; rfl) | (go_simp; omega))
                  try simp only [Act.put, List.setIfInBounds_toArray, List.set_cons_zero, List.set_cons_succ]
                  refine wpAnyH_take (i := 13) (oi := { dst := some 58, op := Op.pick (Operand.tmp 47) (Operand.tmp 57) (Operand.const (Value.bool false)), type := 4, pos := "l9_witness.go:23", after := #[{ on := 2, ground := Ground.data }, { on := 12, ground := Ground.data }], guard := none }) (v := .bool true) rfl (by kernel_rfl) (by kernel_rfl) (by kernel_rfl) (fun _ _ _ h => h) (Or.inl ⟨by rfl, ?_⟩) (by assumption) ?_
                  · (intro wq hq; first | (go_simp; done) | (go_simp; rfl) | (go_simp; omega))
                  try simp only [Act.put, List.setIfInBounds_toArray, List.set_cons_zero, List.set_cons_succ]
                  refine wpAnyH_done (by kernel_rfl) ?_ _
                  clear hHeld
                  go_wp2_with fail
                  go_ret
                  first | exact ⟨false, rfl, zd, no_w hno⟩ | exact ⟨rfl, zd⟩ | exact ⟨rfl, zd, hno⟩
            · have e3 : (decide (n + 1 ≤ x.s) && decide (x.s ≤ 256)) = false := by rw [Bool.and_eq_false_iff, decide_eq_false_iff_not, decide_eq_false_iff_not]; omega
              rw [e3] at c3
              have hno : ¬ Wok d L := fun h => r3 (hfail (hC.1 h)).2.2.1
              clear e1 e2 e3 hst hfail hA hC
              go_wp2_with (first
                | (go_at_call_of 11 (Value.int IntKind.i64 20); refine (c1 _).mono ?_; rintro e w9 ⟨rfl, hw9⟩; subst hw9)
                | (go_at_call_of 11 (Value.int IntKind.i64 1000000); refine (c2 _).mono ?_; rintro e w9 ⟨rfl, hw9⟩; subst hw9)
                | (go_at_call 11; refine (c3 _).mono ?_; rintro e w9 ⟨rfl, hw9⟩; subst hw9))
              go_ret
              first | exact ⟨false, rfl, zz, no_w hno⟩ | exact ⟨rfl, zz⟩ | exact ⟨rfl, zz, hno⟩
          · have e2 : (decide (1 ≤ x.e) && decide (x.e ≤ 1000000)) = false := by rw [Bool.and_eq_false_iff, decide_eq_false_iff_not, decide_eq_false_iff_not]; omega
            rw [e2] at c2
            have hno : ¬ Wok d L := fun h => r2 (hfail (hC.1 h)).2.1
            clear e1 e2 hst hfail hA hC
            go_wp2_with (first
                | (go_at_call_of 11 (Value.int IntKind.i64 20); refine (c1 _).mono ?_; rintro e w9 ⟨rfl, hw9⟩; subst hw9)
                | (go_at_call_of 11 (Value.int IntKind.i64 1000000); refine (c2 _).mono ?_; rintro e w9 ⟨rfl, hw9⟩; subst hw9)
                | (go_at_call 11; refine (c3 _).mono ?_; rintro e w9 ⟨rfl, hw9⟩; subst hw9))
            go_ret
            first | exact ⟨false, rfl, zz, no_w hno⟩ | exact ⟨rfl, zz⟩ | exact ⟨rfl, zz, hno⟩
        · have e1 : (decide (1 ≤ x.w) && decide (x.w ≤ 20)) = false := by rw [Bool.and_eq_false_iff, decide_eq_false_iff_not, decide_eq_false_iff_not]; omega
          rw [e1] at c1
          have hno : ¬ Wok d L := fun h => r1 (hfail (hC.1 h)).1
          clear e1 hst hfail hA hC
          go_wp2_with (first
                | (go_at_call_of 11 (Value.int IntKind.i64 20); refine (c1 _).mono ?_; rintro e w9 ⟨rfl, hw9⟩; subst hw9)
                | (go_at_call_of 11 (Value.int IntKind.i64 1000000); refine (c2 _).mono ?_; rintro e w9 ⟨rfl, hw9⟩; subst hw9)
                | (go_at_call 11; refine (c3 _).mono ?_; rintro e w9 ⟨rfl, hw9⟩; subst hw9))
          go_ret
          first | exact ⟨false, rfl, zz, no_w hno⟩ | exact ⟨rfl, zz⟩ | exact ⟨rfl, zz, hno⟩
      · have hkk : k = L.length := by omega
        subst hkk
        have hyes : Wok d L := hC.2 hA
        clear hC hA A3 P3
        go_wp2_with fail
        go_ret
        first | exact ⟨true, rfl, zz, yes_w hyes⟩ | exact ⟨rfl, zz⟩ | exact ⟨rfl, zz, hyes⟩
  · have h8I : (8 : Int) < (L.length : Int) := by omega
    have hno : ¬ Wok d L := fun h => h8 h.1
    go_wp2_with fail
    go_ret
    first | exact ⟨false, rfl, zz, no_w hno⟩ | exact ⟨rfl, zz⟩ | exact ⟨rfl, zz, hno⟩
end Go.Proofs.YteaaaojafipllaaDoor
