/-
  A disk, a size and a root drawn.
-/
import Derived.Test.YtbmkknbbikoilaaDDisk
namespace Go.Proofs.Ytbmkknbbikoilaa
open Go.RowKit Go.MuLone

theorem res3 {fn : Func} {p q r : Tmp} {t u : TypeId} {n m : Nat} (ht : AggTy t n) (hu : AggTy u m) (h : fn.results = #[.cell p t, .tmp q, .cell r u]) (tmps : Array Value) (w : World) (b c : Nat) (vs us : List Value) (hn : vs.length = n) (hm : us.length = m)
    (hp : tmps.getD p undef = .pointer (some ⟨b, 0, none⟩)) (hr : tmps.getD r undef = .pointer (some ⟨c, 0, none⟩)) (x : Value) (hq : tmps.getD q undef = x) (hl : Lies b 0 vs w) (hk : Lies c 0 us w) :
    (results fn tmps).run Try.prog w = .ok (.tuple #[.agg vs.toArray, x, .agg us.toArray]) w := by
  obtain ⟨⟨d, hu1, hd1⟩, hi1⟩ := ht
  obtain ⟨⟨d2, hu2, hd2⟩, hi2⟩ := hu
  have hp' : tmps[p]?.getD undef = .pointer (some ⟨b, 0, none⟩) := by simpa using hp
  have hr' : tmps[r]?.getD undef = .pointer (some ⟨c, 0, none⟩) := by simpa using hr
  have hq' : tmps[q]?.getD undef = x := by simpa using hq
  simp [results, h, hp', hr', hq', asAddr, run_lv t b 0 vs w d hd1 hu1 (by rw [hn]; exact hi1) hl, run_lv u c 0 us w d2 hd2 hu2 (by rw [hm]; exact hi2) hk]
/-- What stands while they are drawn. -/
def DRw (W : World) (v : Value) (L : List UInt8) (p : Nat) (w : World) : Prop :=
  RdAt (W.heap.size + 1 + 1) v L p w ∧ Room W.heap.size 0 14 w ∧ Room (W.heap.size + 1) 0 4 w ∧ Below W.heap.size W w
theorem DRw.pick {W : World} {v : Value} {L : List UInt8} {p p' : Nat} {w w' : World} (h : DRw W v L p w) (hr : RdAt (W.heap.size + 1 + 1) v L p' w') (g : w.grownBy w' (some (W.heap.size + 1 + 1))) : DRw W v L p' w' := by
  obtain ⟨h1, h2, h3, h4⟩ := h
  have := h1.1
  exact ⟨hr, h2.grown g (by omega) (fun e => by injection e with e; omega), h3.grown g (by omega) (fun e => by injection e with e; omega), h4.grown g h4.size (fun k e => by injection e with e; omega)⟩
theorem DRw.call {W : World} {v : Value} {L : List UInt8} {p : Nat} {w w' : World} (h : DRw W v L p w) (hb : Below w.heap.size w w') : DRw W v L p w' := by
  obtain ⟨h1, h2, h3, h4⟩ := h
  have := h1.1
  exact ⟨h1.grown (belG hb), h2.call hb (by omega), h3.call hb (by omega), below_after h4 hb h4.size⟩
theorem DRw.put {W : World} {v : Value} {L : List UInt8} {p : Nat} {w : World} (h : DRw W v L p w) (vs : List Value) (hv : vs.length = 14) :
    Lies W.heap.size 0 vs (w.setCells W.heap.size 0 vs) ∧ Room (W.heap.size + 1) 0 4 (w.setCells W.heap.size 0 vs) ∧ Below W.heap.size W (w.setCells W.heap.size 0 vs) ∧ W.heap.size + 1 < (w.setCells W.heap.size 0 vs).heap.size := by
  obtain ⟨h1, h2, h3, h4⟩ := h
  have := h1.1
  have g := sc_grown w W.heap.size 0 vs
  exact ⟨Lies.sc hv h2, h3.grown g (by omega) (fun e => by injection e with e; omega), Below.sc _ (Nat.le_refl _) vs 0 _ h4, by rw [sc_size]; omega⟩
set_option maxRecDepth 20000 in
theorem agg_dg4 : AggTy 31 4 := ⟨⟨_, Try.underlying31, rfl⟩, by kernel_rfl⟩
set_option maxRecDepth 20000 in
set_option maxHeartbeats 8000000 in
theorem drawRaws_is (W : World) (v0 : Value) (L0 : List UInt8) (h : Byt W v0 L0) :
    Calls Try.prog 16 #[v0] W fun e w' => ∃ (d : Sl × Sl) (n : Int) (q : Qd), e = .returned (.tuple #[.agg #[.int .u64 ((d.1).m.toNat : Int), .int .u64 ((d.1).q.toNat : Int), .int .u64 ((d.1).z.toNat : Int), .int .u64 ((d.1).r.a.toNat : Int), .int .u64 ((d.1).r.b.toNat : Int), .int .u64 ((d.1).r.c.toNat : Int), .int .u64 ((d.1).r.d.toNat : Int), .int .u64 ((d.2).m.toNat : Int), .int .u64 ((d.2).q.toNat : Int), .int .u64 ((d.2).z.toNat : Int), .int .u64 ((d.2).r.a.toNat : Int), .int .u64 ((d.2).r.b.toNat : Int), .int .u64 ((d.2).r.c.toNat : Int), .int .u64 ((d.2).r.d.toNat : Int)], .int .i64 n, .agg #[.int .u64 ((q.a).toNat : Int), .int .u64 ((q.b).toNat : Int), .int .u64 ((q.c).toNat : Int), .int .u64 ((q.d).toNat : Int)]]) ∧ (-1 ≤ n ∧ n ≤ 257) ∧ Below W.heap.size W w' := by
  have hsz : ((W.alloc (.cells #[.int .u64 0, .int .u64 0, .int .u64 0, .int .u64 0, .int .u64 0, .int .u64 0, .int .u64 0, .int .u64 0, .int .u64 0, .int .u64 0, .int .u64 0, .int .u64 0, .int .u64 0, .int .u64 0] 35)).alloc (.cells #[.int .u64 0, .int .u64 0, .int .u64 0, .int .u64 0] 31)).heap.size = W.heap.size + 1 + 1 := by simp
  have l0 := (Room.new W #[.int .u64 0, .int .u64 0, .int .u64 0, .int .u64 0, .int .u64 0, .int .u64 0, .int .u64 0, .int .u64 0, .int .u64 0, .int .u64 0, .int .u64 0, .int .u64 0, .int .u64 0, .int .u64 0] 35 14 rfl).call ((Below.refl _ _).alloc (Nat.le_refl _) (.cells #[.int .u64 0, .int .u64 0, .int .u64 0, .int .u64 0] 31)) (by simp)
  have m0 := Room.new (W.alloc (.cells #[.int .u64 0, .int .u64 0, .int .u64 0, .int .u64 0, .int .u64 0, .int .u64 0, .int .u64 0, .int .u64 0, .int .u64 0, .int .u64 0, .int .u64 0, .int .u64 0, .int .u64 0, .int .u64 0] 35)) #[.int .u64 0, .int .u64 0, .int .u64 0, .int .u64 0] 31 4 rfl
  rw [World.size_alloc] at m0
  have b0 : Below W.heap.size W ((W.alloc (.cells #[.int .u64 0, .int .u64 0, .int .u64 0, .int .u64 0, .int .u64 0, .int .u64 0, .int .u64 0, .int .u64 0, .int .u64 0, .int .u64 0, .int .u64 0, .int .u64 0, .int .u64 0, .int .u64 0] 35)).alloc (.cells #[.int .u64 0, .int .u64 0, .int .u64 0, .int .u64 0] 31)) := (by repeat' (first | (with_reducible exact Below.refl _ _) | (with_reducible assumption) | (with_reducible refine below_drewN ?_ _) | (with_reducible refine Below.setCell ?_ ?_ _) | (with_reducible refine Below.alloc ?_ ?_ _) | (with_reducible refine Below.drew ?_) | go_size))
  have co := open_is _ v0 L0 (h.call b0)
  rw [hsz] at co
  have hwn : ∀ r : Nat, (r : Int) < 20 → IntKind.i64.wrap (1 + (r : Int)) = 1 + (r : Int) := fun r hr => IntWalk.i64_in _ (by omega)
  clear h
  go_enter Try.func16, Try.ntmps16
  go_upto_region 1 with fail
  generalize ((W.alloc (.cells #[.int .u64 0, .int .u64 0, .int .u64 0, .int .u64 0, .int .u64 0, .int .u64 0, .int .u64 0, .int .u64 0, .int .u64 0, .int .u64 0, .int .u64 0, .int .u64 0, .int .u64 0, .int .u64 0] 35)).alloc (.cells #[.int .u64 0, .int .u64 0, .int .u64 0, .int .u64 0] 31)) = V0 at hsz l0 m0 b0 co ⊢
  go_upto_region 2 with (go_at_call 30; refine co.mono ?_; rintro e w1 ⟨v, L, rfl, R1, b1⟩; have hD1 : DRw W v L 0 w1 := ⟨R1, l0.call (hsz ▸ b1) (by omega), m0.call (hsz ▸ b1) (by omega), below_after b0 (hsz ▸ b1) b0.size⟩; clear co l0 m0 b0 R1 b1)
  have cn := fun (V : World) (q : Nat) (h : RdAt (W.heap.size + 1 + 1) v L q V) (hq : q ≤ 900000) (n : Int) (h1 : 1 ≤ n) (h2 : n ≤ 1000) => pick_is (W.heap.size + 1 + 1) v L q V h (by omega) n h1 (by omega)
  have cd := fun (V : World) (q : Nat) (h : RdAt (W.heap.size + 1 + 1) v L q V) (hq : q ≤ 800000) => digest_is (W.heap.size + 1 + 1) v L q V h hq
  go_upto_region 3 with (go_at_call 31; refine (disk7_is _ v L 0 _ hD1.1 (by omega)).mono ?_; rintro e w2 ⟨d, p2, hp2, rfl, R2, g2⟩; have hD2 := hD1.pick R2 g2; clear hD1 R2 g2)
  have A3 := Lies.new w2 [.int .u64 ((d.1).m.toNat : Int), .int .u64 ((d.1).q.toNat : Int), .int .u64 ((d.1).z.toNat : Int), .int .u64 ((d.1).r.a.toNat : Int), .int .u64 ((d.1).r.b.toNat : Int), .int .u64 ((d.1).r.c.toNat : Int), .int .u64 ((d.1).r.d.toNat : Int), .int .u64 ((d.2).m.toNat : Int), .int .u64 ((d.2).q.toNat : Int), .int .u64 ((d.2).z.toNat : Int), .int .u64 ((d.2).r.a.toNat : Int), .int .u64 ((d.2).r.b.toNat : Int), .int .u64 ((d.2).r.c.toNat : Int), .int .u64 ((d.2).r.d.toNat : Int)] 35
  have hD3 := hD2.call ((Below.refl w2.heap.size w2).alloc (Nat.le_refl _) (.cells #[.int .u64 ((d.1).m.toNat : Int), .int .u64 ((d.1).q.toNat : Int), .int .u64 ((d.1).z.toNat : Int), .int .u64 ((d.1).r.a.toNat : Int), .int .u64 ((d.1).r.b.toNat : Int), .int .u64 ((d.1).r.c.toNat : Int), .int .u64 ((d.1).r.d.toNat : Int), .int .u64 ((d.2).m.toNat : Int), .int .u64 ((d.2).q.toNat : Int), .int .u64 ((d.2).z.toNat : Int), .int .u64 ((d.2).r.a.toNat : Int), .int .u64 ((d.2).r.b.toNat : Int), .int .u64 ((d.2).r.c.toNat : Int), .int .u64 ((d.2).r.d.toNat : Int)] 35))
  have hX3 : W.heap.size + 1 + 1 < w2.heap.size := hD2.1.1
  have hz3 : (w2.alloc (.cells #[.int .u64 ((d.1).m.toNat : Int), .int .u64 ((d.1).q.toNat : Int), .int .u64 ((d.1).z.toNat : Int), .int .u64 ((d.1).r.a.toNat : Int), .int .u64 ((d.1).r.b.toNat : Int), .int .u64 ((d.1).r.c.toNat : Int), .int .u64 ((d.1).r.d.toNat : Int), .int .u64 ((d.2).m.toNat : Int), .int .u64 ((d.2).q.toNat : Int), .int .u64 ((d.2).z.toNat : Int), .int .u64 ((d.2).r.a.toNat : Int), .int .u64 ((d.2).r.b.toNat : Int), .int .u64 ((d.2).r.c.toNat : Int), .int .u64 ((d.2).r.d.toNat : Int)] 35)).heap.size = w2.heap.size + 1 := World.size_alloc _ _
  have A3 : Lies w2.heap.size 0 [.int .u64 ((d.1).m.toNat : Int), .int .u64 ((d.1).q.toNat : Int), .int .u64 ((d.1).z.toNat : Int), .int .u64 ((d.1).r.a.toNat : Int), .int .u64 ((d.1).r.b.toNat : Int), .int .u64 ((d.1).r.c.toNat : Int), .int .u64 ((d.1).r.d.toNat : Int), .int .u64 ((d.2).m.toNat : Int), .int .u64 ((d.2).q.toNat : Int), .int .u64 ((d.2).z.toNat : Int), .int .u64 ((d.2).r.a.toNat : Int), .int .u64 ((d.2).r.b.toNat : Int), .int .u64 ((d.2).r.c.toNat : Int), .int .u64 ((d.2).r.d.toNat : Int)] (w2.alloc (.cells #[.int .u64 ((d.1).m.toNat : Int), .int .u64 ((d.1).q.toNat : Int), .int .u64 ((d.1).z.toNat : Int), .int .u64 ((d.1).r.a.toNat : Int), .int .u64 ((d.1).r.b.toNat : Int), .int .u64 ((d.1).r.c.toNat : Int), .int .u64 ((d.1).r.d.toNat : Int), .int .u64 ((d.2).m.toNat : Int), .int .u64 ((d.2).q.toNat : Int), .int .u64 ((d.2).z.toNat : Int), .int .u64 ((d.2).r.a.toNat : Int), .int .u64 ((d.2).r.b.toNat : Int), .int .u64 ((d.2).r.c.toNat : Int), .int .u64 ((d.2).r.d.toNat : Int)] 35)) := A3
  generalize w2.alloc (.cells #[.int .u64 ((d.1).m.toNat : Int), .int .u64 ((d.1).q.toNat : Int), .int .u64 ((d.1).z.toNat : Int), .int .u64 ((d.1).r.a.toNat : Int), .int .u64 ((d.1).r.b.toNat : Int), .int .u64 ((d.1).r.c.toNat : Int), .int .u64 ((d.1).r.d.toNat : Int), .int .u64 ((d.2).m.toNat : Int), .int .u64 ((d.2).q.toNat : Int), .int .u64 ((d.2).z.toNat : Int), .int .u64 ((d.2).r.a.toNat : Int), .int .u64 ((d.2).r.b.toNat : Int), .int .u64 ((d.2).r.c.toNat : Int), .int .u64 ((d.2).r.d.toNat : Int)] 35) = w3 at A3 hD3 hz3 ⊢
  generalize w2.heap.size = X at A3 hX3 hz3 ⊢
  have lX : X < w3.heap.size := by omega
  clear hD2 hz3
  go_upto_if 17 with (first
    | (have hh := hw4; go_at_call 32; refine (cn _ _ hD4.1 (by omega) 8 (by omega) (by omega)).mono ?_; rintro e w5 ⟨r5, hr5, rfl, R5, g5⟩; have hD5 := hD4.pick R5 g5; have A5 := A4.grown g5 lX4 (fun e => by injection e with e; omega); have lX5 := Nat.lt_of_lt_of_le lX4 g5.size; clear hD4 A4 R5 g5)
    | (go_at_call 32; refine (cn _ _ hD3.1 (by omega) 20 (by omega) (by omega)).mono ?_; rintro e w4 ⟨r4, hr4, rfl, R4, g4⟩; have hD4 := hD3.pick R4 g4; have hw4 := hwn r4 hr4; have A4 := A3.grown g4 lX (fun e => by injection e with e; omega); have lX4 := Nat.lt_of_lt_of_le lX g4.size; clear hD3 A3 R4 g4))
  go_cut [7] from 17 to 22 (fun nv wx => ∃ (n : Int) (q : Nat), nv = .int .i64 n ∧ (-1 ≤ n ∧ n ≤ 257) ∧ q ≤ 1000 ∧ Hid (DRw W v L q wx ∧ Lies X 0 [.int .u64 ((d.1).m.toNat : Int), .int .u64 ((d.1).q.toNat : Int), .int .u64 ((d.1).z.toNat : Int), .int .u64 ((d.1).r.a.toNat : Int), .int .u64 ((d.1).r.b.toNat : Int), .int .u64 ((d.1).r.c.toNat : Int), .int .u64 ((d.1).r.d.toNat : Int), .int .u64 ((d.2).m.toNat : Int), .int .u64 ((d.2).q.toNat : Int), .int .u64 ((d.2).z.toNat : Int), .int .u64 ((d.2).r.a.toNat : Int), .int .u64 ((d.2).r.b.toNat : Int), .int .u64 ((d.2).r.c.toNat : Int), .int .u64 ((d.2).r.d.toNat : Int)] wx ∧ X < wx.heap.size))
  case first =>
    have ba := (Below.refl w5.heap.size w5).alloc (Nat.le_refl _) (.cells #[.int .i64 (-1), .int .i64 0, .int .i64 256, .int .i64 257] 3)
    have hDa := hD5.call ba
    have Aa := A5.call ba lX5
    have lXa : X < (w5.alloc (.cells #[.int .i64 (-1), .int .i64 0, .int .i64 256, .int .i64 257] 3)).heap.size := Nat.lt_of_lt_of_le lX5 ba.size
    have HC : Hid (∀ (w6 : World), (w5.alloc (.cells #[.int .i64 (-1), .int .i64 0, .int .i64 256, .int .i64 257] 3)).grownBy w6 (some (W.heap.size + 1 + 1)) → ∀ r : Nat, (r : Int) < 4 → ∃ n : Int, (-1 ≤ n ∧ n ≤ 257) ∧ w6.cell? ⟨w5.heap.size, r, none⟩ = some (.int .i64 n)) := fun w6 g r hr => by
      have hk : (w5.alloc (.cells #[.int .i64 (-1), .int .i64 0, .int .i64 256, .int .i64 257] 3)).cell? ⟨w5.heap.size, r, none⟩ = w6.cell? ⟨w5.heap.size, r, none⟩ := (World.cell?_of_block (w := w5.alloc (.cells #[.int .i64 (-1), .int .i64 0, .int .i64 256, .int .i64 257] 3)) (a := ⟨w5.heap.size, r, none⟩) (g.block w5.heap.size (by simp) (fun e => by injection e with e; omega))).symm
      rw [← hk, cell_of_row _ _ _ _ _ _ (heap_alloc_new w5 _)]
      obtain rfl | rfl | rfl | rfl : r = 0 ∨ r = 1 ∨ r = 2 ∨ r = 3 := by omega
      · exact ⟨-1, by omega, rfl⟩
      · exact ⟨0, by omega, rfl⟩
      · exact ⟨256, by omega, rfl⟩
      · exact ⟨257, by omega, rfl⟩
    clear ba
    go_wp2_with (go_at_call 32; refine (cn _ _ hDa.1 (by omega) 4 (by omega) (by omega)).mono ?_; rintro e w6 ⟨r6, hr6, rfl, R6, g6⟩; have hD6 := hDa.pick R6 g6; have A6 := Aa.grown g6 lXa (fun e => by injection e with e; omega); have lX6 := Nat.lt_of_lt_of_le lXa g6.size; obtain ⟨n6, hn6, c6⟩ := HC.out _ g6 r6 hr6)
    · go_meet
      exact ⟨_, _, rfl, (by omega), by omega, hD6, A6, lX6⟩
    · go_meet
      exact ⟨_, _, rfl, (by omega), by omega, hD5, A5, lX5⟩
  case rest =>
    obtain ⟨n, q, rfl, hn, hq, HD⟩ := hcut
    obtain ⟨hD, HA, lX⟩ := HD.out
    clear hD5 A5 lX5 HD
    go_upto_region 6 with fail
    have bd := (Below.refl wc.heap.size wc).drew
    have hD0 := hD.call bd
    have A0 := HA.call bd lX
    have l0 : X < wc.drew.heap.size := lX
    refine wp_region_held_drew (S := fun w' => Lies X 0 [.int .u64 ((d.1).m.toNat : Int), .int .u64 ((d.1).q.toNat : Int), .int .u64 ((d.1).z.toNat : Int), .int .u64 ((d.1).r.a.toNat : Int), .int .u64 ((d.1).r.b.toNat : Int), .int .u64 ((d.1).r.c.toNat : Int), .int .u64 ((d.1).r.d.toNat : Int), .int .u64 ((d.2).m.toNat : Int), .int .u64 ((d.2).q.toNat : Int), .int .u64 ((d.2).z.toNat : Int), .int .u64 ((d.2).r.a.toNat : Int), .int .u64 ((d.2).r.b.toNat : Int), .int .u64 ((d.2).r.c.toNat : Int), .int .u64 ((d.2).r.d.toNat : Int)] w') (by kernel_rfl) A0 (fun hHeld => ?_)
    refine wpAnyH_take (i := 0) (oi := { dst := some 23, op := Op.load 35 (Operand.tmp 6), type := 35, pos := "l7_record.go:208", after := #[], guard := none }) (v := .agg #[.int .u64 ((d.1).m.toNat : Int), .int .u64 ((d.1).q.toNat : Int), .int .u64 ((d.1).z.toNat : Int), .int .u64 ((d.1).r.a.toNat : Int), .int .u64 ((d.1).r.b.toNat : Int), .int .u64 ((d.1).r.c.toNat : Int), .int .u64 ((d.1).r.d.toNat : Int), .int .u64 ((d.2).m.toNat : Int), .int .u64 ((d.2).q.toNat : Int), .int .u64 ((d.2).z.toNat : Int), .int .u64 ((d.2).r.a.toNat : Int), .int .u64 ((d.2).r.b.toNat : Int), .int .u64 ((d.2).r.c.toNat : Int), .int .u64 ((d.2).r.d.toNat : Int)]) rfl (by kernel_rfl) (by kernel_rfl) (by kernel_rfl) (fun _ _ _ h => h) (Or.inl ⟨by rfl, ?_⟩) (by assumption) ?_
    · (intro wq hq; exact run_load_op agg_disk X 0 [.int .u64 ((d.1).m.toNat : Int), .int .u64 ((d.1).q.toNat : Int), .int .u64 ((d.1).z.toNat : Int), .int .u64 ((d.1).r.a.toNat : Int), .int .u64 ((d.1).r.b.toNat : Int), .int .u64 ((d.1).r.c.toNat : Int), .int .u64 ((d.1).r.d.toNat : Int), .int .u64 ((d.2).m.toNat : Int), .int .u64 ((d.2).q.toNat : Int), .int .u64 ((d.2).z.toNat : Int), .int .u64 ((d.2).r.a.toNat : Int), .int .u64 ((d.2).r.b.toNat : Int), .int .u64 ((d.2).r.c.toNat : Int), .int .u64 ((d.2).r.d.toNat : Int)] (by kernel_rfl) (by kernel_rfl) hq)
    try simp only [Act.put, List.setIfInBounds_toArray, List.set_cons_zero, List.set_cons_succ]
    refine wpAnyH_take (i := 1) (oi := { dst := some 24, op := Op.move (Operand.tmp 7), type := 3, pos := "l7_record.go:208", after := #[{ on := 4, ground := Ground.gcOnly Departure.lateStores }], guard := none }) (v := .int .i64 n) rfl (by kernel_rfl) (by kernel_rfl) (by kernel_rfl) (fun _ _ _ h => h) (Or.inl ⟨by rfl, ?_⟩) (by assumption) ?_
    · (intro wq hq; go_simp)
    try simp only [Act.put, List.setIfInBounds_toArray, List.set_cons_zero, List.set_cons_succ]
    refine wpAnyH_take (i := 2) (oi := { dst := some 25, op := Op.move (Operand.tmp 5), type := 70, pos := "l7_record.go:208", after := #[], guard := none }) (v := .pointer (some ⟨W.heap.size + 1 + 1, 0, none⟩)) rfl (by kernel_rfl) (by kernel_rfl) (by kernel_rfl) (fun _ _ _ h => h) (Or.inl ⟨by rfl, ?_⟩) (by assumption) ?_
    · (intro wq hq; go_simp)
    try simp only [Act.put, List.setIfInBounds_toArray, List.set_cons_zero, List.set_cons_succ]
    refine wpAnyH_ready (rs := [3]) (by kernel_rfl) (by simp) ?_
    refine AllReadyH.cons (o := { dst := some 26, op := Op.call { callee := Callee.value (Operand.func 33), args := #[Operand.tmp 25], argTypes := #[70] }, type := 31, pos := "l7_record.go:208", after := #[{ on := 2, ground := Ground.data }], guard := none }) rfl (fun K hK => ?_) AllReadyH.nil
    go_simp
    go_at_call 33
    refine (cd _ _ hD0.1 (by omega)).mono ?_
    rintro e w7 ⟨q7, p7, hp7, rfl, R7, g7⟩
    have hD7 := hD0.pick R7 g7
    have A7 := A0.grown g7 l0 (fun e => by injection e with e; omega)
    have l7 := Nat.lt_of_lt_of_le l0 g7.size
    go_simp
    refine hK.out _ _ A7 (fun hHeld => ?_)
    clear hK K
    obtain ⟨k1, k2, k3, k4⟩ := hD7.put [.int .u64 ((d.1).m.toNat : Int), .int .u64 ((d.1).q.toNat : Int), .int .u64 ((d.1).z.toNat : Int), .int .u64 ((d.1).r.a.toNat : Int), .int .u64 ((d.1).r.b.toNat : Int), .int .u64 ((d.1).r.c.toNat : Int), .int .u64 ((d.1).r.d.toNat : Int), .int .u64 ((d.2).m.toNat : Int), .int .u64 ((d.2).q.toNat : Int), .int .u64 ((d.2).z.toNat : Int), .int .u64 ((d.2).r.a.toNat : Int), .int .u64 ((d.2).r.b.toNat : Int), .int .u64 ((d.2).r.c.toNat : Int), .int .u64 ((d.2).r.d.toNat : Int)] rfl
    have k5 := Lies.sc (vs := [.int .u64 ((q7.a).toNat : Int), .int .u64 ((q7.b).toNat : Int), .int .u64 ((q7.c).toNat : Int), .int .u64 ((q7.d).toNat : Int)]) rfl k2
    have k6 := k1.grown (sc_grown _ (W.heap.size + 1) 0 [.int .u64 ((q7.a).toNat : Int), .int .u64 ((q7.b).toNat : Int), .int .u64 ((q7.c).toNat : Int), .int .u64 ((q7.d).toNat : Int)]) (by omega) (fun e => by injection e with e; omega)
    have k7 := Below.sc (W.heap.size + 1) (by omega) [.int .u64 ((q7.a).toNat : Int), .int .u64 ((q7.b).toNat : Int), .int .u64 ((q7.c).toNat : Int), .int .u64 ((q7.d).toNat : Int)] 0 _ k3
    have A8 := A7.grown (sc_grown w7 W.heap.size 0 [.int .u64 ((d.1).m.toNat : Int), .int .u64 ((d.1).q.toNat : Int), .int .u64 ((d.1).z.toNat : Int), .int .u64 ((d.1).r.a.toNat : Int), .int .u64 ((d.1).r.b.toNat : Int), .int .u64 ((d.1).r.c.toNat : Int), .int .u64 ((d.1).r.d.toNat : Int), .int .u64 ((d.2).m.toNat : Int), .int .u64 ((d.2).q.toNat : Int), .int .u64 ((d.2).z.toNat : Int), .int .u64 ((d.2).r.a.toNat : Int), .int .u64 ((d.2).r.b.toNat : Int), .int .u64 ((d.2).r.c.toNat : Int), .int .u64 ((d.2).r.d.toNat : Int)]) l7 (fun e => by injection e with e; omega)
    have l8 : X < (w7.setCells W.heap.size 0 [.int .u64 ((d.1).m.toNat : Int), .int .u64 ((d.1).q.toNat : Int), .int .u64 ((d.1).z.toNat : Int), .int .u64 ((d.1).r.a.toNat : Int), .int .u64 ((d.1).r.b.toNat : Int), .int .u64 ((d.1).r.c.toNat : Int), .int .u64 ((d.1).r.d.toNat : Int), .int .u64 ((d.2).m.toNat : Int), .int .u64 ((d.2).q.toNat : Int), .int .u64 ((d.2).z.toNat : Int), .int .u64 ((d.2).r.a.toNat : Int), .int .u64 ((d.2).r.b.toNat : Int), .int .u64 ((d.2).r.c.toNat : Int), .int .u64 ((d.2).r.d.toNat : Int)]).heap.size := by rw [sc_size]; exact l7
    have A9 := A8.grown (sc_grown _ (W.heap.size + 1) 0 [.int .u64 ((q7.a).toNat : Int), .int .u64 ((q7.b).toNat : Int), .int .u64 ((q7.c).toNat : Int), .int .u64 ((q7.d).toNat : Int)]) l8 (fun e => by injection e with e; omega)
    refine wpAnyH_ready (rs := [4]) (by kernel_rfl) (by simp) ?_
    refine AllReadyH.cons (o := { dst := none, op := Op.store 35 (Operand.tmp 2) (Operand.tmp 23), type := 0, pos := "l7_record.go:208", after := #[{ on := 0, ground := Ground.data }, { on := 3, ground := Ground.chain }, { on := 0, ground := Ground.phase }, { on := 1, ground := Ground.textOnly Departure.lateStores }, { on := 2, ground := Ground.textOnly Departure.lateStores }, { on := 3, ground := Ground.textOnly Departure.lateStoresUnsure }], guard := none }) rfl (fun K hK => ?_) AllReadyH.nil
    rw [if_pos (by rfl)]
    refine wpo_store agg_disk W.heap.size 0 [.int .u64 ((d.1).m.toNat : Int), .int .u64 ((d.1).q.toNat : Int), .int .u64 ((d.1).z.toNat : Int), .int .u64 ((d.1).r.a.toNat : Int), .int .u64 ((d.1).r.b.toNat : Int), .int .u64 ((d.1).r.c.toNat : Int), .int .u64 ((d.1).r.d.toNat : Int), .int .u64 ((d.2).m.toNat : Int), .int .u64 ((d.2).q.toNat : Int), .int .u64 ((d.2).z.toNat : Int), .int .u64 ((d.2).r.a.toNat : Int), .int .u64 ((d.2).r.b.toNat : Int), .int .u64 ((d.2).r.c.toNat : Int), .int .u64 ((d.2).r.d.toNat : Int)] (by kernel_rfl) (by kernel_rfl) (by kernel_rfl) (by kernel_rfl) hD7.2.1 ?_
    refine hK.out _ _ A8 (fun hHeld => ?_)
    clear hK K
    generalize w7.setCells W.heap.size 0 [.int .u64 ((d.1).m.toNat : Int), .int .u64 ((d.1).q.toNat : Int), .int .u64 ((d.1).z.toNat : Int), .int .u64 ((d.1).r.a.toNat : Int), .int .u64 ((d.1).r.b.toNat : Int), .int .u64 ((d.1).r.c.toNat : Int), .int .u64 ((d.1).r.d.toNat : Int), .int .u64 ((d.2).m.toNat : Int), .int .u64 ((d.2).q.toNat : Int), .int .u64 ((d.2).z.toNat : Int), .int .u64 ((d.2).r.a.toNat : Int), .int .u64 ((d.2).r.b.toNat : Int), .int .u64 ((d.2).r.c.toNat : Int), .int .u64 ((d.2).r.d.toNat : Int)] = w8 at hHeld k1 k2 k3 k5 k6 k7 A8 l8 A9 ⊢
    refine wpAnyH_take (i := 5) (oi := { dst := some 3, op := Op.assign (Operand.tmp 24), type := 3, pos := "l7_record.go:208", after := #[{ on := 1, ground := Ground.data }, { on := 4, ground := Ground.chain }, { on := 0, ground := Ground.phase }, { on := 1, ground := Ground.phase }, { on := 2, ground := Ground.textOnly Departure.lateStores }, { on := 3, ground := Ground.textOnly Departure.lateStoresUnsure }, { on := 4, ground := Ground.phase }], guard := none }) (v := .int .i64 n) rfl (by kernel_rfl) (by kernel_rfl) (by kernel_rfl) (fun _ _ _ h => h) (Or.inl ⟨by rfl, ?_⟩) (by assumption) ?_
    · (intro wq hq; go_simp)
    try simp only [Act.put, List.setIfInBounds_toArray, List.set_cons_zero, List.set_cons_succ]
    refine wpAnyH_ready (rs := [6]) (by kernel_rfl) (by simp) ?_
    refine AllReadyH.cons (o := { dst := none, op := Op.store 31 (Operand.tmp 4) (Operand.tmp 26), type := 0, pos := "l7_record.go:208", after := #[{ on := 3, ground := Ground.data }, { on := 5, ground := Ground.chain }, { on := 0, ground := Ground.phase }, { on := 1, ground := Ground.phase }, { on := 2, ground := Ground.phase }, { on := 3, ground := Ground.phase }, { on := 4, ground := Ground.phase }, { on := 5, ground := Ground.phase }], guard := none }) rfl (fun K hK => ?_) AllReadyH.nil
    rw [if_pos (by rfl)]
    refine wpo_store agg_dg4 (W.heap.size + 1) 0 [.int .u64 ((q7.a).toNat : Int), .int .u64 ((q7.b).toNat : Int), .int .u64 ((q7.c).toNat : Int), .int .u64 ((q7.d).toNat : Int)] (by kernel_rfl) (by kernel_rfl) (by kernel_rfl) (by kernel_rfl) k2 ?_
    refine hK.out _ _ A9 (fun hHeld => ?_)
    clear hK K
    clear hHeld A8 A9
    generalize w8.setCells (W.heap.size + 1) 0 [.int .u64 ((q7.a).toNat : Int), .int .u64 ((q7.b).toNat : Int), .int .u64 ((q7.c).toNat : Int), .int .u64 ((q7.d).toNat : Int)] = wz at k5 k6 k7 ⊢
    refine wpAnyH_done (by kernel_rfl) ?_ _
    go_wp2_with fail
    exact bodyPost_ret (v := .tuple #[.agg #[.int .u64 ((d.1).m.toNat : Int), .int .u64 ((d.1).q.toNat : Int), .int .u64 ((d.1).z.toNat : Int), .int .u64 ((d.1).r.a.toNat : Int), .int .u64 ((d.1).r.b.toNat : Int), .int .u64 ((d.1).r.c.toNat : Int), .int .u64 ((d.1).r.d.toNat : Int), .int .u64 ((d.2).m.toNat : Int), .int .u64 ((d.2).q.toNat : Int), .int .u64 ((d.2).z.toNat : Int), .int .u64 ((d.2).r.a.toNat : Int), .int .u64 ((d.2).r.b.toNat : Int), .int .u64 ((d.2).r.c.toNat : Int), .int .u64 ((d.2).r.d.toNat : Int)], .int .i64 n, .agg #[.int .u64 ((q7.a).toNat : Int), .int .u64 ((q7.b).toNat : Int), .int .u64 ((q7.c).toNat : Int), .int .u64 ((q7.d).toNat : Int)]]) (res3 agg_disk agg_dg4 Try.results16 _ _ W.heap.size (W.heap.size + 1) [.int .u64 ((d.1).m.toNat : Int), .int .u64 ((d.1).q.toNat : Int), .int .u64 ((d.1).z.toNat : Int), .int .u64 ((d.1).r.a.toNat : Int), .int .u64 ((d.1).r.b.toNat : Int), .int .u64 ((d.1).r.c.toNat : Int), .int .u64 ((d.1).r.d.toNat : Int), .int .u64 ((d.2).m.toNat : Int), .int .u64 ((d.2).q.toNat : Int), .int .u64 ((d.2).z.toNat : Int), .int .u64 ((d.2).r.a.toNat : Int), .int .u64 ((d.2).r.b.toNat : Int), .int .u64 ((d.2).r.c.toNat : Int), .int .u64 ((d.2).r.d.toNat : Int)] [.int .u64 ((q7.a).toNat : Int), .int .u64 ((q7.b).toNat : Int), .int .u64 ((q7.c).toNat : Int), .int .u64 ((q7.d).toNat : Int)] (by kernel_rfl) (by kernel_rfl) (by kernel_rfl) (by kernel_rfl) (.int .i64 n) (by kernel_rfl) k6 k5) rfl ⟨d, n, q7, rfl, hn, k7⟩
end Go.Proofs.Ytbmkknbbikoilaa
