/-
  A slot drawn, walked.
-/
import Derived.Test.YtepgmdgcappfpaaDSlot
namespace Go.Proofs.Ytepgmdgcappfpaa
open Go.RowKit

theorem word_of (n : Nat) (h : n < 2000000000) : ∃ u : UInt64, ((n : Nat) : Int) = (u.toNat : Int) := ⟨UInt64.ofNat n, by rw [UInt64.toNat_ofNat']; have : n % 2 ^ 64 = n := Nat.mod_eq_of_lt (by omega); omega⟩
theorem word_sum (k : Nat) (r : Nat) (hk : k ≤ 1000000000) (hr : r ≤ 1000) : ∃ u : UInt64, (k : Int) + (r : Int) = (u.toNat : Int) := by
  obtain ⟨u, hu⟩ := word_of (k + r) (by omega)
  exact ⟨u, by omega⟩
set_option maxRecDepth 20000 in
set_option maxHeartbeats 4000000 in
theorem slot7_is (B : Nat) (v : Value) (L : List UInt8) (p : Nat) (W : World) (h : RdAt B v L p W) (hp : p ≤ 700000) :
    Calls Try.prog 25 #[.pointer (some ⟨B, 0, none⟩)] W fun e w' => ∃ (s : Sl) (p' : Nat), p' ≤ p + 90 ∧ e = .returned (.agg #[.int .u64 ((s).m.toNat : Int), .int .u64 ((s).q.toNat : Int), .int .u64 ((s).z.toNat : Int), .int .u64 ((s).r.a.toNat : Int), .int .u64 ((s).r.b.toNat : Int), .int .u64 ((s).r.c.toNat : Int), .int .u64 ((s).r.d.toNat : Int)]) ∧ RdAt B v L p' w' ∧ W.grownBy w' (some B) := by
  have c6 := fun (V : World) (q : Nat) (h : RdAt B v L q V) (hq : q ≤ 900000) => pick_is B v L q V h (by omega) 6 (by omega) (by omega)
  have c20 := fun (V : World) (q : Nat) (h : RdAt B v L q V) (hq : q ≤ 900000) => pick_is B v L q V h (by omega) 20 (by omega) (by omega)
  have c14 := fun (V : World) (q : Nat) (h : RdAt B v L q V) (hq : q ≤ 900000) => pick_is B v L q V h (by omega) 14 (by omega) (by omega)
  have c10 := fun (V : World) (q : Nat) (h : RdAt B v L q V) (hq : q ≤ 900000) => pick_is B v L q V h (by omega) 10 (by omega) (by omega)
  have c3 := fun (V : World) (q : Nat) (h : RdAt B v L q V) (hq : q ≤ 900000) => pick_is B v L q V h (by omega) 3 (by omega) (by omega)
  have cd := fun (V : World) (q : Nat) (h : RdAt B v L q V) (hq : q ≤ 800000) => digest_is B v L q V h hq
  have cw := fun (V : World) (q : Nat) (h : RdAt B v L q V) (hq : q ≤ 800000) => word_is B v L q V h (by omega)
  have hBW := h.1
  have h0 : RdAt B v L p (W.alloc (.cells #[.int .u64 0, .int .u64 0, .int .u64 0, .int .u64 0, .int .u64 0, .int .u64 0, .int .u64 0] 27)) := h.grown (World.grownBy_alloc W _ none)
  have l0 := Room.new W #[.int .u64 0, .int .u64 0, .int .u64 0, .int .u64 0, .int .u64 0, .int .u64 0, .int .u64 0] 27 7 rfl
  have g0 := World.grownBy_alloc W (.cells #[.int .u64 0, .int .u64 0, .int .u64 0, .int .u64 0, .int .u64 0, .int .u64 0, .int .u64 0] 27) (some B)
  have z0 : (W.alloc (.cells #[.int .u64 0, .int .u64 0, .int .u64 0, .int .u64 0, .int .u64 0, .int .u64 0, .int .u64 0] 27)).heap.size = W.heap.size + 1 := World.size_alloc _ _
  clear h
  go_enter Try.func25, Try.ntmps25
  go_upto_region 1 with fail
  generalize W.alloc (.cells #[.int .u64 0, .int .u64 0, .int .u64 0, .int .u64 0, .int .u64 0, .int .u64 0, .int .u64 0] 27) = V at h0 l0 g0 z0 ⊢
  have u1 : ∀ r : Nat, (r : Int) < 20 → ∃ u : UInt64, 1 + (r : Int) = (u.toNat : Int) := fun r hr => word_sum 1 r (by omega) (by omega)
  go_upto_region 2 with (first
    | (go_at_call 32; refine (cd _ _ R2 (by omega)).mono ?_; rintro e w3 ⟨q3, p3, hp3, rfl, R3, g3⟩)
    | (have hh := R1; go_at_call 30; refine (c20 _ _ R1 (by omega)).mono ?_; rintro e w2 ⟨r2, hr2, rfl, R2, g2⟩; obtain ⟨y2, hy2⟩ := u1 r2 (by omega))
    | (go_at_call 30; refine (c6 _ _ h0 (by omega)).mono ?_; rintro e w1 ⟨r1, hr1, rfl, R1, g1⟩; obtain ⟨y1, hy1⟩ := u1 r1 (by omega)))
  have hD3 : DSl W.heap.size w3.heap.size B v L p3 (Sl.mk 0 y1 y2 q3) W (w3.alloc (.cells #[.int .u64 0, .int .u64 ((y1).toNat : Int), .int .u64 ((y2).toNat : Int), Value.int IntKind.u64 ((q3.a).toNat : Int), Value.int IntKind.u64 ((q3.b).toNat : Int), Value.int IntKind.u64 ((q3.c).toNat : Int), Value.int IntKind.u64 ((q3.d).toNat : Int)] 27)) := DSl.fresh (Sl.mk 0 y1 y2 q3) R3 (((l0.grown g1 (by omega) (fun e => by injection e with e; omega)).grown g2 (by have := g1.size; omega) (fun e => by injection e with e; omega)).grown g3 (by have := g1.size; have := g2.size; omega) (fun e => by injection e with e; omega)) hBW (by have := g1.size; have := g2.size; have := g3.size; omega) (Nat.le_refl _) (((g0.two g1).two g2).two g3) 27
  try rw [hy1]
  try rw [hy2]
  generalize w3.alloc (.cells #[.int .u64 0, .int .u64 ((y1).toNat : Int), .int .u64 ((y2).toNat : Int), Value.int IntKind.u64 ((q3.a).toNat : Int), Value.int IntKind.u64 ((q3.b).toNat : Int), Value.int IntKind.u64 ((q3.c).toNat : Int), Value.int IntKind.u64 ((q3.d).toNat : Int)] 27) = V3 at hD3 ⊢
  generalize w3.heap.size = X at hD3 ⊢
  generalize W.heap.size = H at hD3 ⊢
  clear R1 R2 R3 g1 g2 g3 h0 l0 g0 z0 c6 c20 cd
  go_upto_region 3 with (go_at_call 30; refine (c14 _ _ hD3.1 (by omega)).mono ?_; rintro e w4 ⟨r4, hr4, rfl, R4, g4⟩; have hD4 := hD3.pick R4 g4; clear R4 g4 c14)
  obtain ⟨x, q, hq, hD⟩ : ∃ (x : Sl) (q : Nat), q ≤ p + 39 ∧ DSl H X B v L q x W w4 := ⟨_, _, by omega, hD4⟩
  clear hD4 hD3 hp3
  go_upto_if 20 with fail
  go_cut [] from 20 to 26 (fun wx => ∃ (y : Sl) (q' : Nat), q' ≤ p + 40 ∧ Hid (DSl H X B v L q' y W wx))
  case first =>
    go_wp2_with (go_at_call 30; refine (c3 _ _ hD.1 (by omega)).mono ?_; rintro e w5 ⟨r5, hr5, rfl, R5, g5⟩; have hE := hD.pick R5 g5; obtain ⟨k1, k2⟩ := hE.get 1 _ rfl; have hw : IntKind.i64.wrap (999999999 + (r5 : Int)) = 999999999 + (r5 : Int) := IntWalk.i64_in _ (by omega))
    · obtain ⟨u5, hu5⟩ : ∃ u : UInt64, 999999999 + (r5 : Int) = (u.toNat : Int) := word_sum 999999999 r5 (by omega) (by omega)
      go_meet
      refine ⟨_, _, ?_, show DSl _ _ _ _ _ _ _ _ _ by rw [hu5]; exact hE.seq u5⟩
      omega
    · go_meet
      exact ⟨_, _, by omega, hD⟩
  case rest =>
    clear hD hq
    obtain ⟨x, q, hq, hD⟩ := hcut
    replace hD := hD.out
    go_upto_if 27 with fail
    go_cut [] from 27 to 33 (fun wx => ∃ (y : Sl) (q' : Nat), q' ≤ p + 41 ∧ Hid (DSl H X B v L q' y W wx))
    case first =>
      go_wp2_with (go_at_call 30; refine (c3 _ _ hD.1 (by omega)).mono ?_; rintro e w5 ⟨r5, hr5, rfl, R5, g5⟩; have hE := hD.pick R5 g5; obtain ⟨k1, k2⟩ := hE.get 2 _ rfl; have hw : IntKind.i64.wrap (255 + (r5 : Int)) = 255 + (r5 : Int) := IntWalk.i64_in _ (by omega))
      · obtain ⟨u5, hu5⟩ : ∃ u : UInt64, 255 + (r5 : Int) = (u.toNat : Int) := word_sum 255 r5 (by omega) (by omega)
        go_meet
        refine ⟨_, _, ?_, show DSl _ _ _ _ _ _ _ _ _ by rw [hu5]; exact hE.size u5⟩
        omega
      · go_meet
        exact ⟨_, _, by omega, hD⟩
    case rest =>
      clear hD hq
      obtain ⟨x, q, hq, hD⟩ := hcut
      replace hD := hD.out
      go_upto_if 34 with fail
      go_cut [] from 34 to 38 (fun wx => ∃ (y : Sl) (q' : Nat), q' ≤ p + 50 ∧ Hid (DSl H X B v L q' y W wx))
      case first =>
        go_wp2_with (go_at_call 38; refine (cw _ _ hD.1 (by omega)).mono ?_; rintro e w5 ⟨u5, p5, hp5, rfl, R5, g5⟩; have hE := hD.pick R5 g5; obtain ⟨k1, k2⟩ := hE.get 1 _ rfl)
        · go_meet
          exact ⟨_, _, by omega, hE.seq u5⟩
        · go_meet
          exact ⟨_, _, by omega, hD⟩
      case rest =>
        clear hD hq
        obtain ⟨x, q, hq, hD⟩ := hcut
        replace hD := hD.out
        go_upto_if 39 with fail
        go_cut [] from 39 to 43 (fun wx => ∃ (y : Sl) (q' : Nat), q' ≤ p + 59 ∧ Hid (DSl H X B v L q' y W wx))
        case first =>
          go_wp2_with (go_at_call 38; refine (cw _ _ hD.1 (by omega)).mono ?_; rintro e w5 ⟨u5, p5, hp5, rfl, R5, g5⟩; have hE := hD.pick R5 g5; obtain ⟨k1, k2⟩ := hE.get 2 _ rfl)
          · go_meet
            exact ⟨_, _, by omega, hE.size u5⟩
          · go_meet
            exact ⟨_, _, by omega, hD⟩
        case rest =>
          clear hD hq
          obtain ⟨x, q, hq, hD⟩ := hcut
          replace hD := hD.out
          have HL := hD.2.2.1
          go_upto_region 13 with (first
            | (with_reducible refine wpl_load agg_slot X 0 [.int .u64 ((x).m.toNat : Int), .int .u64 ((x).q.toNat : Int), .int .u64 ((x).z.toNat : Int), .int .u64 ((x).r.a.toNat : Int), .int .u64 ((x).r.b.toNat : Int), .int .u64 ((x).r.c.toNat : Int), .int .u64 ((x).r.d.toNat : Int)] (by kernel_rfl) (by kernel_rfl) HL ?_)
            | (go_at_call 15; refine (ssum_spec x _).mono ?_; rintro e w6 ⟨rfl, hb6⟩; have hE := hD.after hb6; obtain ⟨k1, k2⟩ := hE.get 0 _ rfl; have hF := hE.sum (sumOf x))
            | (go_at_call 30; refine (c10 _ _ hF.1 (by omega)).mono ?_; rintro e w7 ⟨r7, hr7, rfl, R7, g7⟩; have hG := hF.pick R7 g7))
          clear HL hD hE hF hb6 R7 g7 k1 k2
          obtain ⟨x, q, hq, hD⟩ : ∃ (x : Sl) (q : Nat), q ≤ p + 60 ∧ DSl H X B v L q x W w7 := ⟨_, _, by omega, hG⟩
          clear hG
          go_upto_if 49 with fail
          go_cut [] from 49 to 50 (fun wx => ∃ (y : Sl) (q' : Nat), q' ≤ p + 60 ∧ Hid (DSl H X B v L q' y W wx))
          case first =>
            obtain ⟨k1, k2⟩ := hD.get 0 _ rfl
            go_wp2_with fail
            · go_meet
              exact ⟨_, _, by omega, hD.sum 0⟩
            · go_meet
              exact ⟨_, _, by omega, hD⟩
          case rest =>
            clear hD hq
            obtain ⟨x, q, hq, hD⟩ := hcut
            replace hD := hD.out
            go_upto_if 52 with fail
            go_cut [] from 52 to 55 (fun wx => ∃ (y : Sl) (q' : Nat), q' ≤ p + 69 ∧ Hid (DSl H X B v L q' y W wx))
            case first =>
              go_wp2_with (go_at_call 38; refine (cw _ _ hD.1 (by omega)).mono ?_; rintro e w5 ⟨u5, p5, hp5, rfl, R5, g5⟩; have hE := hD.pick R5 g5; obtain ⟨k1, k2⟩ := hE.get 0 _ rfl)
              · go_meet
                exact ⟨_, _, by omega, hE.sum u5⟩
              · go_meet
                exact ⟨_, _, by omega, hD⟩
            case rest =>
              clear hD hq
              obtain ⟨x, q, hq, hD⟩ := hcut
              replace hD := hD.out
              go_upto_if 57 with fail
              go_cut [] from 57 to 58 (fun wx => ∃ (y : Sl) (q' : Nat), q' ≤ p + 69 ∧ Hid (DSl H X B v L q' y W wx))
              case first =>
                have HR := hD.2.2.2.1
                go_wp2_with (with_reducible refine wpl_store agg_slot X 0 [.int .u64 ((Sl.mk 0 0 0 (Qd.mk 0 0 0 0)).m.toNat : Int), .int .u64 ((Sl.mk 0 0 0 (Qd.mk 0 0 0 0)).q.toNat : Int), .int .u64 ((Sl.mk 0 0 0 (Qd.mk 0 0 0 0)).z.toNat : Int), .int .u64 ((Sl.mk 0 0 0 (Qd.mk 0 0 0 0)).r.a.toNat : Int), .int .u64 ((Sl.mk 0 0 0 (Qd.mk 0 0 0 0)).r.b.toNat : Int), .int .u64 ((Sl.mk 0 0 0 (Qd.mk 0 0 0 0)).r.c.toNat : Int), .int .u64 ((Sl.mk 0 0 0 (Qd.mk 0 0 0 0)).r.d.toNat : Int)] (by kernel_rfl) (by kernel_rfl) (by kernel_rfl) (by kernel_rfl) HR ?_)
                · go_meet
                  exact ⟨_, _, by omega, hD.all (Sl.mk 0 0 0 (Qd.mk 0 0 0 0))⟩
                · go_meet
                  exact ⟨_, _, by omega, hD⟩
              case rest =>
                clear hD hq
                obtain ⟨x, q, hq, hD⟩ := hcut
                replace hD := hD.out
                go_upto_if 60 with fail
                go_cut [] from 60 to 66 (fun wx => ∃ (y : Sl) (q' : Nat), q' ≤ p + 69 ∧ Hid (DSl H X B v L q' y W wx))
                case first =>
                  obtain ⟨k1, k2⟩ := hD.get 4 _ rfl
                  go_wp2_with fail
                  · go_meet
                    exact ⟨_, _, by omega, hD.b (x.r.b + 1)⟩
                  · go_meet
                    exact ⟨_, _, by omega, hD⟩
                case rest =>
                  clear hD hq
                  obtain ⟨x, q, hq, hD⟩ := hcut
                  replace hD := hD.out
                  obtain ⟨d1, d2, d3⟩ := hD.done
                  have HL := hD.2.2.1
                  have HR := hD.2.1
                  go_wp2_with (first
                    | (with_reducible refine wpl_load agg_slot X 0 [.int .u64 ((x).m.toNat : Int), .int .u64 ((x).q.toNat : Int), .int .u64 ((x).z.toNat : Int), .int .u64 ((x).r.a.toNat : Int), .int .u64 ((x).r.b.toNat : Int), .int .u64 ((x).r.c.toNat : Int), .int .u64 ((x).r.d.toNat : Int)] (by kernel_rfl) (by kernel_rfl) HL ?_)
                    | (with_reducible refine wpl_store agg_slot H 0 [.int .u64 ((x).m.toNat : Int), .int .u64 ((x).q.toNat : Int), .int .u64 ((x).z.toNat : Int), .int .u64 ((x).r.a.toNat : Int), .int .u64 ((x).r.b.toNat : Int), .int .u64 ((x).r.c.toNat : Int), .int .u64 ((x).r.d.toNat : Int)] (by kernel_rfl) (by kernel_rfl) (by kernel_rfl) (by kernel_rfl) HR ?_; generalize wc.setCells H 0 [.int .u64 ((x).m.toNat : Int), .int .u64 ((x).q.toNat : Int), .int .u64 ((x).z.toNat : Int), .int .u64 ((x).r.a.toNat : Int), .int .u64 ((x).r.b.toNat : Int), .int .u64 ((x).r.c.toNat : Int), .int .u64 ((x).r.d.toNat : Int)] = wz at d1 d2 d3 ⊢))
                  exact bodyPost_ret (v := .agg #[.int .u64 ((x).m.toNat : Int), .int .u64 ((x).q.toNat : Int), .int .u64 ((x).z.toNat : Int), .int .u64 ((x).r.a.toNat : Int), .int .u64 ((x).r.b.toNat : Int), .int .u64 ((x).r.c.toNat : Int), .int .u64 ((x).r.d.toNat : Int)]) (res_cells agg_slot Try.results25 _ _ H 0 [.int .u64 ((x).m.toNat : Int), .int .u64 ((x).q.toNat : Int), .int .u64 ((x).z.toNat : Int), .int .u64 ((x).r.a.toNat : Int), .int .u64 ((x).r.b.toNat : Int), .int .u64 ((x).r.c.toNat : Int), .int .u64 ((x).r.d.toNat : Int)] (by kernel_rfl) (by kernel_rfl) d1) rfl ⟨x, q, by omega, rfl, d2, d3⟩
end Go.Proofs.Ytepgmdgcappfpaa
