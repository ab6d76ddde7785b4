/-
  HashRead of the program, walked.
-/
import Derived.Test.YtjfiafnbmejaeaaWalks23
import Derived.Stop.BytesEq
namespace Go.Proofs.Ytjfiafnbmejaeaa
open Go.RowKit

set_option maxRecDepth 20000 in
set_option maxHeartbeats 1000000 in
theorem hr_impl_no (s : ByteArray) (w : World) (hn : s.size ≠ 64) :
    Calls Try.prog 26 #[.string s] w fun e w' => e = .returned (.tuple #[.agg #[.int .u64 0, .int .u64 0, .int .u64 0, .int .u64 0], .bool false]) ∧ Below w.heap.size w w' := by
  have hb : (((s.size : Int)) != 64) = true := by rw [bne_iff_ne]; omega
  go_enter Try.func26, Try.ntmps26
  go_wp2
  exact bodyPost_ret (v := .tuple #[.agg #[.int .u64 0, .int .u64 0, .int .u64 0, .int .u64 0], .bool false]) (by simp [results, Try.results26, go_sem]) rfl ⟨rfl, (by repeat' (first | (with_reducible exact Below.refl _ _) | (with_reducible assumption) | (with_reducible refine below_drewN ?_ _) | (with_reducible refine Below.setCell ?_ ?_ _) | (with_reducible refine Below.alloc ?_ ?_ _) | (with_reducible refine Below.drew ?_) | go_size))⟩

theorem run_eq64 (F L : List UInt8) (hF : F.length = 64) (hL : L.length = 64) (W : World) : (Op.equalIn 10000 66 (.agg (bv F).toArray) (.agg (bv L).toArray)).run Try.prog W = .ok (F == L) W :=
  run_equalIn_bytes W 9998 66 5 64 Try.underlying66 Try.underlying5 (fun w => by
    have hi : (Try.prog.info? 5).map (·.size) = some 1 := by kernel_rfl
    cases hq : Try.prog.info? 5 with
    | none => simp [hq] at hi
    | some i => simp [hq] at hi; simp [sizeOf, typeInfo, hq, hi]) F L hF hL

set_option maxRecDepth 20000 in
set_option maxHeartbeats 1000000 in
theorem hr_impl_bad (s : ByteArray) (w : World) (hn : s.size = 64) (hbad : hexs (unb s.data.toList) ≠ s.data.toList) :
    Calls Try.prog 26 #[.string s] w fun e w' => e = .returned (.tuple #[.agg #[.int .u64 0, .int .u64 0, .int .u64 0, .int .u64 0], .bool false]) ∧ Below w.heap.size w w' := by
  have hb : (((s.size : Int)) != 64) = false := by rw [hn]; rfl
  have hsd : s.data.toList.length = 64 := by have : s.data.size = 64 := hn; simp [this]
  obtain ⟨L, hL⟩ : ∃ L, L = s.data.toList := ⟨_, rfl⟩
  have hcp : ∀ (W : World) (ty : TypeId) (A Z : Array Value), Z.size = 64 → (Builtin.copy_ #[22, 9] ty #[.slice (some ⟨W.heap.size + 1, 0, none⟩) 64 64, .string s]).run Try.prog ((W.alloc (.cells A 25)).alloc (.cells Z 66)) = .ok (goInt 64) ((W.alloc (.cells A 25)).alloc (.cells (bv L).toArray 66)) := fun W ty A Z hz => by
    have h := run_copy_str (W.alloc (.cells A 25)) ty 66 Z s 64 hn hz
    simp only [World.size_alloc] at h
    rw [hL]
    exact h
  rw [← hL] at hsd hbad
  have hi : (Try.prog.info? 66).map (·.size) = some (bv L).toArray.size := by
    have e : (bv L).toArray.size = 64 := by simp [bv_length, hsd]
    exact info64.trans (congrArg some e.symm)
  have HI : Hid ((Try.prog.info? 66).map (·.size) = some (bv L).toArray.size) := hi
  have c1 := fun W : World => bod2_is L hsd W
  obtain ⟨E, hE⟩ : ∃ E, E = unb L := ⟨_, rfl⟩
  have hel : E.length = 32 := by rw [hE]; exact unb_length 32 L hsd
  rw [← hE] at c1
  have c2 := fun W : World => dob2_is E hel W
  obtain ⟨F, hF⟩ : ∃ F, F = hexs E := ⟨_, rfl⟩
  rw [← hF] at c2
  have hes : (bv E).toArray.size = 32 := by simp [bv_length, hel]
  have HIE : Hid ((Try.prog.info? 62).map (·.size) = some (bv E).toArray.size) := info32.trans (congrArg some hes.symm)
  have HSE : Hid (32 = (bv E).toArray.size) := hes.symm
  have HOE : Hid ((bv E).toArray.all (·.oneCell') = true) := by
    show _ = _
    simp [bv, Value.oneCell']
  have hne : F ≠ L := by rw [hF, hE]; exact hbad
  have hfl : F.length = 64 := by rw [hF, hexs_length, hel]
  have heq : ∀ W : World, (Op.equalIn 10000 66 (.agg (bv F).toArray) (.agg (bv L).toArray)).run Try.prog W = .ok false W := fun W => by
    rw [run_eq64 F L hfl hsd W]
    congr 1
    exact beq_eq_false_iff_ne.2 hne
  clear hi hL hn hsd hE hF hel hbad hes hne hfl
  go_enter Try.func26, Try.ntmps26
  have HG : Hid (((w.alloc (.cells #[Value.int IntKind.u64 0, Value.int IntKind.u64 0, Value.int IntKind.u64 0, Value.int IntKind.u64 0] 25)).alloc (.cells (bv L).toArray 66)).heap[w.heap.size + 1]? = some (.cells (bv L).toArray 66)) := heap_new2 _ _ _ (by simp only [World.size_alloc])
  go_wp2_with (first
    | (refine wpList_load_row rfl 66 _ rfl (w.heap.size + 1) rfl 66 (bv L).toArray _ _ HG.out Try.underlying66 rfl HI.out ?_)
    | (go_at_call 58; refine (c1 _).mono ?_; rintro e w1 ⟨rfl, hb1⟩; have hz1 := hb1.size; simp only [World.size_alloc] at hz1)
    | (refine wpList_store_row rfl 62 _ _ rfl w1.heap.size (bv E).toArray rfl rfl 62 _ (heap_alloc_last w1 _) HIE.out HSE.out HOE.out ?_; rw [World.setRow_alloc_new]))
  have hB1 : Below w.heap.size w w1 := below_after (((Below.refl _ _).alloc (Nat.le_refl _) _).alloc (by simp) _) hb1 (by simp only [World.size_alloc]; omega)
  have A64 : Hid ((w1.alloc (.cells (bv E).toArray 62)).drew.heap[w.heap.size + 1]? = some (.cells (bv L).toArray 66)) := (heap_alloc_old _ _ (by omega)).trans ((hb1.block _ (by simp only [World.size_alloc]; omega)).trans HG.out)
  have A32 : Hid ((w1.alloc (.cells (bv E).toArray 62)).drew.heap[w1.heap.size]? = some (.cells (bv E).toArray 62)) := heap_alloc_last w1 _
  have R0 : Hid (∀ j, j < 4 → w1.cell? ⟨w.heap.size, j, none⟩ = some (.int .u64 0)) := fun j hj => (hb1.cell (by simp only [World.size_alloc]; omega)).trans (by
    have hj' : j = 0 ∨ j = 1 ∨ j = 2 ∨ j = 3 := by omega
    rcases hj' with rfl | rfl | rfl | rfl <;> simp [go_sem])
  have F0 : Hid (∀ j, j < 4 → w1.frozen? ⟨w.heap.size, j, none⟩ = false) := fun j hj => (hb1.frozen (by simp only [World.size_alloc]; omega)).trans (by
    have hj' : j = 0 ∨ j = 1 ∨ j = 2 ∨ j = 3 := by omega
    rcases hj' with rfl | rfl | rfl | rfl <;> simp [go_sem])
  clear hb1 HG
  refine wp_region_any (by kernel_rfl) ?_
  change wpAny _ _ _ _ _ _ _ (World.drew _)
  refine wpAny_ready (rs := [0, 2]) (by kernel_rfl) (by simp) ?_
  refine AllReady.cons rfl (fun K hK => ?_) (AllReady.cons rfl (fun K hK => ?_) AllReady.nil)
  · rw [if_pos (by rfl)]
    refine wp_load_row 62 _ rfl w1.heap.size rfl 62 (bv E).toArray _ _ A32.out Try.underlying62 rfl HIE.out ?_
    simp only [Act.put]
    try simp only [List.setIfInBounds_toArray]
    refine hK _ _ ?_
    clear hK K
    refine wpAny_ready (rs := [1, 2]) (by kernel_rfl) (by simp) ?_
    refine AllReady.cons rfl (fun K hK => ?_) (AllReady.cons rfl (fun K hK => ?_) AllReady.nil)
    · go_simp
      go_wp2_with (go_at_call 59; refine (c2 _).mono ?_; rintro e w2 ⟨rfl, hb2⟩)
      have G64 : Hid (w2.heap[w.heap.size + 1]? = some (.cells (bv L).toArray 66)) := (hb2.block _ (by simp only [World.size_drew, World.size_alloc]; omega)).trans A64.out
      have G32 : Hid (w2.heap[w1.heap.size]? = some (.cells (bv E).toArray 62)) := (hb2.block _ (by simp only [World.size_drew, World.size_alloc]; omega)).trans A32.out
      have S0 : Hid (∀ j, j < 4 → w2.cell? ⟨w.heap.size, j, none⟩ = some (.int .u64 0)) := fun j hj => (hb2.cell (by simp only [World.size_drew, World.size_alloc]; omega)).trans (c_drew (c_alloc (R0.out j hj)))
      have T0 : Hid (∀ j, j < 4 → w2.frozen? ⟨w.heap.size, j, none⟩ = false) := fun j hj => (hb2.frozen (by simp only [World.size_drew, World.size_alloc]; omega)).trans ((((Below.refl w1.heap.size w1).alloc (Nat.le_refl _) (.cells (bv E).toArray 62)).drew.frozen (p := ⟨w.heap.size, j, none⟩) (by simp only; omega)).trans (F0.out j hj))
      have hz2 := hb2.size
      simp only [World.size_drew, World.size_alloc] at hz2
      have hB2 : Below w.heap.size w w2 := below_after ((hB1.alloc (by omega) _).drew) hb2 (by simp only [World.size_drew, World.size_alloc]; omega)
      clear hb2
      refine wpAny_ready (rs := [2]) (by kernel_rfl) (by simp) ?_
      refine AllReady.cons rfl (fun K hK => ?_) AllReady.nil
      rw [if_pos (by rfl)]
      refine wp_load_row 66 _ rfl (w.heap.size + 1) rfl 66 (bv L).toArray _ _ G64.out Try.underlying66 rfl HI.out ?_
      simp only [Act.put]
      try simp only [List.setIfInBounds_toArray]
      refine hK _ _ ?_
      clear hK K
      refine wpAny_ready (rs := [3]) (by kernel_rfl) (by simp) ?_
      refine AllReady.cons rfl (fun K hK => ?_) AllReady.nil
      go_simp
      refine hK _ _ ?_
      clear hK K
      refine wpAny_done (by kernel_rfl) ?_ _
      have s0 := S0.out 0 (by omega)
      have g0 := T0.out 0 (by omega)
      have s1 := S0.out 1 (by omega)
      have g1 := T0.out 1 (by omega)
      have s2 := S0.out 2 (by omega)
      have g2 := T0.out 2 (by omega)
      have s3 := S0.out 3 (by omega)
      have g3 := T0.out 3 (by omega)
      go_wp2_with fail
      obtain ⟨q0, q1, q2, q3⟩ := four_set (w := w2) (b := w.heap.size) (x0 := Value.int IntKind.u64 0) (x1 := Value.int IntKind.u64 0) (x2 := Value.int IntKind.u64 0) (x3 := Value.int IntKind.u64 0) (fun i hi => by rw [S0.out i hi]; rfl)
      exact bodyPost_ret (v := .tuple #[.agg #[.int .u64 0, .int .u64 0, .int .u64 0, .int .u64 0], .bool false]) (by simp [results, Try.results26, go_sem, q0, q1, q2, q3]) rfl ⟨rfl, (by repeat' (first | (with_reducible exact Below.refl _ _) | (with_reducible assumption) | (with_reducible refine below_drewN ?_ _) | (with_reducible refine Below.setCell ?_ ?_ _) | (with_reducible refine Below.alloc ?_ ?_ _) | (with_reducible refine Below.drew ?_) | go_size))⟩
    · rw [if_pos (by rfl)]
      refine wp_load_row 66 _ rfl (w.heap.size + 1) rfl 66 (bv L).toArray _ _ A64.out Try.underlying66 rfl HI.out ?_
      simp only [Act.put]
      try simp only [List.setIfInBounds_toArray]
      refine hK _ _ ?_
      clear hK K
      refine wpAny_ready (rs := [1]) (by kernel_rfl) (by simp) ?_
      refine AllReady.cons rfl (fun K hK => ?_) AllReady.nil
      go_simp
      go_wp2_with (go_at_call 59; refine (c2 _).mono ?_; rintro e w2 ⟨rfl, hb2⟩)
      have G64 : Hid (w2.heap[w.heap.size + 1]? = some (.cells (bv L).toArray 66)) := (hb2.block _ (by simp only [World.size_drew, World.size_alloc]; omega)).trans A64.out
      have G32 : Hid (w2.heap[w1.heap.size]? = some (.cells (bv E).toArray 62)) := (hb2.block _ (by simp only [World.size_drew, World.size_alloc]; omega)).trans A32.out
      have S0 : Hid (∀ j, j < 4 → w2.cell? ⟨w.heap.size, j, none⟩ = some (.int .u64 0)) := fun j hj => (hb2.cell (by simp only [World.size_drew, World.size_alloc]; omega)).trans (c_drew (c_alloc (R0.out j hj)))
      have T0 : Hid (∀ j, j < 4 → w2.frozen? ⟨w.heap.size, j, none⟩ = false) := fun j hj => (hb2.frozen (by simp only [World.size_drew, World.size_alloc]; omega)).trans ((((Below.refl w1.heap.size w1).alloc (Nat.le_refl _) (.cells (bv E).toArray 62)).drew.frozen (p := ⟨w.heap.size, j, none⟩) (by simp only; omega)).trans (F0.out j hj))
      have hz2 := hb2.size
      simp only [World.size_drew, World.size_alloc] at hz2
      have hB2 : Below w.heap.size w w2 := below_after ((hB1.alloc (by omega) _).drew) hb2 (by simp only [World.size_drew, World.size_alloc]; omega)
      clear hb2
      refine wpAny_ready (rs := [3]) (by kernel_rfl) (by simp) ?_
      refine AllReady.cons rfl (fun K hK => ?_) AllReady.nil
      go_simp
      refine hK _ _ ?_
      clear hK K
      refine wpAny_done (by kernel_rfl) ?_ _
      have s0 := S0.out 0 (by omega)
      have g0 := T0.out 0 (by omega)
      have s1 := S0.out 1 (by omega)
      have g1 := T0.out 1 (by omega)
      have s2 := S0.out 2 (by omega)
      have g2 := T0.out 2 (by omega)
      have s3 := S0.out 3 (by omega)
      have g3 := T0.out 3 (by omega)
      go_wp2_with fail
      obtain ⟨q0, q1, q2, q3⟩ := four_set (w := w2) (b := w.heap.size) (x0 := Value.int IntKind.u64 0) (x1 := Value.int IntKind.u64 0) (x2 := Value.int IntKind.u64 0) (x3 := Value.int IntKind.u64 0) (fun i hi => by rw [S0.out i hi]; rfl)
      exact bodyPost_ret (v := .tuple #[.agg #[.int .u64 0, .int .u64 0, .int .u64 0, .int .u64 0], .bool false]) (by simp [results, Try.results26, go_sem, q0, q1, q2, q3]) rfl ⟨rfl, (by repeat' (first | (with_reducible exact Below.refl _ _) | (with_reducible assumption) | (with_reducible refine below_drewN ?_ _) | (with_reducible refine Below.setCell ?_ ?_ _) | (with_reducible refine Below.alloc ?_ ?_ _) | (with_reducible refine Below.drew ?_) | go_size))⟩
  · rw [if_pos (by rfl)]
    refine wp_load_row 66 _ rfl (w.heap.size + 1) rfl 66 (bv L).toArray _ _ A64.out Try.underlying66 rfl HI.out ?_
    simp only [Act.put]
    try simp only [List.setIfInBounds_toArray]
    refine hK _ _ ?_
    clear hK K
    refine wpAny_ready (rs := [0]) (by kernel_rfl) (by simp) ?_
    refine AllReady.cons rfl (fun K hK => ?_) AllReady.nil
    rw [if_pos (by rfl)]
    refine wp_load_row 62 _ rfl w1.heap.size rfl 62 (bv E).toArray _ _ A32.out Try.underlying62 rfl HIE.out ?_
    simp only [Act.put]
    try simp only [List.setIfInBounds_toArray]
    refine hK _ _ ?_
    clear hK K
    refine wpAny_ready (rs := [1]) (by kernel_rfl) (by simp) ?_
    refine AllReady.cons rfl (fun K hK => ?_) AllReady.nil
    go_simp
    go_wp2_with (go_at_call 59; refine (c2 _).mono ?_; rintro e w2 ⟨rfl, hb2⟩)
    have G64 : Hid (w2.heap[w.heap.size + 1]? = some (.cells (bv L).toArray 66)) := (hb2.block _ (by simp only [World.size_drew, World.size_alloc]; omega)).trans A64.out
    have G32 : Hid (w2.heap[w1.heap.size]? = some (.cells (bv E).toArray 62)) := (hb2.block _ (by simp only [World.size_drew, World.size_alloc]; omega)).trans A32.out
    have S0 : Hid (∀ j, j < 4 → w2.cell? ⟨w.heap.size, j, none⟩ = some (.int .u64 0)) := fun j hj => (hb2.cell (by simp only [World.size_drew, World.size_alloc]; omega)).trans (c_drew (c_alloc (R0.out j hj)))
    have T0 : Hid (∀ j, j < 4 → w2.frozen? ⟨w.heap.size, j, none⟩ = false) := fun j hj => (hb2.frozen (by simp only [World.size_drew, World.size_alloc]; omega)).trans ((((Below.refl w1.heap.size w1).alloc (Nat.le_refl _) (.cells (bv E).toArray 62)).drew.frozen (p := ⟨w.heap.size, j, none⟩) (by simp only; omega)).trans (F0.out j hj))
    have hz2 := hb2.size
    simp only [World.size_drew, World.size_alloc] at hz2
    have hB2 : Below w.heap.size w w2 := below_after ((hB1.alloc (by omega) _).drew) hb2 (by simp only [World.size_drew, World.size_alloc]; omega)
    clear hb2
    refine wpAny_ready (rs := [3]) (by kernel_rfl) (by simp) ?_
    refine AllReady.cons rfl (fun K hK => ?_) AllReady.nil
    go_simp
    refine hK _ _ ?_
    clear hK K
    refine wpAny_done (by kernel_rfl) ?_ _
    have s0 := S0.out 0 (by omega)
    have g0 := T0.out 0 (by omega)
    have s1 := S0.out 1 (by omega)
    have g1 := T0.out 1 (by omega)
    have s2 := S0.out 2 (by omega)
    have g2 := T0.out 2 (by omega)
    have s3 := S0.out 3 (by omega)
    have g3 := T0.out 3 (by omega)
    go_wp2_with fail
    obtain ⟨q0, q1, q2, q3⟩ := four_set (w := w2) (b := w.heap.size) (x0 := Value.int IntKind.u64 0) (x1 := Value.int IntKind.u64 0) (x2 := Value.int IntKind.u64 0) (x3 := Value.int IntKind.u64 0) (fun i hi => by rw [S0.out i hi]; rfl)
    exact bodyPost_ret (v := .tuple #[.agg #[.int .u64 0, .int .u64 0, .int .u64 0, .int .u64 0], .bool false]) (by simp [results, Try.results26, go_sem, q0, q1, q2, q3]) rfl ⟨rfl, (by repeat' (first | (with_reducible exact Below.refl _ _) | (with_reducible assumption) | (with_reducible refine below_drewN ?_ _) | (with_reducible refine Below.setCell ?_ ?_ _) | (with_reducible refine Below.alloc ?_ ?_ _) | (with_reducible refine Below.drew ?_) | go_size))⟩

set_option maxRecDepth 20000 in
set_option maxHeartbeats 1000000 in
theorem hr_impl_good (s : ByteArray) (w : World) (hn : s.size = 64) (hgood : hexs (unb s.data.toList) = s.data.toList) :
    Calls Try.prog 26 #[.string s] w fun e w' => e = .returned (.tuple #[.agg #[.int .u64 ((bd (unb s.data.toList)).a.toNat : Int), .int .u64 ((bd (unb s.data.toList)).b.toNat : Int), .int .u64 ((bd (unb s.data.toList)).c.toNat : Int), .int .u64 ((bd (unb s.data.toList)).d.toNat : Int)], .bool true]) ∧ Below w.heap.size w w' := by
  have hb : (((s.size : Int)) != 64) = false := by rw [hn]; rfl
  have hsd : s.data.toList.length = 64 := by have : s.data.size = 64 := hn; simp [this]
  obtain ⟨L, hL⟩ : ∃ L, L = s.data.toList := ⟨_, rfl⟩
  have hcp : ∀ (W : World) (ty : TypeId) (A Z : Array Value), Z.size = 64 → (Builtin.copy_ #[22, 9] ty #[.slice (some ⟨W.heap.size + 1, 0, none⟩) 64 64, .string s]).run Try.prog ((W.alloc (.cells A 25)).alloc (.cells Z 66)) = .ok (goInt 64) ((W.alloc (.cells A 25)).alloc (.cells (bv L).toArray 66)) := fun W ty A Z hz => by
    have h := run_copy_str (W.alloc (.cells A 25)) ty 66 Z s 64 hn hz
    simp only [World.size_alloc] at h
    rw [hL]
    exact h
  rw [← hL] at hsd hgood ⊢
  have hi : (Try.prog.info? 66).map (·.size) = some (bv L).toArray.size := by
    have e : (bv L).toArray.size = 64 := by simp [bv_length, hsd]
    exact info64.trans (congrArg some e.symm)
  have HI : Hid ((Try.prog.info? 66).map (·.size) = some (bv L).toArray.size) := hi
  have c1 := fun W : World => bod2_is L hsd W
  obtain ⟨E, hE⟩ : ∃ E, E = unb L := ⟨_, rfl⟩
  have hel : E.length = 32 := by rw [hE]; exact unb_length 32 L hsd
  rw [← hE] at c1 hgood ⊢
  have c3 := fun W : World => dob_any E hel W
  have c2 := fun W : World => dob2_is E hel W
  obtain ⟨F, hF⟩ : ∃ F, F = hexs E := ⟨_, rfl⟩
  rw [← hF] at c2
  have hes : (bv E).toArray.size = 32 := by simp [bv_length, hel]
  have HIE : Hid ((Try.prog.info? 62).map (·.size) = some (bv E).toArray.size) := info32.trans (congrArg some hes.symm)
  have HSE : Hid (32 = (bv E).toArray.size) := hes.symm
  have HOE : Hid ((bv E).toArray.all (·.oneCell') = true) := by
    show _ = _
    simp [bv, Value.oneCell']
  have hne : F = L := by rw [hF]; exact hgood
  have hfl : F.length = 64 := by rw [hF, hexs_length, hel]
  have heq : ∀ W : World, (Op.equalIn 10000 66 (.agg (bv F).toArray) (.agg (bv L).toArray)).run Try.prog W = .ok true W := fun W => by
    rw [run_eq64 F L hfl hsd W]
    congr 1
    exact beq_iff_eq.2 hne
  clear hi hL hn hsd hE hF hel hgood hes hne hfl
  go_enter Try.func26, Try.ntmps26
  have HG : Hid (((w.alloc (.cells #[Value.int IntKind.u64 0, Value.int IntKind.u64 0, Value.int IntKind.u64 0, Value.int IntKind.u64 0] 25)).alloc (.cells (bv L).toArray 66)).heap[w.heap.size + 1]? = some (.cells (bv L).toArray 66)) := heap_new2 _ _ _ (by simp only [World.size_alloc])
  go_wp2_with (first
    | (refine wpList_load_row rfl 66 _ rfl (w.heap.size + 1) rfl 66 (bv L).toArray _ _ HG.out Try.underlying66 rfl HI.out ?_)
    | (go_at_call 58; refine (c1 _).mono ?_; rintro e w1 ⟨rfl, hb1⟩; have hz1 := hb1.size; simp only [World.size_alloc] at hz1)
    | (refine wpList_store_row rfl 62 _ _ rfl w1.heap.size (bv E).toArray rfl rfl 62 _ (heap_alloc_last w1 _) HIE.out HSE.out HOE.out ?_; rw [World.setRow_alloc_new]))
  have hB1 : Below w.heap.size w w1 := below_after (((Below.refl _ _).alloc (Nat.le_refl _) _).alloc (by simp) _) hb1 (by simp only [World.size_alloc]; omega)
  have A64 : Hid ((w1.alloc (.cells (bv E).toArray 62)).drew.heap[w.heap.size + 1]? = some (.cells (bv L).toArray 66)) := (heap_alloc_old _ _ (by omega)).trans ((hb1.block _ (by simp only [World.size_alloc]; omega)).trans HG.out)
  have A32 : Hid ((w1.alloc (.cells (bv E).toArray 62)).drew.heap[w1.heap.size]? = some (.cells (bv E).toArray 62)) := heap_alloc_last w1 _
  have R0 : Hid (∀ j, j < 4 → w1.cell? ⟨w.heap.size, j, none⟩ = some (.int .u64 0)) := fun j hj => (hb1.cell (by simp only [World.size_alloc]; omega)).trans (by
    have hj' : j = 0 ∨ j = 1 ∨ j = 2 ∨ j = 3 := by omega
    rcases hj' with rfl | rfl | rfl | rfl <;> simp [go_sem])
  have F0 : Hid (∀ j, j < 4 → w1.frozen? ⟨w.heap.size, j, none⟩ = false) := fun j hj => (hb1.frozen (by simp only [World.size_alloc]; omega)).trans (by
    have hj' : j = 0 ∨ j = 1 ∨ j = 2 ∨ j = 3 := by omega
    rcases hj' with rfl | rfl | rfl | rfl <;> simp [go_sem])
  clear hb1 HG
  refine wp_region_any (by kernel_rfl) ?_
  change wpAny _ _ _ _ _ _ _ (World.drew _)
  refine wpAny_ready (rs := [0, 2]) (by kernel_rfl) (by simp) ?_
  refine AllReady.cons rfl (fun K hK => ?_) (AllReady.cons rfl (fun K hK => ?_) AllReady.nil)
  · rw [if_pos (by rfl)]
    refine wp_load_row 62 _ rfl w1.heap.size rfl 62 (bv E).toArray _ _ A32.out Try.underlying62 rfl HIE.out ?_
    simp only [Act.put]
    try simp only [List.setIfInBounds_toArray]
    refine hK _ _ ?_
    clear hK K
    refine wpAny_ready (rs := [1, 2]) (by kernel_rfl) (by simp) ?_
    refine AllReady.cons rfl (fun K hK => ?_) (AllReady.cons rfl (fun K hK => ?_) AllReady.nil)
    · go_simp
      go_wp2_with (go_at_call 59; refine (c2 _).mono ?_; rintro e w2 ⟨rfl, hb2⟩)
      have G64 : Hid (w2.heap[w.heap.size + 1]? = some (.cells (bv L).toArray 66)) := (hb2.block _ (by simp only [World.size_drew, World.size_alloc]; omega)).trans A64.out
      have G32 : Hid (w2.heap[w1.heap.size]? = some (.cells (bv E).toArray 62)) := (hb2.block _ (by simp only [World.size_drew, World.size_alloc]; omega)).trans A32.out
      have S0 : Hid (∀ j, j < 4 → w2.cell? ⟨w.heap.size, j, none⟩ = some (.int .u64 0)) := fun j hj => (hb2.cell (by simp only [World.size_drew, World.size_alloc]; omega)).trans (c_drew (c_alloc (R0.out j hj)))
      have T0 : Hid (∀ j, j < 4 → w2.frozen? ⟨w.heap.size, j, none⟩ = false) := fun j hj => (hb2.frozen (by simp only [World.size_drew, World.size_alloc]; omega)).trans ((((Below.refl w1.heap.size w1).alloc (Nat.le_refl _) (.cells (bv E).toArray 62)).drew.frozen (p := ⟨w.heap.size, j, none⟩) (by simp only; omega)).trans (F0.out j hj))
      have hz2 := hb2.size
      simp only [World.size_drew, World.size_alloc] at hz2
      have hB2 : Below w.heap.size w w2 := below_after ((hB1.alloc (by omega) _).drew) hb2 (by simp only [World.size_drew, World.size_alloc]; omega)
      clear hb2
      refine wpAny_ready (rs := [2]) (by kernel_rfl) (by simp) ?_
      refine AllReady.cons rfl (fun K hK => ?_) AllReady.nil
      rw [if_pos (by rfl)]
      refine wp_load_row 66 _ rfl (w.heap.size + 1) rfl 66 (bv L).toArray _ _ G64.out Try.underlying66 rfl HI.out ?_
      simp only [Act.put]
      try simp only [List.setIfInBounds_toArray]
      refine hK _ _ ?_
      clear hK K
      refine wpAny_ready (rs := [3]) (by kernel_rfl) (by simp) ?_
      refine AllReady.cons rfl (fun K hK => ?_) AllReady.nil
      go_simp
      refine hK _ _ ?_
      clear hK K
      refine wpAny_done (by kernel_rfl) ?_ _
      go_wp2_with (first | (refine wpList_load_row rfl 62 _ rfl w1.heap.size rfl 62 (bv E).toArray _ _ G32.out Try.underlying62 rfl HIE.out ?_) | (go_at_call 55; refine (c3 _).mono ?_; rintro e w3 ⟨rfl, hb3⟩; have s0 : w3.cell? ⟨w.heap.size, 0, none⟩ = some (.int .u64 0) := (hb3.cell (by simp only; omega)).trans (S0.out 0 (by omega)); have g0 : w3.frozen? ⟨w.heap.size, 0, none⟩ = false := (hb3.frozen (by simp only; omega)).trans (T0.out 0 (by omega)); have s1 : w3.cell? ⟨w.heap.size, 1, none⟩ = some (.int .u64 0) := (hb3.cell (by simp only; omega)).trans (S0.out 1 (by omega)); have g1 : w3.frozen? ⟨w.heap.size, 1, none⟩ = false := (hb3.frozen (by simp only; omega)).trans (T0.out 1 (by omega)); have s2 : w3.cell? ⟨w.heap.size, 2, none⟩ = some (.int .u64 0) := (hb3.cell (by simp only; omega)).trans (S0.out 2 (by omega)); have g2 : w3.frozen? ⟨w.heap.size, 2, none⟩ = false := (hb3.frozen (by simp only; omega)).trans (T0.out 2 (by omega)); have s3 : w3.cell? ⟨w.heap.size, 3, none⟩ = some (.int .u64 0) := (hb3.cell (by simp only; omega)).trans (S0.out 3 (by omega)); have g3 : w3.frozen? ⟨w.heap.size, 3, none⟩ = false := (hb3.frozen (by simp only; omega)).trans (T0.out 3 (by omega)); have hB3 : Below w.heap.size w w3 := below_after hB2 hb3 (by omega)))
      obtain ⟨q0, q1, q2, q3⟩ := four_set_at (w := w3) (b := w.heap.size) (q := bd E) s0 s1 s2 s3
      exact bodyPost_ret (v := .tuple #[.agg #[.int .u64 ((bd E).a.toNat : Int), .int .u64 ((bd E).b.toNat : Int), .int .u64 ((bd E).c.toNat : Int), .int .u64 ((bd E).d.toNat : Int)], .bool true]) (by simp [results, Try.results26, go_sem, q0, q1, q2, q3]) rfl ⟨rfl, by repeat' (first | (with_reducible exact hB3) | (with_reducible refine Below.setCell ?_ ?_ _) | go_size)⟩
    · rw [if_pos (by rfl)]
      refine wp_load_row 66 _ rfl (w.heap.size + 1) rfl 66 (bv L).toArray _ _ A64.out Try.underlying66 rfl HI.out ?_
      simp only [Act.put]
      try simp only [List.setIfInBounds_toArray]
      refine hK _ _ ?_
      clear hK K
      refine wpAny_ready (rs := [1]) (by kernel_rfl) (by simp) ?_
      refine AllReady.cons rfl (fun K hK => ?_) AllReady.nil
      go_simp
      go_wp2_with (go_at_call 59; refine (c2 _).mono ?_; rintro e w2 ⟨rfl, hb2⟩)
      have G64 : Hid (w2.heap[w.heap.size + 1]? = some (.cells (bv L).toArray 66)) := (hb2.block _ (by simp only [World.size_drew, World.size_alloc]; omega)).trans A64.out
      have G32 : Hid (w2.heap[w1.heap.size]? = some (.cells (bv E).toArray 62)) := (hb2.block _ (by simp only [World.size_drew, World.size_alloc]; omega)).trans A32.out
      have S0 : Hid (∀ j, j < 4 → w2.cell? ⟨w.heap.size, j, none⟩ = some (.int .u64 0)) := fun j hj => (hb2.cell (by simp only [World.size_drew, World.size_alloc]; omega)).trans (c_drew (c_alloc (R0.out j hj)))
      have T0 : Hid (∀ j, j < 4 → w2.frozen? ⟨w.heap.size, j, none⟩ = false) := fun j hj => (hb2.frozen (by simp only [World.size_drew, World.size_alloc]; omega)).trans ((((Below.refl w1.heap.size w1).alloc (Nat.le_refl _) (.cells (bv E).toArray 62)).drew.frozen (p := ⟨w.heap.size, j, none⟩) (by simp only; omega)).trans (F0.out j hj))
      have hz2 := hb2.size
      simp only [World.size_drew, World.size_alloc] at hz2
      have hB2 : Below w.heap.size w w2 := below_after ((hB1.alloc (by omega) _).drew) hb2 (by simp only [World.size_drew, World.size_alloc]; omega)
      clear hb2
      refine wpAny_ready (rs := [3]) (by kernel_rfl) (by simp) ?_
      refine AllReady.cons rfl (fun K hK => ?_) AllReady.nil
      go_simp
      refine hK _ _ ?_
      clear hK K
      refine wpAny_done (by kernel_rfl) ?_ _
      go_wp2_with (first | (refine wpList_load_row rfl 62 _ rfl w1.heap.size rfl 62 (bv E).toArray _ _ G32.out Try.underlying62 rfl HIE.out ?_) | (go_at_call 55; refine (c3 _).mono ?_; rintro e w3 ⟨rfl, hb3⟩; have s0 : w3.cell? ⟨w.heap.size, 0, none⟩ = some (.int .u64 0) := (hb3.cell (by simp only; omega)).trans (S0.out 0 (by omega)); have g0 : w3.frozen? ⟨w.heap.size, 0, none⟩ = false := (hb3.frozen (by simp only; omega)).trans (T0.out 0 (by omega)); have s1 : w3.cell? ⟨w.heap.size, 1, none⟩ = some (.int .u64 0) := (hb3.cell (by simp only; omega)).trans (S0.out 1 (by omega)); have g1 : w3.frozen? ⟨w.heap.size, 1, none⟩ = false := (hb3.frozen (by simp only; omega)).trans (T0.out 1 (by omega)); have s2 : w3.cell? ⟨w.heap.size, 2, none⟩ = some (.int .u64 0) := (hb3.cell (by simp only; omega)).trans (S0.out 2 (by omega)); have g2 : w3.frozen? ⟨w.heap.size, 2, none⟩ = false := (hb3.frozen (by simp only; omega)).trans (T0.out 2 (by omega)); have s3 : w3.cell? ⟨w.heap.size, 3, none⟩ = some (.int .u64 0) := (hb3.cell (by simp only; omega)).trans (S0.out 3 (by omega)); have g3 : w3.frozen? ⟨w.heap.size, 3, none⟩ = false := (hb3.frozen (by simp only; omega)).trans (T0.out 3 (by omega)); have hB3 : Below w.heap.size w w3 := below_after hB2 hb3 (by omega)))
      obtain ⟨q0, q1, q2, q3⟩ := four_set_at (w := w3) (b := w.heap.size) (q := bd E) s0 s1 s2 s3
      exact bodyPost_ret (v := .tuple #[.agg #[.int .u64 ((bd E).a.toNat : Int), .int .u64 ((bd E).b.toNat : Int), .int .u64 ((bd E).c.toNat : Int), .int .u64 ((bd E).d.toNat : Int)], .bool true]) (by simp [results, Try.results26, go_sem, q0, q1, q2, q3]) rfl ⟨rfl, by repeat' (first | (with_reducible exact hB3) | (with_reducible refine Below.setCell ?_ ?_ _) | go_size)⟩
  · rw [if_pos (by rfl)]
    refine wp_load_row 66 _ rfl (w.heap.size + 1) rfl 66 (bv L).toArray _ _ A64.out Try.underlying66 rfl HI.out ?_
    simp only [Act.put]
    try simp only [List.setIfInBounds_toArray]
    refine hK _ _ ?_
    clear hK K
    refine wpAny_ready (rs := [0]) (by kernel_rfl) (by simp) ?_
    refine AllReady.cons rfl (fun K hK => ?_) AllReady.nil
    rw [if_pos (by rfl)]
    refine wp_load_row 62 _ rfl w1.heap.size rfl 62 (bv E).toArray _ _ A32.out Try.underlying62 rfl HIE.out ?_
    simp only [Act.put]
    try simp only [List.setIfInBounds_toArray]
    refine hK _ _ ?_
    clear hK K
    refine wpAny_ready (rs := [1]) (by kernel_rfl) (by simp) ?_
    refine AllReady.cons rfl (fun K hK => ?_) AllReady.nil
    go_simp
    go_wp2_with (go_at_call 59; refine (c2 _).mono ?_; rintro e w2 ⟨rfl, hb2⟩)
    have G64 : Hid (w2.heap[w.heap.size + 1]? = some (.cells (bv L).toArray 66)) := (hb2.block _ (by simp only [World.size_drew, World.size_alloc]; omega)).trans A64.out
    have G32 : Hid (w2.heap[w1.heap.size]? = some (.cells (bv E).toArray 62)) := (hb2.block _ (by simp only [World.size_drew, World.size_alloc]; omega)).trans A32.out
    have S0 : Hid (∀ j, j < 4 → w2.cell? ⟨w.heap.size, j, none⟩ = some (.int .u64 0)) := fun j hj => (hb2.cell (by simp only [World.size_drew, World.size_alloc]; omega)).trans (c_drew (c_alloc (R0.out j hj)))
    have T0 : Hid (∀ j, j < 4 → w2.frozen? ⟨w.heap.size, j, none⟩ = false) := fun j hj => (hb2.frozen (by simp only [World.size_drew, World.size_alloc]; omega)).trans ((((Below.refl w1.heap.size w1).alloc (Nat.le_refl _) (.cells (bv E).toArray 62)).drew.frozen (p := ⟨w.heap.size, j, none⟩) (by simp only; omega)).trans (F0.out j hj))
    have hz2 := hb2.size
    simp only [World.size_drew, World.size_alloc] at hz2
    have hB2 : Below w.heap.size w w2 := below_after ((hB1.alloc (by omega) _).drew) hb2 (by simp only [World.size_drew, World.size_alloc]; omega)
    clear hb2
    refine wpAny_ready (rs := [3]) (by kernel_rfl) (by simp) ?_
    refine AllReady.cons rfl (fun K hK => ?_) AllReady.nil
    go_simp
    refine hK _ _ ?_
    clear hK K
    refine wpAny_done (by kernel_rfl) ?_ _
    go_wp2_with (first | (refine wpList_load_row rfl 62 _ rfl w1.heap.size rfl 62 (bv E).toArray _ _ G32.out Try.underlying62 rfl HIE.out ?_) | (go_at_call 55; refine (c3 _).mono ?_; rintro e w3 ⟨rfl, hb3⟩; have s0 : w3.cell? ⟨w.heap.size, 0, none⟩ = some (.int .u64 0) := (hb3.cell (by simp only; omega)).trans (S0.out 0 (by omega)); have g0 : w3.frozen? ⟨w.heap.size, 0, none⟩ = false := (hb3.frozen (by simp only; omega)).trans (T0.out 0 (by omega)); have s1 : w3.cell? ⟨w.heap.size, 1, none⟩ = some (.int .u64 0) := (hb3.cell (by simp only; omega)).trans (S0.out 1 (by omega)); have g1 : w3.frozen? ⟨w.heap.size, 1, none⟩ = false := (hb3.frozen (by simp only; omega)).trans (T0.out 1 (by omega)); have s2 : w3.cell? ⟨w.heap.size, 2, none⟩ = some (.int .u64 0) := (hb3.cell (by simp only; omega)).trans (S0.out 2 (by omega)); have g2 : w3.frozen? ⟨w.heap.size, 2, none⟩ = false := (hb3.frozen (by simp only; omega)).trans (T0.out 2 (by omega)); have s3 : w3.cell? ⟨w.heap.size, 3, none⟩ = some (.int .u64 0) := (hb3.cell (by simp only; omega)).trans (S0.out 3 (by omega)); have g3 : w3.frozen? ⟨w.heap.size, 3, none⟩ = false := (hb3.frozen (by simp only; omega)).trans (T0.out 3 (by omega)); have hB3 : Below w.heap.size w w3 := below_after hB2 hb3 (by omega)))
    obtain ⟨q0, q1, q2, q3⟩ := four_set_at (w := w3) (b := w.heap.size) (q := bd E) s0 s1 s2 s3
    exact bodyPost_ret (v := .tuple #[.agg #[.int .u64 ((bd E).a.toNat : Int), .int .u64 ((bd E).b.toNat : Int), .int .u64 ((bd E).c.toNat : Int), .int .u64 ((bd E).d.toNat : Int)], .bool true]) (by simp [results, Try.results26, go_sem, q0, q1, q2, q3]) rfl ⟨rfl, by repeat' (first | (with_reducible exact hB3) | (with_reducible refine Below.setCell ?_ ?_ _) | go_size)⟩
end Go.Proofs.Ytjfiafnbmejaeaa
