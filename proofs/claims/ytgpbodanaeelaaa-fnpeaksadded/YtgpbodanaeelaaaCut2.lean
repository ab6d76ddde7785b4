/-
  A run is cut off a pair.
-/
import Derived.Test.YtgpbodanaeelaaaCut
namespace Go.Proofs.Ytgpbodanaeelaaa
open Go.RowKit

set_option maxRecDepth 20000 in
set_option maxHeartbeats 2000000 in
theorem cut_even (a b : Value) (m1 m2 : Nat) (h1 : Child a m1) (h2 : Child b m2) (hm : m1 = m2) (w : World) : Calls Try.prog 26 #[.iface 70 (.agg #[a, b])] w fun e w' => e = .returned (.tuple #[.iface 70 (.agg #[a, b]), .nilIface]) ∧ Below w.heap.size w w' := by
  have a2 := fun W : World => ta_yes (P := Try.prog) 70 48 (.agg #[a, b]) W under_pair
  rcases h1 with ⟨s1, rfl, rfl⟩ | ⟨x1, y1, rfl, c1⟩
  · rcases h2 with ⟨s2, rfl, rfl⟩ | ⟨x2, y2, rfl, c2⟩
    · go_enter Try.func26, Try.ntmps26
      go_wp2_with fail
      go_region_with (first
        | (go_at_call_of 92 s2; refine (leaf_size s2 _).mono ?_; rintro e w2 ⟨rfl, hb2⟩; have hz2 := hb2.size; (try simp only [World.size_alloc, World.size_drew] at hz2); have f1 : w2.cell? ⟨w.heap.size, 1, none⟩ = some (.iface 73 (.agg #[.string s2])) := (hb2.cell (p := ⟨w.heap.size, 1, none⟩) (by show w.heap.size < w1.heap.size; omega)).trans d1; have f0 : w2.cell? ⟨w.heap.size, 0, none⟩ = some (.iface 73 (.agg #[.string s1])) := (hb2.cell (p := ⟨w.heap.size, 0, none⟩) (by show w.heap.size < w1.heap.size; omega)).trans d0)
        | (go_at_call_of 92 s1; refine (leaf_size s1 _).mono ?_; rintro e w1 ⟨rfl, hb1⟩; have hz1 := hb1.size; (try simp only [World.size_alloc, World.size_drew] at hz1); have d1 : w1.cell? ⟨w.heap.size, 1, none⟩ = some (.iface 73 (.agg #[.string s2])) := (hb1.cell (by simp)).trans (by simp [go_sem]); have d0 : w1.cell? ⟨w.heap.size, 0, none⟩ = some (.iface 73 (.agg #[.string s1])) := (hb1.cell (by simp)).trans (by simp [go_sem])))
      all_goals (go_wp2_with fail)
      all_goals exact bodyPost_ret (v := .tuple #[.iface 70 (.agg #[.iface 73 (.agg #[.string s1]), .iface 73 (.agg #[.string s2])]), .nilIface]) (by simp [results, Try.results26, go_sem]) rfl ⟨rfl, by repeat' (first | (with_reducible exact below_after (below_after ((Below.refl _ _).alloc (Nat.le_refl _) _).drew hb1 (by simp)) hb2 (by omega)) | (with_reducible refine Below.drew ?_) | (with_reducible refine below_drewN ?_ _))⟩
    · have hq : (1 == (m2 : Int)) = true := by first | (rw [beq_eq_false_iff_ne]; omega) | (rw [beq_iff_eq]; omega)
      clear hm
      go_enter Try.func26, Try.ntmps26
      go_wp2_with fail
      go_region_with (first
        | (go_at_call_of 91 x2; refine (c2 _).mono ?_; rintro e w2 ⟨rfl, hb2⟩; have hz2 := hb2.size; (try simp only [World.size_alloc, World.size_drew] at hz2); have f1 : w2.cell? ⟨w.heap.size, 1, none⟩ = some (.iface 70 (.agg #[x2, y2])) := (hb2.cell (p := ⟨w.heap.size, 1, none⟩) (by show w.heap.size < w1.heap.size; omega)).trans d1; have f0 : w2.cell? ⟨w.heap.size, 0, none⟩ = some (.iface 73 (.agg #[.string s1])) := (hb2.cell (p := ⟨w.heap.size, 0, none⟩) (by show w.heap.size < w1.heap.size; omega)).trans d0)
        | (go_at_call_of 92 s1; refine (leaf_size s1 _).mono ?_; rintro e w1 ⟨rfl, hb1⟩; have hz1 := hb1.size; (try simp only [World.size_alloc, World.size_drew] at hz1); have d1 : w1.cell? ⟨w.heap.size, 1, none⟩ = some (.iface 70 (.agg #[x2, y2])) := (hb1.cell (by simp)).trans (by simp [go_sem]); have d0 : w1.cell? ⟨w.heap.size, 0, none⟩ = some (.iface 73 (.agg #[.string s1])) := (hb1.cell (by simp)).trans (by simp [go_sem])))
      all_goals (go_wp2_with fail)
      all_goals exact bodyPost_ret (v := .tuple #[.iface 70 (.agg #[.iface 73 (.agg #[.string s1]), .iface 70 (.agg #[x2, y2])]), .nilIface]) (by simp [results, Try.results26, go_sem]) rfl ⟨rfl, by repeat' (first | (with_reducible exact below_after (below_after ((Below.refl _ _).alloc (Nat.le_refl _) _).drew hb1 (by simp)) hb2 (by omega)) | (with_reducible refine Below.drew ?_) | (with_reducible refine below_drewN ?_ _))⟩
  · rcases h2 with ⟨s2, rfl, rfl⟩ | ⟨x2, y2, rfl, c2⟩
    · have hq : ((m1 : Int) == 1) = true := by first | (rw [beq_eq_false_iff_ne]; omega) | (rw [beq_iff_eq]; omega)
      clear hm
      go_enter Try.func26, Try.ntmps26
      go_wp2_with fail
      go_region_with (first
        | (go_at_call_of 92 s2; refine (leaf_size s2 _).mono ?_; rintro e w2 ⟨rfl, hb2⟩; have hz2 := hb2.size; (try simp only [World.size_alloc, World.size_drew] at hz2); have f1 : w2.cell? ⟨w.heap.size, 1, none⟩ = some (.iface 73 (.agg #[.string s2])) := (hb2.cell (p := ⟨w.heap.size, 1, none⟩) (by show w.heap.size < w1.heap.size; omega)).trans d1; have f0 : w2.cell? ⟨w.heap.size, 0, none⟩ = some (.iface 70 (.agg #[x1, y1])) := (hb2.cell (p := ⟨w.heap.size, 0, none⟩) (by show w.heap.size < w1.heap.size; omega)).trans d0)
        | (go_at_call_of 91 x1; refine (c1 _).mono ?_; rintro e w1 ⟨rfl, hb1⟩; have hz1 := hb1.size; (try simp only [World.size_alloc, World.size_drew] at hz1); have d1 : w1.cell? ⟨w.heap.size, 1, none⟩ = some (.iface 73 (.agg #[.string s2])) := (hb1.cell (by simp)).trans (by simp [go_sem]); have d0 : w1.cell? ⟨w.heap.size, 0, none⟩ = some (.iface 70 (.agg #[x1, y1])) := (hb1.cell (by simp)).trans (by simp [go_sem])))
      all_goals (go_wp2_with fail)
      all_goals exact bodyPost_ret (v := .tuple #[.iface 70 (.agg #[.iface 70 (.agg #[x1, y1]), .iface 73 (.agg #[.string s2])]), .nilIface]) (by simp [results, Try.results26, go_sem]) rfl ⟨rfl, by repeat' (first | (with_reducible exact below_after (below_after ((Below.refl _ _).alloc (Nat.le_refl _) _).drew hb1 (by simp)) hb2 (by omega)) | (with_reducible refine Below.drew ?_) | (with_reducible refine below_drewN ?_ _))⟩
    · have hq : ((m1 : Int) == (m2 : Int)) = true := by first | (rw [beq_eq_false_iff_ne]; omega) | (rw [beq_iff_eq]; omega)
      clear hm
      go_enter Try.func26, Try.ntmps26
      go_wp2_with fail
      go_region_with (first
        | (go_at_call_of 91 x2; refine (c2 _).mono ?_; rintro e w2 ⟨rfl, hb2⟩; have hz2 := hb2.size; (try simp only [World.size_alloc, World.size_drew] at hz2); have f1 : w2.cell? ⟨w.heap.size, 1, none⟩ = some (.iface 70 (.agg #[x2, y2])) := (hb2.cell (p := ⟨w.heap.size, 1, none⟩) (by show w.heap.size < w1.heap.size; omega)).trans d1; have f0 : w2.cell? ⟨w.heap.size, 0, none⟩ = some (.iface 70 (.agg #[x1, y1])) := (hb2.cell (p := ⟨w.heap.size, 0, none⟩) (by show w.heap.size < w1.heap.size; omega)).trans d0)
        | (go_at_call_of 91 x1; refine (c1 _).mono ?_; rintro e w1 ⟨rfl, hb1⟩; have hz1 := hb1.size; (try simp only [World.size_alloc, World.size_drew] at hz1); have d1 : w1.cell? ⟨w.heap.size, 1, none⟩ = some (.iface 70 (.agg #[x2, y2])) := (hb1.cell (by simp)).trans (by simp [go_sem]); have d0 : w1.cell? ⟨w.heap.size, 0, none⟩ = some (.iface 70 (.agg #[x1, y1])) := (hb1.cell (by simp)).trans (by simp [go_sem])))
      all_goals (go_wp2_with fail)
      all_goals exact bodyPost_ret (v := .tuple #[.iface 70 (.agg #[.iface 70 (.agg #[x1, y1]), .iface 70 (.agg #[x2, y2])]), .nilIface]) (by simp [results, Try.results26, go_sem]) rfl ⟨rfl, by repeat' (first | (with_reducible exact below_after (below_after ((Below.refl _ _).alloc (Nat.le_refl _) _).drew hb1 (by simp)) hb2 (by omega)) | (with_reducible refine Below.drew ?_) | (with_reducible refine below_drewN ?_ _))⟩
set_option maxRecDepth 20000 in
set_option maxHeartbeats 2000000 in
theorem cut_odd (a b : Value) (m1 m2 : Nat) (h1 : Child a m1) (h2 : Child b m2) (hm : m1 ≠ m2) (w : World) : Calls Try.prog 26 #[.iface 70 (.agg #[a, b])] w fun e w' => e = .returned (.tuple #[a, b]) ∧ Below w.heap.size w w' := by
  have a2 := fun W : World => ta_yes (P := Try.prog) 70 48 (.agg #[a, b]) W under_pair
  rcases h1 with ⟨s1, rfl, rfl⟩ | ⟨x1, y1, rfl, c1⟩
  · rcases h2 with ⟨s2, rfl, rfl⟩ | ⟨x2, y2, rfl, c2⟩
    · exact absurd rfl hm
    · have hq : (1 == (m2 : Int)) = false := by first | (rw [beq_eq_false_iff_ne]; omega) | (rw [beq_iff_eq]; omega)
      clear hm
      go_enter Try.func26, Try.ntmps26
      go_wp2_with fail
      go_region_with (first
        | (go_at_call_of 91 x2; refine (c2 _).mono ?_; rintro e w2 ⟨rfl, hb2⟩; have hz2 := hb2.size; (try simp only [World.size_alloc, World.size_drew] at hz2); have f1 : w2.cell? ⟨w.heap.size, 1, none⟩ = some (.iface 70 (.agg #[x2, y2])) := (hb2.cell (p := ⟨w.heap.size, 1, none⟩) (by show w.heap.size < w1.heap.size; omega)).trans d1; have f0 : w2.cell? ⟨w.heap.size, 0, none⟩ = some (.iface 73 (.agg #[.string s1])) := (hb2.cell (p := ⟨w.heap.size, 0, none⟩) (by show w.heap.size < w1.heap.size; omega)).trans d0)
        | (go_at_call_of 92 s1; refine (leaf_size s1 _).mono ?_; rintro e w1 ⟨rfl, hb1⟩; have hz1 := hb1.size; (try simp only [World.size_alloc, World.size_drew] at hz1); have d1 : w1.cell? ⟨w.heap.size, 1, none⟩ = some (.iface 70 (.agg #[x2, y2])) := (hb1.cell (by simp)).trans (by simp [go_sem]); have d0 : w1.cell? ⟨w.heap.size, 0, none⟩ = some (.iface 73 (.agg #[.string s1])) := (hb1.cell (by simp)).trans (by simp [go_sem])))
      all_goals (go_wp2_with fail)
      all_goals (try (go_quiet (fail)))
      all_goals (go_wp2_with fail)
      all_goals exact bodyPost_ret (v := .tuple #[.iface 73 (.agg #[.string s1]), .iface 70 (.agg #[x2, y2])]) (by simp [results, Try.results26, go_sem]) rfl ⟨rfl, by repeat' (first | (with_reducible exact below_after (below_after ((Below.refl _ _).alloc (Nat.le_refl _) _).drew hb1 (by simp)) hb2 (by omega)) | (with_reducible refine Below.drew ?_) | (with_reducible refine below_drewN ?_ _))⟩
  · rcases h2 with ⟨s2, rfl, rfl⟩ | ⟨x2, y2, rfl, c2⟩
    · have hq : ((m1 : Int) == 1) = false := by first | (rw [beq_eq_false_iff_ne]; omega) | (rw [beq_iff_eq]; omega)
      clear hm
      go_enter Try.func26, Try.ntmps26
      go_wp2_with fail
      go_region_with (first
        | (go_at_call_of 92 s2; refine (leaf_size s2 _).mono ?_; rintro e w2 ⟨rfl, hb2⟩; have hz2 := hb2.size; (try simp only [World.size_alloc, World.size_drew] at hz2); have f1 : w2.cell? ⟨w.heap.size, 1, none⟩ = some (.iface 73 (.agg #[.string s2])) := (hb2.cell (p := ⟨w.heap.size, 1, none⟩) (by show w.heap.size < w1.heap.size; omega)).trans d1; have f0 : w2.cell? ⟨w.heap.size, 0, none⟩ = some (.iface 70 (.agg #[x1, y1])) := (hb2.cell (p := ⟨w.heap.size, 0, none⟩) (by show w.heap.size < w1.heap.size; omega)).trans d0)
        | (go_at_call_of 91 x1; refine (c1 _).mono ?_; rintro e w1 ⟨rfl, hb1⟩; have hz1 := hb1.size; (try simp only [World.size_alloc, World.size_drew] at hz1); have d1 : w1.cell? ⟨w.heap.size, 1, none⟩ = some (.iface 73 (.agg #[.string s2])) := (hb1.cell (by simp)).trans (by simp [go_sem]); have d0 : w1.cell? ⟨w.heap.size, 0, none⟩ = some (.iface 70 (.agg #[x1, y1])) := (hb1.cell (by simp)).trans (by simp [go_sem])))
      all_goals (go_wp2_with fail)
      all_goals (try (go_quiet (fail)))
      all_goals (go_wp2_with fail)
      all_goals exact bodyPost_ret (v := .tuple #[.iface 70 (.agg #[x1, y1]), .iface 73 (.agg #[.string s2])]) (by simp [results, Try.results26, go_sem]) rfl ⟨rfl, by repeat' (first | (with_reducible exact below_after (below_after ((Below.refl _ _).alloc (Nat.le_refl _) _).drew hb1 (by simp)) hb2 (by omega)) | (with_reducible refine Below.drew ?_) | (with_reducible refine below_drewN ?_ _))⟩
    · have hq : ((m1 : Int) == (m2 : Int)) = false := by first | (rw [beq_eq_false_iff_ne]; omega) | (rw [beq_iff_eq]; omega)
      clear hm
      go_enter Try.func26, Try.ntmps26
      go_wp2_with fail
      go_region_with (first
        | (go_at_call_of 91 x2; refine (c2 _).mono ?_; rintro e w2 ⟨rfl, hb2⟩; have hz2 := hb2.size; (try simp only [World.size_alloc, World.size_drew] at hz2); have f1 : w2.cell? ⟨w.heap.size, 1, none⟩ = some (.iface 70 (.agg #[x2, y2])) := (hb2.cell (p := ⟨w.heap.size, 1, none⟩) (by show w.heap.size < w1.heap.size; omega)).trans d1; have f0 : w2.cell? ⟨w.heap.size, 0, none⟩ = some (.iface 70 (.agg #[x1, y1])) := (hb2.cell (p := ⟨w.heap.size, 0, none⟩) (by show w.heap.size < w1.heap.size; omega)).trans d0)
        | (go_at_call_of 91 x1; refine (c1 _).mono ?_; rintro e w1 ⟨rfl, hb1⟩; have hz1 := hb1.size; (try simp only [World.size_alloc, World.size_drew] at hz1); have d1 : w1.cell? ⟨w.heap.size, 1, none⟩ = some (.iface 70 (.agg #[x2, y2])) := (hb1.cell (by simp)).trans (by simp [go_sem]); have d0 : w1.cell? ⟨w.heap.size, 0, none⟩ = some (.iface 70 (.agg #[x1, y1])) := (hb1.cell (by simp)).trans (by simp [go_sem])))
      all_goals (go_wp2_with fail)
      all_goals (try (go_quiet (fail)))
      all_goals (go_wp2_with fail)
      all_goals exact bodyPost_ret (v := .tuple #[.iface 70 (.agg #[x1, y1]), .iface 70 (.agg #[x2, y2])]) (by simp [results, Try.results26, go_sem]) rfl ⟨rfl, by repeat' (first | (with_reducible exact below_after (below_after ((Below.refl _ _).alloc (Nat.le_refl _) _).drew hb1 (by simp)) hb2 (by omega)) | (with_reducible refine Below.drew ?_) | (with_reducible refine below_drewN ?_ _))⟩
/-- A tree of the leaves S is cut into its first run and the rest. -/
theorem cut_is (S : List ByteArray) (h : S.length ≤ 256) (w : World) : Calls Try.prog 26 #[treeV 256 S] w fun e w' => e = .returned (.tuple #[treeV 256 (S.take (hf S.length)), treeV 256 (S.drop (hf S.length))]) ∧ Below w.heap.size w w' := by
  have tab := hf_tab ⟨S.length, by omega⟩
  simp only at tab
  have whole : hf S.length = S.length → treeV 256 (S.take (hf S.length)) = treeV 256 S ∧ treeV 256 (S.drop (hf S.length)) = .nilIface := fun e => by
    rw [e, List.take_length, List.drop_length]
    exact ⟨rfl, rfl⟩
  by_cases h0 : S.length = 0
  · have : S = [] := List.length_eq_zero_iff.1 h0
    subst this
    simp only [List.take_nil, List.drop_nil]
    exact cut_whole _ (.inl rfl) w
  by_cases h1 : S.length = 1
  · obtain ⟨e1, e2⟩ := whole (by rw [tab.1 h1, h1])
    rw [e1, e2]
    exact cut_whole _ (.inr ⟨_, treeV_leaf 255 S h1⟩) w
  have h2 : 2 ≤ S.length := by omega
  have hsp := sp_lt S.length h2
  have l1 : (S.take (sp S.length)).length = sp S.length := by rw [List.length_take]; omega
  have l2 : (S.drop (sp S.length)).length = S.length - sp S.length := by rw [List.length_drop]
  have k1 := child_is 255 (S.take (sp S.length)) (by omega) (by omega) (by omega)
  have k2 := child_is 255 (S.drop (sp S.length)) (by omega) (by omega) (by omega)
  by_cases he : S.length = 2 * sp S.length
  · obtain ⟨e1, e2⟩ := whole ((tab.2.1 h2).1 he)
    rw [e1, e2, treeV_pair 255 S h2]
    exact cut_even _ _ _ _ k1 k2 (by omega) w
  · rw [(tab.2.1 h2).2 he, treeV_fuel 256 255 (S.take (sp S.length)) (by omega) (by omega), treeV_fuel 256 255 (S.drop (sp S.length)) (by omega) (by omega), treeV_pair 255 S h2]
    exact cut_odd _ _ _ _ k1 k2 (by omega) w
end Go.Proofs.Ytgpbodanaeelaaa
