/-
  A slot mended, by the program.
-/
import Derived.Test.YtepgmdgcappfpaaPlay3
import Derived.Test.YtepgmdgcappfpaaReader4
namespace Go.Proofs.Ytepgmdgcappfpaa
open Go.RowKit Go.MuLone

/-- The words of a slot. -/
def ws7 (s : Sl) : List UInt64 := [s.m, s.q, s.z, s.r.a, s.r.b, s.r.c, s.r.d]
/-- The raw writes that empty the first k words of the slot of number n. -/
def clr (n : Int) (s : Sl) : Nat → List Rw
  | 0 => []
  | k + 1 => if (ws7 s).getD k 0 = 0 then clr n s k else clr n s k ++ [⟨n, (k : Int), 0⟩]
/-- The raw writes that mend the slot of number n. -/
def lclear (n : Int) (s : Sl) : List Rw := if slok s then [] else clr n s 7
theorem clr_len (n : Int) (s : Sl) : ∀ k, (clr n s k).length ≤ k
  | 0 => Nat.le_refl _
  | k + 1 => by
    have := clr_len n s k
    unfold clr
    split
    · omega
    · rw [List.length_append]
      simp
      omega
theorem lclear_len (n : Int) (s : Sl) : (lclear n s).length ≤ 7 := by
  unfold lclear
  split
  · simp
  · exact clr_len n s 7
theorem PLY.grown {B : Nat} {d : Sl × Sl} {L : List Rw} {W W' : World} {R : Nat} (h : PLY B d L W) (hg : W.grownBy W' (some R)) (hR : W.heap.size ≤ R) : PLY B d L W' := by
  obtain ⟨v, h1, h2⟩ := h
  have hB := h1.1
  exact ⟨v, h1.grown hg (fun e => by injection e with e; omega), h2.kept hg (by
    cases hv : v.ownBlock with
    | none => exact .inl rfl
    | some k => exact .inr (fun e => by
        injection e with e
        have := (h2.lt k hv).2
        omega))⟩
theorem PLY.lt {B : Nat} {d : Sl × Sl} {L : List Rw} {W : World} (h : PLY B d L W) : B < W.heap.size := by
  obtain ⟨v, h1, -⟩ := h
  exact h1.1
theorem PLY.grownB {B : Nat} {d : Sl × Sl} {L : List Rw} {W W' : World} {R : Nat} (h : PLY B d L W) (hg : W.grownBy W' (some R)) (hR : B < R) (hn : ∀ v, PK B d v W → W.ownsRow (B + 1) 56 3 v L.length (rcs L) → v.ownBlock ≠ some R) : PLY B d L W' := by
  obtain ⟨v, h1, h2⟩ := h
  exact ⟨v, h1.grown hg (fun e => by injection e with e; omega), h2.kept hg (.inr (hn v h1 h2))⟩
/-- A play and a reader of its own beside it. -/
def PR (B R : Nat) (d : Sl × Sl) (L : List Rw) (s t : Sl) (k : Int) (W : World) : Prop := ∃ v, PK B d v W ∧ W.ownsRow (B + 1) 56 3 v L.length (rcs L) ∧ Rr R s k 0 t W ∧ B < R ∧ v.ownBlock ≠ some R
theorem PR.new {B R : Nat} {d : Sl × Sl} {L : List Rw} {s t : Sl} {W W' : World} (h : PLY B d L W) (hb : Below W.heap.size W W') (hR : Rr R s 0 0 t W') (hW : W.heap.size ≤ R) : PR B R d L s t 0 W' := by
  obtain ⟨v, h1, h2⟩ := h
  have := h1.1
  exact ⟨v, h1.call hb, own_callR h2 hb, hR, by omega, fun e => by
    have := (h2.lt R e).2
    omega⟩
theorem PR.step {B R : Nat} {d : Sl × Sl} {L : List Rw} {s t t' : Sl} {k k' : Int} {W W' : World} (h : PR B R d L s t k W) (hr : Rr R s k' 0 t' W') (hg : W.grownBy W' (some R)) : PR B R d L s t' k' W' := by
  obtain ⟨v, h1, h2, h3, h4, h5⟩ := h
  exact ⟨v, h1.grown hg (fun e => by injection e with e; omega), h2.kept hg (.inr h5), hr, h4, h5⟩
theorem PR.ply {B R : Nat} {d : Sl × Sl} {L : List Rw} {s t : Sl} {k : Int} {W : World} (h : PR B R d L s t k W) : PLY B d L W := by
  obtain ⟨v, h1, h2, -⟩ := h
  exact ⟨v, h1, h2⟩
set_option maxRecDepth 20000 in
theorem tab0 (a0 a1 a2 a3 a4 a5 a6 : Int) (W : World) : (Instr.index 75 (.agg #[.int .u64 a0, .int .u64 a1, .int .u64 a2, .int .u64 a3, .int .u64 a4, .int .u64 a5, .int .u64 a6]) (.int .i64 0)).run Try.prog W = .ok (.int .u64 a0) W := by
  kernel_rfl
theorem tab1 (a0 a1 a2 a3 a4 a5 a6 : Int) (W : World) : (Instr.index 75 (.agg #[.int .u64 a0, .int .u64 a1, .int .u64 a2, .int .u64 a3, .int .u64 a4, .int .u64 a5, .int .u64 a6]) (.int .i64 1)).run Try.prog W = .ok (.int .u64 a1) W := by
  kernel_rfl
theorem tab2 (a0 a1 a2 a3 a4 a5 a6 : Int) (W : World) : (Instr.index 75 (.agg #[.int .u64 a0, .int .u64 a1, .int .u64 a2, .int .u64 a3, .int .u64 a4, .int .u64 a5, .int .u64 a6]) (.int .i64 2)).run Try.prog W = .ok (.int .u64 a2) W := by
  kernel_rfl
theorem tab3 (a0 a1 a2 a3 a4 a5 a6 : Int) (W : World) : (Instr.index 75 (.agg #[.int .u64 a0, .int .u64 a1, .int .u64 a2, .int .u64 a3, .int .u64 a4, .int .u64 a5, .int .u64 a6]) (.int .i64 3)).run Try.prog W = .ok (.int .u64 a3) W := by
  kernel_rfl
theorem tab4 (a0 a1 a2 a3 a4 a5 a6 : Int) (W : World) : (Instr.index 75 (.agg #[.int .u64 a0, .int .u64 a1, .int .u64 a2, .int .u64 a3, .int .u64 a4, .int .u64 a5, .int .u64 a6]) (.int .i64 4)).run Try.prog W = .ok (.int .u64 a4) W := by
  kernel_rfl
theorem tab5 (a0 a1 a2 a3 a4 a5 a6 : Int) (W : World) : (Instr.index 75 (.agg #[.int .u64 a0, .int .u64 a1, .int .u64 a2, .int .u64 a3, .int .u64 a4, .int .u64 a5, .int .u64 a6]) (.int .i64 5)).run Try.prog W = .ok (.int .u64 a5) W := by
  kernel_rfl
theorem tab6 (a0 a1 a2 a3 a4 a5 a6 : Int) (W : World) : (Instr.index 75 (.agg #[.int .u64 a0, .int .u64 a1, .int .u64 a2, .int .u64 a3, .int .u64 a4, .int .u64 a5, .int .u64 a6]) (.int .i64 6)).run Try.prog W = .ok (.int .u64 a6) W := by
  kernel_rfl
theorem tab_at (s : Sl) (k : Nat) (hk : k < 7) (W : World) : (Instr.index 75 (.agg #[.int .u64 ((s).m.toNat : Int), .int .u64 ((s).q.toNat : Int), .int .u64 ((s).z.toNat : Int), .int .u64 ((s).r.a.toNat : Int), .int .u64 ((s).r.b.toNat : Int), .int .u64 ((s).r.c.toNat : Int), .int .u64 ((s).r.d.toNat : Int)]) (.int .i64 (k : Int))).run Try.prog W = .ok (.int .u64 (((ws7 s).getD k 0).toNat : Int)) W := by
  obtain rfl | rfl | rfl | rfl | rfl | rfl | rfl : k = 0 ∨ k = 1 ∨ k = 2 ∨ k = 3 ∨ k = 4 ∨ k = 5 ∨ k = 6 := by omega
  · exact tab0 _ _ _ _ _ _ _ W
  · exact tab1 _ _ _ _ _ _ _ W
  · exact tab2 _ _ _ _ _ _ _ W
  · exact tab3 _ _ _ _ _ _ _ W
  · exact tab4 _ _ _ _ _ _ _ W
  · exact tab5 _ _ _ _ _ _ _ W
  · exact tab6 _ _ _ _ _ _ _ W
theorem wadd_ok (L : List Rw) (n : Int) (k : Nat) (hn : n = 1 ∨ n = 2) (hk : k < 7) (x : UInt64) : wadd L ⟨n, (k : Int), x⟩ = L ++ [⟨n, (k : Int), x⟩] := by
  unfold wadd
  rw [if_pos ⟨hn, by simp, by show (k : Int) < 7; omega⟩]
set_option maxRecDepth 20000 in
set_option maxHeartbeats 4000000 in
theorem mend_is (B o : Nat) (n : Int) (hn : n = 1 ∨ n = 2) (P : Sl × Sl → Prop) (hPs : ∀ d (k : Nat), P d → P (dput d ⟨n, (k : Int), 0⟩)) (s : Sl) (d : Sl × Sl) (L : List Rw) (W : World) (h : PLY B d L W) (hPd : P d) (hL : L.length ≤ 1000)
    (hcs : ∀ V : World, Calls Try.prog 35 #[.pointer (some ⟨B, 0, none⟩), .int .i64 n] V fun e w' => e = .returned (.pointer (some ⟨B, o, none⟩)) ∧ V = w')
    (hl : ∀ V v, PK B d v V → Lies B o [.int .u64 ((s).m.toNat : Int), .int .u64 ((s).q.toNat : Int), .int .u64 ((s).z.toNat : Int), .int .u64 ((s).r.a.toNat : Int), .int .u64 ((s).r.b.toNat : Int), .int .u64 ((s).r.c.toNat : Int), .int .u64 ((s).r.d.toNat : Int)] V) :
    Calls Try.prog 19 #[.pointer (some ⟨B, 0, none⟩), .int .i64 n] W fun e w' => e = .returned (.tuple #[]) ∧ (∃ d', P d' ∧ PLY B d' (L ++ lclear n s) w') ∧ Below B W w' := by
  have cr := fun V : World => reader_is s V
  have HA : Lies B o [.int .u64 ((s).m.toNat : Int), .int .u64 ((s).q.toNat : Int), .int .u64 ((s).z.toNat : Int), .int .u64 ((s).r.a.toNat : Int), .int .u64 ((s).r.b.toNat : Int), .int .u64 ((s).r.c.toNat : Int), .int .u64 ((s).r.d.toNat : Int)] W := by obtain ⟨v, h1, -⟩ := h; exact hl W v h1
  have hBW := h.lt
  go_enter Try.func19, Try.ntmps19
  go_wp2_with (first
    | (go_at_call 35; refine (hcs _).mono ?_; rintro e w0 ⟨rfl, hw0⟩; subst hw0)
    | (with_reducible refine wpl_load agg_slot B o [.int .u64 ((s).m.toNat : Int), .int .u64 ((s).q.toNat : Int), .int .u64 ((s).z.toNat : Int), .int .u64 ((s).r.a.toNat : Int), .int .u64 ((s).r.b.toNat : Int), .int .u64 ((s).r.c.toNat : Int), .int .u64 ((s).r.d.toNat : Int)] (by kernel_rfl) (by kernel_rfl) HA ?_)
    | (go_at_call 23; refine (cr _).mono ?_; rintro e w1 ⟨R, rfl, hR, hr1, hb1⟩; have hp1 := PR.new h hb1 hr1 hR; have hbb1 : Below B W w1 := hb1.mono (Nat.le_of_lt hBW))
    | (go_at_call 24; refine (right_is R s _ 0 w1 hr1 (.inl rfl)).mono ?_; rintro e w2 ⟨rfl, hr2, hg2⟩; have hp2 := hp1.step hr2 hg2; have hbb2 : Below B W w2 := hbb1.grown hg2 (Nat.le_trans (Nat.le_of_lt hBW) hb1.size) (fun k hk => by injection hk with hk; omega); cases hok : slok s)
    | (go_at_call 36; refine (words_any R s _ 1 w2 hr2 (.inr ⟨rfl, rfl⟩)).mono ?_; rintro e w3 ⟨rfl, hr3, hg3⟩; have hp3 := hp2.step hr3 hg3; have hbb3 : Below B W w3 := hbb2.grown hg3 (Nat.le_trans (Nat.le_of_lt hBW) (Nat.le_trans hb1.size hg2.size)) (fun k hk => by injection hk with hk; omega)))
  all_goals first
    | (refine bodyPost_ret (results_none rfl _ _ _) rfl ⟨rfl, ⟨d, hPd, ?_⟩, hbb2⟩
       have e : lclear n s = [] := by unfold lclear; rw [hok]; rfl
       rw [e, List.append_nil]
       exact hp2.ply)
    | skip
  have HT : Hid (∃ d', P d' ∧ PR B R d' (L ++ clr n s 0) s s 1 w3) := ⟨d, hPd, by unfold clr; rw [List.append_nil]; exact hp3⟩
  have HE : Hid (lclear n s = clr n s 7) := by unfold lclear; rw [hok]; rfl
  have HBB : Hid (Below B W w3) := hbb3
  clear hp1 hp2 hp3 hbb1 hbb2 hbb3 hr1 hr2 hr3 hg2 hg3 hb1 hcs hl HA cr h hok hPd
  go_loopw [17] (fun i wr => ∃ k : Nat, k ≤ 7 ∧ i = .int .i64 (k : Int) ∧ Hid ((∃ d', P d' ∧ PLY B d' (L ++ clr n s k) wr) ∧ Below B W wr)) (fun i _ => 7 - (intOf i).toNat)
  case atStart => exact ⟨0, by omega, rfl, (by obtain ⟨d', h1, h2⟩ := HT.out; exact ⟨d', h1, h2.ply⟩), HBB.out⟩
  case round =>
    obtain ⟨k, hk, rfl, HR⟩ := hrel
    by_cases hlt : k < 7
    · obtain ⟨⟨d1, hP1, hp⟩, hbb⟩ := HR.out
      have hix := tab_at s k hlt
      have hcl : clr n s (k + 1) = if (ws7 s).getD k 0 = 0 then clr n s k else clr n s k ++ [⟨n, (k : Int), 0⟩] := rfl
      have hwa := wadd_ok (L ++ clr n s k) n k hn hlt 0
      have hll := clr_len n s k
      have cw := fun V : World => fun hV : PLY B d1 (L ++ clr n s k) V => write_is B d1 (L ++ clr n s k) ⟨n, (k : Int), 0⟩ V hV (by rw [List.length_append]; omega)
      rw [hwa] at cw
      have hPn := hPs d1 k hP1
      have hkI : (k : Int) < 7 := by omega
      generalize (ws7 s).getD k 0 = x at hix hcl
      by_cases hx : x = 0
      · rw [if_pos hx] at hcl
        have hx1 : ((x.toNat : Int) != 0) = false := by rw [hx]; rfl
        have HN : Hid ((∃ d', P d' ∧ PLY B d' (L ++ clr n s (k + 1)) wr) ∧ Below B W wr) := by rw [hcl]; exact ⟨⟨d1, hP1, hp⟩, hbb⟩
        clear hcl hwa cw hPn HR HT HE HBB hp hbb hx
        go_wp2_with fail
        exact ⟨⟨k + 1, by omega, by go_num, HN⟩, by simp [intOf]; omega⟩
      · rw [if_neg hx] at hcl
        have hx1 : ((x.toNat : Int) != 0) = true := by
          rw [bne_iff_ne]
          intro e
          exact hx (UInt64.toNat_inj.1 (by simpa using e))
        have HN : Hid (∀ w1, PLY B (dput d1 ⟨n, (k : Int), 0⟩) ((L ++ clr n s k) ++ [⟨n, (k : Int), 0⟩]) w1 → Below B wr w1 → (∃ d', P d' ∧ PLY B d' (L ++ clr n s (k + 1)) w1) ∧ Below B W w1) := fun w1 h1 h2 => by
          rw [hcl, ← List.append_assoc]
          exact ⟨⟨_, hPn, h1⟩, hbb.trans h2⟩
        have HP : Hid (PLY B d1 (L ++ clr n s k) wr) := hp
        have hb3 : Try.prog.built 56 [(0, Value.int .i64 n), (1, Value.int .i64 (k : Int))] = some #[.int .i64 n, .int .i64 (k : Int), .int .u64 0] := by kernel_rfl
        clear hcl hwa hPn HR HT HE HBB hp hbb hx
        go_wp2_with (first
          | (go_at_call 22; refine (cw _ HP.out).mono ?_; rintro e w1 ⟨rfl, hp1, hb1⟩; have HN1 := HN.out w1 hp1 hb1)
          | (with_reducible refine wpl_build #[.int .i64 n, .int .i64 (k : Int), .int .u64 0] (by kernel_rfl) ?_))
        exact ⟨⟨k + 1, by omega, by go_num, HN1⟩, by simp [intOf]; omega⟩
    · have hkk : k = 7 := by omega
      subst hkk
      have hE := HE.out
      have hR := HR.out
      rw [← hE] at hR
      clear HE HR HT HBB hE
      go_wp2_with fail
      first
        | (refine bodyPost_ret (results_none rfl _ _ _) rfl ⟨rfl, hR.1, hR.2⟩)
        | (refine bodyPost_end (results_none rfl _ _ _) rfl ⟨rfl, hR.1, hR.2⟩)
end Go.Proofs.Ytepgmdgcappfpaa
