/-
  The leaves of a log, told one by one: the iterator.
-/
import Derived.RangeFuncNested
import Derived.RangeFuncBound
import Derived.RangeFuncCalls
import Derived.RangeFuncLeaves
import Derived.Shelf.Abstract
import Derived.Shelf.RegionOpen
import Derived.Shelf.Pu.Clone
import Derived.WalkKit
import Derived.OwnWalkIn
import Derived.TacticsInMore
import Derived.LoopNIn
import Derived.LoopIn
import Derived.Test.YtegihccdpohnnaaMarkS
namespace Go.Proofs.Ytegihccdpohnnaa
open Go.RowKit Go.Shelf
attribute [local go_sem] Oper.semAt_some

/-- The numbers of a cloned text's functions and types. -/
def cloneRenL : Go.Shelf.Ren := ⟨fun _ => 24, fun k => if k = 37 then 45 else if k = 47 then 46 else k, fun g => g⟩
theorem cloneLaysL : LaysPu.n25 Try.prog cloneRenL :=
  ⟨by kernel_rfl, by kernel_rfl, Try.underlying0, Try.isAgg0, Try.sizeOf0, Try.zeroValue0, by kernel_rfl, Try.underlying3, Try.isAgg3, Try.sizeOf3, Try.zeroValue3, by kernel_rfl, Try.underlying4, Try.isAgg4, Try.sizeOf4, Try.zeroValue4, by kernel_rfl, Try.underlying5, Try.isAgg5, Try.sizeOf5, Try.zeroValue5, by kernel_rfl, Try.underlying9, Try.isAgg9, Try.sizeOf9, Try.zeroValue9, by kernel_rfl, Try.underlying45, Try.isAgg45, Try.sizeOf45, Try.zeroValue45, by kernel_rfl, Try.underlying46, Try.isAgg46, Try.sizeOf46, Try.zeroValue46, by kernel_rfl⟩
theorem clone_l (s : ByteArray) (w : World) (hs : s.size ≤ 1048576) : Calls Try.prog 24 #[.string s] w fun e w' => e = .returned (.string s) ∧ Below w.heap.size w w' :=
  AnyPu.stringslite_Clone cloneLaysL s w (by omega)
theorem sclone_l (s : ByteArray) (w : World) (hs : s.size ≤ 1048576) : Calls Try.prog 18 #[.string s] w fun e w' => e = .returned (.string s) ∧ Below w.heap.size w w' := by
  have c := fun W : World => clone_l s W hs
  go_enter Try.func18, Try.ntmps18
  go_wp2_with (go_at_call 24; refine (c _).mono ?_; rintro e w1 ⟨rfl, hb1⟩)
  go_ret
  exact ⟨rfl, hb1⟩
/-- What a round keeps: the cells that lie ahead of the block B. -/
def KpL (B : Nat) (A C : World) : Prop := A.heap.size ≤ C.heap.size ∧ ∀ (k : Nat) (o : Obj), k < B → A.heap[k]? = some o → o.isCells = true → C.heap[k]? = some o
theorem KpL.refl (B : Nat) (A : World) : KpL B A A := ⟨Nat.le_refl _, fun _ _ _ h _ => h⟩
theorem KpL.trans {B : Nat} {A C D : World} (h : KpL B A C) (k : KpL B C D) : KpL B A D := ⟨Nat.le_trans h.1 k.1, fun i o hi ho hc => k.2 i o hi (h.2 i o hi ho hc) hc⟩
theorem KpL.of_below {B : Nat} {A C : World} (h : Below A.heap.size A C) : KpL B A C := ⟨h.size, fun k _ _ ho _ => (h.block k (Array.getElem?_eq_some_iff.1 ho).1).trans ho⟩
theorem KpL.grown {B : Nat} {A C : World} {row : Option Nat} (h : A.grownBy C row) (hr : ∀ r, row = some r → B ≤ r) : KpL B A C :=
  ⟨h.size, fun k _ hk ho _ => (h.block k (Array.getElem?_eq_some_iff.1 ho).1 (fun e => by have := hr k e.symm; omega)).trans ho⟩
theorem kpl_b {B : Nat} (W : World) (l : Nat) (o o' : Obj) (h : W.heap[l]? = some o) (hc : o.isCells = false) : KpL B W (W.putObj l o') := by
  refine ⟨by simp, fun k p _ hp hpc => ?_⟩
  by_cases e : k = l
  · subst e; rw [h] at hp; cases hp; rw [hc] at hpc; cases hpc
  · exact (World.putObj_heap_other e).trans hp
theorem cells_of_cell {W : World} {a : Addr} {v : Value} (h : W.cell? a = some v) : ∃ o, W.heap[a.block]? = some o ∧ o.isCells = true := by
  unfold World.cell? at h
  cases ho : W.heap[a.block]? with
  | none => simp [ho] at h
  | some o =>
    refine ⟨o, rfl, ?_⟩
    cases o <;> simp_all [Obj.isCells]
theorem KpL.cell {B : Nat} {A C : World} (h : KpL B A C) {a : Addr} {v : Value} (ha : A.cell? a = some v) (hB : a.block < B) : C.cell? a = some v := by
  obtain ⟨o, ho, hc⟩ := cells_of_cell ha
  exact (World.cell?_of_block (w := A) ((h.2 _ o hB ho hc).trans ho.symm)).trans ha
theorem abidesL {β : Type} {B : Nat} {J : β → World → Prop} (hJ : AbidesFrom B J) {s : β} {W W' : World} (h : J s W) (hb : Below W.heap.size W W') : J s W' :=
  hJ s W W' none h ⟨hb.os, hb.tape, hb.output, hb.size, fun k hk _ => hb.block k hk⟩ (fun r e => by cases e)
theorem anyDepthL {F : Fence} (hd : F.depth = none) {m : Nat} (m' : Nat) {P : Program} {l : Nat} {args : Array Value} {W : World} {R : Ending → World → Prop} (h : YieldAt F m P l args W R) : YieldAt F m' P l args W R := by
  obtain ⟨fn, tmps, assign, body, hy, hR⟩ := h
  exact ⟨fn, tmps, assign, body, hy, hR.1, fun c cs _ => hR.2 c cs (fun d e => by rw [hd] at e; cases e)⟩
set_option maxRecDepth 100000 in
set_option maxHeartbeats 2000000 in
theorem lv_in (S : List ByteArray) (v : Value) (hsz : ∀ s ∈ S, s.size ≤ 1048576) (hlen : S.length ≤ 1048576) (d l Bf Bl b0 B : Nat) (J Jx : List ByteArray → World → Prop) (hJ : AbidesFrom B J)
    (hY : ∀ m pre x W, J pre W → pre.length < S.length → YieldAt Fence.wide m Try.prog l #[.string x] W fun e W' =>
      (e = .returned (.bool true) ∧ J (pre ++ [x]) W' ∧ KpL b0 W W') ∨ (e = .returned (.bool false) ∧ Jx (pre ++ [x]) W'))
    (W : World) (hBl : Bl < b0) (c1 : W.cell? ⟨Bf, 0, none⟩ = some (.int .i64 0)) (c2 : W.cell? ⟨Bl, 0, none⟩ = some v)
    (hT : Txt W v S) (hv : ∀ a n c, v = .slice (some a) n c → 0 < n → a.block < b0) (h0 : J [] W) :
    CallsIn Fence.wide d Try.prog 23 #[.func (.yield l) #[] #[], .pointer (some ⟨Bf, 0, none⟩), .pointer (some ⟨Bl, 0, none⟩)] W fun e W' => (∃ v, e = .returned v) ∧
      ((∃ ys, ys = S ∧ J ys W') ∨ (∃ pre, pre <+: S ∧ Jx pre W')) := by
  obtain ⟨oa, cap, rfl⟩ : ∃ a cap, v = .slice a S.length cap := by
    rcases hT with ⟨rfl, rfl⟩ | ⟨a, cap, rfl, _⟩
    · exact ⟨none, 0, rfl⟩
    · exact ⟨some a, cap, rfl⟩
  have hcell : ∀ k, k < S.length → ∃ a, oa = some a ∧ a.block < b0 ∧ ∀ (i : Nat) (h : i < S.length), W.cell? (a.add i) = some (.string S[i]) := by
    intro k hk
    rcases hT with ⟨_, rfl⟩ | ⟨a, cap', hv', _, _, hb, hc⟩
    · simp at hk
    · injection hv' with e1
      subst e1
      exact ⟨a, rfl, hv a _ _ rfl (by omega), hc⟩
  clear hT hv
  refine callsIn_of_wp Try.func23 rfl trivial ?_ rfl
  simp only [Try.ntmps23, List.size_toArray, List.length_cons, List.length_nil, Nat.reduceAdd, Nat.reduceSub, Array.replicate_succ, Array.replicate_zero, List.push_toArray, List.append_toArray, List.nil_append, List.cons_append]
  gi_wp2
  gi_loopw [4] (fun i wr => ∃ k : Nat, k ≤ S.length ∧ i = .int .i64 (k : Int) ∧ Hid (J (S.take k) wr ∧ KpL b0 W wr)) (fun i _ => S.length - (intOf i).toNat)
  case atStart => exact ⟨0, by omega, rfl, h0, KpL.refl _ _⟩
  case round =>
    obtain ⟨k, hk, rfl, HK⟩ := hrel
    obtain ⟨hJ1, hK1⟩ := HK.out
    clear HK
    have d1 := hK1.cell c2 hBl
    by_cases hlt : k < S.length
    · obtain ⟨a, rfl, hab, hc⟩ := hcell k hlt
      have hd := hK1.cell (hc k hlt) (by rw [add_block]; exact hab)
      obtain ⟨s, hs⟩ : ∃ s, s = S[k] := ⟨_, rfl⟩
      have hss : s.size ≤ 1048576 := by rw [hs]; exact hsz _ (List.getElem_mem _)
      have htk : S.take k ++ [s] = S.take (k + 1) := by rw [hs, List.take_succ_eq_append_getElem hlt]
      rw [← hs] at hd
      have hkI : (k : Int) < (S.length : Int) := by omega
      have cc := fun V : World => sclone_l s V hss
      clear hs hc hcell
      gi_wp2_with (refine ⟨trivial, fun h => (by cases h), ?_⟩; gi_at_call 18; refine (callsIn_wide.2 (cc _)).mono ?_; rintro e w1 ⟨rfl, hb1⟩; have hJ2 := abidesL hJ hJ1 hb1; have hK2 := hK1.trans (KpL.of_below hb1); obtain ⟨fn, tmps, assign, body, hy, hR⟩ := hY (d - 1) (S.take k) s w1 hJ2 (by simp; omega))
      refine ⟨fun h => (by cases h), ?_⟩
      refine hR.mono ?_
      clear hR
      rintro e W5 (⟨rfl, hJ5, hk5⟩ | ⟨rfl, hx5⟩)
      · rw [htk] at hJ5
        have hK5 := hK2.trans hk5
        gi_wp2
        exact ⟨⟨k + 1, by omega, by go_num, hJ5, hK5⟩, by simp [intOf]; omega⟩
      · rw [htk] at hx5
        gi_wp2
        refine bodyPost_ret (results_none rfl _ _ _) rfl ?_
        exact ⟨⟨_, rfl⟩, .inr ⟨S.take (k + 1), List.take_prefix _ _, hx5⟩⟩
    · have hkk : k = S.length := by omega
      subst hkk
      rw [List.take_length] at hJ1
      gi_wp2
      go_end0
      exact ⟨⟨_, rfl⟩, .inl ⟨S, rfl, hJ1⟩⟩
theorem lv_stops (S : List ByteArray) (v : Value) (hsz : ∀ s ∈ S, s.size ≤ 1048576) (hlen : S.length ≤ 1048576) (d Bf Bl b0 : Nat) (w : World) (hb0 : b0 ≤ w.heap.size) (hBf : Bf < w.heap.size) (hBl : Bl < b0)
    (c1 : w.cell? ⟨Bf, 0, none⟩ = some (.int .i64 0)) (c2 : w.cell? ⟨Bl, 0, none⟩ = some v) (hT : Txt w v S) (hv : ∀ a n c, v = .slice (some a) n c → 0 < n → a.block < b0) :
    SeqStopsK Fence.wide d Try.prog 23 #[.pointer (some ⟨Bf, 0, none⟩), .pointer (some ⟨Bl, 0, none⟩)] (fun s => #[.string s]) (KpL b0) (fun ys => ys = S) (fun pre => pre <+: S) S.length w := fun l J Jx W hW hJ _ hY h0 =>
  lv_in S v hsz hlen d l Bf Bl b0 W.heap.size J Jx hJ (fun m pre x W1 hj hl => anyDepthL rfl m (hY pre x W1 hj hl)) W hBl ((hW.cell (p := ⟨Bf, 0, none⟩) hBf).trans c1) ((hW.cell (p := ⟨Bl, 0, none⟩) (Nat.lt_of_lt_of_le hBl hb0)).trans c2) (hT.call hW) hv h0
end Go.Proofs.Ytegihccdpohnnaa
