/-
  Short texts without bytes 255.
-/
import Derived.Test.YtnaaeooieljkmaaApart
namespace Go.Proofs.Ytnaaeooieljkmaa
open Go.RowKit

/-- At most 23 bytes, none of them 255. -/
def Short (S : ByteArray) : Prop := S.size ≤ 23 ∧ ∀ x ∈ S.data.toList, x ≠ 255
theorem bare_same {l : List UInt8} (h : ∀ x ∈ l, x ≠ 255) : bare l = l := by
  unfold bare
  rw [List.filter_eq_self]
  intro x hx
  simpa using h x hx
theorem size_list (S : ByteArray) : S.data.toList.length = S.size := by rw [Array.length_toList]; rfl
theorem Short.dg {S : ByteArray} (h : Short S) : Ytnaaeooieljkmaa.dg S = hashOf S.data.toList := by
  unfold Ytnaaeooieljkmaa.dg
  rw [if_pos (by have := h.1; omega), bare_same h.2]
theorem Short.inj {S U : ByteArray} (h : Short S) (h' : Short U) (b : Bool) (hb : S = U ↔ b = true) : Ytnaaeooieljkmaa.dg S = Ytnaaeooieljkmaa.dg U ↔ b = true := by
  rw [← hb, h.dg, h'.dg]
  constructor
  · intro e
    have := hashOf_inj (by rw [size_list]; exact h.1) (by rw [size_list]; exact h'.1) e
    exact ByteArray.ext (Array.toList_inj.1 this)
  · rintro rfl; rfl
theorem list_ext0 (S : ByteArray) (k : Nat) : (S.extract 0 k).data.toList = S.data.toList.take k := by
  rw [ByteArray.data_extract, Array.toList_extract]
  simp
theorem list_extk (S : ByteArray) (k : Nat) : (S.extract k S.size).data.toList = S.data.toList.drop k := by
  rw [ByteArray.data_extract, Array.toList_extract]
  have := size_list S
  rw [List.extract_eq_take_drop]
  rw [List.take_of_length_le (by rw [List.length_drop]; omega)]
theorem Short.put {S : ByteArray} (h : Short S) (k : Nat) : Ytnaaeooieljkmaa.dg (S.extract 0 k ++ ByteArray.mk #[255] ++ S.extract k S.size) = Ytnaaeooieljkmaa.dg S := by
  have e : (S.extract 0 k ++ ByteArray.mk #[255] ++ S.extract k S.size).data.toList = S.data.toList.take k ++ [255] ++ S.data.toList.drop k := by
    rw [ByteArray.data_append, ByteArray.data_append, Array.toList_append, Array.toList_append, list_ext0, list_extk]
  have hz : (S.extract 0 k ++ ByteArray.mk #[255] ++ S.extract k S.size).size ≤ 20000 := by
    rw [← size_list, e]
    have := h.1
    have h2 := size_list S
    simp only [List.length_append, List.length_take, List.length_drop, List.length_singleton]
    omega
  rw [h.dg]
  unfold Ytnaaeooieljkmaa.dg
  rw [if_pos hz, e]
  congr 1
  unfold bare
  rw [List.filter_append, List.filter_append]
  have f1 : ∀ l : List UInt8, (∀ x ∈ l, x ≠ 255) → l.filter (· != 255) = l := fun l hl => bare_same hl
  rw [f1 _ (fun x hx => h.2 x (List.mem_of_mem_take hx)), f1 _ (fun x hx => h.2 x (List.mem_of_mem_drop hx))]
  simp
theorem bar_no (l : List UInt8) : ∀ x ∈ bar l, x ≠ 255 := by
  intro x hx
  have := (List.mem_filter.1 hx).2
  simpa using this
theorem list_str (l : List UInt8) : (str l).data.toList = l := by
  simp
theorem short_all (l : List UInt8) (h : (str (bar l)).size ≤ 23) : Short (str (bar l)) := ⟨h, by rw [list_str]; exact bar_no l⟩
theorem short_cut (l : List UInt8) : Short ((str (bar l)).extract 0 23) := by
  refine ⟨?_, ?_⟩
  · rw [← size_list, list_ext0, List.length_take]; omega
  · rw [list_ext0, list_str]
    exact fun x hx => bar_no l x (List.mem_of_mem_take hx)
theorem run_eql_str (t : TypeId) (a b : ByteArray) (c : Bool) (hb : a = b ↔ c = true) (W : World) : (binOp .eql t (.string a) (.string b)).run Try.prog W = .ok (.bool c) W := by
  have : (a.toList == b.toList) = c := by
    cases c with
    | true => rw [hb.2 rfl]; simp
    | false =>
      rw [beq_eq_false_iff_ne]
      intro e
      have e2 : a = b := by
        rw [ByteArray.toList_eq, ByteArray.toList_eq] at e
        exact ByteArray.ext (Array.toList_inj.1 e)
      exact absurd (hb.1 e2) (by decide)
  rw [← this]
  go_simp
end Go.Proofs.Ytnaaeooieljkmaa
