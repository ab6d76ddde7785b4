/-
  HashBlock tells unlike blocks apart; 32 bytes and the digest that they are; short texts.
-/
import Derived.Test.YtnfnhgloblfgnaaJoinB14
namespace Go.Proofs.Ytnfnhgloblfgnaa
open Go

theorem Qd.ext' {p q : Qd} (h1 : p.a = q.a) (h2 : p.b = q.b) (h3 : p.c = q.c) (h4 : p.d = q.d) : p = q := by
  cases p; cases q; simp_all

theorem or_low (a b i : Nat) (h : b < 2 ^ i) : (a * 2 ^ i) ||| b = a * 2 ^ i + b := by
  rw [← Nat.shiftLeft_eq, Nat.shiftLeft_add_eq_or_of_lt h]

theorem rl39_nat (x : UInt64) : (rl39 x).toNat = (x.toNat % 33554432) * 549755813888 + x.toNat / 33554432 := by
  have hx := tn_lt x
  unfold rl39
  rw [UInt64.toNat_or, UInt64.toNat_shiftLeft, UInt64.toNat_shiftRight]
  have e1 : (39 : UInt64).toNat % 64 = 39 := rfl
  have e2 : (25 : UInt64).toNat % 64 = 25 := rfl
  rw [e1, e2, Nat.shiftLeft_eq, Nat.shiftRight_eq_div_pow]
  have e3 : x.toNat * 2 ^ 39 % 2 ^ 64 = (x.toNat % 33554432) * 2 ^ 39 := by omega
  rw [e3, or_low _ _ 39 (by omega)]
theorem rl21_nat (x : UInt64) : (rl21 x).toNat = (x.toNat % 8796093022208) * 2097152 + x.toNat / 8796093022208 := by
  have hx := tn_lt x
  unfold rl21
  rw [UInt64.toNat_or, UInt64.toNat_shiftLeft, UInt64.toNat_shiftRight]
  have e1 : (21 : UInt64).toNat % 64 = 21 := rfl
  have e2 : (43 : UInt64).toNat % 64 = 43 := rfl
  rw [e1, e2, Nat.shiftLeft_eq, Nat.shiftRight_eq_div_pow]
  have e3 : x.toNat * 2 ^ 21 % 2 ^ 64 = (x.toNat % 8796093022208) * 2 ^ 21 := by omega
  rw [e3, or_low _ _ 21 (by omega)]
theorem rl39_inj {x y : UInt64} (h : rl39 x = rl39 y) : x = y := by
  have h1 := congrArg UInt64.toNat h
  rw [rl39_nat, rl39_nat] at h1
  have hx := tn_lt x
  have hy := tn_lt y
  exact UInt64.toNat.inj (by omega)
theorem rl21_inj {x y : UInt64} (h : rl21 x = rl21 y) : x = y := by
  have h1 := congrArg UInt64.toNat h
  rw [rl21_nat, rl21_nat] at h1
  have hx := tn_lt x
  have hy := tn_lt y
  exact UInt64.toNat.inj (by omega)
theorem xor_left {x y z : UInt64} (h : x ^^^ y = x ^^^ z) : y = z := by
  have := congrArg (x ^^^ ·) h
  simpa [← UInt64.xor_assoc] using this
theorem xor_right {x y z : UInt64} (h : y ^^^ x = z ^^^ x) : y = z := by
  rw [UInt64.xor_comm y, UInt64.xor_comm z] at h
  exact xor_left h
theorem rnd_inj {k : UInt64} {p q : Qd} (h : rnd k p = rnd k q) : p = q := by
  obtain ⟨a, b, c, d⟩ := p
  obtain ⟨a', b', c', d'⟩ := q
  simp only [rnd, Qd.mk.injEq] at h
  obtain ⟨h1, h2, h3, h4⟩ := h
  rw [h4] at h3
  have hd : d = d' := xor_right (rl39_inj h3)
  subst hd
  rw [h4] at h2
  have hc : c = c' := by
    have := congrArg (· - rl39 (d ^^^ (a' + (b' + k)))) h2
    simpa using this
  subst hc
  rw [h4] at h1
  have hb : b = b' := xor_right (rl21_inj h1)
  subst hb
  have ha : a = a' := by
    have := congrArg (· - (b + k)) h4
    simpa using this
  subst ha
  rfl
theorem it_inj (n : Nat) : ∀ {p q : Qd}, it n p = it n q → p = q := by
  induction n with
  | zero => intro p q h; exact h
  | succ n ih => intro p q h; exact ih (rnd_inj h)
theorem xq_left {s p q : Qd} (h : xq s p = xq s q) : p = q := by
  simp only [xq, Qd.mk.injEq] at h
  exact Qd.ext' (xor_left h.1) (xor_left h.2.1) (xor_left h.2.2.1) (xor_left h.2.2.2)
theorem xq_right {s p q : Qd} (h : xq p s = xq q s) : p = q := by
  simp only [xq, Qd.mk.injEq] at h
  exact Qd.ext' (xor_right h.1) (xor_right h.2.1) (xor_right h.2.2.1) (xor_right h.2.2.2)
/-- One state, unlike blocks: unlike digests. -/
theorem HB_inj {s p q : Qd} (h : HB s p = HB s q) : p = q := xq_left (it_inj 10 (xq_right h))

/-! 32 bytes and a digest. -/
theorem bstep_nat (acc : UInt64) (x : UInt8) : (bstep acc x).toNat = acc.toNat % 72057594037927936 * 256 + x.toNat := by
  have ha := tn_lt acc
  have hx := u8_lt x
  unfold bstep
  rw [UInt64.toNat_or, UInt64.toNat_shiftLeft, UInt8.toNat_toUInt64]
  have e1 : (8 : UInt64).toNat % 64 = 8 := rfl
  rw [e1, Nat.shiftLeft_eq]
  have e3 : acc.toNat * 2 ^ 8 % 2 ^ 64 = (acc.toNat % 72057594037927936) * 2 ^ 8 := by omega
  rw [e3, or_low _ _ 8 (by omega)]
theorem bw8_nat (x0 x1 x2 x3 x4 x5 x6 x7 : UInt8) : (bw [x0, x1, x2, x3, x4, x5, x6, x7]).toNat =
    x0.toNat * 72057594037927936 + x1.toNat * 281474976710656 + x2.toNat * 1099511627776 + x3.toNat * 4294967296 + x4.toNat * 16777216 + x5.toNat * 65536 + x6.toNat * 256 + x7.toNat := by
  have h0 := u8_lt x0
  have h1 := u8_lt x1
  have h2 := u8_lt x2
  have h3 := u8_lt x3
  have h4 := u8_lt x4
  have h5 := u8_lt x5
  have h6 := u8_lt x6
  have h7 := u8_lt x7
  have z : (0 : UInt64).toNat = 0 := rfl
  simp only [bw, List.foldl_cons, List.foldl_nil, bstep_nat, z]
  omega
theorem n56 (x : UInt64) : (by8 x 56).toNat = x.toNat / 72057594037927936 % 256 := by have h := v56 x; omega
theorem n48 (x : UInt64) : (by8 x 48).toNat = x.toNat / 281474976710656 % 256 := by have h := v48 x; omega
theorem n40 (x : UInt64) : (by8 x 40).toNat = x.toNat / 1099511627776 % 256 := by have h := v40 x; omega
theorem n32 (x : UInt64) : (by8 x 32).toNat = x.toNat / 4294967296 % 256 := by have h := v32 x; omega
theorem n24 (x : UInt64) : (by8 x 24).toNat = x.toNat / 16777216 % 256 := by have h := v24 x; omega
theorem n16 (x : UInt64) : (by8 x 16).toNat = x.toNat / 65536 % 256 := by have h := v16 x; omega
theorem n8 (x : UInt64) : (by8 x 8).toNat = x.toNat / 256 % 256 := by have h := v8 x; omega
theorem n0 (x : UInt64) : (by8 x 0).toNat = x.toNat % 256 := by have h := v0 x; omega
theorem wb_bw (x0 x1 x2 x3 x4 x5 x6 x7 : UInt8) : wb (bw [x0, x1, x2, x3, x4, x5, x6, x7]) = [x0, x1, x2, x3, x4, x5, x6, x7] := by
  have h0 := u8_lt x0
  have h1 := u8_lt x1
  have h2 := u8_lt x2
  have h3 := u8_lt x3
  have h4 := u8_lt x4
  have h5 := u8_lt x5
  have h6 := u8_lt x6
  have h7 := u8_lt x7
  obtain ⟨y, hy⟩ : ∃ y, y = bw [x0, x1, x2, x3, x4, x5, x6, x7] := ⟨_, rfl⟩
  have e := bw8_nat x0 x1 x2 x3 x4 x5 x6 x7
  rw [← hy] at e
  rw [← hy]
  clear hy
  have k56 : by8 y 56 = x0 := UInt8.toNat.inj (by rw [n56]; omega)
  have k48 : by8 y 48 = x1 := UInt8.toNat.inj (by rw [n48]; omega)
  have k40 : by8 y 40 = x2 := UInt8.toNat.inj (by rw [n40]; omega)
  have k32 : by8 y 32 = x3 := UInt8.toNat.inj (by rw [n32]; omega)
  have k24 : by8 y 24 = x4 := UInt8.toNat.inj (by rw [n24]; omega)
  have k16 : by8 y 16 = x5 := UInt8.toNat.inj (by rw [n16]; omega)
  have k8 : by8 y 8 = x6 := UInt8.toNat.inj (by rw [n8]; omega)
  have k0 : by8 y 0 = x7 := UInt8.toNat.inj (by rw [n0]; omega)
  unfold wb
  rw [k56, k48, k40, k32, k24, k16, k8, k0]
theorem bw_wb (x : UInt64) : bw (wb x) = x := by
  have hx := tn_lt x
  have e := bw8_nat (by8 x 56) (by8 x 48) (by8 x 40) (by8 x 32) (by8 x 24) (by8 x 16) (by8 x 8) (by8 x 0)
  rw [n56, n48, n40, n32, n24, n16, n8, n0] at e
  exact UInt64.toNat.inj (e.trans (by omega))
theorem list8 (l : List UInt8) (h : l.length = 8) : ∃ x0 x1 x2 x3 x4 x5 x6 x7 : UInt8, l = [x0, x1, x2, x3, x4, x5, x6, x7] := by
  match l, h with
  | [x0, x1, x2, x3, x4, x5, x6, x7], _ => exact ⟨x0, x1, x2, x3, x4, x5, x6, x7, rfl⟩
theorem wb_bw_list (l : List UInt8) (h : l.length = 8) : wb (bw l) = l := by
  obtain ⟨x0, x1, x2, x3, x4, x5, x6, x7, rfl⟩ := list8 l h
  exact wb_bw ..
theorem db_bd (l : List UInt8) (h : l.length = 32) : db (bd l) = l := by
  simp only [db, bd]
  rw [wb_bw_list _ (by simp [h]), wb_bw_list _ (by simp [h]), wb_bw_list _ (by simp [h]), wb_bw_list _ (by simp [h])]
  have e4 : (l.drop 24).take 8 = l.drop 24 := List.take_of_length_le (by simp [h])
  have e3 : (l.drop 16).take 8 ++ l.drop 24 = l.drop 16 := by
    have := List.take_append_drop 8 (l.drop 16)
    rwa [List.drop_drop] at this
  have e2 : (l.drop 8).take 8 ++ l.drop 16 = l.drop 8 := by
    have := List.take_append_drop 8 (l.drop 8)
    rwa [List.drop_drop] at this
  rw [e4, e3, e2, List.take_append_drop]
theorem bd_db (q : Qd) : bd (db q) = q := by
  have hl : ∀ x : UInt64, (wb x).length = 8 := fun _ => rfl
  refine Qd.ext' ?_ ?_ ?_ ?_
  · exact bw_wb q.a
  · exact bw_wb q.b
  · exact bw_wb q.c
  · exact bw_wb q.d
theorem bd_inj {k l : List UInt8} (hk : k.length = 32) (hl : l.length = 32) (h : bd k = bd l) : k = l := by
  rw [← db_bd k hk, ← db_bd l hl, h]

/-! Short texts. -/
def last23 (t : List UInt8) : List UInt8 := t ++ ([128] ++ (List.replicate (23 - t.length) 0 ++ wb (UInt64.ofNat t.length)))
theorem hashOf_23 (t : List UInt8) (h : t.length ≤ 23) : hashOf t = HB H0 (bd (last23 t)) := by
  have e := hashOf_short t 0 t.length (by omega) (by omega) h
  simpa [blocks, last23] using e
theorem last23_len (t : List UInt8) (h : t.length ≤ 23) : (last23 t).length = 32 := by
  simp [last23, wb_len]; omega
theorem hashOf_inj {t u : List UInt8} (ht : t.length ≤ 23) (hu : u.length ≤ 23) (h : hashOf t = hashOf u) : t = u := by
  rw [hashOf_23 t ht, hashOf_23 u hu] at h
  have e := bd_inj (last23_len t ht) (last23_len u hu) (HB_inj h)
  have d : ∀ v : List UInt8, v.length ≤ 23 → (last23 v).drop 24 = wb (UInt64.ofNat v.length) := fun v hv => by
    have e1 : last23 v = (v ++ ([128] ++ List.replicate (23 - v.length) 0)) ++ wb (UInt64.ofNat v.length) := by simp [last23]
    rw [e1, List.drop_append, List.drop_of_length_le (by simp; omega)]
    have : 24 - (v ++ ([128] ++ List.replicate (23 - v.length) (0 : UInt8))).length = 0 := by simp; omega
    rw [this]; rfl
  have hw : wb (UInt64.ofNat t.length) = wb (UInt64.ofNat u.length) := by rw [← d t ht, ← d u hu, e]
  have hn : UInt64.ofNat t.length = UInt64.ofNat u.length := by rw [← bw_wb (UInt64.ofNat t.length), hw, bw_wb]
  have hlen : t.length = u.length := by
    have := congrArg UInt64.toNat hn
    rw [UInt64.toNat_ofNat', UInt64.toNat_ofNat'] at this
    omega
  have h1 : (last23 t).take t.length = t := by simp [last23]
  have h2 : (last23 u).take u.length = u := by simp [last23]
  rw [← h1, ← h2, e, hlen]
end Go.Proofs.Ytnfnhgloblfgnaa
