/-
  Rows as bits: images and closures. No program is named here.
-/
import Derived.Test.YtigdecmfieaacaaDoorRels
namespace Go.Proofs.YtigdecmfieaacaaDoor
open Go

/-- Is thing i related to thing j? -/
def bt (rows : List Nat) (i j : Nat) : Bool := (rows.getD i 0).testBit j
/-- Rows that may be: their number is N, each has bits of things alone. -/
def OKR (N : Nat) (rows : List Nat) : Prop := rows.length = N ∧ ∀ x ∈ rows, x < 2 ^ N
theorem getD_lt {rows : List Nat} {N : Nat} (h : OKR N rows) (i : Nat) : rows.getD i 0 < 2 ^ N := by
  rw [List.getD_eq_getElem?_getD]
  cases e : rows[i]? with
  | none => exact Nat.two_pow_pos N
  | some x => exact h.2 x (List.mem_of_getElem? e)
theorem bt_lt {rows : List Nat} {N i j : Nat} (h : OKR N rows) (hb : bt rows i j = true) : i < N ∧ j < N := by
  constructor
  · rcases Nat.lt_or_ge i N with hi | hi
    · exact hi
    · rw [bt, List.getD_eq_getElem?_getD, List.getElem?_eq_none (by rw [h.1]; exact hi)] at hb
      simp at hb
  · rcases Nat.lt_or_ge j N with hj | hj
    · exact hj
    · rw [bt, Nat.testBit_lt_two_pow (Nat.lt_of_lt_of_le (getD_lt h i) (Nat.pow_le_pow_right (by decide) hj))] at hb
      cases hb
/-- Rows with the same bits are the same. -/
theorem rows_ext {a b : List Nat} {N : Nat} (ha : OKR N a) (hb : OKR N b) (h : ∀ i j, i < N → j < N → bt a i j = bt b i j) : a = b := by
  apply List.ext_getElem (by rw [ha.1, hb.1])
  intro i h1 h2
  have hi : i < N := by rw [← ha.1]; exact h1
  apply Nat.eq_of_testBit_eq
  intro j
  rcases Nat.lt_or_ge j N with hj | hj
  · have := h i j hi hj
    simpa [bt, List.getD_eq_getElem?_getD, h1, h2] using this
  · rw [Nat.testBit_lt_two_pow (Nat.lt_of_lt_of_le (ha.2 _ (List.getElem_mem h1)) (Nat.pow_le_pow_right (by decide) hj)),
      Nat.testBit_lt_two_pow (Nat.lt_of_lt_of_le (hb.2 _ (List.getElem_mem h2)) (Nat.pow_le_pow_right (by decide) hj))]

theorem foldl_or_bit {α : Type} (l : List α) (f : α → Nat) (a j : Nat) : (l.foldl (fun acc x => acc ||| f x) a).testBit j = (a.testBit j || l.any fun x => (f x).testBit j) := by
  induction l generalizing a with
  | nil => simp
  | cons x l ih => rw [List.foldl_cons, ih, Nat.testBit_or, List.any_cons, Bool.or_assoc]
theorem img_bit (rows : List Nat) (m j : Nat) (hm : m < 18446744073709551616) : (img rows m).testBit j = true ↔ ∃ k, m.testBit k = true ∧ bt rows k j = true := by
  rw [img, foldl_or_bit, Nat.zero_testBit, Bool.false_or, List.any_eq_true]
  constructor
  · rintro ⟨x, _, hx⟩
    exact ⟨x.1, x.2.1, hx⟩
  · rintro ⟨k, hk, hx⟩
    have h64 : k < 64 := by
      rcases Nat.lt_or_ge k 64 with h | h
      · exact h
      · rw [Nat.testBit_lt_two_pow (Nat.lt_of_lt_of_le hm (Nat.pow_le_pow_right (n := 2) (by decide) h))] at hk; cases hk
    exact ⟨⟨k, hk, h64⟩, mem_bitsOf k ⟨hk, h64⟩, hx⟩
theorem all_bit (m N j : Nat) : (m &&& (2 ^ N - 1)).testBit j = true ↔ m.testBit j = true ∧ j < N := by
  rw [Nat.testBit_and, Nat.testBit_two_pow_sub_one, Bool.and_eq_true, decide_eq_true_iff]

/-- One round of the closure, as bits. -/
theorem wk_bit (ws : List Nat) (k i j : Nat) : bt (wk ws k) i j = (bt ws i j || (bt ws i k && bt ws k j)) := by
  have e : (wk ws k).getD i 0 = wkF ws k (ws.getD i 0) := by
    rw [List.getD_eq_getElem?_getD, List.getD_eq_getElem?_getD, wk, List.getElem?_map]
    cases ws[i]? with
    | none => simp [wkF]
    | some x => rfl
  unfold bt
  rw [e, wkF]
  cases h : (ws.getD i 0).testBit k with
  | true => rw [if_pos rfl, Nat.testBit_or, Bool.true_and]
  | false => rw [if_neg (by simp), Bool.false_and, Bool.or_false]
theorem wks_trans (rows : List Nat) (m i k j : Nat) (hk : k < m) (h1 : bt (wks rows m) i k = true) (h2 : bt (wks rows m) k j = true) : bt (wks rows m) i j = true := by
  induction m generalizing i k j with
  | zero => omega
  | succ m ih =>
    rw [wks_succ, wk_bit, Bool.or_eq_true, Bool.and_eq_true] at h1 h2 ⊢
    by_cases e : k = m
    · subst e
      refine .inr ⟨?_, ?_⟩
      · rcases h1 with h | h
        · exact h
        · exact h.1
      · rcases h2 with h | h
        · exact h
        · exact h.2
    · have hkm : k < m := by omega
      rcases h1 with h1 | ⟨h1, h1'⟩ <;> rcases h2 with h2 | ⟨h2, h2'⟩
      · exact .inl (ih _ _ _ hkm h1 h2)
      · exact .inr ⟨ih _ _ _ hkm h1 h2, h2'⟩
      · exact .inr ⟨h1, ih _ _ _ hkm h1' h2⟩
      · exact .inr ⟨h1, h2'⟩
theorem wks_has (rows : List Nat) (m i j : Nat) (h : bt rows i j = true) : bt (wks rows m) i j = true := by
  induction m with
  | zero => exact h
  | succ m ih => rw [wks_succ, wk_bit, ih, Bool.true_or]
theorem wks_least (rows : List Nat) (T : Nat → Nat → Prop) (hT : ∀ i k j, T i k → T k j → T i j) (hR : ∀ i j, bt rows i j = true → T i j) (m i j : Nat) (h : bt (wks rows m) i j = true) : T i j := by
  induction m generalizing i j with
  | zero => exact hR i j h
  | succ m ih =>
    rw [wks_succ, wk_bit, Bool.or_eq_true, Bool.and_eq_true] at h
    rcases h with h | ⟨h1, h2⟩
    · exact ih i j h
    · exact hT i m j (ih i m h1) (ih m j h2)
theorem plusL_ok {rows : List Nat} {N : Nat} (h : OKR N rows) : OKR N (plusL rows) := ⟨(wks_length rows _).trans h.1, wks_lt h.2 _⟩
theorem plusL_has {rows : List Nat} {i j : Nat} (h : bt rows i j = true) : bt (plusL rows) i j = true := wks_has rows _ i j h
theorem plusL_trans {rows : List Nat} {N i k j : Nat} (h : OKR N rows) (h1 : bt (plusL rows) i k = true) (h2 : bt (plusL rows) k j = true) : bt (plusL rows) i j = true :=
  wks_trans rows rows.length i k j (by rw [h.1]; exact (bt_lt (plusL_ok h) h1).2) h1 h2
theorem plusL_least {rows : List Nat} (T : Nat → Nat → Prop) (hT : ∀ i k j, T i k → T k j → T i j) (hR : ∀ i j, bt rows i j = true → T i j) {i j : Nat} (h : bt (plusL rows) i j = true) : T i j :=
  wks_least rows T hT hR _ i j h
/-- Nothing of a lies outside b just if each bit of a is one of b's. -/
theorem sub_bits (a b : Nat) (ha : a < 18446744073709551616) (hb : b < 18446744073709551616) : a &&& (18446744073709551615 - b) = 0 ↔ ∀ j, a.testBit j = true → b.testBit j = true := by
  have key : ∀ i, (18446744073709551615 - b).testBit i = (decide (i < 64) && !b.testBit i) := by
    intro i
    have := Nat.testBit_two_pow_sub_succ (n := 64) (x := b) (i := i) (by
      have : (2 : Nat) ^ 64 = 18446744073709551616 := by decide
      omega)
    rwa [show (2 : Nat) ^ 64 - (b + 1) = 18446744073709551615 - b from by
      have : (2 : Nat) ^ 64 = 18446744073709551616 := by decide
      omega] at this
  have a64 : ∀ j, a.testBit j = true → j < 64 := fun j hj => by
    rcases Nat.lt_or_ge j 64 with h | h
    · exact h
    · rw [Nat.testBit_lt_two_pow (Nat.lt_of_lt_of_le ha (Nat.pow_le_pow_right (n := 2) (by decide) h))] at hj; cases hj
  constructor
  · intro h j hj
    have := congrArg (fun x => x.testBit j) h
    simp only [Nat.testBit_and, key, Nat.zero_testBit, hj, a64 j hj, decide_true, Bool.true_and] at this
    simpa using this
  · intro h
    apply Nat.eq_of_testBit_eq
    intro j
    simp only [Nat.testBit_and, key, Nat.zero_testBit]
    cases hj : a.testBit j with
    | false => rfl
    | true => rw [h j hj]; simp
theorem sub_yes {a b : Nat} (ha : a < 18446744073709551616) (hb : b < 18446744073709551616) (h : ∀ j, a.testBit j = true → b.testBit j = true) : (bits .andNot .u64 (a : Int) (b : Int) != 0) = false := by
  rw [u64_andNot_nat _ _ ha hb, (sub_bits a b ha hb).2 h]; rfl
theorem sub_eq {a b : Nat} (ha : a < 18446744073709551616) (hb : b < 18446744073709551616) (h : ∀ j, a.testBit j = true → b.testBit j = true) : (bits .andNot .u64 (a : Int) (b : Int) == 0) = true := by
  rw [u64_andNot_nat _ _ ha hb, (sub_bits a b ha hb).2 h]; rfl
theorem sub_of {a b : Nat} (ha : a < 18446744073709551616) (hb : b < 18446744073709551616) (h : (bits .andNot .u64 (a : Int) (b : Int) != 0) = false) : ∀ j, a.testBit j = true → b.testBit j = true := by
  rw [u64_andNot_nat _ _ ha hb] at h
  exact (sub_bits a b ha hb).1 (by simpa using h)

/-- What comes of some things by the closure has what the relation leads to from them, goes on to what it leads to, and lies in whatever does both. -/
theorem reach_has {rows : List Nat} {f j : Nat} (hf : f < 18446744073709551616) (h : (img rows f).testBit j = true) : (img (plusL rows) f).testBit j = true := by
  rw [img_bit _ _ _ hf] at h ⊢
  obtain ⟨k, h1, h2⟩ := h
  exact ⟨k, h1, plusL_has h2⟩
theorem reach_on {rows : List Nat} {N f j : Nat} (hN : N ≤ 64) (ho : OKR N rows) (hf : f < 18446744073709551616) (h : (img rows (img (plusL rows) f &&& (2 ^ N - 1))).testBit j = true) : (img (plusL rows) f).testBit j = true := by
  have hs : img (plusL rows) f < 2 ^ N := img_lt (plusL_ok ho).2 f
  have hs2 : img (plusL rows) f &&& (2 ^ N - 1) < 18446744073709551616 := Nat.lt_of_le_of_lt Nat.and_le_left (Nat.lt_of_lt_of_le hs (pow_le_64 N hN))
  rw [img_bit _ _ _ hs2] at h
  obtain ⟨k, h1, h2⟩ := h
  rw [all_bit, img_bit _ _ _ hf] at h1
  obtain ⟨⟨i, h3, h4⟩, _⟩ := h1
  rw [img_bit _ _ _ hf]
  exact ⟨i, h3, plusL_trans ho h4 (plusL_has h2)⟩
theorem reach_least {rows : List Nat} {N f x : Nat} (ho : OKR N rows) (hf : f < 18446744073709551616) (hx : x < 18446744073709551616) (h1 : ∀ j, (img rows f).testBit j = true → x.testBit j = true)
    (h2 : ∀ j, (img rows (x &&& (2 ^ N - 1))).testBit j = true → x.testBit j = true) (j : Nat) (h : (img (plusL rows) f).testBit j = true) : x.testBit j = true := by
  rw [img_bit _ _ _ hf] at h
  obtain ⟨i, h3, h4⟩ := h
  have hxx : x &&& (2 ^ N - 1) < 18446744073709551616 := Nat.lt_of_le_of_lt Nat.and_le_left hx
  have := plusL_least (rows := rows) (fun i j => (f.testBit i = true → x.testBit j = true) ∧ (x.testBit i = true → x.testBit j = true)) (fun i k j a b => ⟨fun h => b.2 (a.1 h), fun h => b.2 (a.2 h)⟩)
    (fun i j hb => ⟨fun h => h1 j ((img_bit _ _ _ hf).2 ⟨i, h, hb⟩), fun h => h2 j ((img_bit _ _ _ hxx).2 ⟨i, (all_bit _ _ _).2 ⟨h, (bt_lt ho hb).1⟩, hb⟩)⟩) h4
  exact this.1 h3
end Go.Proofs.YtigdecmfieaacaaDoor
