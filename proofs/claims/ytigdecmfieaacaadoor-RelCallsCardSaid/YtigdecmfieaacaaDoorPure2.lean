/-
  What the calls of package rel make, pair by pair. No program is named here.
-/
import Derived.Test.YtigdecmfieaacaaDoorPure
import Derived.Test.YtigdecmfieaacaaDoorRels2
namespace Go.Proofs.YtigdecmfieaacaaDoor
open Go

theorem map_getD {ws : List Nat} {f : Nat → Nat} (hf : f 0 = 0) (i : Nat) : (ws.map f).getD i 0 = f (ws.getD i 0) := by
  rw [List.getD_eq_getElem?_getD, List.getD_eq_getElem?_getD, List.getElem?_map]
  cases ws[i]? with
  | none => exact hf.symm
  | some x => rfl
theorem img_zero (rows : List Nat) : img rows 0 = 0 := by
  apply Nat.eq_of_testBit_eq
  intro j
  rw [Nat.zero_testBit]
  cases h : (img rows 0).testBit j with
  | false => rfl
  | true =>
    obtain ⟨k, hk, _⟩ := (img_bit rows 0 j (by decide)).1 h
    simp at hk
theorem map_img_bit {ws rows : List Nat} (hu : ∀ x ∈ ws, x < 18446744073709551616) (i j : Nat) : bt (ws.map (img rows)) i j = true ↔ ∃ k, bt ws i k = true ∧ bt rows k j = true := by
  unfold bt
  rw [map_getD (img_zero rows), img_bit _ _ _ (getD_u hu i)]
  rfl
theorem id_bit (N i j : Nat) : bt ((List.range N).map (2 ^ ·)) i j = true ↔ i = j ∧ i < N := by
  unfold bt
  rw [List.getD_eq_getElem?_getD, List.getElem?_map]
  rcases Nat.lt_or_ge i N with h | h
  · rw [List.getElem?_range h]
    simp [Nat.testBit_two_pow, h]
  · rw [List.getElem?_eq_none (by simpa using h)]
    simp; omega
theorem tcol_bit (rows : List Nat) (i j k : Nat) : (tcol rows i j).testBit k = (decide (k < i) && bt rows k j) := by
  induction i with
  | zero => simp [tcol]
  | succ i ih =>
    rw [tcol_succ]
    by_cases hk : k = i
    · subst hk
      have h0 : (tcol rows k j).testBit k = false := by rw [ih]; simp
      unfold bt
      split
      · rename_i h; rw [Nat.testBit_or, h0, Nat.testBit_two_pow_self, h]; simp
      · rename_i h; rw [h0]; simp at h; simp [h]
    · have h2 : (2 ^ i).testBit k = false := by rw [Nat.testBit_two_pow]; simp; omega
      have e : decide (k < i + 1) = decide (k < i) := by
        by_cases h : k < i
        · simp [h]; omega
        · simp [h]; omega
      rw [e, ← ih]
      split
      · rw [Nat.testBit_or, h2, Bool.or_false]
      · rfl
theorem turnR_bit {rows : List Nat} {N : Nat} (h : OKR N rows) (i j : Nat) : bt (turnR rows) i j = true ↔ bt rows j i = true := by
  have e : bt (turnR rows) i j = (decide (i < N) && (decide (j < N) && bt rows j i)) := by
    unfold bt turnR
    rw [List.getD_eq_getElem?_getD, List.getElem?_map, h.1]
    rcases Nat.lt_or_ge i N with hi | hi
    · rw [List.getElem?_range hi]
      simp only [Option.map_some, Option.getD_some, tcol_bit, hi, decide_true, Bool.true_and, bt]
    · rw [List.getElem?_eq_none (by simpa using hi)]
      simp; omega
  rw [e, Bool.and_eq_true, Bool.and_eq_true, decide_eq_true_iff, decide_eq_true_iff]
  exact ⟨fun h => h.2.2, fun hb => ⟨(bt_lt h hb).2, (bt_lt h hb).1, hb⟩⟩

/-- r is a relation of N things that may be, and relates i to j just if E says so. -/
def IsR (N : Nat) (E : Nat → Nat → Prop) (r : PR) : Prop := r.n = N ∧ N ≤ 64 ∧ OKR N r.rows ∧ ∀ i j, bt r.rows i j = true ↔ E i j
theorem IsR.ok {N : Nat} {E : Nat → Nat → Prop} {r : PR} (h : IsR N E r) : r.ok = true := by
  obtain ⟨h1, h2, h3, _⟩ := h
  exact (PR.ok_iff r).2 ⟨by rw [h3.1]; exact h1, by rw [h3.1]; exact h2, by rw [h3.1]; exact h3.2⟩
theorem IsR.of_ok {r : PR} (h : r.ok = true) : IsR r.rows.length (fun i j => bt r.rows i j = true) r := by
  obtain ⟨h1, h2, h3⟩ := (PR.ok_iff r).1 h
  exact ⟨h1, h2, ⟨rfl, h3⟩, fun _ _ => Iff.rfl⟩
theorem IsR.of_ok' {r : PR} {N : Nat} (h : r.ok = true) (hn : r.n = N) : IsR N (fun i j => bt r.rows i j = true) r := by
  have := IsR.of_ok h
  have e : r.rows.length = N := by have := this.1; omega
  rwa [e] at this
theorem IsR.lt {N : Nat} {E : Nat → Nat → Prop} {r : PR} (h : IsR N E r) {i j : Nat} (he : E i j) : i < N ∧ j < N := bt_lt h.2.2.1 ((h.2.2.2 i j).2 he)
theorem IsR.ext {N : Nat} {E F : Nat → Nat → Prop} {a b : PR} (ha : IsR N E a) (hb : IsR N F b) (h : ∀ i j, E i j ↔ F i j) : a = b := by
  obtain ⟨n, ra⟩ := a
  obtain ⟨m, rb⟩ := b
  obtain ⟨h1, _, h3, h4⟩ := ha
  obtain ⟨k1, _, k3, k4⟩ := hb
  have e1 : n = m := h1.trans k1.symm
  have e2 : ra = rb := rows_ext h3 k3 (fun i j _ _ => by rw [Bool.eq_iff_iff]; exact (h4 i j).trans ((h i j).trans (k4 i j).symm))
  rw [e1, e2]
theorem IsR.congr {N : Nat} {E F : Nat → Nat → Prop} {a : PR} (ha : IsR N E a) (h : ∀ i j, E i j ↔ F i j) : IsR N F a := ⟨ha.1, ha.2.1, ha.2.2.1, fun i j => (ha.2.2.2 i j).trans (h i j)⟩
theorem IsR.alike {N : Nat} {r0 : PR} {L : List PR} (h0 : ∃ E, IsR N E r0) (h : ∀ r ∈ L, ∃ E, IsR N E r) : Palike (r0 :: L) = true := by
  unfold Palike
  rw [List.all_eq_true]
  intro r hr
  obtain ⟨E0, k0⟩ := h0
  rcases List.mem_cons.1 hr with rfl | hr
  · rw [k0.ok]; simp
  · obtain ⟨E, k⟩ := h r hr
    rw [k.ok, Bool.true_and, decide_eq_true_iff, k.1, k0.1]
theorem IsR.alike2 {N : Nat} {E F : Nat → Nat → Prop} {a b : PR} (ha : IsR N E a) (hb : IsR N F b) : Palike [a, b] = true :=
  IsR.alike ⟨E, ha⟩ (fun r hr => by rw [List.mem_singleton.1 hr]; exact ⟨F, hb⟩)
theorem IsR.alike3 {N : Nat} {E F G : Nat → Nat → Prop} {a b c : PR} (ha : IsR N E a) (hb : IsR N F b) (hc : IsR N G c) : Palike [a, b, c] = true :=
  IsR.alike ⟨E, ha⟩ (fun r hr => by
    rcases List.mem_cons.1 hr with rfl | hr
    · exact ⟨F, hb⟩
    · rw [List.mem_singleton.1 hr]; exact ⟨G, hc⟩)
theorem IsR.same {N : Nat} {E F : Nat → Nat → Prop} {a b : PR} (ha : IsR N E a) (hb : IsR N F b) : Psame a b = true ↔ ∀ i j, E i j ↔ F i j := by
  unfold Psame
  rw [IsR.alike2 ha hb, Bool.true_and, decide_eq_true_iff]
  constructor
  · intro h i j
    rw [← ha.2.2.2, ← hb.2.2.2, h]
  · intro h
    exact congrArg PR.rows (IsR.ext ha hb h)
theorem IsR.or_ {N : Nat} {r0 : PR} {L : List PR} (h : Palike (r0 :: L) = true) (h0 : ∃ E, IsR N E r0) : IsR N (fun i j => ∃ r ∈ r0 :: L, bt r.rows i j = true) (Por (r0 :: L)) := by
  obtain ⟨E0, k1, k2, k3, k4⟩ := h0
  have hlt := alike_lt h
  have e : Por (r0 :: L) = ⟨N, (List.range N).map (PorF (r0 :: L))⟩ := by
    unfold Por; rw [if_pos h, List.headD_cons, k1, k3.1]
  rw [e]
  refine ⟨rfl, k2, ⟨by simp, fun x hx => ?_⟩, fun i j => ?_⟩
  · obtain ⟨i, _, rfl⟩ := List.mem_map.1 hx
    exact PorF_lt (fun r hr => by have := (hlt r hr).2; rwa [k3.1] at this) i
  · have hz : ∀ i, N ≤ i → PorF (r0 :: L) i = 0 := fun i hi => by
      have : ∀ (l : List PR), (∀ r ∈ l, r.rows.length = N) → l.foldl (fun acc r => acc ||| r.rows.getD i 0) 0 = 0 := by
        intro l
        induction l with
        | nil => intro _; rfl
        | cons r l ih =>
          intro hl
          rw [List.foldl_cons, List.getD_eq_getElem?_getD, List.getElem?_eq_none (by rw [hl r (by simp)]; exact hi)]
          exact ih (fun r hr => hl r (by simp [hr]))
      exact this _ (fun r hr => by rw [(hlt r hr).1, k3.1])
    have e2 : ((List.range N).map (PorF (r0 :: L))).getD i 0 = PorF (r0 :: L) i := by
      rw [List.getD_eq_getElem?_getD, List.getElem?_map]
      rcases Nat.lt_or_ge i N with hi | hi
      · rw [List.getElem?_range hi]; rfl
      · rw [List.getElem?_eq_none (by simpa using hi), hz i hi]; rfl
    unfold bt
    rw [e2, PorF, foldl_or_bit, Nat.zero_testBit, Bool.false_or, List.any_eq_true]
theorem IsR.or2 {N : Nat} {E F : Nat → Nat → Prop} {a b : PR} (ha : IsR N E a) (hb : IsR N F b) : IsR N (fun i j => E i j ∨ F i j) (Por [a, b]) :=
  (IsR.or_ (IsR.alike2 ha hb) ⟨E, ha⟩).congr fun i j => by
    simp only [List.mem_cons, List.not_mem_nil, or_false, exists_eq_or_imp, exists_eq_left, ha.2.2.2, hb.2.2.2]
theorem IsR.or3 {N : Nat} {E F G : Nat → Nat → Prop} {a b c : PR} (ha : IsR N E a) (hb : IsR N F b) (hc : IsR N G c) : IsR N (fun i j => E i j ∨ F i j ∨ G i j) (Por [a, b, c]) :=
  (IsR.or_ (IsR.alike3 ha hb hc) ⟨E, ha⟩).congr fun i j => by
    simp only [List.mem_cons, List.not_mem_nil, or_false, exists_eq_or_imp, exists_eq_left, ha.2.2.2, hb.2.2.2, hc.2.2.2]
theorem then_bits (N : Nat) (L : List PR) (r : PR) (h : ∀ x ∈ PthenF N L, x < 18446744073709551616) (i j : Nat) : bt (PthenF N (L ++ [r])) i j = true ↔ ∃ k, bt (PthenF N L) i k = true ∧ bt r.rows k j = true := by
  unfold PthenF at h ⊢
  rw [List.foldl_append, List.foldl_cons, List.foldl_nil, map_img_bit h]
theorem IsR.then_ {N : Nat} {r0 : PR} {L : List PR} (h : Palike (r0 :: L) = true) (h0 : ∃ E, IsR N E r0) : IsR N (fun i j => bt (PthenF N (r0 :: L)) i j = true) (Pthen (r0 :: L)) := by
  obtain ⟨E0, k1, k2, k3, k4⟩ := h0
  have hlt := alike_lt h
  have e : Pthen (r0 :: L) = ⟨N, PthenF N (r0 :: L)⟩ := by
    unfold Pthen; rw [if_pos h, List.headD_cons, k1, k3.1]
  rw [e]
  exact ⟨rfl, k2, ⟨PthenF_length _ _, PthenF_lt (fun r hr => by have := (hlt r hr).2; rwa [k3.1] at this)⟩, fun _ _ => Iff.rfl⟩
theorem then1_bits {N : Nat} {E : Nat → Nat → Prop} {a : PR} (ha : IsR N E a) (i j : Nat) : bt (PthenF N [a]) i j = true ↔ E i j := by
  rw [show [a] = [] ++ [a] from rfl, then_bits N [] a (fun x hx => by
    obtain ⟨k, hk, rfl⟩ := List.mem_map.1 hx
    exact pow_lt_64 k (by have := ha.2.1; simp at hk; omega))]
  constructor
  · rintro ⟨k, h1, h2⟩
    obtain ⟨rfl, _⟩ := (id_bit N i k).1 h1
    exact (ha.2.2.2 _ _).1 h2
  · intro h
    exact ⟨i, (id_bit N i i).2 ⟨rfl, (ha.lt h).1⟩, (ha.2.2.2 _ _).2 h⟩
theorem thenF_u {N : Nat} (hN : N ≤ 64) {L : List PR} (h : ∀ r ∈ L, ∃ E, IsR N E r) : ∀ x ∈ PthenF N L, x < 18446744073709551616 := fun x hx =>
  Nat.lt_of_lt_of_le (PthenF_lt (fun r hr => by
    obtain ⟨E, k⟩ := h r hr
    exact k.2.2.1.2) x hx) (pow_le_64 N hN)
theorem IsR.then1 {N : Nat} {E : Nat → Nat → Prop} {a : PR} (ha : IsR N E a) : IsR N E (Pthen [a]) :=
  (IsR.then_ (IsR.alike (L := []) ⟨E, ha⟩ (by simp)) ⟨E, ha⟩).congr (then1_bits ha)
theorem then2_bits {N : Nat} {E F : Nat → Nat → Prop} {a b : PR} (ha : IsR N E a) (hb : IsR N F b) (i j : Nat) : bt (PthenF N [a, b]) i j = true ↔ ∃ k, E i k ∧ F k j := by
  rw [show [a, b] = [a] ++ [b] from rfl, then_bits N [a] b (thenF_u ha.2.1 (fun r hr => by rw [List.mem_singleton.1 hr]; exact ⟨E, ha⟩))]
  simp only [then1_bits ha, hb.2.2.2]
theorem IsR.then2 {N : Nat} {E F : Nat → Nat → Prop} {a b : PR} (ha : IsR N E a) (hb : IsR N F b) : IsR N (fun i j => ∃ k, E i k ∧ F k j) (Pthen [a, b]) :=
  (IsR.then_ (IsR.alike2 ha hb) ⟨E, ha⟩).congr (then2_bits ha hb)
theorem IsR.then3 {N : Nat} {E F G : Nat → Nat → Prop} {a b c : PR} (ha : IsR N E a) (hb : IsR N F b) (hc : IsR N G c) : IsR N (fun i j => ∃ l, (∃ k, E i k ∧ F k l) ∧ G l j) (Pthen [a, b, c]) :=
  (IsR.then_ (IsR.alike3 ha hb hc) ⟨E, ha⟩).congr fun i j => by
    rw [show [a, b, c] = [a, b] ++ [c] from rfl, then_bits N [a, b] c (thenF_u ha.2.1 (fun r hr => by
      rcases List.mem_cons.1 hr with rfl | hr
      · exact ⟨E, ha⟩
      · rw [List.mem_singleton.1 hr]; exact ⟨F, hb⟩))]
    simp only [then2_bits ha hb, hc.2.2.2]
theorem IsR.turn {N : Nat} {E : Nat → Nat → Prop} {a : PR} (ha : IsR N E a) : IsR N (fun i j => E j i) (Pturn a) := by
  unfold Pturn
  rw [if_pos ha.ok]
  refine ⟨ha.1, ha.2.1, ⟨(turnR_length _).trans ha.2.2.1.1, fun x hx => ?_⟩, fun i j => (turnR_bit ha.2.2.1 i j).trans (ha.2.2.2 j i)⟩
  obtain ⟨j, _, rfl⟩ := List.mem_map.1 hx
  have := tcol_lt a.rows a.rows.length j
  rwa [ha.2.2.1.1] at this ⊢
theorem IsR.self {N : Nat} (h : N ≤ 64) : IsR N (fun i j => i = j ∧ i < N) (Pself N) := by
  have e : Pself (N : Int) = ⟨N, (List.range N).map (2 ^ ·)⟩ := by
    unfold Pself; rw [if_pos ⟨by omega, by omega⟩]; rfl
  rw [e]
  refine ⟨rfl, h, ⟨by simp, fun x hx => ?_⟩, id_bit N⟩
  obtain ⟨i, hi, rfl⟩ := List.mem_map.1 hx
  exact Nat.pow_lt_pow_right (by decide) (by simpa using hi)
theorem none_bit (N i j : Nat) : bt (List.replicate N 0) i j = false := by
  unfold bt
  rw [List.getD_eq_getElem?_getD]
  cases e : (List.replicate N 0)[i]? with
  | none => simp
  | some x =>
    rw [(List.mem_replicate.1 (List.mem_of_getElem? e)).2]; simp
theorem IsR.none {N : Nat} (h : N ≤ 64) : IsR N (fun _ _ => False) (Pnone N) := by
  have e : Pnone (N : Int) = ⟨N, List.replicate N 0⟩ := by
    unfold Pnone; rw [if_pos ⟨by omega, by omega⟩]; rfl
  rw [e]
  refine ⟨rfl, h, ⟨by simp, fun x hx => by rw [(List.mem_replicate.1 hx).2]; exact Nat.two_pow_pos N⟩, fun i j => by simp only [none_bit]; simp⟩
theorem IsR.plus {N : Nat} {E : Nat → Nat → Prop} {a : PR} (ha : IsR N E a) : ∃ T : Nat → Nat → Prop, IsR N T (Pplus a) ∧ (∀ i j, E i j → T i j) ∧ (∀ i k j, T i k → T k j → T i j) ∧ (∀ S : Nat → Nat → Prop, (∀ i k j, S i k → S k j → S i j) → (∀ i j, E i j → S i j) → ∀ i j, T i j → S i j) := by
  have e : Pplus a = ⟨N, plusL a.rows⟩ := by unfold Pplus; rw [if_pos ha.ok, ha.1]
  rw [e]
  have hR := ha.2.2.1
  refine ⟨fun i j => bt (plusL a.rows) i j = true, ⟨rfl, ha.2.1, plusL_ok hR, fun _ _ => Iff.rfl⟩, fun i j h => plusL_has ((ha.2.2.2 i j).2 h), fun i k j => plusL_trans hR, fun S hS hE i j => plusL_least S hS (fun i j h => hE i j ((ha.2.2.2 i j).1 h))⟩
theorem IsR.and2 {N : Nat} {E F : Nat → Nat → Prop} {a b : PR} (ha : IsR N E a) (hb : IsR N F b) : IsR N (fun i j => E i j ∧ F i j) (Pand a b) := by
  have e : Pand a b = ⟨N, (List.range N).map fun i => a.rows.getD i 0 &&& b.rows.getD i 0⟩ := by
    unfold Pand; rw [if_pos (IsR.alike2 ha hb), ha.1, ha.2.2.1.1]
  rw [e]
  refine ⟨rfl, ha.2.1, ⟨by simp, fun x hx => ?_⟩, fun i j => ?_⟩
  · obtain ⟨i, _, rfl⟩ := List.mem_map.1 hx
    exact Nat.lt_of_le_of_lt Nat.and_le_left (getD_lt ha.2.2.1 i)
  · refine Iff.trans ?_ (and_congr (ha.2.2.2 i j) (hb.2.2.2 i j))
    show bt ((List.range N).map fun i => a.rows.getD i 0 &&& b.rows.getD i 0) i j = true ↔ _
    have e2 : ((List.range N).map fun i => a.rows.getD i 0 &&& b.rows.getD i 0).getD i 0 = a.rows.getD i 0 &&& b.rows.getD i 0 := by
      rw [List.getD_eq_getElem?_getD, List.getElem?_map]
      rcases Nat.lt_or_ge i N with hi | hi
      · rw [List.getElem?_range hi]; rfl
      · rw [List.getElem?_eq_none (by simpa using hi), List.getD_eq_getElem?_getD, List.getElem?_eq_none (by rw [ha.2.2.1.1]; exact hi)]; simp
    unfold bt
    rw [e2, Nat.testBit_and, Bool.and_eq_true]
end Go.Proofs.YtigdecmfieaacaaDoor
