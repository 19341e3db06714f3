/-
  What Sort lists, thing by thing. No program is named here.
-/
import Derived.Test.YtigdecmfieaacaaDoorPure2
namespace Go.Proofs.YtigdecmfieaacaaDoor
open Go

theorem firstR_pos {back : List Nat} {m k : Nat} (h : firstR back m = (k : Int)) : m.testBit k = true ∧ k < 64 ∧ back.getD k 0 &&& m = 0 := by
  unfold firstR at h
  cases e : (bitsOf m).find? (fun i => freeB back m i.1) with
  | none => rw [e] at h; simp only at h; omega
  | some x =>
    rw [e] at h
    have hx := List.find?_some e
    simp only at h
    have hk : x.1 = k := by omega
    subst hk
    exact ⟨x.2.1, x.2.2, by simpa [freeB] using hx⟩
theorem firstR_neg {back : List Nat} {m : Nat} (h : firstR back m = -1) (i : Nat) (hi : m.testBit i = true) (h64 : i < 64) : back.getD i 0 &&& m ≠ 0 := by
  unfold firstR at h
  cases e : (bitsOf m).find? (fun i => freeB back m i.1) with
  | none =>
    have := List.find?_eq_none.1 e ⟨i, hi, h64⟩ (mem_bitsOf i ⟨hi, h64⟩)
    simpa [freeB] using this
  | some x => rw [e] at h; simp only at h; omega
/-- s goes through the things of m, each ahead of those that it is related to. -/
def Topo (back : List Nat) : Nat → List Nat → Prop
  | m, [] => m = 0
  | m, x :: s => m.testBit x = true ∧ x < 64 ∧ back.getD x 0 &&& m = 0 ∧ Topo back (clr m x) s
def castI (s : List Nat) : List Int := s.map Int.ofNat
theorem clr_u {m : Nat} (hm : m < 18446744073709551616) (i : Nat) : clr m i < 18446744073709551616 := Nat.lt_of_le_of_lt (clr_le m i) hm
theorem sortGo_some {back : List Nat} : ∀ (f m : Nat) (acc l : List Int), m < 18446744073709551616 → sortGo back f m acc = some l → ∃ s, l = acc ++ castI s ∧ Topo back m s := by
  intro f
  induction f with
  | zero =>
    intro m acc l hm h
    unfold sortGo at h
    split at h
    · rename_i h0; obtain rfl := Option.some.inj h; exact ⟨[], by simp [castI], h0⟩
    · cases h
  | succ f ih =>
    intro m acc l hm h
    by_cases h0 : m = 0
    · subst h0
      rw [sortGo_zero] at h
      obtain rfl := Option.some.inj h
      exact ⟨[], by simp [castI], rfl⟩
    · rcases first_cases back m with h1 | ⟨x, hx⟩
      · rw [sortGo_neg _ _ h0 h1] at h; cases h
      · rw [sortGo_pos f x.1 acc h0 hx] at h
        obtain ⟨s, hs, ht⟩ := ih _ _ _ (clr_u hm _) h
        obtain ⟨k1, k2, k3⟩ := firstR_pos hx
        exact ⟨x.1 :: s, by rw [hs]; simp [castI], k1, k2, k3, ht⟩
theorem bit_of {m : Nat} (h : m ≠ 0) : ∃ i, m.testBit i = true := Nat.exists_testBit_of_ne_zero h
theorem bit64 {m i : Nat} (hm : m < 18446744073709551616) (h : m.testBit i = true) : i < 64 := by
  rcases Nat.lt_or_ge i 64 with h' | h'
  · exact h'
  · rw [Nat.testBit_lt_two_pow (Nat.lt_of_lt_of_le hm (Nat.pow_le_pow_right (n := 2) (by decide) h'))] at h; cases h
theorem sortGo_none {back : List Nat} : ∀ (f m : Nat) (acc : List Int), m < 18446744073709551616 → pc m ≤ f → sortGo back f m acc = none → ∃ m', m' ≠ 0 ∧ m' < 18446744073709551616 ∧ firstR back m' = -1 := by
  intro f
  induction f with
  | zero =>
    intro m acc hm hp h
    exfalso
    unfold sortGo at h
    split at h
    · cases h
    · rename_i h0
      obtain ⟨i, hi⟩ := bit_of h0
      have := pc_clr hm (bit64 hm hi) hi
      omega
  | succ f ih =>
    intro m acc hm hp h
    by_cases h0 : m = 0
    · subst h0; rw [sortGo_zero] at h; cases h
    · rcases first_cases back m with h1 | ⟨x, hx⟩
      · exact ⟨m, h0, hm, h1⟩
      · rw [sortGo_pos f x.1 acc h0 hx] at h
        have := pc_clr hm x.2.2 x.2.1
        exact ih _ _ (clr_u hm _) (by omega) h
theorem min_of {p : Nat → Nat → Prop} (ht : ∀ i k j, p i k → p k j → p i j) (hi : ∀ i, ¬ p i i) : ∀ (l : List Nat), l ≠ [] → ∃ x ∈ l, ∀ y ∈ l, ¬ p y x := by
  intro l
  induction l with
  | nil => intro h; exact absurd rfl h
  | cons a l ih =>
    intro _
    by_cases h0 : l = []
    · subst h0; exact ⟨a, by simp, fun y hy => by rw [List.mem_singleton.1 hy]; exact hi a⟩
    · obtain ⟨x, hx, hm⟩ := ih h0
      by_cases h : p a x
      · refine ⟨a, by simp, fun y hy => ?_⟩
        rcases List.mem_cons.1 hy with rfl | hy
        · exact hi y
        · exact fun hp => hm y hy (ht _ _ _ hp h)
      · refine ⟨x, by simp [hx], fun y hy => ?_⟩
        rcases List.mem_cons.1 hy with rfl | hy
        · exact h
        · exact hm y hy
theorem Topo.mem {back : List Nat} : ∀ (s : List Nat) (m : Nat), m < 18446744073709551616 → Topo back m s → ∀ x, x ∈ s ↔ m.testBit x = true
  | [], m, _, h, x => by
    obtain rfl : m = 0 := h
    simp
  | z :: s, m, hm, ⟨h1, h2, h3, h4⟩, x => by
    rw [List.mem_cons, Topo.mem s (clr m z) (clr_u hm z) h4 x, clr_bit m z x hm h2]
    by_cases e : x = z
    · subst e; simp [h1]
    · simp [e]
theorem Topo.nodup {back : List Nat} : ∀ (s : List Nat) (m : Nat), m < 18446744073709551616 → Topo back m s → s.Nodup
  | [], _, _, _ => List.nodup_nil
  | z :: s, m, hm, ⟨h1, h2, h3, h4⟩ => by
    refine List.nodup_cons.2 ⟨fun hz => ?_, Topo.nodup s _ (clr_u hm z) h4⟩
    rw [Topo.mem s _ (clr_u hm z) h4, clr_bit m z z hm h2] at hz
    simp at hz
theorem Topo.len {back : List Nat} : ∀ (s : List Nat) (m : Nat), m < 18446744073709551616 → Topo back m s → s.length = pc m
  | [], m, _, h => by
    obtain rfl : m = 0 := h
    exact (by decide : pc 0 = 0).symm
  | z :: s, m, hm, ⟨h1, h2, h3, h4⟩ => by
    rw [List.length_cons, Topo.len s _ (clr_u hm z) h4, pc_clr hm h2 h1]
theorem idx_far {z x : Nat} {s : List Nat} (h : z ≠ x) : (z :: s).idxOf x = s.idxOf x + 1 := by
  rw [List.idxOf_cons]
  have : (z == x) = false := by simpa using h
  rw [this]; rfl
theorem Topo.pos {rows : List Nat} {N : Nat} (h : OKR N rows) : ∀ (s : List Nat) (m : Nat), m < 18446744073709551616 → Topo (turnR rows) m s → ∀ x y, m.testBit x = true → m.testBit y = true → bt rows x y = true → s.idxOf x < s.idxOf y
  | [], m, _, h0, x, y, hx, _, _ => by
    obtain rfl : m = 0 := h0
    simp at hx
  | z :: s, m, hm, ⟨h1, h2, h3, h4⟩, x, y, hx, hy, hxy => by
    have hback := (turnR_bit h y x).2 hxy
    have hyz : y ≠ z := by
      rintro rfl
      have e : ((turnR rows).getD y 0 &&& m).testBit x = true := by rw [Nat.testBit_and, hx, Bool.and_true]; exact hback
      rw [h3] at e; simp at e
    by_cases hxz : x = z
    · subst hxz
      rw [List.idxOf_cons_self, idx_far (fun e => hyz e.symm)]; omega
    · rw [idx_far (fun e => hxz e.symm), idx_far (fun e => hyz e.symm)]
      have := Topo.pos h s _ (clr_u hm z) h4 x y (by rw [clr_bit m z x hm h2, hx]; simp [hxz]) (by rw [clr_bit m z y hm h2, hy]; simp [hyz]) hxy
      omega
theorem pow_u {N : Nat} (h : N ≤ 64) : 2 ^ N - 1 < 18446744073709551616 := by have := pow_le_64 N h; have := Nat.two_pow_pos N; omega
theorem mask_bit {N j : Nat} : (2 ^ N - 1).testBit j = true ↔ j < N := by rw [Nat.testBit_two_pow_sub_one]; simp
/-- Sort's list, where there is one. -/
theorem sortR_yes {rows : List Nat} {N : Nat} {l : List Int} (h : OKR N rows) (hN : N ≤ 64) (hs : sortR rows = (l, true)) : ∃ s, l = castI s ∧ Topo (turnR rows) (2 ^ N - 1) s := by
  unfold sortR at hs
  rw [h.1] at hs
  cases e : sortGo (turnR rows) 64 (2 ^ N - 1) [] with
  | none => rw [e] at hs; cases hs
  | some l' =>
    rw [e] at hs
    obtain ⟨s, h1, h2⟩ := sortGo_some _ _ _ _ (pow_u hN) e
    have : l' = l := congrArg Prod.fst hs
    exact ⟨s, by rw [← this, h1]; rfl, h2⟩
theorem sortR_no {rows : List Nat} {l : List Int} (hs : sortR rows = (l, false)) : l = [] := by
  unfold sortR at hs
  split at hs
  · cases hs
  · exact (congrArg Prod.fst hs).symm
theorem sort_free {rows : List Nat} {N : Nat} {l : List Int} (h : OKR N rows) (hN : N ≤ 64) (hs : sortR rows = (l, true)) (i : Nat) : bt (plusL rows) i i = false := by
  obtain ⟨s, _, ht⟩ := sortR_yes h hN hs
  cases e : bt (plusL rows) i i with
  | false => rfl
  | true =>
    have := plusL_least (rows := rows) (fun i j => s.idxOf i < s.idxOf j) (fun _ _ _ h1 h2 => Nat.lt_trans h1 h2) (fun i j hb => by
      obtain ⟨h1, h2⟩ := bt_lt h hb
      exact Topo.pos h s _ (pow_u hN) ht i j (mask_bit.2 h1) (mask_bit.2 h2) hb) e
    exact absurd this (Nat.lt_irrefl _)
theorem sort_loop {rows : List Nat} {N : Nat} {l : List Int} (h : OKR N rows) (hN : N ≤ 64) (hs : sortR rows = (l, false)) : ∃ i, i < N ∧ bt (plusL rows) i i = true := by
  refine Classical.byContradiction fun hno => ?_
  have hirr : ∀ i, ¬ bt (plusL rows) i i = true := fun i hi => hno ⟨i, (bt_lt (plusL_ok h) hi).1, hi⟩
  unfold sortR at hs
  rw [h.1] at hs
  cases e : sortGo (turnR rows) 64 (2 ^ N - 1) [] with
  | some l' => rw [e] at hs; cases hs
  | none =>
    obtain ⟨m, h0, hm, hf⟩ := sortGo_none _ _ _ (pow_u hN) (pc_le _) e
    obtain ⟨b, hb⟩ := bit_of h0
    obtain ⟨x, hx, hmin⟩ := min_of (p := fun i j => bt (plusL rows) i j = true) (fun _ _ _ => plusL_trans h) hirr ((List.range 64).filter m.testBit) (fun hn => by
      have : b ∈ (List.range 64).filter m.testBit := by simp [bit64 hm hb, hb]
      rw [hn] at this; cases this)
    rw [List.mem_filter, List.mem_range] at hx
    have h1 := firstR_neg hf x hx.2 hx.1
    obtain ⟨j, hj⟩ := bit_of h1
    rw [Nat.testBit_and, Bool.and_eq_true] at hj
    have h2 := (turnR_bit h x j).1 hj.1
    exact hmin j (by simp [bit64 hm hj.2, hj.2]) (plusL_has h2)
theorem noLoop_iff (rows : List Nat) : noLoop rows = true ↔ ∀ i < rows.length, bt rows i i = false := by
  unfold noLoop
  rw [List.all_eq_true]
  simp only [List.mem_range, Bool.not_eq_true']
  rfl
theorem sort_acyclic {r : PR} {l : List Int} {b : Bool} (h : r.ok = true) (hs : sortR r.rows = (l, b)) : Pacyclic r = b := by
  have hR := IsR.of_ok h
  unfold Pacyclic
  rw [h, Bool.true_and]
  cases b with
  | true => exact (noLoop_iff _).2 fun i _ => sort_free hR.2.2.1 hR.2.1 hs i
  | false =>
    obtain ⟨i, h1, h2⟩ := sort_loop hR.2.2.1 hR.2.1 hs
    cases e : noLoop (plusL r.rows) with
    | false => rfl
    | true => rw [(noLoop_iff _).1 e i (by rw [plusL_length]; exact h1)] at h2; cases h2
theorem round_same {r : PR} {l : List Int} {b : Bool} (h : r.ok = true) (hs : sortR r.rows = (l, b)) : Psame (Pand (Pplus r) (Pself r.n)) (Pnone r.n) = b := by
  have hR := IsR.of_ok h
  have hp : IsR r.rows.length (fun i j => bt (plusL r.rows) i j = true) (Pplus r) := by
    have e : Pplus r = ⟨r.rows.length, plusL r.rows⟩ := by unfold Pplus; rw [if_pos h, hR.1]
    rw [e]
    exact ⟨rfl, hR.2.1, plusL_ok hR.2.2.1, fun _ _ => Iff.rfl⟩
  rw [hR.1]
  have key := IsR.same (hp.and2 (IsR.self hR.2.1)) (IsR.none hR.2.1)
  cases b with
  | true =>
    refine key.2 fun i j => ⟨?_, False.elim⟩
    rintro ⟨h1, rfl, _⟩
    rw [sort_free hR.2.2.1 hR.2.1 hs i] at h1; cases h1
  | false =>
    obtain ⟨i, h1, h2⟩ := sort_loop hR.2.2.1 hR.2.1 hs
    cases e : Psame (Pand (Pplus r) (Pself r.rows.length)) (Pnone r.rows.length) with
    | false => rfl
    | true => exact ((key.1 e i i).1 ⟨h2, rfl, h1⟩).elim
/-- What the closure is said to be. -/
theorem plus_facts {r : PR} (h : r.ok = true) : Psame (Por [r, Pplus r]) (Pplus r) = true ∧ Psame (Por [Pthen [Pplus r, Pplus r], Pplus r]) (Pplus r) = true ∧ Psame (Pplus (Pplus r)) (Pplus r) = true := by
  have hR := IsR.of_ok h
  obtain ⟨T, h1, h2, h3, h4⟩ := hR.plus
  refine ⟨(IsR.same (hR.or2 h1) h1).2 fun i j => ⟨fun k => k.elim (h2 i j) id, .inr⟩, (IsR.same ((h1.then2 h1).or2 h1) h1).2 fun i j => ⟨fun k => k.elim (fun ⟨k, a, b⟩ => h3 i k j a b) id, .inr⟩, ?_⟩
  obtain ⟨S, k1, k2, k3, k4⟩ := h1.plus
  exact (IsR.same k1 h1).2 fun i j => ⟨k4 T h3 (fun _ _ => id) i j, k2 i j⟩
theorem plus_least {r o : PR} (h : r.ok = true) (ho : o.ok = true) (hn : o.n = r.n) (hc : Psame (Por [Pthen [Por [r, o], Por [r, o]], Por [r, o]]) (Por [r, o]) = true) : Psame (Por [Pplus r, Por [r, o]]) (Por [r, o]) = true := by
  have hR := IsR.of_ok h
  have hO := IsR.of_ok' ho (N := r.rows.length) (by rw [hn]; exact hR.1)
  have hB := hR.or2 hO
  obtain ⟨T, h1, h2, h3, h4⟩ := hR.plus
  have hc' := (IsR.same ((hB.then2 hB).or2 hB) hB).1 hc
  refine (IsR.same (h1.or2 hB) hB).2 fun i j => ⟨fun k => k.elim ?_ id, .inr⟩
  exact h4 _ (fun i k j a b => (hc' i j).1 (.inl ⟨k, a, b⟩)) (fun i j a => .inl a) i j
end Go.Proofs.YtigdecmfieaacaaDoor
