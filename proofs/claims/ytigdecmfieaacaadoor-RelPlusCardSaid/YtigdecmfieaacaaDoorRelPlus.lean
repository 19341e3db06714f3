/-
  The statement RelPlus answers true: the closure is the least relation that has the steps and goes on; things can be sorted just where there is no way round.
-/
import Derived.Test.YtigdecmfieaacaaDoorPlusV
namespace Go.Proofs.YtigdecmfieaacaaDoor
open Go Go.RowKit

/-- The bits of a list's things. -/
def seenM (l : List Nat) : Nat := l.foldl (fun a x => a ||| 2 ^ x) 0
theorem seenM_snoc (l : List Nat) (x : Nat) : seenM (l ++ [x]) = seenM l ||| 2 ^ x := by simp [seenM]
theorem seenM_bit (l : List Nat) (j : Nat) (h : j ∉ l) : (seenM l).testBit j = false := by
  unfold seenM
  rw [foldl_or_bit, Nat.zero_testBit, Bool.false_or]
  rw [List.any_eq_false]
  intro x hx
  rw [Nat.testBit_two_pow]
  simp; rintro rfl; exact h hx
theorem seenM_lt (l : List Nat) (h : ∀ x ∈ l, x < 64) : seenM l < 18446744073709551616 := by
  unfold seenM
  have key : ∀ (l : List Nat) (a : Nat), (∀ x ∈ l, x < 64) → a < 18446744073709551616 → l.foldl (fun a x => a ||| 2 ^ x) a < 18446744073709551616 := by
    intro l
    induction l with
    | nil => intro a _ h; exact h
    | cons x l ih =>
      intro a hx ha
      exact ih _ (fun y hy => hx y (by simp [hy])) (Nat.or_lt_two_pow (n := 64) ha (pow_lt_64 x (hx x (by simp))))
  exact key l 0 h (by decide)
theorem idx_at : ∀ (s : List Nat) (k x : Nat), s.Nodup → s[k]? = some x → s.idxOf x = k
  | [], k, x, _, h => by simp at h
  | z :: s, 0, x, _, h => by
    obtain rfl : z = x := by simpa using h
    exact List.idxOf_cons_self
  | z :: s, k + 1, x, hn, h => by
    have h' : s[k]? = some x := by simpa using h
    have hne : z ≠ x := by
      rintro rfl
      exact (List.nodup_cons.1 hn).1 (List.mem_of_getElem? h')
    rw [idx_far hne, idx_at s k x (List.nodup_cons.1 hn).2 h']
theorem not_taken (s : List Nat) (k x : Nat) (hn : s.Nodup) (h : s[k]? = some x) : x ∉ s.take k := by
  intro hx
  obtain ⟨j, hj, e⟩ := List.getElem_of_mem hx
  have hj' : j < k := by simp at hj; omega
  have h2 : s[j]? = some x := by
    rw [← e, List.getElem_take]
    exact List.getElem?_eq_getElem _
  have := idx_at s j x hn h2
  have := idx_at s k x hn h
  omega
theorem take_snoc (s : List Nat) (k x : Nat) (h : s[k]? = some x) : s.take (k + 1) = s.take k ++ [x] := by
  rw [List.take_add_one, h]; rfl
/-- The place of each thing that was gone through. -/
def atF (s : List Nat) (k j : Nat) : Nat := if j ∈ s.take k then s.idxOf j else 0
theorem atF_succ (s : List Nat) (k x j : Nat) (hn : s.Nodup) (h : s[k]? = some x) : atF s (k + 1) j = if j = x then k else atF s k j := by
  unfold atF
  rw [take_snoc s k x h]
  by_cases e : j = x
  · subst e
    rw [if_pos (by simp), if_pos rfl, idx_at s k j hn h]
  · rw [if_neg e]
    have : (j ∈ s.take k ++ [x]) ↔ j ∈ s.take k := by simp [e]
    simp only [this]
theorem atF_zero (s : List Nat) (N : Nat) : (List.range N).map (atF s 0) = List.replicate N 0 := by
  apply List.ext_getElem <;> simp [atF]
def In (n : Nat) : Value := .int .i64 (n : Int)
theorem pairs_mem {rows : List Nat} {k : Nat} {p : Int × Int} (h : (pairsR rows)[k]? = some p) : ∃ x y : Nat, p = ((x : Int), (y : Int)) ∧ bt rows x y = true := by
  have hm := List.mem_of_getElem? h
  unfold pairsR pairsTo at hm
  rw [List.mem_flatMap] at hm
  obtain ⟨i, _, hp⟩ := hm
  unfold pairsRow at hp
  obtain ⟨z, _, rfl⟩ := List.mem_map.1 hp
  exact ⟨i, z.1, rfl, z.2.1⟩
theorem BoxAt.next {a a' : Act} {w w' : World} {s b : Nat} {r : RA} {xs : List Nat} (h : BoxAt a w s b r) (hk : KeepL xs a a') (hb : Below w.heap.size w w') (hs : (decide (s < 15) && !xs.contains s) = true := by decide) : BoxAt a' w' s b r := by
  rw [Bool.and_eq_true, Bool.not_eq_true'] at hs
  exact ⟨(hk.var s (of_decide_eq_true hs.1) hs.2).trans h.1, h.2.1.below hb h.2.1.lt, h.2.2.1.on hb, h.2.2.2⟩
theorem BoxAt.of {a : Act} {w : World} {s : Nat} {r : PR} (h : AStored (a.eval (.tmp s)) r w) : ∃ b p, p.pr = r ∧ BoxAt a w s b p := by
  obtain ⟨b, p, h1, h2, h3, h4, h5⟩ := h
  exact ⟨b, p, h3, get_of_eval h1, h2, h4, by rw [h3]; exact h5⟩
theorem start_act (n : Nat) (x y : Value) (hn : 2 ≤ n) : ({ tmps := #[x, y] ++ Array.replicate (n - 2) undef, defers := [] } : Act).tmps.size = n ∧ ({ tmps := #[x, y] ++ Array.replicate (n - 2) undef, defers := [] } : Act).eval (.tmp 0) = x ∧ ({ tmps := #[x, y] ++ Array.replicate (n - 2) undef, defers := [] } : Act).eval (.tmp 1) = y := by
  refine ⟨by simp; omega, ?_, ?_⟩
  · show Array.getD _ 0 undef = x
    simp [Array.getD_eq_getD_getElem?, Array.getElem?_append]
  · show Array.getD _ 1 undef = y
    simp [Array.getD_eq_getD_getElem?, Array.getElem?_append]
theorem chk_ok {r : PR} (h : r.ok = true) : chk r.n r.rows = 0 := by unfold chk; exact if_pos h
theorem chk_bad {r : PR} (h : ¬ r.ok = true) : chk r.n r.rows = 2 := by unfold chk; exact if_neg h

theorem pc_mask (N : Nat) (h : N ≤ 64) : pc (2 ^ N - 1) = N := by
  obtain ⟨d, hd⟩ : ∃ d, 64 = N + d := ⟨64 - N, by omega⟩
  have e : (List.range 64).filter (2 ^ N - 1).testBit = (List.range 64).filter fun j => decide (j < N) := List.filter_congr fun j _ => Nat.testBit_two_pow_sub_one ..
  unfold pc
  rw [e, hd, List.range_add, List.filter_append, List.filter_eq_self.2 (fun j hj => by simpa using hj), List.filter_eq_nil_iff.2 (fun j hj => by
    obtain ⟨i, _, rfl⟩ := List.mem_map.1 hj
    simp)]
  simp
theorem addadd (a : Addr) (m n : Nat) : (a.add m).add n = a.add (m + n) := by
  unfold Addr.add
  by_cases hm : m = 0 <;> by_cases hn : n = 0 <;> simp [hm, hn, Nat.add_assoc]
theorem bit_no {m x : Nat} (h : m.testBit x = false) : (((m / 2 ^ x % 2 : Nat) : Int) == 1) = false := by
  rw [Nat.testBit_eq_decide_div_mod_eq] at h
  have h' := of_decide_eq_false h
  simp only [beq_eq_false_iff_ne, ne_eq]
  omega
theorem exit_here {id : Nat} {X I : Act → World → Prop} {Q : Exit → Act → World → Prop} {a : Act} {w : World} (h : Q .normal a w) : Exit.then X (Exit.then I (Exit.inBlock id Q)) (.exit id) a w := by
  show (if id = id then Q .normal a w else Q (.exit id) a w)
  rw [if_pos rfl]; exact h
theorem r9 {Q : Exit → Act → World → Prop} {a0 : Act} {w0 : World} {b2 b3 b5 b6 : Nat} {r o p g : RA} (hT : Tab w0) (hsz : a0.tmps.size = 193) (x2 : BoxAt a0 w0 2 b2 r) (x3 : BoxAt a0 w0 3 b3 o) (x5 : BoxAt a0 w0 5 b5 p) (x6 : BoxAt a0 w0 6 b6 g)
    (hok : r.pr.ok = true) (hp : p.pr = Pplus r.pr) (hg : g.pr = Por [r.pr, o.pr])
    (hK : ∀ a w, KeepV 99 a0 a → a.eval (.tmp 85) = .bool false → Below w0.heap.size w0 w → Q .normal a w) : (Code.region 9 (regOps Tryd.f7 9) true).wp Tryd.prog Q a0 w0 := by
  by_cases hc : o.pr.ok = true
  · have hc' : (chk o.pr.n o.pr.rows == 0) = true := by rw [chk_ok hc]; rfl
    cases hn : (o.n == r.n) with
    | false => exact r9b hT hsz x2 x3 hc' hn hK
    | true =>
      cases hcl : Psame (Por [Pthen [g.pr, g.pr], g.pr]) g.pr with
      | false => exact r9c hT hsz x2 x3 x6 hc' hn hcl hK
      | true =>
        refine r9d hT hsz x2 x3 x5 x6 hc' hn hcl ?_ hK
        rw [hg] at hcl ⊢
        rw [hp]
        exact plus_least hok hc (show o.n = r.n by simpa using hn) hcl
  · exact r9a hT hsz x3 (by rw [chk_bad hc]; rfl) hK

set_option maxRecDepth 100000 in
set_option maxHeartbeats 4000000 in
theorem plus_yes (r o : RA) (w : World) (hT : Tab w) (hg : r.good w) (ho : o.good w) (hsr : Short r.pr) (hso : Short o.pr) :
    Calls Tryd.prog 7 #[r.val, o.val] w (Ret w (.bool true)) := by
  refine calls_of_wp Tryd.func7 rfl ?_
  obtain ⟨hz, e0, e1⟩ := start_act 193 r.val o.val (by decide)
  have hd0 : ({ tmps := #[r.val, o.val] ++ Array.replicate (193 - 2) undef, defers := [] } : Act).defers = [] := rfl
  have hn2 : Tryd.f7.ntmps - (#[r.val, o.val] : Array Value).size = 193 - 2 := rfl
  rw [hn2]
  generalize ({ tmps := #[r.val, o.val] ++ Array.replicate (193 - 2) undef, defers := [] } : Act) = a0 at hz e0 e1 hd0 ⊢
  refine wp_seq ?_
  refine r0 (r := r) (o := o) hz e0 e1 fun a1 k1 f2 f3 => ?_
  have hB := below_two w (.cells r.cells.toArray 26) (.cells o.cells.toArray 26)
  have x2 : BoxAt a1 ((w.alloc (.cells r.cells.toArray 26)).alloc (.cells o.cells.toArray 26)) 2 w.heap.size r := ⟨get_of_eval f2, (RowT.new w _ _).alloc _, hg.on hB, hsr⟩
  have x3 : BoxAt a1 ((w.alloc (.cells r.cells.toArray 26)).alloc (.cells o.cells.toArray 26)) 3 (w.heap.size + 1) o := ⟨get_of_eval f3, by rw [← World.size_alloc w (.cells r.cells.toArray 26)]; exact RowT.new _ _ _, ho.on hB, hso⟩
  have hT1 := hT.on hB
  generalize ((w.alloc (.cells r.cells.toArray 26)).alloc (.cells o.cells.toArray 26)) = w1 at hB x2 x3 hT1 ⊢
  have z1 : a1.tmps.size = 193 := k1.size.trans hz
  have d1 : a1.defers = [] := k1.defers.trans hd0
  refine wp_seq ?_
  refine wp_seq ?_
  refine r1 z1 hT1 fun a2 w2 k2 f16 hb2 => ?_
  refine wp_cond_false f16 ?_
  refine wp_skip ?_
  replace hB := Below.next hB hb2
  replace x2 := x2.next k2 hb2
  replace x3 := x3.next k2 hb2
  have hT2 := hT1.on hb2
  have z2 := k2.size.trans z1
  have d2 := k2.defers.trans d1
  clear hT1
  by_cases hok : r.pr.ok = true
  · have hR := IsR.of_ok hok
    obtain ⟨q1, q2, q3⟩ := plus_facts hok
    refine wp_seq ?_
    refine wp_seq ?_
    refine r3 (t := false) z2 hT2 x2 (by rw [chk_ok hok]; rfl) fun a3 w3 k3 f19 hb3 => ?_
    refine wp_cond_false f19 ?_
    refine wp_skip ?_
    replace hB := Below.next hB hb3
    replace x2 := x2.next k3 hb3
    replace x3 := x3.next k3 hb3
    have hT3 := hT2.on hb3
    have z3 := k3.size.trans z2
    have d3 := k3.defers.trans d2
    refine wp_seq ?_
    refine r5 hT3 z3 x2 fun a4 w4 k4 f5 hb4 => ?_
    obtain ⟨b5, p, hp, x5⟩ := BoxAt.of f5
    have k4 := k4.toL (xs := [5]) (by decide)
    replace hB := Below.next hB hb4
    replace x2 := x2.next k4 hb4
    replace x3 := x3.next k4 hb4
    have hT4 := hT3.on hb4
    have z4 := k4.size.trans z3
    have d4 := k4.defers.trans d3
    refine wp_seq ?_
    refine wp_seq ?_
    rw [← hp] at q1 q2 q3
    refine r6 hT4 z4 x2 x5 q1 q2 q3 fun a5 w5 k5 f51 hb5 => ?_
    refine wp_cond_false f51 ?_
    refine wp_skip ?_
    have k5 := k5.toL (xs := []) (by decide)
    replace hB := Below.next hB hb5
    replace x2 := x2.next k5 hb5
    replace x3 := x3.next k5 hb5
    replace x5 := x5.next k5 hb5
    have hT5 := hT4.on hb5
    have z5 := k5.size.trans z4
    have d5 := k5.defers.trans d4
    refine wp_seq ?_
    refine r8 hT5 z5 x2 x3 fun a6 w6 k6 f6 hb6 => ?_
    obtain ⟨b6, g6, hg6, x6⟩ := BoxAt.of f6
    have k6 := k6.toL (xs := [6]) (by decide)
    replace hB := Below.next hB hb6
    replace x2 := x2.next k6 hb6
    replace x3 := x3.next k6 hb6
    replace x5 := x5.next k6 hb6
    have hT6 := hT5.on hb6
    have z6 := k6.size.trans z5
    have d6 := k6.defers.trans d5
    refine wp_seq ?_
    refine wp_seq ?_
    refine r9 hT6 z6 x2 x3 x5 x6 hok hp hg6 fun a7 w7 k7 f85 hb7 => ?_
    refine wp_cond_false f85 ?_
    refine wp_skip ?_
    have k7 := k7.toL (xs := []) (by decide)
    replace hB := Below.next hB hb7
    replace x2 := x2.next k7 hb7
    replace x5 := x5.next k7 hb7
    have hT7 := hT6.on hb7
    have z7 := k7.size.trans z6
    have d7 := k7.defers.trans d6
    clear x3 x6 hg6 ho hso
    obtain ⟨⟨l, b⟩, hs⟩ : ∃ lb, sortR r.rows = lb := ⟨_, rfl⟩
    have hs' : Psort r.pr = (l, b) := by unfold Psort; rw [if_pos hok]; exact hs
    refine wp_seq ?_
    refine r11 z7 hT7 x2 hs' fun a8 w8 A c k8 f7 f8 hrd hb8 => ?_
    replace hB := Below.next hB hb8
    replace x2 := x2.next k8 hb8
    replace x5 := x5.next k8 hb8
    have hT8 := hT7.on hb8
    have z8 := k8.size.trans z7
    have d8 := k8.defers.trans d7
    refine wp_seq ?_
    refine r12 hT8 z8 x2 x5 fun a9 w9 k9 f9 hb9 => ?_
    obtain ⟨b9, d, hd, x9⟩ := BoxAt.of f9
    have k9 := k9.toL (xs := [9]) (by decide)
    replace hB := Below.next hB hb9
    replace x2 := x2.next k9 hb9
    replace x5 := x5.next k9 hb9
    have hT9 := hT8.on hb9
    have z9 := k9.size.trans z8
    have d9 := k9.defers.trans d8
    replace hrd := hrd.into hb9
    replace f7 := k9.ev f7 (by decide)
    replace f8 := k9.ev f8 (by decide)
    refine wp_seq ?_
    refine wp_seq ?_
    refine r13 (b := b) hT9 z9 x2 x9 (get_of_bool f8) (by rw [hd, hp]; exact round_same hok hs) (sort_acyclic hok hs) fun a10 w10 k10 f108 hb10 => ?_
    refine wp_cond_false f108 ?_
    refine wp_skip ?_
    have k10 := k10.toL (xs := []) (by decide)
    replace hB := Below.next hB hb10
    replace x2 := x2.next k10 hb10
    have hT10 := hT9.on hb10
    have z10 := k10.size.trans z9
    have d10 := k10.defers.trans d9
    replace hrd := hrd.into hb10
    replace f7 := k10.ev f7 (by decide)
    replace f8 := k10.ev f8 (by decide)
    clear x9 x5 hd hp q1 q2 q3
    refine wp_seq ?_
    refine wp_seq ?_
    refine r15 z10 f8 fun a11 k11 f110 => ?_
    replace x2 := x2.next k11 (Below.refl _ _)
    replace f7 := k11.ev f7 (by decide)
    have z11 := k11.size.trans z10
    have d11 := k11.defers.trans d10
    cases b with
    | false =>
      refine wp_cond_true f110 ?_
      refine wp_seq ?_
      refine r16 z11 f7 (by rw [sortR_no hs]; rfl) fun a12 k12 f4 => ?_
      refine wp_ret ?_
      exact post_slot rfl (k12.defers.trans d11) (get_of_bool f4) (Ret.b rfl hB)
    | true =>
      refine wp_cond_false f110 ?_
      refine wp_skip ?_
      obtain ⟨s, rfl, ht⟩ := sortR_yes hR.2.2.1 hR.2.1 hs
      have hRR : OKR r.rows.length r.rows := hR.2.2.1
      have hN64 : r.rows.length ≤ 64 := hR.2.1
      have hrn : r.n = (r.rows.length : Nat) := hR.1
      obtain ⟨N, hN⟩ : ∃ N, r.rows.length = N := ⟨_, rfl⟩
      have ht' : Topo (turnR r.rows) (2 ^ N - 1) s := by rw [← hN]; exact ht
      rw [hN] at hRR hN64 hrn
      have hnd := Topo.nodup s _ (pow_u hN64) ht'
      have hmem : ∀ x, x ∈ s ↔ x < N := fun x => (Topo.mem s _ (pow_u hN64) ht' x).trans mask_bit
      have hlen : s.length = N := (Topo.len s _ (pow_u hN64) ht').trans (pc_mask N hN64)
      obtain ⟨n, hn⟩ : ∃ n, (castI s).length = n := ⟨_, rfl⟩
      have hns : n = s.length := by rw [← hn]; simp [castI]
      rw [hn] at f7 hrd
      clear hn ht
      have hcN : w10.cell? ⟨w.heap.size, 0, none⟩ = some (.int .i64 (N : Nat)) := by rw [x2.2.1.cell 0, ← hrn]; rfl
      refine wp_seq ?_
      refine r17 z11 (ev_tmps x2.1) hcN hN64 fun a12 k12 f10 => ?_
      have z12 := k12.size.trans z11
      refine wp_seq ?_
      refine r18 z12 fun a13 k13 f11 => ?_
      have z13 := k13.size.trans z12
      refine wp_seq ?_
      refine wp_seq ?_
      refine r19 z13 fun a14 k14 f12 => ?_
      have z14 := k14.size.trans z13
      have d14 := k14.defers.trans (k13.defers.trans (k12.defers.trans d11))
      have g2 := k14.ev (k13.ev (k12.ev (ev_tmps x2.1) (by decide)) (by decide)) (by decide)
      have g7 := k14.ev (k13.ev (k12.ev f7 (by decide)) (by decide)) (by decide)
      have g10 := k14.ev (k13.ev f10 (by decide)) (by decide)
      have g11 := k14.ev f11 (by decide)
      have y2 : BoxAt a14 w10 2 w.heap.size r := ((x2.next k12 (Below.refl _ _)).next k13 (Below.refl _ _)).next k14 (Below.refl _ _)
      have c0 : RowT (w10.alloc (.cells (madeCells #[.int .i64 0] N) 3)) w10.heap.size 3 (((List.range N).map (atF s 0)).map In) := by
        rw [atF_zero, List.map_replicate]; exact RowT.made w10 _ _ N
      have hB0 : Below w10.heap.size w10 (w10.alloc (.cells (madeCells #[.int .i64 0] N) 3)) := below_alloc _ _
      generalize (w10.alloc (.cells (madeCells #[.int .i64 0] N) 3)) = w14 at c0 hB0 ⊢
      clear k12 k13 k14 f7 f8 f10 f11 f110 x2
      refine wp_block ?_
      refine wp_loop (fun a' W => ∃ k, k ≤ n ∧ KeepL [11, 12] a14 a' ∧ a'.eval (.tmp 11) = .int .u64 ((seenM (s.take k) : Nat) : Int) ∧ a'.eval (.tmp 12) = .int .i64 (k : Nat) ∧ Below w10.heap.size w10 W ∧ RowT W w10.heap.size 3 (((List.range N).map (atF s k)).map In))
        (fun a' _ => n - (intOf (a'.eval (.tmp 12))).toNat) ⟨0, Nat.zero_le _, KeepL.refl _ _, g11, f12, hB0, c0⟩ ?_
      rintro a' W ⟨k, hk, kk, h11, h12, hBW, hrow⟩
      have zz := kk.size.trans z14
      refine wp_seq ?_
      refine wp_seq ?_
      refine r20 zz (kk.ev g7 (by decide)) h12 fun a15 k15 f120 => ?_
      have z15 := k15.size.trans zz
      by_cases hlt : k < n
      · rw [decide_eq_true (by omega)] at f120
        refine wp_cond_true f120 ?_
        refine wp_skip ?_
        obtain ⟨x, hx⟩ : ∃ x, s[k]? = some x := ⟨_, List.getElem?_eq_getElem (by omega)⟩
        have hxN : x < N := (hmem x).1 (List.mem_of_getElem? hx)
        obtain ⟨ad, rfl, hadl, hcell⟩ := hrd.2 (by omega)
        have hcx : W.cell? (ad.add k) = some (.int .i64 (x : Nat)) := (hBW.cell (p := ad.add k) (by rw [block_of_add]; exact hadl)).trans (hcell k _ (by simp [castI, hx, I]))
        have hcn : W.cell? ⟨w.heap.size, 0, none⟩ = some (.int .i64 (N : Nat)) := (hBW.cell (p := ⟨w.heap.size, 0, none⟩) y2.2.1.lt).trans hcN
        have k16 := kk.trans (k15.mono (ys := [11, 12]) (fun s h => rfl))
        have e7 := k16.ev g7 (by decide)
        have e11 := k15.ev h11 (by decide)
        have e12 := k15.ev h12 (by decide)
        refine wp_seq ?_
        refine wp_block ?_
        refine wp_seq ?_
        refine wp_seq ?_
        refine r22 z15 (k16.ev g2 (by decide)) e7 e11 e12 hlt hcx hcn hxN (by omega) (bit_no (seenM_bit _ _ (not_taken s k x hnd hx))) fun a17 k17 f147 => ?_
        refine wp_cond_false f147 ?_
        refine wp_skip ?_
        have z17 := k17.size.trans z15
        replace e7 := k17.ev e7 (by decide)
        replace e11 := k17.ev e11 (by decide)
        replace e12 := k17.ev e12 (by decide)
        refine wp_seq ?_
        refine r24 z17 e7 e11 e12 hlt hcx (by omega) (seenM_lt _ fun y hy => by have := (hmem y).1 (List.mem_of_mem_take hy); omega) fun a18 k18 f11 => ?_
        have z18 := k18.size.trans z17
        replace e7 := k18.ev e7 (by decide)
        replace e12 := k18.ev e12 (by decide)
        have e10 := k18.ev (k17.ev (k16.ev g10 (by decide)) (by decide)) (by decide)
        refine r25 (v := In (atF s k x)) z18 e7 e10 e12 hlt hcx hxN ((hrow.drew.cell x).trans (by simp [hxN])) (hrow.drew.frozen x) fun a19 k19 => ?_
        have z19 := k19.size.trans z18
        refine r21 z19 (k19.ev e12 (by decide)) (by omega) fun a20 k20 f12' => ?_
        refine ⟨⟨k + 1, by omega, ?_, ?_, f12', ?_, ?_⟩, ?_⟩
        · refine (k16.trans ((k17.mono (fun s h => rfl)).trans ((k18.mono ?_).trans ((k19.mono (fun s h => rfl)).trans (k20.mono ?_)))))
          · intro s h; simp at h ⊢; omega
          · intro s h; simp at h ⊢; omega
        · rw [take_snoc s k x hx, seenM_snoc]
          exact k20.ev (k19.ev f11 (by decide)) (by decide)
        · exact (hBW.drew.setCell (p := ⟨w10.heap.size, x, none⟩) (Nat.le_refl _) _)
        · have e := hrow.drew.set_ x (In k)
          rw [← List.map_set, range_set] at e
          rw [show (List.range N).map (atF s (k + 1)) = (List.range N).map fun i => if i = x then k else atF s k i from List.map_congr_left fun j _ => atF_succ s k x j hnd hx]
          exact e
        · rw [f12', h12]; simp [intOf]; omega
      · rw [decide_eq_false (by omega)] at f120
        refine wp_cond_false f120 ?_
        refine wp_exit ?_
        refine exit_here (id := 0) ?_
        obtain rfl : k = n := by omega
        replace kk := kk.trans (k15.mono (ys := [11, 12]) (fun s h => rfl))
        replace y2 := y2.next kk hBW
        have e7 := kk.ev g7 (by decide)
        have e10 := kk.ev g10 (by decide)
        have d15 := kk.defers.trans d14
        have hT15 := hT10.on hBW
        replace hB := Below.next hB hBW
        refine wp_seq ?_
        refine r26 z15 hT15 y2 hok fun a16 w16 A2 c2 k16 f13 hrd2 hb16 => ?_
        have z16 := k16.size.trans z15
        replace y2 := y2.next k16 hb16
        replace hB := Below.next hB hb16
        replace hrow := hrow.below hb16 hrow.lt
        refine wp_seq ?_
        refine wp_seq ?_
        refine r27 z16 fun a17 k17 f14 => ?_
        have z17 := k17.size.trans z16
        replace y2 := y2.next k17 (Below.refl _ _)
        replace e7 := k17.ev (k16.ev e7 (by decide)) (by decide)
        replace e10 := k17.ev (k16.ev e10 (by decide)) (by decide)
        have e13 := k17.ev f13 (by decide)
        have d17 := k17.defers.trans (k16.defers.trans d15)
        obtain ⟨m, hm⟩ : ∃ m, (pairsR r.rows).length = m := ⟨_, rfl⟩
        rw [hm] at e13 hrd2
        have hm63 : m ≤ 64 * 64 := by rw [← hm]; have := pairsTo_len r.rows r.rows.length; unfold pairsR; omega
        have hfin : s.take k = s := by rw [hns]; exact List.take_length
        refine wp_block ?_
        refine wp_loop (fun a' W => ∃ j, j ≤ m ∧ KeepL [14] a17 a' ∧ a'.eval (.tmp 14) = .int .i64 (j : Nat) ∧ Below w16.heap.size w16 W)
          (fun a' _ => m - (intOf (a'.eval (.tmp 14))).toNat) ⟨0, Nat.zero_le _, KeepL.refl _ _, f14, Below.refl _ _⟩ ?_
        rintro a' W' ⟨j, hj, kj, h14, hBj⟩
        have zj := kj.size.trans z17
        refine wp_seq ?_
        refine wp_seq ?_
        refine r28 zj (kj.ev e13 (by decide)) h14 fun a18 k18 f168 => ?_
        have z18 := k18.size.trans zj
        have kj2 := kj.trans (k18.mono (ys := [14]) (fun s h => rfl))
        by_cases hjl : j < m
        · rw [decide_eq_true (by omega)] at f168
          refine wp_cond_true f168 ?_
          refine wp_skip ?_
          obtain ⟨q, hq⟩ : ∃ q, (pairsR r.rows)[j]? = some q := ⟨_, List.getElem?_eq_getElem (by omega)⟩
          obtain ⟨x, y, rfl, hbt⟩ := pairs_mem hq
          obtain ⟨hxN, hyN⟩ := bt_lt hRR hbt
          obtain ⟨ad2, rfl, hadl, hcell⟩ := hrd2.2 (by omega)
          obtain ⟨hp0, hp1⟩ := prs_get _ _ _ hq
          have hcx : W'.cell? (ad2.add (j * 2)) = some (.int .i64 (x : Nat)) := (hBj.cell (p := ad2.add (j * 2)) (by rw [block_of_add]; exact hadl)).trans (hcell _ _ hp0)
          have hcy : W'.cell? ((ad2.add (j * 2)).add 1) = some (.int .i64 (y : Nat)) := by
            rw [addadd]
            exact (hBj.cell (p := ad2.add (j * 2 + 1)) (by rw [block_of_add]; exact hadl)).trans (hcell _ _ hp1)
          have hrj := hrow.below hBj hrow.lt
          have hax : ∀ z, z < N → W'.cell? ((⟨w10.heap.size, 0, none⟩ : Addr).add z) = some (.int .i64 ((s.idxOf z : Nat) : Int)) := fun z hz => by
            rw [add0, hrj.cell z]
            have : atF s k z = s.idxOf z := by unfold atF; rw [hfin, if_pos ((hmem z).2 hz)]
            simp [hz, this, In]
          refine wp_seq ?_
          refine wp_block ?_
          refine wp_seq ?_
          refine r30 z18 (kj2.ev e10 (by decide)) (kj2.ev e13 (by decide)) (k18.ev h14 (by decide)) hjl hcx hcy hxN hyN (hax x hxN) (hax y hyN) (Topo.pos hRR s _ (pow_u hN64) ht' x y (mask_bit.2 hxN) (mask_bit.2 hyN) hbt) fun a19 k19 f187 => ?_
          refine wp_cond_false f187 ?_
          refine wp_skip ?_
          have z19 := k19.size.trans z18
          refine r29 z19 (k19.ev (k18.ev h14 (by decide)) (by decide)) (by omega) fun a20 k20 f14' => ?_
          refine ⟨⟨j + 1, by omega, kj2.trans ((k19.mono (fun s h => rfl)).trans k20), f14', hBj.drew⟩, ?_⟩
          rw [f14', h14]; simp [intOf]; omega
        · rw [decide_eq_false (by omega)] at f168
          refine wp_cond_false f168 ?_
          refine wp_exit ?_
          refine exit_here (id := 2) ?_
          replace y2 := y2.next kj2 hBj
          replace e7 := kj2.ev e7 (by decide)
          replace hB := Below.next hB hBj
          refine wp_seq ?_
          refine r32 z18 e7 (ev_tmps y2.1) (show W'.cell? ⟨w.heap.size, 0, none⟩ = some (.int .i64 (N : Nat)) by rw [y2.2.1.cell 0, ← hrn]; rfl) (by omega) fun a19 k19 f4 => ?_
          refine wp_ret ?_
          exact post_slot rfl (k19.defers.trans (kj2.defers.trans d17)) (get_of_bool f4) (Ret.b rfl hB)
  · refine wp_seq ?_
    refine wp_seq ?_
    refine r3 (t := true) z2 hT2 x2 (by rw [chk_bad hok]; rfl) fun a3 w3 k3 f19 hb3 => ?_
    refine wp_cond_true f19 ?_
    replace hB := Below.next hB hb3
    replace x2 := x2.next k3 hb3
    refine wp_seq ?_
    refine r4 (hT2.on hb3) (k3.size.trans z2) x2 (by unfold Pplus; rw [if_neg hok]; rfl) fun a4 w4 k4 f4 hb4 => ?_
    refine wp_ret ?_
    exact post_slot rfl (k4.defers.trans (k3.defers.trans d2)) (get_of_bool f4) (Ret.b rfl (Below.next hB hb4))
theorem plus_top (r o : RA) (w : World) (hT : Tab w) (hg : r.good w) (hr : r.rows.length ≤ maxLen) (ho : o.good w) (hl : o.rows.length ≤ maxLen) : Calls Tryd.prog 7 #[r.val, o.val] w (Ret w (.bool true)) :=
  plus_yes r o w hT hg ho hr hl
end Go.Proofs.YtigdecmfieaacaaDoor
