/-
  The document's answers for layer 1: Acyclic, Sort; the kit's Pairs.
-/
import Derived.Test.YtigdecmfieaacaaDoorC4
namespace Go.Proofs.YtigdecmfieaacaaDoor
open Go Go.RowKit

theorem plus_shape {p : RA} {r : PR} (h : p.pr = Pplus r) : ∃ N : Nat, p.n = (N : Nat) ∧ p.rows.length = N ∧ N ≤ 64 := by
  by_cases ho : r.ok = true
  · obtain ⟨h1, h2, _⟩ := ok_rows ho
    have e : p.pr = ⟨r.n, plusL r.rows⟩ := by rw [h]; unfold Pplus; rw [if_pos ho]
    exact ⟨r.rows.length, by rw [show p.n = p.pr.n from rfl, e]; exact h1, by rw [show p.rows = p.pr.rows from rfl, e]; exact plusL_length _, h2⟩
  · have e : p.pr = PR.zero := by rw [h]; unfold Pplus; rw [if_neg ho]
    exact ⟨0, by rw [show p.n = p.pr.n from rfl, e]; rfl, by rw [show p.rows = p.pr.rows from rfl, e]; rfl, by omega⟩
theorem acyc_no {p r : RA} {N k : Nat} (h : p.pr = Pplus r.pr) (hl : p.rows.length = N) (hk : k < N) (hb : (p.rows.getD k 0).testBit k = true) : Pacyclic r.pr = false := by
  by_cases ho : r.pr.ok = true
  · have e : p.rows = plusL r.pr.rows := by rw [show p.rows = p.pr.rows from rfl, h]; unfold Pplus; rw [if_pos ho]
    unfold Pacyclic
    cases hn : noLoop (plusL r.pr.rows) with
    | false => rw [Bool.and_false]
    | true =>
      have := (noLoop_iff _).1 hn k (by rw [← e]; omega)
      rw [← e] at this
      rw [show bt p.rows k k = (p.rows.getD k 0).testBit k from rfl, hb] at this; cases this
  · have e : p.rows = [] := by rw [show p.rows = p.pr.rows from rfl, h]; unfold Pplus; rw [if_neg ho]; rfl
    rw [e] at hl; simp at hl; omega
theorem acyc_yes {p r : RA} {N : Nat} (h : p.pr = Pplus r.pr) (hl : p.rows.length = N) (ha : ∀ i, i < N → bt p.rows i i = false) : Pacyclic r.pr = r.ok := by
  unfold Pacyclic
  cases ho : r.ok with
  | false => rw [show r.pr.ok = false from ho]; rfl
  | true =>
    have e : p.rows = plusL r.pr.rows := by rw [show p.rows = p.pr.rows from rfl, h]; unfold Pplus; rw [if_pos (show r.pr.ok = true from ho)]
    rw [show r.pr.ok = true from ho, Bool.true_and]
    exact (noLoop_iff _).2 fun i hi => by rw [← e] at hi ⊢; exact ha i (by omega)
set_option maxRecDepth 100000 in
set_option maxHeartbeats 4000000 in
theorem C_rAcyclic : CallRV 26 (fun r => .bool (Pacyclic r)) := fun r w0 hT hr hsr => by
  have hrv : r.val = (.agg #[.int .i64 r.n, .slice r.A r.rows.length r.cap]) := rfl
  rw [hrv]
  refine calls_of_wp Tryd.func26 rfl ?_
  obtain ⟨hz, e0⟩ := start_act1 26 ((.agg #[.int .i64 r.n, .slice r.A r.rows.length r.cap])) (by decide)
  have hd : ({ tmps := #[(.agg #[.int .i64 r.n, .slice r.A r.rows.length r.cap])] ++ Array.replicate (26 - 1) undef, defers := [] } : Act).defers = [] := rfl
  rw [show Tryd.f26.ntmps - (#[(.agg #[.int .i64 r.n, .slice r.A r.rows.length r.cap])] : Array Value).size = 26 - 1 from rfl]
  generalize ({ tmps := #[(.agg #[.int .i64 r.n, .slice r.A r.rows.length r.cap])] ++ Array.replicate (26 - 1) undef, defers := [] } : Act) = a0 at hz e0 hd ⊢
  have hB : Below w0.heap.size w0 w0 := Below.refl _ _
  have hS := hB.size
  refine wp_seq ?_
  refine seq_startL (l := [0, 1]) (by kernel_rfl) ?_
  refine seq_valD 1 rfl rfl rfl (run_boxC rfl e0) ?_
  have x1 := RowT.new w0 26 [.int .i64 r.n, .slice r.A r.rows.length r.cap]
  replace hB := hB.al (o := .cells ([.int .i64 r.n, .slice r.A r.rows.length r.cap] : List Value).toArray 26)
  change wpOps _ _ _ _ _ (w0.alloc (.cells ([.int .i64 r.n, .slice r.A r.rows.length r.cap] : List Value).toArray 26))
  generalize (w0.alloc (.cells ([.int .i64 r.n, .slice r.A r.rows.length r.cap] : List Value).toArray 26)) = w1 at x1 hB ⊢
  generalize hbq1 : w0.heap.size = b1 at x1 ⊢
  have hge1 : w0.heap.size ≤ b1 := by rw [← hbq1]; exact hS
  clear hbq1
  have hS := hB.size
  refine seq_assign 2 (v := (.bool false)) rfl rfl rfl rfl rfl ?_
  refine seq_nil ?_
  refine seq_out (((KeepM.refl 5 [1, 2] a0).put (by decide)).put (by decide)) fun a2 k2 tr => ?_
  have f1 := tr 1 (.pointer (some ⟨b1, 0, none⟩)) ((ev_ne (by decide)).trans (ev_same (by first | (rw [hz]; decide) | (simp only [size_put, hz]; decide))))
  have f2 := tr 2 (.bool false) (ev_same (by first | (rw [hz]; decide) | (simp only [size_put, hz]; decide)))
  clear tr
  replace e0 := k2.ev e0 (by decide)
  replace hz := k2.size.trans hz
  replace hd := k2.defers.trans hd
  have e1 := f1
  clear f1
  have e2 := f2
  clear f2
  refine wp_seq ?_
  refine seq_startL (l := [0, 1, 2, 3]) (by kernel_rfl) ?_
  refine seq_valD 5 (v := (.agg #[.int .i64 r.n, .slice r.A r.rows.length r.cap])) rfl rfl rfl (run_ldR rfl e1 (x1.cell 0) (x1.cell 1)) ?_
  refine seq_callD 6 rfl rfl rfl en_rPlus rfl (args_one (ev_same (by first | (rw [hz]; decide) | (simp only [size_put, hz]; decide)))) ((C_rPlus r w1 (hT.on hB) (hr.on hB) hsr).mono ?_)
  rintro e w3 ⟨p, rfl, hpp, hp, hb3⟩
  refine ⟨_, rfl, ?_⟩
  replace x1 := x1.below hb3 x1.lt
  replace hB := Below.next hB hb3
  replace hS := hB.size
  replace hp := hp.out
  obtain ⟨N, hpn, hpl, h64⟩ := plus_shape hpp.out
  rw [hpn, hpl]
  refine seq_valD 3 rfl rfl rfl (run_allocR rfl rfl) ?_
  have nx1_3 : b1 ≠ w3.heap.size := Nat.ne_of_lt x1.lt
  have x3 := RowT.new w3 26 [.int .i64 0, .slice none 0 0]
  replace x1 := x1.alloc (.cells ([.int .i64 0, .slice none 0 0] : List Value).toArray 26)
  replace hp := hp.on (below_alloc w3 (.cells ([.int .i64 0, .slice none 0 0] : List Value).toArray 26))
  replace hB := hB.al (o := .cells ([.int .i64 0, .slice none 0 0] : List Value).toArray 26)
  change wpOps _ _ _ _ _ (w3.alloc (.cells ([.int .i64 0, .slice none 0 0] : List Value).toArray 26))
  generalize (w3.alloc (.cells ([.int .i64 0, .slice none 0 0] : List Value).toArray 26)) = w4 at x1 x3 hp hB ⊢
  generalize hbq3 : w3.heap.size = b3 at x3 nx1_3 ⊢
  have hge3 : w0.heap.size ≤ b3 := by rw [← hbq3]; exact hS
  clear hbq3
  have hS := hB.size
  refine seq_skipD rfl rfl rfl (run_stR rfl (ev_same (by first | (rw [hz]; decide) | (simp only [size_put, hz]; decide))) ((ev_ne (by decide)).trans (ev_same (by first | (rw [hz]; decide) | (simp only [size_put, hz]; decide)))) x3) ?_
  have y3 : RowT ((w4.setCell ⟨b3, 0, none⟩ (.int .i64 ((N : Nat) : Int))).setCell ⟨b3, 1, none⟩ (.slice p.A N p.cap)) b3 26 [.int .i64 ((N : Nat) : Int), .slice p.A N p.cap] := (x3.set_ 0 _).set_ 1 _
  replace x1 := (x1.far (p := ⟨b3, 0, none⟩) nx1_3 (.int .i64 ((N : Nat) : Int))).far (p := ⟨b3, 1, none⟩) nx1_3 (.slice p.A N p.cap)
  replace hp := good_box hp x3 (.int .i64 ((N : Nat) : Int)) (.slice p.A N p.cap)
  replace hB := (hB.setCell (p := ⟨b3, 0, none⟩) hge3 (.int .i64 ((N : Nat) : Int))).setCell (p := ⟨b3, 1, none⟩) hge3 (.slice p.A N p.cap)
  have x3 := y3
  clear y3
  generalize ((w4.setCell ⟨b3, 0, none⟩ (.int .i64 ((N : Nat) : Int))).setCell ⟨b3, 1, none⟩ (.slice p.A N p.cap)) = w5 at x1 x3 hp hB ⊢
  replace hS := hB.size
  refine seq_nil ?_
  refine seq_out ((((KeepM.refl 5 [3] a2).put (by decide)).put (by decide)).put (by decide)) fun a6 k6 tr => ?_
  have f3 := tr 3 (.pointer (some ⟨b3, 0, none⟩)) (ev_same (by first | (rw [hz]; decide) | (simp only [size_put, hz]; decide)))
  clear tr
  replace e1 := k6.ev e1 (by decide)
  replace e2 := k6.ev e2 (by decide)
  replace hz := k6.size.trans hz
  replace hd := k6.defers.trans hd
  have e3 := f3
  clear f3
  refine wp_seq ?_
  refine wp_seq ?_
  refine seq_startL (l := [0]) (by kernel_rfl) ?_
  refine seq_assign 4 (v := (.int .i64 0)) rfl rfl rfl rfl rfl ?_
  refine seq_nil ?_
  refine seq_out ((KeepM.refl 5 [4] a6).put (by decide)) fun a7 k7 tr => ?_
  have f4 := tr 4 (.int .i64 0) (ev_same (by first | (rw [hz]; decide) | (simp only [size_put, hz]; decide)))
  clear tr
  replace e1 := k7.ev e1 (by decide)
  replace e2 := k7.ev e2 (by decide)
  replace e3 := k7.ev e3 (by decide)
  replace hz := k7.size.trans hz
  replace hd := k7.defers.trans hd
  have e4 := f4
  clear f4
  have hno : ∀ i, i < 0 → bt p.rows i i = false := fun i h => absurd h (Nat.not_lt_zero i)
  refine wp_block ?_
  refine wp_loop (fun aq wq => ∃ (k : Nat), (k ≤ N ∧ ∀ i, i < k → bt p.rows i i = false) ∧ KeepM 5 [4] a7 aq ∧ aq.eval (.tmp 4) = (.int .i64 ((k : Nat) : Int)) ∧ RowT wq b1 26 [.int .i64 r.n, .slice r.A r.rows.length r.cap] ∧ RowT wq b3 26 [.int .i64 ((N : Nat) : Int), .slice p.A N p.cap] ∧ p.good wq ∧ Below w0.heap.size w0 wq) (fun aq _ => N - (intOf (aq.eval (.tmp 4))).toNat) ⟨0, ⟨Nat.zero_le _, hno⟩, KeepM.refl _ _ _, e4, x1, x3, hp, hB⟩ ?_
  rintro a8 w8 ⟨k, hk0, kk0, g4, qx1, qx3, qhp, qB⟩
  replace e1 := kk0.ev e1 (by decide)
  replace e2 := kk0.ev e2 (by decide)
  replace e3 := kk0.ev e3 (by decide)
  replace hz := kk0.size.trans hz
  replace hd := kk0.defers.trans hd
  clear e4 x1 x3 hp hB hS
  have e4 := g4
  have x1 := qx1
  have x3 := qx3
  have hp := qhp
  have hB := qB
  have hS := hB.size
  clear qx1 qx3 qhp qB
  obtain ⟨hkl, hall⟩ := hk0
  have e4s := e4
  refine wp_seq ?_
  refine wp_seq ?_
  refine seq_startL (l := [0, 1, 2, 3]) (by kernel_rfl) ?_
  refine seq_move 7 (v := (.int .i64 ((k : Nat) : Int))) rfl rfl rfl rfl e4 ?_
  refine seq_valD 8 (v := (.pointer (some ⟨b3, 0, none⟩))) rfl rfl rfl (run_fp0 rfl ((ev_ne (by decide)).trans e3)) ?_
  refine seq_valD 9 (v := (.int .i64 ((N : Nat) : Int))) rfl rfl rfl (run_ldI rfl (ev_same (by first | (rw [hz]; decide) | (simp only [size_put, hz]; decide))) (x3.cell 0)) ?_
  refine seq_valD 10 (v := (.bool (decide (((k : Nat) : Int) < ((N : Nat) : Int))))) rfl rfl rfl (run_ltI rfl ((ev_ne (by decide)).trans ((ev_ne (by decide)).trans (ev_same (by first | (rw [hz]; decide) | (simp only [size_put, hz]; decide))))) (ev_same (by first | (rw [hz]; decide) | (simp only [size_put, hz]; decide)))) ?_
  refine seq_nil ?_
  refine seq_out (((((KeepM.refl 5 [] a8).put (by decide)).put (by decide)).put (by decide)).put (by decide)) fun a9 k9 tr => ?_
  have f10 := tr 10 (.bool (decide (((k : Nat) : Int) < ((N : Nat) : Int)))) (ev_same (by first | (rw [hz]; decide) | (simp only [size_put, hz]; decide)))
  clear tr
  replace e1 := k9.ev e1 (by decide)
  replace e2 := k9.ev e2 (by decide)
  replace e3 := k9.ev e3 (by decide)
  replace e4 := k9.ev e4 (by decide)
  replace hz := k9.size.trans hz
  replace hd := k9.defers.trans hd
  replace kk0 := kk0.trans (k9.mono (ys := [4]) (by decide))
  have e10 := f10
  clear f10
  by_cases hltk : k < N
  · rw [decide_eq_true (by omega)] at e10
    refine wp_cond_true e10 ?_
    refine wp_skip ?_
    refine wp_seq ?_
    refine wp_block ?_
    refine wp_seq ?_
    obtain ⟨ad, hA, hal1, hcA, huA⟩ := good_row hp (k := k) (by omega)
    cases hbt : (p.rows.getD k 0).testBit k with
    | false =>
      refine seq_startL (l := [0, 1, 2, 3, 4, 5, 6, 7, 8, 9]) (by kernel_rfl) ?_
      refine seq_valD 13 (v := (.pointer (some ⟨b3, 1, none⟩))) rfl rfl rfl (run_fp1 rfl e3) ?_
      refine seq_valD 14 (v := (.slice (some ad) N p.cap)) rfl rfl rfl (run_ldS rfl (ev_same (by first | (rw [hz]; decide) | (simp only [size_put, hz]; decide))) (by rw [← hA]; exact x3.cell 1)) ?_
      refine seq_move 15 (v := (.int .i64 ((k : Nat) : Int))) rfl rfl rfl rfl ((ev_ne (by decide)).trans ((ev_ne (by decide)).trans e4)) ?_
      refine seq_valD 16 (v := (.pointer (some (ad.add k)))) rfl rfl rfl (run_ixU (k := k) rfl ((ev_ne (by decide)).trans (ev_same (by first | (rw [hz]; decide) | (simp only [size_put, hz]; decide)))) (ev_same (by first | (rw [hz]; decide) | (simp only [size_put, hz]; decide))) hltk) ?_
      refine seq_valD 17 (v := (.int .u64 (((p.rows.getD k 0) : Nat) : Int))) rfl rfl rfl (run_ldU rfl (ev_same (by first | (rw [hz]; decide) | (simp only [size_put, hz]; decide))) hcA) ?_
      refine seq_move 18 (v := (.int .i64 ((k : Nat) : Int))) rfl rfl rfl rfl ((ev_ne (by decide)).trans ((ev_ne (by decide)).trans ((ev_ne (by decide)).trans ((ev_ne (by decide)).trans ((ev_ne (by decide)).trans e4))))) ?_
      refine seq_valD 19 (v := (.int .u64 ((k : Nat) : Int))) rfl rfl rfl (run_cvU rfl (ev_same (by first | (rw [hz]; decide) | (simp only [size_put, hz]; decide))) (by omega)) ?_
      refine seq_valD 20 (v := (.int .u64 ((((p.rows.getD k 0) / 2 ^ k) : Nat) : Int))) rfl rfl rfl (run_shr rfl ((ev_ne (by decide)).trans ((ev_ne (by decide)).trans (ev_same (by first | (rw [hz]; decide) | (simp only [size_put, hz]; decide))))) (ev_same (by first | (rw [hz]; decide) | (simp only [size_put, hz]; decide))) (by omega)) ?_
      refine seq_valD 21 (v := (.int .u64 (((((p.rows.getD k 0) / 2 ^ k) % 2) : Nat) : Int))) rfl rfl rfl (run_rem2 rfl (ev_same (by first | (rw [hz]; decide) | (simp only [size_put, hz]; decide))) rfl) ?_
      refine seq_valD 22 (v := (.bool false)) rfl rfl rfl ((run_eqU rfl (ev_same (by first | (rw [hz]; decide) | (simp only [size_put, hz]; decide))) rfl).trans (okB (c := false) (bit_eq hbt))) ?_
      refine seq_nil ?_
      refine seq_out (((((((((((KeepM.refl 5 [] a9).put (by decide)).put (by decide)).put (by decide)).put (by decide)).put (by decide)).put (by decide)).put (by decide)).put (by decide)).put (by decide)).put (by decide)) fun a10 k10 tr => ?_
      have f22 := tr 22 (.bool false) (ev_same (by first | (rw [hz]; decide) | (simp only [size_put, hz]; decide)))
      clear tr
      replace e1 := k10.ev e1 (by decide)
      replace e2 := k10.ev e2 (by decide)
      replace e3 := k10.ev e3 (by decide)
      replace e4 := k10.ev e4 (by decide)
      replace hz := k10.size.trans hz
      replace hd := k10.defers.trans hd
      replace kk0 := kk0.trans (k10.mono (ys := [4]) (by decide))
      have e22 := f22
      clear f22
      refine wp_cond_false e22 ?_
      refine wp_skip ?_
      refine seq_startL (l := [0, 1, 2]) (by kernel_rfl) ?_
      refine seq_move 11 (v := (.int .i64 ((k : Nat) : Int))) rfl rfl rfl rfl e4 ?_
      refine seq_valD 12 (v := (.int .i64 ((k + 1 : Nat) : Int))) rfl rfl rfl (run_incI rfl (ev_same (by first | (rw [hz]; decide) | (simp only [size_put, hz]; decide))) rfl (by omega)) ?_
      refine seq_assign 4 (v := (.int .i64 ((k + 1 : Nat) : Int))) rfl rfl rfl rfl (ev_same (by first | (rw [hz]; decide) | (simp only [size_put, hz]; decide))) ?_
      refine seq_nil ?_
      refine seq_out ((((KeepM.refl 5 [4] a10).put (by decide)).put (by decide)).put (by decide)) fun a11 k11 tr => ?_
      have f4 := tr 4 (.int .i64 ((k + 1 : Nat) : Int)) (ev_same (by first | (rw [hz]; decide) | (simp only [size_put, hz]; decide)))
      clear tr
      replace e1 := k11.ev e1 (by decide)
      replace e2 := k11.ev e2 (by decide)
      replace e3 := k11.ev e3 (by decide)
      replace hz := k11.size.trans hz
      replace hd := k11.defers.trans hd
      replace kk0 := kk0.trans (k11.mono (ys := [4]) (by decide))
      have e4 := f4
      clear f4
      refine ⟨⟨k + 1, ⟨by omega, fun i hi => ?_⟩, kk0, e4, x1, x3, hp, hB⟩, ?_⟩
      · by_cases e : i = k
        · rw [e]; exact hbt
        · exact hall i (by omega)
      · rw [e4, e4s]; simp [intOf]; omega
    | true =>
      refine seq_startL (l := [0, 1, 2, 3, 4, 5, 6, 7, 8, 9]) (by kernel_rfl) ?_
      refine seq_valD 13 (v := (.pointer (some ⟨b3, 1, none⟩))) rfl rfl rfl (run_fp1 rfl e3) ?_
      refine seq_valD 14 (v := (.slice (some ad) N p.cap)) rfl rfl rfl (run_ldS rfl (ev_same (by first | (rw [hz]; decide) | (simp only [size_put, hz]; decide))) (by rw [← hA]; exact x3.cell 1)) ?_
      refine seq_move 15 (v := (.int .i64 ((k : Nat) : Int))) rfl rfl rfl rfl ((ev_ne (by decide)).trans ((ev_ne (by decide)).trans e4)) ?_
      refine seq_valD 16 (v := (.pointer (some (ad.add k)))) rfl rfl rfl (run_ixU (k := k) rfl ((ev_ne (by decide)).trans (ev_same (by first | (rw [hz]; decide) | (simp only [size_put, hz]; decide)))) (ev_same (by first | (rw [hz]; decide) | (simp only [size_put, hz]; decide))) hltk) ?_
      refine seq_valD 17 (v := (.int .u64 (((p.rows.getD k 0) : Nat) : Int))) rfl rfl rfl (run_ldU rfl (ev_same (by first | (rw [hz]; decide) | (simp only [size_put, hz]; decide))) hcA) ?_
      refine seq_move 18 (v := (.int .i64 ((k : Nat) : Int))) rfl rfl rfl rfl ((ev_ne (by decide)).trans ((ev_ne (by decide)).trans ((ev_ne (by decide)).trans ((ev_ne (by decide)).trans ((ev_ne (by decide)).trans e4))))) ?_
      refine seq_valD 19 (v := (.int .u64 ((k : Nat) : Int))) rfl rfl rfl (run_cvU rfl (ev_same (by first | (rw [hz]; decide) | (simp only [size_put, hz]; decide))) (by omega)) ?_
      refine seq_valD 20 (v := (.int .u64 ((((p.rows.getD k 0) / 2 ^ k) : Nat) : Int))) rfl rfl rfl (run_shr rfl ((ev_ne (by decide)).trans ((ev_ne (by decide)).trans (ev_same (by first | (rw [hz]; decide) | (simp only [size_put, hz]; decide))))) (ev_same (by first | (rw [hz]; decide) | (simp only [size_put, hz]; decide))) (by omega)) ?_
      refine seq_valD 21 (v := (.int .u64 (((((p.rows.getD k 0) / 2 ^ k) % 2) : Nat) : Int))) rfl rfl rfl (run_rem2 rfl (ev_same (by first | (rw [hz]; decide) | (simp only [size_put, hz]; decide))) rfl) ?_
      refine seq_valD 22 (v := (.bool true)) rfl rfl rfl ((run_eqU rfl (ev_same (by first | (rw [hz]; decide) | (simp only [size_put, hz]; decide))) rfl).trans (okB (c := true) (bit_eq hbt))) ?_
      refine seq_nil ?_
      refine seq_out (((((((((((KeepM.refl 5 [] a9).put (by decide)).put (by decide)).put (by decide)).put (by decide)).put (by decide)).put (by decide)).put (by decide)).put (by decide)).put (by decide)).put (by decide)) fun a12 k12 tr => ?_
      have f22 := tr 22 (.bool true) (ev_same (by first | (rw [hz]; decide) | (simp only [size_put, hz]; decide)))
      clear tr
      replace e1 := k12.ev e1 (by decide)
      replace e2 := k12.ev e2 (by decide)
      replace e3 := k12.ev e3 (by decide)
      replace e4 := k12.ev e4 (by decide)
      replace hz := k12.size.trans hz
      replace hd := k12.defers.trans hd
      replace kk0 := kk0.trans (k12.mono (ys := [4]) (by decide))
      have e22 := f22
      clear f22
      refine wp_cond_true e22 ?_
      refine wp_seq ?_
      refine seq_startL (l := [0]) (by kernel_rfl) ?_
      refine seq_assign 2 (v := (.bool false)) rfl rfl rfl rfl rfl ?_
      refine seq_nil ?_
      refine seq_out ((KeepM.refl 5 [2] a12).put (by decide)) fun a13 k13 tr => ?_
      have f2 := tr 2 (.bool false) (ev_same (by first | (rw [hz]; decide) | (simp only [size_put, hz]; decide)))
      clear tr
      replace e1 := k13.ev e1 (by decide)
      replace e3 := k13.ev e3 (by decide)
      replace e4 := k13.ev e4 (by decide)
      replace hz := k13.size.trans hz
      replace hd := k13.defers.trans hd
      have e2 := f2
      clear f2
      refine wp_ret ?_
      exact post_slot rfl hd (get_of_bool e2) (Ret.b (acyc_no hpp.out hpl hltk hbt).symm hB)
  · rw [decide_eq_false (by omega)] at e10
    refine wp_cond_false e10 ?_
    refine wp_exit ?_
    refine exit_here1 (id := 0) ?_
    obtain rfl : N = k := by omega
    refine wp_seq ?_
    refine seq_startL (l := [0, 1, 2, 3]) (by kernel_rfl) ?_
    refine seq_valD 23 (v := (.agg #[.int .i64 r.n, .slice r.A r.rows.length r.cap])) rfl rfl rfl (run_ldR rfl e1 (x1.cell 0) (x1.cell 1)) ?_
    refine seq_callD 24 rfl rfl rfl en_rCheck rfl (args_one (ev_same (by first | (rw [hz]; decide) | (simp only [size_put, hz]; decide)))) ((rcheck_any r.n r.A r.cap r.rows w8 (hr.on hB).1 (hr.on hB).2).mono ?_)
    rintro e w14 ⟨rfl, hb14⟩
    refine ⟨_, rfl, ?_⟩
    replace x1 := x1.below hb14 x1.lt
    replace x3 := x3.below hb14 x3.lt
    replace hp := hp.on hb14
    replace hB := Below.next hB hb14
    replace hS := hB.size
    refine seq_valD 25 (v := (.bool r.ok)) rfl rfl rfl ((run_eqE rfl (ev_same (by first | (rw [hz]; decide) | (simp only [size_put, hz]; decide))) rfl).trans (okB (c := r.ok) (chk_eq r))) ?_
    refine seq_assign 2 (v := (.bool r.ok)) rfl rfl rfl rfl (ev_same (by first | (rw [hz]; decide) | (simp only [size_put, hz]; decide))) ?_
    refine seq_nil ?_
    refine seq_out (((((KeepM.refl 5 [2] a9).put (by decide)).put (by decide)).put (by decide)).put (by decide)) fun a15 k15 tr => ?_
    have f2 := tr 2 (.bool r.ok) (ev_same (by first | (rw [hz]; decide) | (simp only [size_put, hz]; decide)))
    clear tr
    replace e1 := k15.ev e1 (by decide)
    replace e3 := k15.ev e3 (by decide)
    replace e4 := k15.ev e4 (by decide)
    replace hz := k15.size.trans hz
    replace hd := k15.defers.trans hd
    have e2 := f2
    clear f2
    refine wp_ret ?_
    exact post_slot rfl hd (get_of_bool e2) (Ret.b (acyc_yes hpp.out hpl hall).symm hB)
theorem en_rAcyclic : Enters Tryd.prog 26 := enters_of Tryd.func26 (by kernel_rfl) rfl
theorem addadd2 (a : Addr) (m n : Nat) : (a.add m).add n = a.add (m + n) := by
  unfold Addr.add
  by_cases hm : m = 0 <;> by_cases hn : n = 0 <;> simp [hm, hn, Nat.add_assoc]
theorem run_ldA {o : Oper} {ρ : Operand → Value} {w : World} {x : Operand} {p : Addr} {i j : Int} (hop : o.op = .load 28 x) (hx : ρ x = .pointer (some p)) (h0 : w.cell? p = some (I i)) (h1 : w.cell? (p.add 1) = some (I j)) : (execOp ρ o).run Tryd.prog w = .ok (.value (.agg #[.int .i64 i, .int .i64 j])) w := by
  have h1' : w.cell? { block := p.block, off := p.off + 1 } = some (I j) := by
    have e : p.add 1 = { block := p.block, off := p.off + 1 } := by unfold Addr.add; simp
    rw [← e]; exact h1
  simp [execOp, hop, hx, go_sem, h0, h1', I]
theorem run_neA {o : Oper} {ρ : Operand → Value} {w : World} {x y : Operand} {i j : Int} {t : TypeId} (hop : o.op = .binOp .neq 28 x y t) (hx : ρ x = .agg #[.int .i64 i, .int .i64 j]) (hy : ρ y = .agg #[.int .i64 i, .int .i64 j]) : (execOp ρ o).run Tryd.prog w = .ok (.value (.bool false)) w := by
  have he : (Op.equalIn 10000 28 (.agg #[.int .i64 i, .int .i64 j]) (.agg #[.int .i64 i, .int .i64 j])).run Tryd.prog w = .ok true w := by
    rw [show (10000 : Nat) = 9998 + 1 + 1 from rfl, Op.equalIn]
    simp [go_sem, run_underlying Tryd.underlying28, show List.range' 0 2 = [0, 1] from rfl]
  simp [execOp, hop, hx, hy, go_sem, he]
set_option maxRecDepth 100000 in
set_option maxHeartbeats 4000000 in
theorem kitPairs_yes (l : List (Int × Int)) (A B : Option Addr) (c d : Nat) (w0 : World) (hl : l.length ≤ 9223372036854775807) (hra : Reads w0 w0.heap.size 2 A l.length (prs l)) (hrb : Reads w0 w0.heap.size 2 B l.length (prs l)) :
    Calls Tryd.prog 31 #[.slice A l.length c, .slice B l.length d] w0 (Ret w0 (.bool true)) := by
  refine calls_of_wp Tryd.func31 rfl ?_
  obtain ⟨hz, e0, e1⟩ := start_act2 26 ((.slice A l.length c)) ((.slice B l.length d)) (by decide)
  have hd : ({ tmps := #[(.slice A l.length c), (.slice B l.length d)] ++ Array.replicate (26 - 2) undef, defers := [] } : Act).defers = [] := rfl
  rw [show Tryd.f31.ntmps - (#[(.slice A l.length c), (.slice B l.length d)] : Array Value).size = 26 - 2 from rfl]
  generalize ({ tmps := #[(.slice A l.length c), (.slice B l.length d)] ++ Array.replicate (26 - 2) undef, defers := [] } : Act) = a0 at hz e0 e1 hd ⊢
  have hB : Below w0.heap.size w0 w0 := Below.refl _ _
  have hS := hB.size
  refine wp_seq ?_
  refine seq_startL (l := [0]) (by kernel_rfl) ?_
  refine seq_assign 4 (v := (.bool false)) rfl rfl rfl rfl rfl ?_
  refine seq_nil ?_
  refine seq_out ((KeepM.refl 6 [4] a0).put (by decide)) fun a1 k1 tr => ?_
  have f4 := tr 4 (.bool false) (ev_same (by first | (rw [hz]; decide) | (simp only [size_put, hz]; decide)))
  clear tr
  replace e0 := k1.ev e0 (by decide)
  replace e1 := k1.ev e1 (by decide)
  replace hz := k1.size.trans hz
  replace hd := k1.defers.trans hd
  have e4 := f4
  clear f4
  refine wp_seq ?_
  refine wp_seq ?_
  refine seq_startL (l := [0, 1, 2, 3, 4]) (by kernel_rfl) ?_
  refine seq_move 6 (v := (.slice A l.length c)) rfl rfl rfl rfl e0 ?_
  refine seq_valD 7 (v := (.int .i64 ((l.length : Nat) : Int))) rfl rfl rfl (run_lenP rfl (ev_same (by first | (rw [hz]; decide) | (simp only [size_put, hz]; decide)))) ?_
  refine seq_move 8 (v := (.slice B l.length d)) rfl rfl rfl rfl ((ev_ne (by decide)).trans ((ev_ne (by decide)).trans e1)) ?_
  refine seq_valD 9 (v := (.int .i64 ((l.length : Nat) : Int))) rfl rfl rfl (run_lenP rfl (ev_same (by first | (rw [hz]; decide) | (simp only [size_put, hz]; decide)))) ?_
  refine seq_valD 10 (v := (.bool false)) rfl rfl rfl ((run_neI rfl ((ev_ne (by decide)).trans ((ev_ne (by decide)).trans (ev_same (by first | (rw [hz]; decide) | (simp only [size_put, hz]; decide))))) (ev_same (by first | (rw [hz]; decide) | (simp only [size_put, hz]; decide)))).trans (okB (c := false) (by simp))) ?_
  refine seq_nil ?_
  refine seq_out ((((((KeepM.refl 6 [] a1).put (by decide)).put (by decide)).put (by decide)).put (by decide)).put (by decide)) fun a2 k2 tr => ?_
  have f10 := tr 10 (.bool false) (ev_same (by first | (rw [hz]; decide) | (simp only [size_put, hz]; decide)))
  clear tr
  replace e0 := k2.ev e0 (by decide)
  replace e1 := k2.ev e1 (by decide)
  replace e4 := k2.ev e4 (by decide)
  replace hz := k2.size.trans hz
  replace hd := k2.defers.trans hd
  have e10 := f10
  clear f10
  refine wp_cond_false e10 ?_
  refine wp_skip ?_
  refine wp_seq ?_
  refine wp_seq ?_
  refine seq_startL (l := [0]) (by kernel_rfl) ?_
  refine seq_assign 5 (v := (.int .i64 0)) rfl rfl rfl rfl rfl ?_
  refine seq_nil ?_
  refine seq_out ((KeepM.refl 6 [5] a2).put (by decide)) fun a3 k3 tr => ?_
  have f5 := tr 5 (.int .i64 0) (ev_same (by first | (rw [hz]; decide) | (simp only [size_put, hz]; decide)))
  clear tr
  replace e0 := k3.ev e0 (by decide)
  replace e1 := k3.ev e1 (by decide)
  replace e4 := k3.ev e4 (by decide)
  replace hz := k3.size.trans hz
  replace hd := k3.defers.trans hd
  have e5 := f5
  clear f5
  refine wp_block ?_
  refine wp_loop (fun aq wq => ∃ (k : Nat), (k ≤ l.length) ∧ KeepM 6 [5] a3 aq ∧ aq.eval (.tmp 5) = (.int .i64 ((k : Nat) : Int)) ∧ Below w0.heap.size w0 wq) (fun aq _ => l.length - (intOf (aq.eval (.tmp 5))).toNat) ⟨0, Nat.zero_le _, KeepM.refl _ _ _, e5, hB⟩ ?_
  rintro a4 w4 ⟨k, hk0, kk0, g5, qB⟩
  replace e0 := kk0.ev e0 (by decide)
  replace e1 := kk0.ev e1 (by decide)
  replace e4 := kk0.ev e4 (by decide)
  replace hz := kk0.size.trans hz
  replace hd := kk0.defers.trans hd
  clear e5  hB hS
  have e5 := g5
  have hB := qB
  have hS := hB.size
  clear  qB
  have e5s := e5
  refine wp_seq ?_
  refine wp_seq ?_
  refine seq_startL (l := [0, 1, 2, 3]) (by kernel_rfl) ?_
  refine seq_move 11 (v := (.int .i64 ((k : Nat) : Int))) rfl rfl rfl rfl e5 ?_
  refine seq_move 12 (v := (.slice A l.length c)) rfl rfl rfl rfl ((ev_ne (by decide)).trans e0) ?_
  refine seq_valD 13 (v := (.int .i64 ((l.length : Nat) : Int))) rfl rfl rfl (run_lenP rfl (ev_same (by first | (rw [hz]; decide) | (simp only [size_put, hz]; decide)))) ?_
  refine seq_valD 14 (v := (.bool (decide (((k : Nat) : Int) < ((l.length : Nat) : Int))))) rfl rfl rfl (run_ltI rfl ((ev_ne (by decide)).trans ((ev_ne (by decide)).trans (ev_same (by first | (rw [hz]; decide) | (simp only [size_put, hz]; decide))))) (ev_same (by first | (rw [hz]; decide) | (simp only [size_put, hz]; decide)))) ?_
  refine seq_nil ?_
  refine seq_out (((((KeepM.refl 6 [] a4).put (by decide)).put (by decide)).put (by decide)).put (by decide)) fun a5 k5 tr => ?_
  have f14 := tr 14 (.bool (decide (((k : Nat) : Int) < ((l.length : Nat) : Int)))) (ev_same (by first | (rw [hz]; decide) | (simp only [size_put, hz]; decide)))
  clear tr
  replace e0 := k5.ev e0 (by decide)
  replace e1 := k5.ev e1 (by decide)
  replace e4 := k5.ev e4 (by decide)
  replace e5 := k5.ev e5 (by decide)
  replace hz := k5.size.trans hz
  replace hd := k5.defers.trans hd
  replace kk0 := kk0.trans (k5.mono (ys := [5]) (by decide))
  have e14 := f14
  clear f14
  by_cases hltk : k < l.length
  · rw [decide_eq_true (by omega)] at e14
    refine wp_cond_true e14 ?_
    refine wp_skip ?_
    refine wp_seq ?_
    refine wp_block ?_
    refine wp_seq ?_
    obtain ⟨q, hq⟩ : ∃ q, l[k]? = some q := ⟨_, List.getElem?_eq_getElem (by omega)⟩
    obtain ⟨hq0, hq1⟩ := prs_get _ _ _ hq
    obtain ⟨ad, rfl, hal, hca⟩ := hra.2 (by omega)
    obtain ⟨bd, rfl, hbl, hcb⟩ := hrb.2 (by omega)
    have mad0 := (hB.cell (p := ad.add (k * 2)) (by rw [block_of_add]; exact hal)).trans (hca _ _ hq0)
    have mad1 := (hB.cell (p := ad.add (k * 2 + 1)) (by rw [block_of_add]; exact hal)).trans (hca _ _ hq1)
    have mbd0 := (hB.cell (p := bd.add (k * 2)) (by rw [block_of_add]; exact hbl)).trans (hcb _ _ hq0)
    have mbd1 := (hB.cell (p := bd.add (k * 2 + 1)) (by rw [block_of_add]; exact hbl)).trans (hcb _ _ hq1)
    rw [← addadd2] at mad1
    rw [← addadd2] at mbd1
    have hlast : lastOk (regOps Tryd.f31 6) 9 = true := by kernel_rfl
    refine region_w (n := 9) [some (.slice (some ad) l.length c), some (.int .i64 ((k : Nat) : Int)), some (.pointer (some (ad.add (k * 2)))), some (.agg #[.int .i64 q.1, .int .i64 q.2]), some (.slice (some bd) l.length d), some (.int .i64 ((k : Nat) : Int)), some (.pointer (some (bd.add (k * 2)))), some (.agg #[.int .i64 q.1, .int .i64 q.2]), some (.bool false)] 9 w4 w4.drew (by kernel_rfl) (by rw [hz]; kernel_rfl) (by kernel_rfl) (by kernel_rfl) (by kernel_rfl) (by kernel_rfl) ?_ fun L a6 w6 hL st => ?_
    · refine ⟨⟨⟨⟨⟨⟨⟨⟨⟨trivial, ?_⟩, ?_⟩, ?_⟩, ?_⟩, ?_⟩, ?_⟩, ?_⟩, ?_⟩, ?_⟩
      · intro oo aa ww LL hho hLL haft st; obtain rfl := Option.some.inj hho; exact payW_move st hlast hLL (by decide) (want_none rfl) rfl (st.outV (by kernel_rfl) e0) rfl
      · intro oo aa ww LL hho hLL haft st; obtain rfl := Option.some.inj hho; exact payW_move st hlast hLL (by decide) (want_none rfl) rfl (st.outV (by kernel_rfl) e5) rfl
      · intro oo aa ww LL hho hLL haft st; obtain rfl := Option.some.inj hho; exact payW st hlast hLL (by decide) (want_none rfl) (run_ix2 rfl (st.argV (j := 0) (aft_of haft (by kernel_rfl)) rfl rfl) (st.argV (j := 1) (aft_of haft (by kernel_rfl)) rfl rfl) hltk) rfl
      · intro oo aa ww LL hho hLL haft st; obtain rfl := Option.some.inj hho; exact payW st hlast hLL (by decide) (want_none rfl) (run_ldA rfl (st.argV (j := 2) (aft_of haft (by kernel_rfl)) rfl rfl) mad0 mad1) rfl
      · intro oo aa ww LL hho hLL haft st; obtain rfl := Option.some.inj hho; exact payW_move st hlast hLL (by decide) (want_none rfl) rfl (st.outV (by kernel_rfl) e1) rfl
      · intro oo aa ww LL hho hLL haft st; obtain rfl := Option.some.inj hho; exact payW_move st hlast hLL (by decide) (want_none rfl) rfl (st.outV (by kernel_rfl) e5) rfl
      · intro oo aa ww LL hho hLL haft st; obtain rfl := Option.some.inj hho; exact payW st hlast hLL (by decide) (want_none rfl) (run_ix2 rfl (st.argV (j := 4) (aft_of haft (by kernel_rfl)) rfl rfl) (st.argV (j := 5) (aft_of haft (by kernel_rfl)) rfl rfl) hltk) rfl
      · intro oo aa ww LL hho hLL haft st; obtain rfl := Option.some.inj hho; exact payW st hlast hLL (by decide) (want_none rfl) (run_ldA rfl (st.argV (j := 6) (aft_of haft (by kernel_rfl)) rfl rfl) mbd0 mbd1) rfl
      · intro oo aa ww LL hho hLL haft st; obtain rfl := Option.some.inj hho; exact payW st hlast hLL (by decide) (want_none rfl) (run_neA rfl (st.argV (j := 3) (aft_of haft (by kernel_rfl)) rfl rfl) (st.argV (j := 7) (aft_of haft (by kernel_rfl)) rfl rfl)) rfl
    clear hlast
    obtain rfl := st.end1 (Nat.le_of_eq (by kernel_rfl))
    have k6 : KeepM 6 [] a5 a6 := st.keepM (by kernel_rfl)
    have e25 : a6.eval (.tmp 25) = (.bool false) := st.argV (j := 8) (hL 8 (by omega)) rfl rfl
    clear st hL L
    replace e0 := k6.ev e0 (by decide)
    replace e1 := k6.ev e1 (by decide)
    replace e4 := k6.ev e4 (by decide)
    replace e5 := k6.ev e5 (by decide)
    replace hz := k6.size.trans hz
    replace hd := k6.defers.trans hd
    replace kk0 := kk0.trans (k6.mono (ys := [5]) (by decide))
    replace hB := hB.drew
    generalize w4.drew = w7 at hB ⊢
    refine wp_cond_false e25 ?_
    refine wp_skip ?_
    refine seq_startL (l := [0, 1, 2]) (by kernel_rfl) ?_
    refine seq_move 15 (v := (.int .i64 ((k : Nat) : Int))) rfl rfl rfl rfl e5 ?_
    refine seq_valD 16 (v := (.int .i64 ((k + 1 : Nat) : Int))) rfl rfl rfl (run_incI rfl (ev_same (by first | (rw [hz]; decide) | (simp only [size_put, hz]; decide))) rfl (by omega)) ?_
    refine seq_assign 5 (v := (.int .i64 ((k + 1 : Nat) : Int))) rfl rfl rfl rfl (ev_same (by first | (rw [hz]; decide) | (simp only [size_put, hz]; decide))) ?_
    refine seq_nil ?_
    refine seq_out ((((KeepM.refl 6 [5] a6).put (by decide)).put (by decide)).put (by decide)) fun a8 k8 tr => ?_
    have f5 := tr 5 (.int .i64 ((k + 1 : Nat) : Int)) (ev_same (by first | (rw [hz]; decide) | (simp only [size_put, hz]; decide)))
    clear tr
    replace e0 := k8.ev e0 (by decide)
    replace e1 := k8.ev e1 (by decide)
    replace e4 := k8.ev e4 (by decide)
    replace hz := k8.size.trans hz
    replace hd := k8.defers.trans hd
    replace kk0 := kk0.trans (k8.mono (ys := [5]) (by decide))
    have e5 := f5
    clear f5
    refine ⟨⟨k + 1, by omega, kk0, e5, hB⟩, ?_⟩
    rw [e5, e5s]; simp [intOf]; omega
  · rw [decide_eq_false (by omega)] at e14
    refine wp_cond_false e14 ?_
    refine wp_exit ?_
    refine exit_here1 (id := 0) ?_
    refine wp_seq ?_
    refine seq_startL (l := [0]) (by kernel_rfl) ?_
    refine seq_assign 4 (v := (.bool true)) rfl rfl rfl rfl rfl ?_
    refine seq_nil ?_
    refine seq_out ((KeepM.refl 6 [4] a5).put (by decide)) fun a9 k9 tr => ?_
    have f4 := tr 4 (.bool true) (ev_same (by first | (rw [hz]; decide) | (simp only [size_put, hz]; decide)))
    clear tr
    replace e0 := k9.ev e0 (by decide)
    replace e1 := k9.ev e1 (by decide)
    replace e5 := k9.ev e5 (by decide)
    replace hz := k9.size.trans hz
    replace hd := k9.defers.trans hd
    have e4 := f4
    clear f4
    refine wp_ret ?_
    exact post_slot rfl hd (get_of_bool e4) (Ret.b rfl hB)
theorem en_kitPairs : Enters Tryd.prog 31 := enters_of Tryd.func31 (by kernel_rfl) rfl
end Go.Proofs.YtigdecmfieaacaaDoor
namespace Go.Proofs.YtigdecmfieaacaaDoor
open Go Go.RowKit

def sliceLen : Value → Nat
  | .slice _ n _ => n
  | _ => 0
theorem run_appI {o : Oper} {ρ : Operand → Value} {w w' : World} {x y : Operand} {u v v' : Value} (hop : o.op = .call { callee := .builtin .append, args := #[x, y], argTypes := #[38, 38] }) (hx : ρ x = u) (hy : ρ y = v) (hr : (Builtin.append_ #[38, 38] 38 #[u, v]).run Tryd.prog w = .ok v' w') (ht : o.type = 38 := by rfl) : (execOp ρ o).run Tryd.prog w = .ok (.value v') w' := by
  simp [execOp, hop, resolve, invoke, builtin, hx, hy, ht, hr, Result.andThen]
theorem run_ints1 {o : Oper} {ρ : Operand → Value} {w : World} {x : Operand} {i : Int} (hop : o.op = .buildSlice 38 1 #[(0, x)]) (hx : ρ x = .int .i64 i) : (execOp ρ o).run Tryd.prog w = .ok (.value (.slice (some ⟨w.heap.size, 0, none⟩) 1 1)) (w.alloc (.cells #[.int .i64 i] 3)) := by
  simp [execOp, hop, hx, go_sem]
theorem post_two {fn : Func} {R : Ending → World → Prop} {a : Act} {w : World} {s t : Tmp} {u v : Value} (hf : fn.results = #[.tmp s, .tmp t]) (hd : a.defers = []) (h1 : a.eval (.tmp s) = u) (h2 : a.eval (.tmp t) = v) (h : R (.returned (.tuple #[u, v])) w) : bodyPost Tryd.prog fn R .ret a w :=
  bodyPost_ret (v := .tuple #[u, v]) (by
    have h1' : a.tmps.getD s undef = u := h1
    have h2' : a.tmps.getD t undef = v := h2
    rw [← h1', ← h2']; exact results_tmp2 hf _ _ _) hd h
theorem racyc_t (r : RA) (w : World) {t : Bool} (h : Pacyclic r.pr = t) (hT : Tab w) (hr : r.good w) (hs : Short r.pr) : Calls Tryd.prog 26 #[r.val] w (Ret w (.bool t)) := by
  subst h; exact C_rAcyclic r w hT hr hs
theorem exit_out {X I : Act → World → Prop} {Q : Exit → Act → World → Prop} {a : Act} {w : World} (h : Q .normal a w) : Exit.inBlock 3 (Exit.then X (Exit.then I (Exit.inBlock 2 Q))) (.exit 2) a w := by
  simp only [Exit.inBlock, Exit.then]
  exact h
theorem pc_mask2 (N : Nat) (h : N ≤ 64) : pc (2 ^ N - 1) = N := by
  obtain ⟨d, hd⟩ : ∃ d, 64 = N + d := ⟨64 - N, by omega⟩
  have e : (List.range 64).filter (2 ^ N - 1).testBit = (List.range 64).filter fun j => decide (j < N) := List.filter_congr fun j _ => Nat.testBit_two_pow_sub_one ..
  unfold pc
  rw [e, hd, List.range_add, List.filter_append, List.filter_eq_self.2 (fun j hj => by simpa using hj), List.filter_eq_nil_iff.2 (fun j hj => by
    obtain ⟨i, _, rfl⟩ := List.mem_map.1 hj
    simp)]
  simp
theorem pc_zero {m : Nat} (hm : m < 18446744073709551616) (h : pc m = 0) : m = 0 := by
  refine Classical.byContradiction fun h0 => ?_
  obtain ⟨i, hi⟩ := bit_of h0
  have := pc_clr hm (bit64 hm hi) hi
  omega
theorem sort_next {back : List Nat} {f m : Nat} {acc l : List Int} (h : sortGo back f m acc = some l) (hp : pc m ≠ 0) : ∃ g x : Nat, f = g + 1 ∧ firstR back m = (x : Int) := by
  have h0 : m ≠ 0 := by
    rintro rfl
    exact hp (by decide)
  cases f with
  | zero => simp [sortGo, h0] at h
  | succ g =>
    rcases first_cases back m with h1 | ⟨x, hx⟩
    · rw [sortGo_neg _ _ h0 h1] at h; cases h
    · exact ⟨g, x.1, rfl, hx⟩
theorem firstR_min {back : List Nat} {m x : Nat} (h : firstR back m = (x : Int)) : ∀ j, j < x → m.testBit j = true → back.getD j 0 &&& m ≠ 0 := by
  intro j
  induction j using Nat.strongRecOn with
  | _ j ih =>
    intro hj hb hf
    have hx := firstR_pos h
    have hp : bitsBelow m j ++ [(⟨j, hb, by omega⟩ : BitOf m)] <+: bitsOf m := by
      have := bitsBelow_prefix m (j + 1) (by omega)
      rwa [show j + 1 = j + 0 + 1 from rfl, bitsBelow_step m j 0 ⟨hb, by omega⟩ (fun q hq => absurd hq (Nat.not_lt_zero q))] at this
    have := first_some (back := back) hp (fun y hy => by
      unfold bitsBelow at hy
      obtain ⟨q, hq, e⟩ := List.mem_filterMap.1 hy
      split at e
      · obtain rfl := Option.some.inj e
        rename_i hqb
        have hq' : q < j := by simpa using hq
        exact decide_eq_false (ih q hq' (by omega) hqb.1)
      · cases e) (decide_eq_true hf)
    rw [h] at this
    simp only at this
    omega
theorem bit_zero {m x : Nat} (h : m.testBit x = false) : (((m / 2 ^ x % 2 : Nat) : Int) == 0) = true := by
  rw [Nat.testBit_eq_decide_div_mod_eq] at h
  have h' := of_decide_eq_false h
  have : m / 2 ^ x % 2 = 0 := by omega
  rw [this]; rfl
theorem bit_one {m x : Nat} (h : m.testBit x = true) : (((m / 2 ^ x % 2 : Nat) : Int) == 0) = false := by
  rw [Nat.testBit_eq_decide_div_mod_eq] at h
  have h' := of_decide_eq_true h
  rw [h']; rfl
theorem mask_row {v m D N : Nat} (hv : v < 2 ^ N) (hD : ∀ j, j < N → D.testBit j = !m.testBit j) (_hm : ∀ j, m.testBit j = true → j < N) (hN : N ≤ 64) (hDu : D < 18446744073709551616) : v &&& (18446744073709551615 - D) = v &&& m := by
  apply Nat.eq_of_testBit_eq
  intro j
  rw [Nat.testBit_and, Nat.testBit_and]
  rcases Nat.lt_or_ge j N with h | h
  · congr 1
    have e := Nat.testBit_two_pow_sub_succ (n := 64) (x := D) (i := j) (by
      have : (2 : Nat) ^ 64 = 18446744073709551616 := by decide
      omega)
    rw [show (2 : Nat) ^ 64 - (D + 1) = 18446744073709551615 - D from by
      have : (2 : Nat) ^ 64 = 18446744073709551616 := by decide
      omega] at e
    rw [e, hD j h, decide_eq_true (by omega : j < 64)]; simp
  · rw [Nat.testBit_lt_two_pow (Nat.lt_of_lt_of_le hv (Nat.pow_le_pow_right (by decide) h))]; rfl
theorem turn_bits {rows : List Nat} {N : Nat} (h : rows.length = N) (i : Nat) : (turnR rows).getD i 0 < 2 ^ N := by
  rw [List.getD_eq_getElem?_getD]
  cases e : (turnR rows)[i]? with
  | none => exact Nat.two_pow_pos N
  | some v =>
    obtain ⟨j, _, rfl⟩ := List.mem_map.1 (List.mem_of_getElem? e)
    subst h; exact tcol_lt rows rows.length j
theorem turn_shape {r p : RA} {N : Nat} (ho : r.ok = true) (hl : r.rows.length = N) (h : p.pr = Pturn r.pr) : p.n = (N : Nat) ∧ p.rows = turnR r.rows ∧ p.rows.length = N := by
  have e : p.pr = ⟨r.n, turnR r.rows⟩ := by rw [h]; unfold Pturn; rw [if_pos (show r.pr.ok = true from ho)]; rfl
  have h2 : p.rows = turnR r.rows := congrArg PR.rows e
  refine ⟨?_, h2, by rw [h2, turnR_length, hl]⟩
  rw [show p.n = p.pr.n from rfl, e, ← hl]; exact (ok_rows (show r.pr.ok = true from ho)).1
set_option maxRecDepth 100000 in
set_option maxHeartbeats 4000000 in
theorem sort_loops {Q : Exit → Act → World → Prop} {a0 : Act} (r p : RA) (N : Nat) (l : List Int) (b1 b4 : Nat) (w0 : World) (h64 : N ≤ 64) (hlr : r.rows.length = N) (hpr : p.rows = turnR r.rows) (hpl : p.rows.length = N) (hgo : sortGo (turnR r.rows) 64 (2 ^ N - 1) [] = some l) (hp : p.good w0)
    {sl : Value} (x1 : RowT w0 b1 26 [.int .i64 ((N : Nat) : Int), sl]) (x4 : RowT w0 b4 26 [.int .i64 ((N : Nat) : Int), .slice p.A N p.cap]) (hz : a0.tmps.size = 50) (e1 : a0.eval (.tmp 1) = .pointer (some ⟨b1, 0, none⟩)) (e4 : a0.eval (.tmp 4) = .pointer (some ⟨b4, 0, none⟩)) (e5 : a0.eval (.tmp 5) = .slice none 0 0) (e6 : a0.eval (.tmp 6) = .int .u64 ((0 : Nat) : Int))
    (hK : ∀ a w A c, KeepM 8 [5, 6, 7] a0 a → a.eval (.tmp 5) = .slice A l.length c → w.ownsRow w0.heap.size 3 1 (.slice A l.length c) l.length (l.map I) → Below w0.heap.size w0 w → Q .normal a w) :
    (Code.block 0 (blkCode Tryd.f24 0)).wp Tryd.prog Q a0 w0 := by
  obtain ⟨i0, hi, hz0, hz1, hz2⟩ := info_parts infoInt
  have hd : a0.defers = a0.defers := rfl
  have hB : Below w0.heap.size w0 w0 := Below.refl _ _
  have hS := hB.size
  have ow : w0.ownsRow w0.heap.size 3 1 (.slice none ([] : List Int).length 0) ([] : List Int).length (([] : List Int).map I) := ⟨rfl, .inl ⟨rfl, rfl⟩⟩
  change _ = Value.slice none ([] : List Int).length 0 at e5
  refine wp_block ?_
  refine wp_loop (fun aq wq => ∃ (m : Nat) (fl : Nat) (acc : List Int) (D : Nat) (A : Option Addr) (c : Nat), (m < 18446744073709551616 ∧ (∀ j, m.testBit j = true → j < N) ∧ (∀ j, j < N → D.testBit j = !m.testBit j) ∧ D < 18446744073709551616 ∧ sortGo (turnR r.rows) fl m acc = some l ∧ acc.length + pc m = N) ∧ KeepM 8 [5, 6, 7] a0 aq ∧ aq.eval (.tmp 5) = (.slice A acc.length c) ∧ aq.eval (.tmp 6) = (.int .u64 ((D : Nat) : Int)) ∧ wq.ownsRow w0.heap.size 3 1 (.slice A acc.length c) acc.length (acc.map I) ∧ Below w0.heap.size w0 wq) (fun aq _ => N - sliceLen (aq.eval (.tmp 5))) ⟨2 ^ N - 1, 64, [], 0, none, 0, ⟨pow_u h64, fun j h => mask_bit.1 h, fun j h => by rw [Nat.zero_testBit, mask_bit.2 h]; rfl, by decide, hgo, by simpa using pc_mask2 N h64⟩, KeepM.refl _ _ _, e5, e6, ow, hB⟩ ?_
  rintro a1 w1 ⟨m, fl, acc, D, A, c, hk0, kk0, g5, g6, qow, qB⟩
  replace e1 := kk0.ev e1 (by decide)
  replace e4 := kk0.ev e4 (by decide)
  replace hz := kk0.size.trans hz
  replace hd := kk0.defers.trans hd
  clear e5 e6 ow hB hS
  have e5 := g5
  have e6 := g6
  have ow := qow
  have hB := qB
  have hS := hB.size
  clear qow qB
  obtain ⟨hmu, hmN, hDm, hDu, hgo2, hcnt⟩ := hk0
  have e5s := e5
  refine wp_seq ?_
  refine wp_seq ?_
  refine seq_startL (l := [0, 1, 2, 3, 4]) (by kernel_rfl) ?_
  refine seq_move 13 (v := (.slice A acc.length c)) rfl rfl rfl rfl e5 ?_
  refine seq_valD 14 (v := (.int .i64 ((acc.length : Nat) : Int))) rfl rfl rfl (run_lenI rfl (ev_same (by first | (rw [hz]; decide) | (simp only [size_put, hz]; decide)))) ?_
  refine seq_valD 15 (v := (.pointer (some ⟨b1, 0, none⟩))) rfl rfl rfl (run_fp0 rfl ((ev_ne (by decide)).trans ((ev_ne (by decide)).trans e1))) ?_
  refine seq_valD 16 (v := (.int .i64 ((N : Nat) : Int))) rfl rfl rfl (run_ldI rfl (ev_same (by first | (rw [hz]; decide) | (simp only [size_put, hz]; decide))) ((x1.below hB x1.lt).cell 0)) ?_
  refine seq_valD 17 (v := (.bool (decide (((acc.length : Nat) : Int) < ((N : Nat) : Int))))) rfl rfl rfl (run_ltI rfl ((ev_ne (by decide)).trans ((ev_ne (by decide)).trans (ev_same (by first | (rw [hz]; decide) | (simp only [size_put, hz]; decide))))) (ev_same (by first | (rw [hz]; decide) | (simp only [size_put, hz]; decide)))) ?_
  refine seq_nil ?_
  refine seq_out ((((((KeepM.refl 8 [] a1).put (by decide)).put (by decide)).put (by decide)).put (by decide)).put (by decide)) fun a2 k2 tr => ?_
  have f17 := tr 17 (.bool (decide (((acc.length : Nat) : Int) < ((N : Nat) : Int)))) (ev_same (by first | (rw [hz]; decide) | (simp only [size_put, hz]; decide)))
  clear tr
  replace e1 := k2.ev e1 (by decide)
  replace e4 := k2.ev e4 (by decide)
  replace e5 := k2.ev e5 (by decide)
  replace e6 := k2.ev e6 (by decide)
  replace hz := k2.size.trans hz
  replace hd := k2.defers.trans hd
  replace kk0 := kk0.trans (k2.mono (ys := [5, 6, 7]) (by decide))
  have e17 := f17
  clear f17
  by_cases hlta : acc.length < N
  · rw [decide_eq_true (by omega)] at e17
    refine wp_cond_true e17 ?_
    refine wp_skip ?_
    obtain ⟨f2, x, rfl, hfx⟩ := sort_next hgo2 (by omega)
    obtain ⟨hxm, hx64, hxf⟩ := firstR_pos hfx
    have hxN := hmN x hxm
    have hmin := firstR_min hfx
    refine wp_block ?_
    refine wp_seq ?_
    refine seq_startL (l := [0]) (by kernel_rfl) ?_
    refine seq_assign 7 (v := (.int .i64 0)) rfl rfl rfl rfl rfl ?_
    refine seq_nil ?_
    refine seq_out ((KeepM.refl 8 [7] a2).put (by decide)) fun a3 k3 tr => ?_
    have f7 := tr 7 (.int .i64 0) (ev_same (by first | (rw [hz]; decide) | (simp only [size_put, hz]; decide)))
    clear tr
    replace e1 := k3.ev e1 (by decide)
    replace e4 := k3.ev e4 (by decide)
    replace e5 := k3.ev e5 (by decide)
    replace e6 := k3.ev e6 (by decide)
    replace hz := k3.size.trans hz
    replace hd := k3.defers.trans hd
    replace kk0 := kk0.trans (k3.mono (ys := [5, 6, 7]) (by decide))
    have e7 := f7
    clear f7
    refine wp_block ?_
    refine wp_loop (fun aq wq => ∃ (i : Nat), (i ≤ x) ∧ KeepM 8 [7] a3 aq ∧ aq.eval (.tmp 7) = (.int .i64 ((i : Nat) : Int)) ∧ wq.ownsRow w0.heap.size 3 1 (.slice A acc.length c) acc.length (acc.map I) ∧ Below w0.heap.size w0 wq) (fun aq _ => N - (intOf (aq.eval (.tmp 7))).toNat) ⟨0, Nat.zero_le _, KeepM.refl _ _ _, e7, ow, hB⟩ ?_
    rintro a4 w4 ⟨i, hk2, kk2, g7, qow, qB⟩
    replace e1 := kk2.ev e1 (by decide)
    replace e4 := kk2.ev e4 (by decide)
    replace e5 := kk2.ev e5 (by decide)
    replace e6 := kk2.ev e6 (by decide)
    replace hz := kk2.size.trans hz
    replace hd := kk2.defers.trans hd
    replace kk0 := kk0.trans (kk2.mono (ys := [5, 6, 7]) (by decide))
    clear e7 ow hB hS
    have e7 := g7
    have ow := qow
    have hB := qB
    have hS := hB.size
    clear qow qB
    have e7s := e7
    refine wp_seq ?_
    refine wp_seq ?_
    refine seq_startL (l := [0, 1, 2, 3]) (by kernel_rfl) ?_
    refine seq_move 18 (v := (.int .i64 ((i : Nat) : Int))) rfl rfl rfl rfl e7 ?_
    refine seq_valD 19 (v := (.pointer (some ⟨b1, 0, none⟩))) rfl rfl rfl (run_fp0 rfl ((ev_ne (by decide)).trans e1)) ?_
    refine seq_valD 20 (v := (.int .i64 ((N : Nat) : Int))) rfl rfl rfl (run_ldI rfl (ev_same (by first | (rw [hz]; decide) | (simp only [size_put, hz]; decide))) ((x1.below hB x1.lt).cell 0)) ?_
    refine seq_valD 21 (v := (.bool (decide (((i : Nat) : Int) < ((N : Nat) : Int))))) rfl rfl rfl (run_ltI rfl ((ev_ne (by decide)).trans ((ev_ne (by decide)).trans (ev_same (by first | (rw [hz]; decide) | (simp only [size_put, hz]; decide))))) (ev_same (by first | (rw [hz]; decide) | (simp only [size_put, hz]; decide)))) ?_
    refine seq_nil ?_
    refine seq_out (((((KeepM.refl 8 [] a4).put (by decide)).put (by decide)).put (by decide)).put (by decide)) fun a5 k5 tr => ?_
    have f21 := tr 21 (.bool (decide (((i : Nat) : Int) < ((N : Nat) : Int)))) (ev_same (by first | (rw [hz]; decide) | (simp only [size_put, hz]; decide)))
    clear tr
    replace e1 := k5.ev e1 (by decide)
    replace e4 := k5.ev e4 (by decide)
    replace e5 := k5.ev e5 (by decide)
    replace e6 := k5.ev e6 (by decide)
    replace e7 := k5.ev e7 (by decide)
    replace hz := k5.size.trans hz
    replace hd := k5.defers.trans hd
    replace kk0 := kk0.trans (k5.mono (ys := [5, 6, 7]) (by decide))
    replace kk2 := kk2.trans (k5.mono (ys := [7]) (by decide))
    have e21 := f21
    clear f21
    by_cases hlti : i < N
    · rw [decide_eq_true (by omega)] at e21
      refine wp_cond_true e21 ?_
      refine wp_skip ?_
      refine wp_seq ?_
      refine wp_block ?_
      refine wp_seq ?_
      obtain ⟨ad, hA, hal1, hcA, huA⟩ := good_row (hp.on hB) (k := i) (by omega)
      have hrow : p.rows.getD i 0 &&& (18446744073709551615 - D) = p.rows.getD i 0 &&& m := mask_row (by rw [hpr]; exact turn_bits hlr i) hDm hmN h64 hDu
      by_cases hix : i = x
      · subst hix
        have hlast : lastOk (regOps Tryd.f24 10) 16 = true := by kernel_rfl
        refine region_ws (n := 16) [some (.int .u64 ((D : Nat) : Int)), some (.int .i64 ((i : Nat) : Int)), some (.int .u64 ((i : Nat) : Int)), some (.int .u64 (((D / 2 ^ i) : Nat) : Int)), some (.int .u64 ((((D / 2 ^ i) % 2) : Nat) : Int)), some (.bool true), some (.bool true), some (.pointer (some ⟨b4, 1, none⟩)), some (.slice (some ad) N p.cap), some (.int .i64 ((i : Nat) : Int)), some (.pointer (some (ad.add i))), some (.int .u64 (((p.rows.getD i 0) : Nat) : Int)), some (.int .u64 ((D : Nat) : Int)), some (.int .u64 ((((p.rows.getD i 0) &&& (18446744073709551615 - D)) : Nat) : Int)), some (.bool true), some (.bool true)] 16 w4 w4 (by rw [hz]; kernel_rfl) (by kernel_rfl) (by kernel_rfl) (by kernel_rfl) ?_ fun L a6 w6 hL st => ?_
        · refine ⟨⟨⟨⟨⟨⟨⟨⟨⟨⟨⟨⟨⟨⟨⟨⟨trivial, ?_⟩, ?_⟩, ?_⟩, ?_⟩, ?_⟩, ?_⟩, ?_⟩, ?_⟩, ?_⟩, ?_⟩, ?_⟩, ?_⟩, ?_⟩, ?_⟩, ?_⟩, ?_⟩
          · intro oo aa ww LL hho hLL haft st; obtain rfl := Option.some.inj hho; exact payW_move st hlast hLL (by decide) (want_none rfl) rfl (st.outV (by kernel_rfl) e6) rfl
          · intro oo aa ww LL hho hLL haft st; obtain rfl := Option.some.inj hho; exact payW_move st hlast hLL (by decide) (want_none rfl) rfl (st.outV (by kernel_rfl) e7) rfl
          · intro oo aa ww LL hho hLL haft st; obtain rfl := Option.some.inj hho; exact payW st hlast hLL (by decide) (want_none rfl) (run_cvU rfl (st.argV (j := 1) (aft_of haft (by kernel_rfl)) rfl rfl) (by omega)) rfl
          · intro oo aa ww LL hho hLL haft st; obtain rfl := Option.some.inj hho; exact payW st hlast hLL (by decide) (want_none rfl) (run_shr rfl (st.argV (j := 0) (aft_of haft (by kernel_rfl)) rfl rfl) (st.argV (j := 2) (aft_of haft (by kernel_rfl)) rfl rfl) (by omega)) rfl
          · intro oo aa ww LL hho hLL haft st; obtain rfl := Option.some.inj hho; exact payW st hlast hLL (by decide) (want_none rfl) (run_rem2 rfl (st.argV (j := 3) (aft_of haft (by kernel_rfl)) rfl rfl) rfl) rfl
          · intro oo aa ww LL hho hLL haft st; obtain rfl := Option.some.inj hho; exact payW st hlast hLL (by decide) (want_none rfl) ((run_eqU rfl (st.argV (j := 4) (aft_of haft (by kernel_rfl)) rfl rfl) rfl).trans (okB (c := true) (bit_zero (by rw [hDm i hlti, hxm]; rfl)))) rfl
          · intro oo aa ww LL hho hLL haft st; obtain rfl := Option.some.inj hho; exact payW_move st hlast hLL (by decide) (want_none rfl) rfl (st.argV (j := 5) (aft_of haft (by kernel_rfl)) rfl rfl) rfl
          · intro oo aa ww LL hho hLL haft st; obtain rfl := Option.some.inj hho; exact payW st hlast hLL (by decide) (st.wantV haft rfl (by kernel_rfl) rfl) (run_fp1 rfl (st.outV (by kernel_rfl) e4)) rfl
          · intro oo aa ww LL hho hLL haft st; obtain rfl := Option.some.inj hho; exact payW st hlast hLL (by decide) (st.wantV haft rfl (by kernel_rfl) rfl) (run_ldS rfl (st.argV (j := 7) (aft_of haft (by kernel_rfl)) rfl rfl) (by rw [← hA]; exact (x4.below hB x4.lt).cell 1)) rfl
          · intro oo aa ww LL hho hLL haft st; obtain rfl := Option.some.inj hho; exact payW_move st hlast hLL (by decide) (st.wantV haft rfl (by kernel_rfl) rfl) rfl (st.outV (by kernel_rfl) e7) rfl
          · intro oo aa ww LL hho hLL haft st; obtain rfl := Option.some.inj hho; exact payW st hlast hLL (by decide) (st.wantV haft rfl (by kernel_rfl) rfl) (run_ixU (k := i) rfl (st.argV (j := 8) (aft_of haft (by kernel_rfl)) rfl rfl) (st.argV (j := 9) (aft_of haft (by kernel_rfl)) rfl rfl) hlti) rfl
          · intro oo aa ww LL hho hLL haft st; obtain rfl := Option.some.inj hho; exact payW st hlast hLL (by decide) (st.wantV haft rfl (by kernel_rfl) rfl) (run_ldU rfl (st.argV (j := 10) (aft_of haft (by kernel_rfl)) rfl rfl) hcA) rfl
          · intro oo aa ww LL hho hLL haft st; obtain rfl := Option.some.inj hho; exact payW_move st hlast hLL (by decide) (st.wantV haft rfl (by kernel_rfl) rfl) rfl (st.outV (by kernel_rfl) e6) rfl
          · intro oo aa ww LL hho hLL haft st; obtain rfl := Option.some.inj hho; exact payW st hlast hLL (by decide) (st.wantV haft rfl (by kernel_rfl) rfl) (run_andNotU rfl (st.argV (j := 11) (aft_of haft (by kernel_rfl)) rfl rfl) (st.argV (j := 12) (aft_of haft (by kernel_rfl)) rfl rfl) huA hDu) rfl
          · intro oo aa ww LL hho hLL haft st; obtain rfl := Option.some.inj hho; exact payW st hlast hLL (by decide) (st.wantV haft rfl (by kernel_rfl) rfl) ((run_eqU rfl (st.argV (j := 13) (aft_of haft (by kernel_rfl)) rfl rfl) rfl).trans (okB (c := true) (by rw [hrow, hpr, hxf]; rfl))) rfl
          · intro oo aa ww LL hho hLL haft st; obtain rfl := Option.some.inj hho; exact payW_pick st hlast hLL (by decide) (want_none rfl) rfl (st.argV (j := 6) (aft_of haft (by kernel_rfl)) rfl rfl) (st.argV (j := 14) (aft_of haft (by kernel_rfl)) rfl rfl) rfl
        clear hlast
        rw [st.end1 (Nat.le_of_eq (by kernel_rfl))]
        have k6 : KeepM 8 [] a5 a6 := st.keepM (by kernel_rfl)
        have e39 : a6.eval (.tmp 39) = (.bool true) := st.argV (j := 15) (hL 15 (by omega)) rfl rfl
        clear st hL L
        replace e1 := k6.ev e1 (by decide)
        replace e4 := k6.ev e4 (by decide)
        replace e5 := k6.ev e5 (by decide)
        replace e6 := k6.ev e6 (by decide)
        replace e7 := k6.ev e7 (by decide)
        replace hz := k6.size.trans hz
        replace hd := k6.defers.trans hd
        replace kk0 := kk0.trans (k6.mono (ys := [5, 6, 7]) (by decide))
        replace kk2 := kk2.trans (k6.mono (ys := [7]) (by decide))
        refine wp_cond_true e39 ?_
        refine wp_seq ?_
        have hlen : acc.length ≤ 64 := by omega
        refine seq_startL (l := [0, 1, 2, 3, 4]) (by kernel_rfl) ?_
        refine seq_move 40 (v := (.slice A acc.length c)) rfl rfl rfl rfl e5 ?_
        refine seq_move 41 (v := (.int .i64 ((i : Nat) : Int))) rfl rfl rfl rfl ((ev_ne (by decide)).trans e7) ?_
        refine seq_valD 42 rfl rfl rfl (run_ints1 rfl (ev_same (by first | (rw [hz]; decide) | (simp only [size_put, hz]; decide)))) ?_
        obtain ⟨v9, w7, hrun, hown, hgrow, _⟩ := run_append_own (P := Tryd.prog) (w4.alloc (.cells #[.int .i64 ((i : Nat) : Int)] 3)) w0.heap.size 38 38 3 i0 (.int .i64 0) 1 8 Tryd.underlying38 hi hz0 hz1 hz2 rfl (by decide) _ _ _ (ow.alloc _) ⟨w4.heap.size, 0, none⟩ 1 1 [I ((i : Nat) : Int)] rfl (cell_one_new _ _ _) (fun u hu => by rw [List.mem_singleton.1 hu]; rfl) (by unfold maxLen; omega) (by omega) (by rw [World.size_alloc]; omega)
        refine seq_valD 43 rfl rfl rfl (run_appI rfl ((ev_ne (by decide)).trans ((ev_ne (by decide)).trans (ev_same (by first | (rw [hz]; decide) | (simp only [size_put, hz]; decide))))) (ev_same (by first | (rw [hz]; decide) | (simp only [size_put, hz]; decide))) hrun) ?_
        obtain ⟨g9, c9, rfl⟩ := ownsRow_succ hown
        replace hB := (hB.al (o := .cells #[.int .i64 ((i : Nat) : Int)] 3)).grown hgrow (by rw [World.size_alloc]; omega) (fun q eq => (ow.lt q eq).1)
        replace hS := hB.size
        clear ow
        have ow := hown
        clear hown hrun hgrow
        refine seq_assign 5 (v := (.slice (some ⟨g9, 0, none⟩) (acc.length + 1) c9)) rfl rfl rfl rfl (ev_same (by first | (rw [hz]; decide) | (simp only [size_put, hz]; decide))) ?_
        refine seq_nil ?_
        refine seq_out ((((((KeepM.refl 8 [5] a6).put (by decide)).put (by decide)).put (by decide)).put (by decide)).put (by decide)) fun a8 k8 tr => ?_
        have f5 := tr 5 (.slice (some ⟨g9, 0, none⟩) (acc.length + 1) c9) (ev_same (by first | (rw [hz]; decide) | (simp only [size_put, hz]; decide)))
        clear tr
        replace e1 := k8.ev e1 (by decide)
        replace e4 := k8.ev e4 (by decide)
        replace e6 := k8.ev e6 (by decide)
        replace e7 := k8.ev e7 (by decide)
        replace hz := k8.size.trans hz
        replace hd := k8.defers.trans hd
        replace kk0 := kk0.trans (k8.mono (ys := [5, 6, 7]) (by decide))
        have e5 := f5
        clear f5
        refine wp_seq ?_
        refine seq_startL (l := [0, 1, 2, 3, 4, 5]) (by kernel_rfl) ?_
        refine seq_move 44 (v := (.int .u64 ((D : Nat) : Int))) rfl rfl rfl rfl e6 ?_
        refine seq_move 45 (v := (.int .i64 ((i : Nat) : Int))) rfl rfl rfl rfl ((ev_ne (by decide)).trans e7) ?_
        refine seq_valD 46 (v := (.int .u64 ((i : Nat) : Int))) rfl rfl rfl (run_cvU rfl (ev_same (by first | (rw [hz]; decide) | (simp only [size_put, hz]; decide))) (by omega)) ?_
        refine seq_valD 47 (v := (.int .u64 (((2 ^ i) : Nat) : Int))) rfl rfl rfl (run_shl1 rfl rfl (ev_same (by first | (rw [hz]; decide) | (simp only [size_put, hz]; decide))) (by omega)) ?_
        refine seq_valD 48 (v := (.int .u64 (((D ||| (2 ^ i)) : Nat) : Int))) rfl rfl rfl (run_orU rfl ((ev_ne (by decide)).trans ((ev_ne (by decide)).trans ((ev_ne (by decide)).trans (ev_same (by first | (rw [hz]; decide) | (simp only [size_put, hz]; decide)))))) (ev_same (by first | (rw [hz]; decide) | (simp only [size_put, hz]; decide))) hDu (pow_lt_64 i (by omega))) ?_
        refine seq_assign 6 (v := (.int .u64 (((D ||| (2 ^ i)) : Nat) : Int))) rfl rfl rfl rfl (ev_same (by first | (rw [hz]; decide) | (simp only [size_put, hz]; decide))) ?_
        refine seq_nil ?_
        refine seq_out (((((((KeepM.refl 8 [6] a8).put (by decide)).put (by decide)).put (by decide)).put (by decide)).put (by decide)).put (by decide)) fun a9 k9 tr => ?_
        have f6 := tr 6 (.int .u64 (((D ||| (2 ^ i)) : Nat) : Int)) (ev_same (by first | (rw [hz]; decide) | (simp only [size_put, hz]; decide)))
        clear tr
        replace e1 := k9.ev e1 (by decide)
        replace e4 := k9.ev e4 (by decide)
        replace e7 := k9.ev e7 (by decide)
        replace e5 := k9.ev e5 (by decide)
        replace hz := k9.size.trans hz
        replace hd := k9.defers.trans hd
        replace kk0 := kk0.trans (k9.mono (ys := [5, 6, 7]) (by decide))
        have e6 := f6
        clear f6
        refine wp_exit ?_
        refine exit_out ?_
        have hlen1 : acc.length + 1 = (acc ++ [((i : Nat) : Int)]).length := by simp
        have hmap1 : acc.map I ++ [I ((i : Nat) : Int)] = (acc ++ [((i : Nat) : Int)]).map I := by simp
        rw [hlen1] at ow e5
        rw [hmap1] at ow
        have hpc := pc_clr hmu (by omega) hxm
        refine ⟨⟨clr m i, f2, acc ++ [((i : Nat) : Int)], (D ||| 2 ^ i), _, _, ⟨clr_u hmu i, fun j hj => hmN j ?_, fun j hj => ?_, Nat.or_lt_two_pow (n := 64) hDu (pow_lt_64 i (by omega)), ?_, by simp; omega⟩, kk0, e5, e6, ow, hB⟩, ?_⟩
        · rw [clr_bit m i j hmu (by omega)] at hj; exact (Bool.and_eq_true_iff.1 hj).1
        · rw [Nat.testBit_or, hDm j hj, clr_bit m i j hmu (by omega), Nat.testBit_two_pow]; by_cases e : i = j
          · subst e; simp
          · have e2 : ¬ j = i := fun h => e h.symm
            simp [e, e2]
        · rw [← sortGo_pos f2 i acc (by rintro rfl; simp at hxm) hfx]; exact hgo2
        · rw [e5, e5s]; simp [sliceLen]; omega
      · have hix2 : i < x := by omega
        have hno := hmin i hix2
        cases hmb : m.testBit i with
        | false =>
          have hlast : lastOk (regOps Tryd.f24 10) 16 = true := by kernel_rfl
          refine region_ws (n := 16) [some (.int .u64 ((D : Nat) : Int)), some (.int .i64 ((i : Nat) : Int)), some (.int .u64 ((i : Nat) : Int)), some (.int .u64 (((D / 2 ^ i) : Nat) : Int)), some (.int .u64 ((((D / 2 ^ i) % 2) : Nat) : Int)), some (.bool false), some (.bool false), none, none, none, none, none, none, none, none, some (.bool false)] 16 w4 w4 (by rw [hz]; kernel_rfl) (by kernel_rfl) (by kernel_rfl) (by kernel_rfl) ?_ fun L a10 w10 hL st => ?_
          · refine ⟨⟨⟨⟨⟨⟨⟨⟨⟨⟨⟨⟨⟨⟨⟨⟨trivial, ?_⟩, ?_⟩, ?_⟩, ?_⟩, ?_⟩, ?_⟩, ?_⟩, ?_⟩, ?_⟩, ?_⟩, ?_⟩, ?_⟩, ?_⟩, ?_⟩, ?_⟩, ?_⟩
            · intro oo aa ww LL hho hLL haft st; obtain rfl := Option.some.inj hho; exact payW_move st hlast hLL (by decide) (want_none rfl) rfl (st.outV (by kernel_rfl) e6) rfl
            · intro oo aa ww LL hho hLL haft st; obtain rfl := Option.some.inj hho; exact payW_move st hlast hLL (by decide) (want_none rfl) rfl (st.outV (by kernel_rfl) e7) rfl
            · intro oo aa ww LL hho hLL haft st; obtain rfl := Option.some.inj hho; exact payW st hlast hLL (by decide) (want_none rfl) (run_cvU rfl (st.argV (j := 1) (aft_of haft (by kernel_rfl)) rfl rfl) (by omega)) rfl
            · intro oo aa ww LL hho hLL haft st; obtain rfl := Option.some.inj hho; exact payW st hlast hLL (by decide) (want_none rfl) (run_shr rfl (st.argV (j := 0) (aft_of haft (by kernel_rfl)) rfl rfl) (st.argV (j := 2) (aft_of haft (by kernel_rfl)) rfl rfl) (by omega)) rfl
            · intro oo aa ww LL hho hLL haft st; obtain rfl := Option.some.inj hho; exact payW st hlast hLL (by decide) (want_none rfl) (run_rem2 rfl (st.argV (j := 3) (aft_of haft (by kernel_rfl)) rfl rfl) rfl) rfl
            · intro oo aa ww LL hho hLL haft st; obtain rfl := Option.some.inj hho; exact payW st hlast hLL (by decide) (want_none rfl) ((run_eqU rfl (st.argV (j := 4) (aft_of haft (by kernel_rfl)) rfl rfl) rfl).trans (okB (c := false) (bit_one (by rw [hDm i hlti, hmb]; rfl)))) rfl
            · intro oo aa ww LL hho hLL haft st; obtain rfl := Option.some.inj hho; exact payW_move st hlast hLL (by decide) (want_none rfl) rfl (st.argV (j := 5) (aft_of haft (by kernel_rfl)) rfl rfl) rfl
            · intro oo aa ww LL hho hLL haft st; obtain rfl := Option.some.inj hho; exact st.skipV hlast hLL (by decide) haft rfl (by kernel_rfl) rfl rfl
            · intro oo aa ww LL hho hLL haft st; obtain rfl := Option.some.inj hho; exact st.skipV hlast hLL (by decide) haft rfl (by kernel_rfl) rfl rfl
            · intro oo aa ww LL hho hLL haft st; obtain rfl := Option.some.inj hho; exact st.skipV hlast hLL (by decide) haft rfl (by kernel_rfl) rfl rfl
            · intro oo aa ww LL hho hLL haft st; obtain rfl := Option.some.inj hho; exact st.skipV hlast hLL (by decide) haft rfl (by kernel_rfl) rfl rfl
            · intro oo aa ww LL hho hLL haft st; obtain rfl := Option.some.inj hho; exact st.skipV hlast hLL (by decide) haft rfl (by kernel_rfl) rfl rfl
            · intro oo aa ww LL hho hLL haft st; obtain rfl := Option.some.inj hho; exact st.skipV hlast hLL (by decide) haft rfl (by kernel_rfl) rfl rfl
            · intro oo aa ww LL hho hLL haft st; obtain rfl := Option.some.inj hho; exact st.skipV hlast hLL (by decide) haft rfl (by kernel_rfl) rfl rfl
            · intro oo aa ww LL hho hLL haft st; obtain rfl := Option.some.inj hho; exact st.skipV hlast hLL (by decide) haft rfl (by kernel_rfl) rfl rfl
            · intro oo aa ww LL hho hLL haft st; obtain rfl := Option.some.inj hho; exact payW_pick st hlast hLL (by decide) (want_none rfl) rfl (st.argV (j := 6) (aft_of haft (by kernel_rfl)) rfl rfl) rfl rfl
          clear hlast
          rw [st.end1 (Nat.le_of_eq (by kernel_rfl))]
          have k10 : KeepM 8 [] a5 a10 := st.keepM (by kernel_rfl)
          have e39 : a10.eval (.tmp 39) = (.bool false) := st.argV (j := 15) (hL 15 (by omega)) rfl rfl
          clear st hL L
          replace e1 := k10.ev e1 (by decide)
          replace e4 := k10.ev e4 (by decide)
          replace e5 := k10.ev e5 (by decide)
          replace e6 := k10.ev e6 (by decide)
          replace e7 := k10.ev e7 (by decide)
          replace hz := k10.size.trans hz
          replace hd := k10.defers.trans hd
          replace kk0 := kk0.trans (k10.mono (ys := [5, 6, 7]) (by decide))
          replace kk2 := kk2.trans (k10.mono (ys := [7]) (by decide))
          refine wp_cond_false e39 ?_
          refine wp_skip ?_
          refine seq_startL (l := [0, 1, 2]) (by kernel_rfl) ?_
          refine seq_move 22 (v := (.int .i64 ((i : Nat) : Int))) rfl rfl rfl rfl e7 ?_
          refine seq_valD 23 (v := (.int .i64 ((i + 1 : Nat) : Int))) rfl rfl rfl (run_incI rfl (ev_same (by first | (rw [hz]; decide) | (simp only [size_put, hz]; decide))) rfl (by omega)) ?_
          refine seq_assign 7 (v := (.int .i64 ((i + 1 : Nat) : Int))) rfl rfl rfl rfl (ev_same (by first | (rw [hz]; decide) | (simp only [size_put, hz]; decide))) ?_
          refine seq_nil ?_
          refine seq_out ((((KeepM.refl 8 [7] a10).put (by decide)).put (by decide)).put (by decide)) fun a11 k11 tr => ?_
          have f7 := tr 7 (.int .i64 ((i + 1 : Nat) : Int)) (ev_same (by first | (rw [hz]; decide) | (simp only [size_put, hz]; decide)))
          clear tr
          replace e1 := k11.ev e1 (by decide)
          replace e4 := k11.ev e4 (by decide)
          replace e5 := k11.ev e5 (by decide)
          replace e6 := k11.ev e6 (by decide)
          replace hz := k11.size.trans hz
          replace hd := k11.defers.trans hd
          replace kk0 := kk0.trans (k11.mono (ys := [5, 6, 7]) (by decide))
          replace kk2 := kk2.trans (k11.mono (ys := [7]) (by decide))
          have e7 := f7
          clear f7
          refine ⟨⟨i + 1, by omega, kk2, e7, ow, hB⟩, ?_⟩
          rw [e7, e7s]; simp [intOf]; omega
        | true =>
          have hlast : lastOk (regOps Tryd.f24 10) 16 = true := by kernel_rfl
          refine region_ws (n := 16) [some (.int .u64 ((D : Nat) : Int)), some (.int .i64 ((i : Nat) : Int)), some (.int .u64 ((i : Nat) : Int)), some (.int .u64 (((D / 2 ^ i) : Nat) : Int)), some (.int .u64 ((((D / 2 ^ i) % 2) : Nat) : Int)), some (.bool true), some (.bool true), some (.pointer (some ⟨b4, 1, none⟩)), some (.slice (some ad) N p.cap), some (.int .i64 ((i : Nat) : Int)), some (.pointer (some (ad.add i))), some (.int .u64 (((p.rows.getD i 0) : Nat) : Int)), some (.int .u64 ((D : Nat) : Int)), some (.int .u64 ((((p.rows.getD i 0) &&& (18446744073709551615 - D)) : Nat) : Int)), some (.bool false), some (.bool false)] 16 w4 w4 (by rw [hz]; kernel_rfl) (by kernel_rfl) (by kernel_rfl) (by kernel_rfl) ?_ fun L a12 w12 hL st => ?_
          · refine ⟨⟨⟨⟨⟨⟨⟨⟨⟨⟨⟨⟨⟨⟨⟨⟨trivial, ?_⟩, ?_⟩, ?_⟩, ?_⟩, ?_⟩, ?_⟩, ?_⟩, ?_⟩, ?_⟩, ?_⟩, ?_⟩, ?_⟩, ?_⟩, ?_⟩, ?_⟩, ?_⟩
            · intro oo aa ww LL hho hLL haft st; obtain rfl := Option.some.inj hho; exact payW_move st hlast hLL (by decide) (want_none rfl) rfl (st.outV (by kernel_rfl) e6) rfl
            · intro oo aa ww LL hho hLL haft st; obtain rfl := Option.some.inj hho; exact payW_move st hlast hLL (by decide) (want_none rfl) rfl (st.outV (by kernel_rfl) e7) rfl
            · intro oo aa ww LL hho hLL haft st; obtain rfl := Option.some.inj hho; exact payW st hlast hLL (by decide) (want_none rfl) (run_cvU rfl (st.argV (j := 1) (aft_of haft (by kernel_rfl)) rfl rfl) (by omega)) rfl
            · intro oo aa ww LL hho hLL haft st; obtain rfl := Option.some.inj hho; exact payW st hlast hLL (by decide) (want_none rfl) (run_shr rfl (st.argV (j := 0) (aft_of haft (by kernel_rfl)) rfl rfl) (st.argV (j := 2) (aft_of haft (by kernel_rfl)) rfl rfl) (by omega)) rfl
            · intro oo aa ww LL hho hLL haft st; obtain rfl := Option.some.inj hho; exact payW st hlast hLL (by decide) (want_none rfl) (run_rem2 rfl (st.argV (j := 3) (aft_of haft (by kernel_rfl)) rfl rfl) rfl) rfl
            · intro oo aa ww LL hho hLL haft st; obtain rfl := Option.some.inj hho; exact payW st hlast hLL (by decide) (want_none rfl) ((run_eqU rfl (st.argV (j := 4) (aft_of haft (by kernel_rfl)) rfl rfl) rfl).trans (okB (c := true) (bit_zero (by rw [hDm i hlti, hmb]; rfl)))) rfl
            · intro oo aa ww LL hho hLL haft st; obtain rfl := Option.some.inj hho; exact payW_move st hlast hLL (by decide) (want_none rfl) rfl (st.argV (j := 5) (aft_of haft (by kernel_rfl)) rfl rfl) rfl
            · intro oo aa ww LL hho hLL haft st; obtain rfl := Option.some.inj hho; exact payW st hlast hLL (by decide) (st.wantV haft rfl (by kernel_rfl) rfl) (run_fp1 rfl (st.outV (by kernel_rfl) e4)) rfl
            · intro oo aa ww LL hho hLL haft st; obtain rfl := Option.some.inj hho; exact payW st hlast hLL (by decide) (st.wantV haft rfl (by kernel_rfl) rfl) (run_ldS rfl (st.argV (j := 7) (aft_of haft (by kernel_rfl)) rfl rfl) (by rw [← hA]; exact (x4.below hB x4.lt).cell 1)) rfl
            · intro oo aa ww LL hho hLL haft st; obtain rfl := Option.some.inj hho; exact payW_move st hlast hLL (by decide) (st.wantV haft rfl (by kernel_rfl) rfl) rfl (st.outV (by kernel_rfl) e7) rfl
            · intro oo aa ww LL hho hLL haft st; obtain rfl := Option.some.inj hho; exact payW st hlast hLL (by decide) (st.wantV haft rfl (by kernel_rfl) rfl) (run_ixU (k := i) rfl (st.argV (j := 8) (aft_of haft (by kernel_rfl)) rfl rfl) (st.argV (j := 9) (aft_of haft (by kernel_rfl)) rfl rfl) hlti) rfl
            · intro oo aa ww LL hho hLL haft st; obtain rfl := Option.some.inj hho; exact payW st hlast hLL (by decide) (st.wantV haft rfl (by kernel_rfl) rfl) (run_ldU rfl (st.argV (j := 10) (aft_of haft (by kernel_rfl)) rfl rfl) hcA) rfl
            · intro oo aa ww LL hho hLL haft st; obtain rfl := Option.some.inj hho; exact payW_move st hlast hLL (by decide) (st.wantV haft rfl (by kernel_rfl) rfl) rfl (st.outV (by kernel_rfl) e6) rfl
            · intro oo aa ww LL hho hLL haft st; obtain rfl := Option.some.inj hho; exact payW st hlast hLL (by decide) (st.wantV haft rfl (by kernel_rfl) rfl) (run_andNotU rfl (st.argV (j := 11) (aft_of haft (by kernel_rfl)) rfl rfl) (st.argV (j := 12) (aft_of haft (by kernel_rfl)) rfl rfl) huA hDu) rfl
            · intro oo aa ww LL hho hLL haft st; obtain rfl := Option.some.inj hho; exact payW st hlast hLL (by decide) (st.wantV haft rfl (by kernel_rfl) rfl) ((run_eqU rfl (st.argV (j := 13) (aft_of haft (by kernel_rfl)) rfl rfl) rfl).trans (okB (c := false) (by rw [hrow, hpr]; exact beq_eq_false_iff_ne.2 (fun e => hno hmb (by omega))))) rfl
            · intro oo aa ww LL hho hLL haft st; obtain rfl := Option.some.inj hho; exact payW_pick st hlast hLL (by decide) (want_none rfl) rfl (st.argV (j := 6) (aft_of haft (by kernel_rfl)) rfl rfl) (st.argV (j := 14) (aft_of haft (by kernel_rfl)) rfl rfl) rfl
          clear hlast
          rw [st.end1 (Nat.le_of_eq (by kernel_rfl))]
          have k12 : KeepM 8 [] a5 a12 := st.keepM (by kernel_rfl)
          have e39 : a12.eval (.tmp 39) = (.bool false) := st.argV (j := 15) (hL 15 (by omega)) rfl rfl
          clear st hL L
          replace e1 := k12.ev e1 (by decide)
          replace e4 := k12.ev e4 (by decide)
          replace e5 := k12.ev e5 (by decide)
          replace e6 := k12.ev e6 (by decide)
          replace e7 := k12.ev e7 (by decide)
          replace hz := k12.size.trans hz
          replace hd := k12.defers.trans hd
          replace kk0 := kk0.trans (k12.mono (ys := [5, 6, 7]) (by decide))
          replace kk2 := kk2.trans (k12.mono (ys := [7]) (by decide))
          refine wp_cond_false e39 ?_
          refine wp_skip ?_
          refine seq_startL (l := [0, 1, 2]) (by kernel_rfl) ?_
          refine seq_move 22 (v := (.int .i64 ((i : Nat) : Int))) rfl rfl rfl rfl e7 ?_
          refine seq_valD 23 (v := (.int .i64 ((i + 1 : Nat) : Int))) rfl rfl rfl (run_incI rfl (ev_same (by first | (rw [hz]; decide) | (simp only [size_put, hz]; decide))) rfl (by omega)) ?_
          refine seq_assign 7 (v := (.int .i64 ((i + 1 : Nat) : Int))) rfl rfl rfl rfl (ev_same (by first | (rw [hz]; decide) | (simp only [size_put, hz]; decide))) ?_
          refine seq_nil ?_
          refine seq_out ((((KeepM.refl 8 [7] a12).put (by decide)).put (by decide)).put (by decide)) fun a13 k13 tr => ?_
          have f7 := tr 7 (.int .i64 ((i + 1 : Nat) : Int)) (ev_same (by first | (rw [hz]; decide) | (simp only [size_put, hz]; decide)))
          clear tr
          replace e1 := k13.ev e1 (by decide)
          replace e4 := k13.ev e4 (by decide)
          replace e5 := k13.ev e5 (by decide)
          replace e6 := k13.ev e6 (by decide)
          replace hz := k13.size.trans hz
          replace hd := k13.defers.trans hd
          replace kk0 := kk0.trans (k13.mono (ys := [5, 6, 7]) (by decide))
          replace kk2 := kk2.trans (k13.mono (ys := [7]) (by decide))
          have e7 := f7
          clear f7
          refine ⟨⟨i + 1, by omega, kk2, e7, ow, hB⟩, ?_⟩
          rw [e7, e7s]; simp [intOf]; omega
    · omega
  · rw [decide_eq_false (by omega)] at e17
    refine wp_cond_false e17 ?_
    refine wp_exit ?_
    refine exit_here1 (id := 0) ?_
    have hm0 : m = 0 := pc_zero hmu (by omega)
    subst hm0
    rw [sortGo_zero] at hgo2
    obtain rfl : acc = l := Option.some.inj hgo2
    exact hK _ _ A c kk0 e5 ow hB
set_option maxRecDepth 100000 in
set_option maxHeartbeats 4000000 in
theorem rSort_no (r : RA) (w0 : World) (hT : Tab w0) (hr : r.good w0) (hsr : Short r.pr) (hac : Pacyclic r.pr = false) : Calls Tryd.prog 24 #[r.val] w0 (RetS w0 [] false) := by
  have hrv : r.val = (.agg #[.int .i64 r.n, .slice r.A r.rows.length r.cap]) := rfl
  rw [hrv]
  refine calls_of_wp Tryd.func24 rfl ?_
  obtain ⟨hz, e0⟩ := start_act1 50 ((.agg #[.int .i64 r.n, .slice r.A r.rows.length r.cap])) (by decide)
  have hd : ({ tmps := #[(.agg #[.int .i64 r.n, .slice r.A r.rows.length r.cap])] ++ Array.replicate (50 - 1) undef, defers := [] } : Act).defers = [] := rfl
  rw [show Tryd.f24.ntmps - (#[(.agg #[.int .i64 r.n, .slice r.A r.rows.length r.cap])] : Array Value).size = 50 - 1 from rfl]
  generalize ({ tmps := #[(.agg #[.int .i64 r.n, .slice r.A r.rows.length r.cap])] ++ Array.replicate (50 - 1) undef, defers := [] } : Act) = a0 at hz e0 hd ⊢
  have hB : Below w0.heap.size w0 w0 := Below.refl _ _
  have hS := hB.size
  refine wp_seq ?_
  refine seq_startL (l := [0, 1, 2]) (by kernel_rfl) ?_
  refine seq_valD 1 rfl rfl rfl (run_boxC rfl e0) ?_
  have x1 := RowT.new w0 26 [.int .i64 r.n, .slice r.A r.rows.length r.cap]
  replace hB := hB.al (o := .cells ([.int .i64 r.n, .slice r.A r.rows.length r.cap] : List Value).toArray 26)
  change wpOps _ _ _ _ _ (w0.alloc (.cells ([.int .i64 r.n, .slice r.A r.rows.length r.cap] : List Value).toArray 26))
  generalize (w0.alloc (.cells ([.int .i64 r.n, .slice r.A r.rows.length r.cap] : List Value).toArray 26)) = w1 at x1 hB ⊢
  generalize hbq1 : w0.heap.size = b1 at x1 ⊢
  have hge1 : w0.heap.size ≤ b1 := by rw [← hbq1]; exact hS
  clear hbq1
  have hS := hB.size
  refine seq_assign 2 (v := (.slice none 0 0)) rfl rfl rfl rfl rfl ?_
  refine seq_assign 3 (v := (.bool false)) rfl rfl rfl rfl rfl ?_
  refine seq_nil ?_
  refine seq_out ((((KeepM.refl 8 [1, 2, 3] a0).put (by decide)).put (by decide)).put (by decide)) fun a2 k2 tr => ?_
  have f1 := tr 1 (.pointer (some ⟨b1, 0, none⟩)) ((ev_ne (by decide)).trans ((ev_ne (by decide)).trans (ev_same (by first | (rw [hz]; decide) | (simp only [size_put, hz]; decide)))))
  have f2 := tr 2 (.slice none 0 0) ((ev_ne (by decide)).trans (ev_same (by first | (rw [hz]; decide) | (simp only [size_put, hz]; decide))))
  have f3 := tr 3 (.bool false) (ev_same (by first | (rw [hz]; decide) | (simp only [size_put, hz]; decide)))
  clear tr
  replace e0 := k2.ev e0 (by decide)
  replace hz := k2.size.trans hz
  replace hd := k2.defers.trans hd
  have e1 := f1
  clear f1
  have e2 := f2
  clear f2
  have e3 := f3
  clear f3
  refine wp_seq ?_
  refine wp_seq ?_
  refine seq_startL (l := [0, 1, 2]) (by kernel_rfl) ?_
  refine seq_valD 8 (v := (.agg #[.int .i64 r.n, .slice r.A r.rows.length r.cap])) rfl rfl rfl (run_ldR rfl e1 (x1.cell 0) (x1.cell 1)) ?_
  refine seq_callD 9 rfl rfl rfl en_rAcyclic rfl (args_one (ev_same (by first | (rw [hz]; decide) | (simp only [size_put, hz]; decide)))) ((racyc_t r w1 hac (hT.on hB) (hr.on hB) hsr).mono ?_)
  rintro e w3 ⟨rfl, hb3⟩
  refine ⟨_, rfl, ?_⟩
  replace x1 := x1.below hb3 x1.lt
  replace hB := Below.next hB hb3
  replace hS := hB.size
  refine seq_valD 10 (v := (.bool true)) rfl rfl rfl (run_not rfl (ev_same (by first | (rw [hz]; decide) | (simp only [size_put, hz]; decide)))) ?_
  refine seq_nil ?_
  refine seq_out ((((KeepM.refl 8 [] a2).put (by decide)).put (by decide)).put (by decide)) fun a4 k4 tr => ?_
  have f10 := tr 10 (.bool true) (ev_same (by first | (rw [hz]; decide) | (simp only [size_put, hz]; decide)))
  clear tr
  replace e1 := k4.ev e1 (by decide)
  replace e2 := k4.ev e2 (by decide)
  replace e3 := k4.ev e3 (by decide)
  replace hz := k4.size.trans hz
  replace hd := k4.defers.trans hd
  have e10 := f10
  clear f10
  refine wp_cond_true e10 ?_
  refine wp_seq ?_
  refine seq_startL (l := [0, 1]) (by kernel_rfl) ?_
  refine seq_assign 2 (v := (.slice none 0 0)) rfl rfl rfl rfl rfl ?_
  refine seq_assign 3 (v := (.bool false)) rfl rfl rfl rfl rfl ?_
  refine seq_nil ?_
  refine seq_out (((KeepM.refl 8 [2, 3] a4).put (by decide)).put (by decide)) fun a5 k5 tr => ?_
  have f2 := tr 2 (.slice none 0 0) ((ev_ne (by decide)).trans (ev_same (by first | (rw [hz]; decide) | (simp only [size_put, hz]; decide))))
  have f3 := tr 3 (.bool false) (ev_same (by first | (rw [hz]; decide) | (simp only [size_put, hz]; decide)))
  clear tr
  replace e1 := k5.ev e1 (by decide)
  replace hz := k5.size.trans hz
  replace hd := k5.defers.trans hd
  have e2 := f2
  clear f2
  have e3 := f3
  clear f3
  refine wp_ret ?_
  exact post_two rfl hd e2 e3 ⟨none, 0, rfl, Lib.hid Reads.none_, hB⟩
set_option maxRecDepth 100000 in
set_option maxHeartbeats 4000000 in
theorem rSort_yes (r : RA) (N : Nat) (l : List Int) (w0 : World) (hT : Tab w0) (hr : r.good w0) (hsr : Short r.pr) (hac : Pacyclic r.pr = true) (ho : r.ok = true) (hnr : r.n = (N : Nat)) (hlr : r.rows.length = N) (h64 : N ≤ 64) (hgo : sortGo (turnR r.rows) 64 (2 ^ N - 1) [] = some l) : Calls Tryd.prog 24 #[r.val] w0 (RetS w0 l true) := by
  have hrv : r.val = (.agg #[.int .i64 r.n, .slice r.A r.rows.length r.cap]) := rfl
  rw [hrv]
  refine calls_of_wp Tryd.func24 rfl ?_
  obtain ⟨hz, e0⟩ := start_act1 50 ((.agg #[.int .i64 r.n, .slice r.A r.rows.length r.cap])) (by decide)
  have hd : ({ tmps := #[(.agg #[.int .i64 r.n, .slice r.A r.rows.length r.cap])] ++ Array.replicate (50 - 1) undef, defers := [] } : Act).defers = [] := rfl
  rw [show Tryd.f24.ntmps - (#[(.agg #[.int .i64 r.n, .slice r.A r.rows.length r.cap])] : Array Value).size = 50 - 1 from rfl]
  generalize ({ tmps := #[(.agg #[.int .i64 r.n, .slice r.A r.rows.length r.cap])] ++ Array.replicate (50 - 1) undef, defers := [] } : Act) = a0 at hz e0 hd ⊢
  have hB : Below w0.heap.size w0 w0 := Below.refl _ _
  have hS := hB.size
  refine wp_seq ?_
  refine seq_startL (l := [0, 1, 2]) (by kernel_rfl) ?_
  refine seq_valD 1 rfl rfl rfl (run_boxC rfl e0) ?_
  have x1 := RowT.new w0 26 [.int .i64 r.n, .slice r.A r.rows.length r.cap]
  replace hB := hB.al (o := .cells ([.int .i64 r.n, .slice r.A r.rows.length r.cap] : List Value).toArray 26)
  change wpOps _ _ _ _ _ (w0.alloc (.cells ([.int .i64 r.n, .slice r.A r.rows.length r.cap] : List Value).toArray 26))
  generalize (w0.alloc (.cells ([.int .i64 r.n, .slice r.A r.rows.length r.cap] : List Value).toArray 26)) = w1 at x1 hB ⊢
  generalize hbq1 : w0.heap.size = b1 at x1 ⊢
  have hge1 : w0.heap.size ≤ b1 := by rw [← hbq1]; exact hS
  clear hbq1
  have hS := hB.size
  refine seq_assign 2 (v := (.slice none 0 0)) rfl rfl rfl rfl rfl ?_
  refine seq_assign 3 (v := (.bool false)) rfl rfl rfl rfl rfl ?_
  refine seq_nil ?_
  refine seq_out ((((KeepM.refl 8 [1, 2, 3] a0).put (by decide)).put (by decide)).put (by decide)) fun a2 k2 tr => ?_
  have f1 := tr 1 (.pointer (some ⟨b1, 0, none⟩)) ((ev_ne (by decide)).trans ((ev_ne (by decide)).trans (ev_same (by first | (rw [hz]; decide) | (simp only [size_put, hz]; decide)))))
  have f2 := tr 2 (.slice none 0 0) ((ev_ne (by decide)).trans (ev_same (by first | (rw [hz]; decide) | (simp only [size_put, hz]; decide))))
  have f3 := tr 3 (.bool false) (ev_same (by first | (rw [hz]; decide) | (simp only [size_put, hz]; decide)))
  clear tr
  replace e0 := k2.ev e0 (by decide)
  replace hz := k2.size.trans hz
  replace hd := k2.defers.trans hd
  have e1 := f1
  clear f1
  have e2 := f2
  clear f2
  have e3 := f3
  clear f3
  refine wp_seq ?_
  refine wp_seq ?_
  refine seq_startL (l := [0, 1, 2]) (by kernel_rfl) ?_
  refine seq_valD 8 (v := (.agg #[.int .i64 r.n, .slice r.A r.rows.length r.cap])) rfl rfl rfl (run_ldR rfl e1 (x1.cell 0) (x1.cell 1)) ?_
  refine seq_callD 9 rfl rfl rfl en_rAcyclic rfl (args_one (ev_same (by first | (rw [hz]; decide) | (simp only [size_put, hz]; decide)))) ((racyc_t r w1 hac (hT.on hB) (hr.on hB) hsr).mono ?_)
  rintro e w3 ⟨rfl, hb3⟩
  refine ⟨_, rfl, ?_⟩
  replace x1 := x1.below hb3 x1.lt
  replace hB := Below.next hB hb3
  replace hS := hB.size
  refine seq_valD 10 (v := (.bool false)) rfl rfl rfl (run_not rfl (ev_same (by first | (rw [hz]; decide) | (simp only [size_put, hz]; decide)))) ?_
  refine seq_nil ?_
  refine seq_out ((((KeepM.refl 8 [] a2).put (by decide)).put (by decide)).put (by decide)) fun a4 k4 tr => ?_
  have f10 := tr 10 (.bool false) (ev_same (by first | (rw [hz]; decide) | (simp only [size_put, hz]; decide)))
  clear tr
  replace e1 := k4.ev e1 (by decide)
  replace e2 := k4.ev e2 (by decide)
  replace e3 := k4.ev e3 (by decide)
  replace hz := k4.size.trans hz
  replace hd := k4.defers.trans hd
  have e10 := f10
  clear f10
  refine wp_cond_false e10 ?_
  refine wp_skip ?_
  refine wp_seq ?_
  refine seq_startL (l := [0, 1, 2, 3]) (by kernel_rfl) ?_
  refine seq_valD 11 (v := (.agg #[.int .i64 r.n, .slice r.A r.rows.length r.cap])) rfl rfl rfl (run_ldR rfl e1 (x1.cell 0) (x1.cell 1)) ?_
  refine seq_callD 12 rfl rfl rfl en_rTurn rfl (args_one (ev_same (by first | (rw [hz]; decide) | (simp only [size_put, hz]; decide)))) ((C_rTurn r w3 (hT.on hB) (hr.on hB) hsr).mono ?_)
  rintro e w5 ⟨p, rfl, hpp, hp, hb5⟩
  refine ⟨_, rfl, ?_⟩
  replace x1 := x1.below hb5 x1.lt
  replace hB := Below.next hB hb5
  replace hS := hB.size
  replace hp := hp.out
  obtain ⟨hpn, hpr, hpl⟩ := turn_shape ho hlr hpp.out
  rw [hpn, hpl]
  refine seq_valD 4 rfl rfl rfl (run_allocR rfl rfl) ?_
  have nx1_4 : b1 ≠ w5.heap.size := Nat.ne_of_lt x1.lt
  have x4 := RowT.new w5 26 [.int .i64 0, .slice none 0 0]
  replace x1 := x1.alloc (.cells ([.int .i64 0, .slice none 0 0] : List Value).toArray 26)
  replace hp := hp.on (below_alloc w5 (.cells ([.int .i64 0, .slice none 0 0] : List Value).toArray 26))
  replace hB := hB.al (o := .cells ([.int .i64 0, .slice none 0 0] : List Value).toArray 26)
  change wpOps _ _ _ _ _ (w5.alloc (.cells ([.int .i64 0, .slice none 0 0] : List Value).toArray 26))
  generalize (w5.alloc (.cells ([.int .i64 0, .slice none 0 0] : List Value).toArray 26)) = w6 at x1 x4 hp hB ⊢
  generalize hbq4 : w5.heap.size = b4 at x4 nx1_4 ⊢
  have hge4 : w0.heap.size ≤ b4 := by rw [← hbq4]; exact hS
  clear hbq4
  have hS := hB.size
  refine seq_skipD rfl rfl rfl (run_stR rfl (ev_same (by first | (rw [hz]; decide) | (simp only [size_put, hz]; decide))) ((ev_ne (by decide)).trans (ev_same (by first | (rw [hz]; decide) | (simp only [size_put, hz]; decide)))) x4) ?_
  have y4 : RowT ((w6.setCell ⟨b4, 0, none⟩ (.int .i64 ((N : Nat) : Int))).setCell ⟨b4, 1, none⟩ (.slice p.A N p.cap)) b4 26 [.int .i64 ((N : Nat) : Int), .slice p.A N p.cap] := (x4.set_ 0 _).set_ 1 _
  replace x1 := (x1.far (p := ⟨b4, 0, none⟩) nx1_4 (.int .i64 ((N : Nat) : Int))).far (p := ⟨b4, 1, none⟩) nx1_4 (.slice p.A N p.cap)
  replace hp := good_box hp x4 (.int .i64 ((N : Nat) : Int)) (.slice p.A N p.cap)
  replace hB := (hB.setCell (p := ⟨b4, 0, none⟩) hge4 (.int .i64 ((N : Nat) : Int))).setCell (p := ⟨b4, 1, none⟩) hge4 (.slice p.A N p.cap)
  have x4 := y4
  clear y4
  generalize ((w6.setCell ⟨b4, 0, none⟩ (.int .i64 ((N : Nat) : Int))).setCell ⟨b4, 1, none⟩ (.slice p.A N p.cap)) = w7 at x1 x4 hp hB ⊢
  replace hS := hB.size
  refine seq_nil ?_
  refine seq_out ((((KeepM.refl 8 [4] a4).put (by decide)).put (by decide)).put (by decide)) fun a8 k8 tr => ?_
  have f4 := tr 4 (.pointer (some ⟨b4, 0, none⟩)) (ev_same (by first | (rw [hz]; decide) | (simp only [size_put, hz]; decide)))
  clear tr
  replace e1 := k8.ev e1 (by decide)
  replace e2 := k8.ev e2 (by decide)
  replace e3 := k8.ev e3 (by decide)
  replace hz := k8.size.trans hz
  replace hd := k8.defers.trans hd
  have e4 := f4
  clear f4
  refine wp_seq ?_
  refine seq_startL (l := [0]) (by kernel_rfl) ?_
  refine seq_assign 5 (v := (.slice none 0 0)) rfl rfl rfl rfl rfl ?_
  refine seq_nil ?_
  refine seq_out ((KeepM.refl 8 [5] a8).put (by decide)) fun a9 k9 tr => ?_
  have f5 := tr 5 (.slice none 0 0) (ev_same (by first | (rw [hz]; decide) | (simp only [size_put, hz]; decide)))
  clear tr
  replace e1 := k9.ev e1 (by decide)
  replace e2 := k9.ev e2 (by decide)
  replace e3 := k9.ev e3 (by decide)
  replace e4 := k9.ev e4 (by decide)
  replace hz := k9.size.trans hz
  replace hd := k9.defers.trans hd
  have e5 := f5
  clear f5
  refine wp_seq ?_
  refine seq_startL (l := [0]) (by kernel_rfl) ?_
  refine seq_assign 6 (v := (.int .u64 0)) rfl rfl rfl rfl rfl ?_
  refine seq_nil ?_
  refine seq_out ((KeepM.refl 8 [6] a9).put (by decide)) fun a10 k10 tr => ?_
  have f6 := tr 6 (.int .u64 0) (ev_same (by first | (rw [hz]; decide) | (simp only [size_put, hz]; decide)))
  clear tr
  replace e1 := k10.ev e1 (by decide)
  replace e2 := k10.ev e2 (by decide)
  replace e3 := k10.ev e3 (by decide)
  replace e4 := k10.ev e4 (by decide)
  replace e5 := k10.ev e5 (by decide)
  replace hz := k10.size.trans hz
  replace hd := k10.defers.trans hd
  have e6 := f6
  clear f6
  refine wp_seq ?_
  have x1n : RowT w7 b1 26 [.int .i64 ((N : Nat) : Int), .slice r.A r.rows.length r.cap] := by rw [← hnr]; exact x1
  refine sort_loops r p N l b1 b4 w7 h64 hlr hpr hpl hgo hp x1n x4 hz e1 e4 e5 e6 fun a11 w11 A c k11 e5b ow hb11 => ?_
  clear e5
  have e5 := e5b
  replace hz := k11.size.trans hz
  replace hd := k11.defers.trans hd
  replace hB := Below.next hB hb11
  refine wp_seq ?_
  refine seq_startL (l := [0, 1, 2]) (by kernel_rfl) ?_
  refine seq_move 49 (v := (.slice A l.length c)) rfl rfl rfl rfl e5 ?_
  refine seq_assign 2 (v := (.slice A l.length c)) rfl rfl rfl rfl (ev_same (by first | (rw [hz]; decide) | (simp only [size_put, hz]; decide))) ?_
  refine seq_assign 3 (v := (.bool true)) rfl rfl rfl rfl rfl ?_
  refine seq_nil ?_
  refine seq_out ((((KeepM.refl 8 [2, 3] a11).put (by decide)).put (by decide)).put (by decide)) fun a12 k12 tr => ?_
  have f2 := tr 2 (.slice A l.length c) ((ev_ne (by decide)).trans (ev_same (by first | (rw [hz]; decide) | (simp only [size_put, hz]; decide))))
  have f3 := tr 3 (.bool true) (ev_same (by first | (rw [hz]; decide) | (simp only [size_put, hz]; decide)))
  clear tr
  replace e5 := k12.ev e5 (by decide)
  replace hz := k12.size.trans hz
  replace hd := k12.defers.trans hd
  have e2 := f2
  clear f2
  have e3 := f3
  clear f3
  refine wp_ret ?_
  exact post_two rfl hd e2 e3 ⟨A, c, rfl, Lib.hid (Reads.of_own ow), hB⟩
theorem en_rSort : Enters Tryd.prog 24 := enters_of Tryd.func24 (by kernel_rfl) rfl
theorem rSort_c (r : RA) (w0 : World) (l : List Int) (b : Bool) (hp : Psort r.pr = (l, b)) (hT : Tab w0) (hr : r.good w0) (hsr : Short r.pr) : Calls Tryd.prog 24 #[r.val] w0 (RetS w0 l b) := by
  unfold Psort at hp
  cases ho : r.ok with
  | false =>
    rw [if_neg (fun e => by rw [show r.pr.ok = r.ok from rfl, ho] at e; cases e)] at hp
    obtain ⟨rfl, rfl⟩ := Prod.mk.inj hp
    exact rSort_no r w0 hT hr hsr (by unfold Pacyclic; rw [show r.pr.ok = r.ok from rfl, ho]; rfl)
  | true =>
    have hok : r.pr.ok = true := ho
    rw [if_pos hok] at hp
    have hac := sort_acyclic hok hp
    cases b with
    | false => rw [sortR_no hp]; exact rSort_no r w0 hT hr hsr hac
    | true =>
      obtain ⟨h1, h2, _⟩ := ok_rows hok
      refine rSort_yes r r.rows.length l w0 hT hr hsr hac ho h1 rfl h2 ?_
      unfold sortR at hp
      cases e : sortGo (turnR r.pr.rows) 64 (2 ^ r.pr.rows.length - 1) [] with
      | none => rw [e] at hp; cases hp
      | some l' =>
        rw [e] at hp
        have : l' = l := congrArg Prod.fst hp
        rw [← this]; exact e
end Go.Proofs.YtigdecmfieaacaaDoor
