/-
  The document's answers for layer 1: Same, Image, Pairs, Plus.
-/
import Derived.Test.YtigdecmfieaacaaDoorC3
import Derived.LoopN
namespace Go.Proofs.YtigdecmfieaacaaDoor
open Go Go.RowKit

theorem chk_eq (a : RA) : (chk a.pr.n a.pr.rows == 0) = a.ok := by
  cases h : a.ok with
  | true => rw [chk_yes h]; rfl
  | false => rw [chk_not h]; rfl
theorem Ret.u {w w' : World} {a b : Int} (h : a = b) (hb : Below w.heap.size w w') : Ret w (.int .u64 b) (.returned (.int .u64 a)) w' := by subst h; exact ⟨rfl, hb⟩
set_option maxRecDepth 100000 in
set_option maxHeartbeats 4000000 in
theorem rSame_n (a b : RA) (w0 : World) (hn : ¬ a.n = b.n) : Calls Tryd.prog 30 #[a.val, b.val] w0 (Ret w0 (.bool false)) := by
  unfold RA.val
  refine calls_of_wp Tryd.func30 rfl ?_
  obtain ⟨hz, e0, e1⟩ := start_act2 41 ((.agg #[.int .i64 a.n, .slice a.A a.rows.length a.cap])) ((.agg #[.int .i64 b.n, .slice b.A b.rows.length b.cap])) (by decide)
  have hd : ({ tmps := #[(.agg #[.int .i64 a.n, .slice a.A a.rows.length a.cap]), (.agg #[.int .i64 b.n, .slice b.A b.rows.length b.cap])] ++ Array.replicate (41 - 2) undef, defers := [] } : Act).defers = [] := rfl
  rw [show Tryd.f30.ntmps - (#[(.agg #[.int .i64 a.n, .slice a.A a.rows.length a.cap]), (.agg #[.int .i64 b.n, .slice b.A b.rows.length b.cap])] : Array Value).size = 41 - 2 from rfl]
  generalize ({ tmps := #[(.agg #[.int .i64 a.n, .slice a.A a.rows.length a.cap]), (.agg #[.int .i64 b.n, .slice b.A b.rows.length b.cap])] ++ Array.replicate (41 - 2) undef, defers := [] } : Act) = a0 at hz e0 e1 hd ⊢
  have hB : Below w0.heap.size w0 w0 := Below.refl _ _
  have hS := hB.size
  refine wp_seq ?_
  refine seq_startL (l := [0, 1, 2]) (by kernel_rfl) ?_
  refine seq_valD 2 rfl rfl rfl (run_boxC rfl e0) ?_
  have x2 := RowT.new w0 26 [.int .i64 a.n, .slice a.A a.rows.length a.cap]
  replace hB := hB.al (o := .cells ([.int .i64 a.n, .slice a.A a.rows.length a.cap] : List Value).toArray 26)
  change wpOps _ _ _ _ _ (w0.alloc (.cells ([.int .i64 a.n, .slice a.A a.rows.length a.cap] : List Value).toArray 26))
  generalize (w0.alloc (.cells ([.int .i64 a.n, .slice a.A a.rows.length a.cap] : List Value).toArray 26)) = w1 at x2 hB ⊢
  generalize hbq2 : w0.heap.size = b2 at x2 ⊢
  have hge2 : w0.heap.size ≤ b2 := by rw [← hbq2]; exact hS
  clear hbq2
  have hS := hB.size
  refine seq_valD 3 rfl rfl rfl (run_boxC rfl ((ev_ne (by decide)).trans e1)) ?_
  have nx2_3 : b2 ≠ w1.heap.size := Nat.ne_of_lt x2.lt
  have x3 := RowT.new w1 26 [.int .i64 b.n, .slice b.A b.rows.length b.cap]
  replace x2 := x2.alloc (.cells ([.int .i64 b.n, .slice b.A b.rows.length b.cap] : List Value).toArray 26)
  replace hB := hB.al (o := .cells ([.int .i64 b.n, .slice b.A b.rows.length b.cap] : List Value).toArray 26)
  change wpOps _ _ _ _ _ (w1.alloc (.cells ([.int .i64 b.n, .slice b.A b.rows.length b.cap] : List Value).toArray 26))
  generalize (w1.alloc (.cells ([.int .i64 b.n, .slice b.A b.rows.length b.cap] : List Value).toArray 26)) = w2 at x2 x3 hB ⊢
  generalize hbq3 : w1.heap.size = b3 at x3 nx2_3 ⊢
  have hge3 : w0.heap.size ≤ b3 := by rw [← hbq3]; exact hS
  clear hbq3
  have hS := hB.size
  refine seq_assign 4 (v := (.bool false)) rfl rfl rfl rfl rfl ?_
  refine seq_nil ?_
  refine seq_out ((((KeepM.refl 6 [2, 3, 4] a0).put (by decide)).put (by decide)).put (by decide)) fun a3 k3 tr => ?_
  have f2 := tr 2 (.pointer (some ⟨b2, 0, none⟩)) ((ev_ne (by decide)).trans ((ev_ne (by decide)).trans (ev_same (by first | (rw [hz]; decide) | (simp only [size_put, hz]; decide)))))
  have f3 := tr 3 (.pointer (some ⟨b3, 0, none⟩)) ((ev_ne (by decide)).trans (ev_same (by first | (rw [hz]; decide) | (simp only [size_put, hz]; decide))))
  have f4 := tr 4 (.bool false) (ev_same (by first | (rw [hz]; decide) | (simp only [size_put, hz]; decide)))
  clear tr
  replace e0 := k3.ev e0 (by decide)
  replace e1 := k3.ev e1 (by decide)
  replace hz := k3.size.trans hz
  replace hd := k3.defers.trans hd
  have e2 := f2
  clear f2
  have e3 := f3
  clear f3
  have e4 := f4
  clear f4
  refine wp_seq ?_
  refine wp_seq ?_
  have hlast : lastOk (regOps Tryd.f30 1) 14 = true := by kernel_rfl
  refine region_ws (n := 14) [some (.pointer (some ⟨b2, 0, none⟩)), some (.int .i64 a.n), some (.pointer (some ⟨b3, 0, none⟩)), some (.int .i64 b.n), some (.bool true), some (.bool true), none, none, none, none, none, none, none, some (.bool true)] 14 w2 w2 (by rw [hz]; kernel_rfl) (by kernel_rfl) (by kernel_rfl) (by kernel_rfl) ?_ fun L a4 w4 hL st => ?_
  · refine ⟨⟨⟨⟨⟨⟨⟨⟨⟨⟨⟨⟨⟨⟨trivial, ?_⟩, ?_⟩, ?_⟩, ?_⟩, ?_⟩, ?_⟩, ?_⟩, ?_⟩, ?_⟩, ?_⟩, ?_⟩, ?_⟩, ?_⟩, ?_⟩
    · intro oo aa ww LL hho hLL haft st; obtain rfl := Option.some.inj hho; exact payW st hlast hLL (by decide) (want_none rfl) (run_fp0 rfl (st.outV (by kernel_rfl) e2)) rfl
    · intro oo aa ww LL hho hLL haft st; obtain rfl := Option.some.inj hho; exact payW st hlast hLL (by decide) (want_none rfl) (run_ldI rfl (st.argV (j := 0) (aft_of haft (by kernel_rfl)) rfl rfl) (x2.cell 0)) rfl
    · intro oo aa ww LL hho hLL haft st; obtain rfl := Option.some.inj hho; exact payW st hlast hLL (by decide) (want_none rfl) (run_fp0 rfl (st.outV (by kernel_rfl) e3)) rfl
    · intro oo aa ww LL hho hLL haft st; obtain rfl := Option.some.inj hho; exact payW st hlast hLL (by decide) (want_none rfl) (run_ldI rfl (st.argV (j := 2) (aft_of haft (by kernel_rfl)) rfl rfl) (x3.cell 0)) rfl
    · intro oo aa ww LL hho hLL haft st; obtain rfl := Option.some.inj hho; exact payW st hlast hLL (by decide) (want_none rfl) ((run_neI rfl (st.argV (j := 1) (aft_of haft (by kernel_rfl)) rfl rfl) (st.argV (j := 3) (aft_of haft (by kernel_rfl)) rfl rfl)).trans (okB (c := true) (by simpa using hn))) rfl
    · intro oo aa ww LL hho hLL haft st; obtain rfl := Option.some.inj hho; exact payW_move st hlast hLL (by decide) (want_none rfl) rfl (st.argV (j := 4) (aft_of haft (by kernel_rfl)) rfl rfl) rfl
    · intro oo aa ww LL hho hLL haft st; obtain rfl := Option.some.inj hho; exact st.skipV hlast hLL (by decide) haft rfl (by kernel_rfl) rfl rfl
    · intro oo aa ww LL hho hLL haft st; obtain rfl := Option.some.inj hho; exact st.skipV hlast hLL (by decide) haft rfl (by kernel_rfl) rfl rfl
    · intro oo aa ww LL hho hLL haft st; obtain rfl := Option.some.inj hho; exact st.skipV hlast hLL (by decide) haft rfl (by kernel_rfl) rfl rfl
    · intro oo aa ww LL hho hLL haft st; obtain rfl := Option.some.inj hho; exact st.skipV hlast hLL (by decide) haft rfl (by kernel_rfl) rfl rfl
    · intro oo aa ww LL hho hLL haft st; obtain rfl := Option.some.inj hho; exact st.skipV hlast hLL (by decide) haft rfl (by kernel_rfl) rfl rfl
    · intro oo aa ww LL hho hLL haft st; obtain rfl := Option.some.inj hho; exact st.skipV hlast hLL (by decide) haft rfl (by kernel_rfl) rfl rfl
    · intro oo aa ww LL hho hLL haft st; obtain rfl := Option.some.inj hho; exact st.skipV hlast hLL (by decide) haft rfl (by kernel_rfl) rfl rfl
    · intro oo aa ww LL hho hLL haft st; obtain rfl := Option.some.inj hho; exact payW_pick st hlast hLL (by decide) (want_none rfl) rfl (st.argV (j := 5) (aft_of haft (by kernel_rfl)) rfl rfl) rfl rfl
  clear hlast
  obtain rfl := st.end1 (Nat.le_of_eq (by kernel_rfl))
  have k4 : KeepM 6 [] a3 a4 := st.keepM (by kernel_rfl)
  have e19 : a4.eval (.tmp 19) = (.bool true) := st.argV (j := 13) (hL 13 (by omega)) rfl rfl
  clear st hL L
  replace e2 := k4.ev e2 (by decide)
  replace e3 := k4.ev e3 (by decide)
  replace e4 := k4.ev e4 (by decide)
  replace hz := k4.size.trans hz
  replace hd := k4.defers.trans hd
  refine wp_cond_true e19 ?_
  refine wp_seq ?_
  refine seq_startL (l := [0]) (by kernel_rfl) ?_
  refine seq_assign 4 (v := (.bool false)) rfl rfl rfl rfl rfl ?_
  refine seq_nil ?_
  refine seq_out ((KeepM.refl 6 [4] a4).put (by decide)) fun a5 k5 tr => ?_
  have f4 := tr 4 (.bool false) (ev_same (by first | (rw [hz]; decide) | (simp only [size_put, hz]; decide)))
  clear tr
  replace e2 := k5.ev e2 (by decide)
  replace e3 := k5.ev e3 (by decide)
  replace hz := k5.size.trans hz
  replace hd := k5.defers.trans hd
  have e4 := f4
  clear f4
  refine wp_ret ?_
  exact post_slot rfl hd (get_of_bool e4) (Ret.b rfl hB)
set_option maxRecDepth 100000 in
set_option maxHeartbeats 4000000 in
theorem rSame_l (a b : RA) (w0 : World) (hn : a.n = b.n) (hl : ¬ a.rows.length = b.rows.length) : Calls Tryd.prog 30 #[a.val, b.val] w0 (Ret w0 (.bool false)) := by
  unfold RA.val
  refine calls_of_wp Tryd.func30 rfl ?_
  obtain ⟨hz, e0, e1⟩ := start_act2 41 ((.agg #[.int .i64 a.n, .slice a.A a.rows.length a.cap])) ((.agg #[.int .i64 b.n, .slice b.A b.rows.length b.cap])) (by decide)
  have hd : ({ tmps := #[(.agg #[.int .i64 a.n, .slice a.A a.rows.length a.cap]), (.agg #[.int .i64 b.n, .slice b.A b.rows.length b.cap])] ++ Array.replicate (41 - 2) undef, defers := [] } : Act).defers = [] := rfl
  rw [show Tryd.f30.ntmps - (#[(.agg #[.int .i64 a.n, .slice a.A a.rows.length a.cap]), (.agg #[.int .i64 b.n, .slice b.A b.rows.length b.cap])] : Array Value).size = 41 - 2 from rfl]
  generalize ({ tmps := #[(.agg #[.int .i64 a.n, .slice a.A a.rows.length a.cap]), (.agg #[.int .i64 b.n, .slice b.A b.rows.length b.cap])] ++ Array.replicate (41 - 2) undef, defers := [] } : Act) = a0 at hz e0 e1 hd ⊢
  have hB : Below w0.heap.size w0 w0 := Below.refl _ _
  have hS := hB.size
  refine wp_seq ?_
  refine seq_startL (l := [0, 1, 2]) (by kernel_rfl) ?_
  refine seq_valD 2 rfl rfl rfl (run_boxC rfl e0) ?_
  have x2 := RowT.new w0 26 [.int .i64 a.n, .slice a.A a.rows.length a.cap]
  replace hB := hB.al (o := .cells ([.int .i64 a.n, .slice a.A a.rows.length a.cap] : List Value).toArray 26)
  change wpOps _ _ _ _ _ (w0.alloc (.cells ([.int .i64 a.n, .slice a.A a.rows.length a.cap] : List Value).toArray 26))
  generalize (w0.alloc (.cells ([.int .i64 a.n, .slice a.A a.rows.length a.cap] : List Value).toArray 26)) = w1 at x2 hB ⊢
  generalize hbq2 : w0.heap.size = b2 at x2 ⊢
  have hge2 : w0.heap.size ≤ b2 := by rw [← hbq2]; exact hS
  clear hbq2
  have hS := hB.size
  refine seq_valD 3 rfl rfl rfl (run_boxC rfl ((ev_ne (by decide)).trans e1)) ?_
  have nx2_3 : b2 ≠ w1.heap.size := Nat.ne_of_lt x2.lt
  have x3 := RowT.new w1 26 [.int .i64 b.n, .slice b.A b.rows.length b.cap]
  replace x2 := x2.alloc (.cells ([.int .i64 b.n, .slice b.A b.rows.length b.cap] : List Value).toArray 26)
  replace hB := hB.al (o := .cells ([.int .i64 b.n, .slice b.A b.rows.length b.cap] : List Value).toArray 26)
  change wpOps _ _ _ _ _ (w1.alloc (.cells ([.int .i64 b.n, .slice b.A b.rows.length b.cap] : List Value).toArray 26))
  generalize (w1.alloc (.cells ([.int .i64 b.n, .slice b.A b.rows.length b.cap] : List Value).toArray 26)) = w2 at x2 x3 hB ⊢
  generalize hbq3 : w1.heap.size = b3 at x3 nx2_3 ⊢
  have hge3 : w0.heap.size ≤ b3 := by rw [← hbq3]; exact hS
  clear hbq3
  have hS := hB.size
  refine seq_assign 4 (v := (.bool false)) rfl rfl rfl rfl rfl ?_
  refine seq_nil ?_
  refine seq_out ((((KeepM.refl 6 [2, 3, 4] a0).put (by decide)).put (by decide)).put (by decide)) fun a3 k3 tr => ?_
  have f2 := tr 2 (.pointer (some ⟨b2, 0, none⟩)) ((ev_ne (by decide)).trans ((ev_ne (by decide)).trans (ev_same (by first | (rw [hz]; decide) | (simp only [size_put, hz]; decide)))))
  have f3 := tr 3 (.pointer (some ⟨b3, 0, none⟩)) ((ev_ne (by decide)).trans (ev_same (by first | (rw [hz]; decide) | (simp only [size_put, hz]; decide))))
  have f4 := tr 4 (.bool false) (ev_same (by first | (rw [hz]; decide) | (simp only [size_put, hz]; decide)))
  clear tr
  replace e0 := k3.ev e0 (by decide)
  replace e1 := k3.ev e1 (by decide)
  replace hz := k3.size.trans hz
  replace hd := k3.defers.trans hd
  have e2 := f2
  clear f2
  have e3 := f3
  clear f3
  have e4 := f4
  clear f4
  refine wp_seq ?_
  refine wp_seq ?_
  have hlast : lastOk (regOps Tryd.f30 1) 14 = true := by kernel_rfl
  refine region_ws (n := 14) [some (.pointer (some ⟨b2, 0, none⟩)), some (.int .i64 a.n), some (.pointer (some ⟨b3, 0, none⟩)), some (.int .i64 b.n), some (.bool false), some (.bool false), some (.pointer (some ⟨b2, 1, none⟩)), some (.slice a.A a.rows.length a.cap), some (.int .i64 ((a.rows.length : Nat) : Int)), some (.pointer (some ⟨b3, 1, none⟩)), some (.slice b.A b.rows.length b.cap), some (.int .i64 ((b.rows.length : Nat) : Int)), some (.bool true), some (.bool true)] 14 w2 w2 (by rw [hz]; kernel_rfl) (by kernel_rfl) (by kernel_rfl) (by kernel_rfl) ?_ fun L a4 w4 hL st => ?_
  · refine ⟨⟨⟨⟨⟨⟨⟨⟨⟨⟨⟨⟨⟨⟨trivial, ?_⟩, ?_⟩, ?_⟩, ?_⟩, ?_⟩, ?_⟩, ?_⟩, ?_⟩, ?_⟩, ?_⟩, ?_⟩, ?_⟩, ?_⟩, ?_⟩
    · intro oo aa ww LL hho hLL haft st; obtain rfl := Option.some.inj hho; exact payW st hlast hLL (by decide) (want_none rfl) (run_fp0 rfl (st.outV (by kernel_rfl) e2)) rfl
    · intro oo aa ww LL hho hLL haft st; obtain rfl := Option.some.inj hho; exact payW st hlast hLL (by decide) (want_none rfl) (run_ldI rfl (st.argV (j := 0) (aft_of haft (by kernel_rfl)) rfl rfl) (x2.cell 0)) rfl
    · intro oo aa ww LL hho hLL haft st; obtain rfl := Option.some.inj hho; exact payW st hlast hLL (by decide) (want_none rfl) (run_fp0 rfl (st.outV (by kernel_rfl) e3)) rfl
    · intro oo aa ww LL hho hLL haft st; obtain rfl := Option.some.inj hho; exact payW st hlast hLL (by decide) (want_none rfl) (run_ldI rfl (st.argV (j := 2) (aft_of haft (by kernel_rfl)) rfl rfl) (x3.cell 0)) rfl
    · intro oo aa ww LL hho hLL haft st; obtain rfl := Option.some.inj hho; exact payW st hlast hLL (by decide) (want_none rfl) ((run_neI rfl (st.argV (j := 1) (aft_of haft (by kernel_rfl)) rfl rfl) (st.argV (j := 3) (aft_of haft (by kernel_rfl)) rfl rfl)).trans (okB (c := false) (by simpa using hn))) rfl
    · intro oo aa ww LL hho hLL haft st; obtain rfl := Option.some.inj hho; exact payW_move st hlast hLL (by decide) (want_none rfl) rfl (st.argV (j := 4) (aft_of haft (by kernel_rfl)) rfl rfl) rfl
    · intro oo aa ww LL hho hLL haft st; obtain rfl := Option.some.inj hho; exact payW st hlast hLL (by decide) (st.wantV haft rfl (by kernel_rfl) rfl) (run_fp1 rfl (st.outV (by kernel_rfl) e2)) rfl
    · intro oo aa ww LL hho hLL haft st; obtain rfl := Option.some.inj hho; exact payW st hlast hLL (by decide) (st.wantV haft rfl (by kernel_rfl) rfl) (run_ldS rfl (st.argV (j := 6) (aft_of haft (by kernel_rfl)) rfl rfl) (x2.cell 1)) rfl
    · intro oo aa ww LL hho hLL haft st; obtain rfl := Option.some.inj hho; exact payW st hlast hLL (by decide) (st.wantV haft rfl (by kernel_rfl) rfl) (run_lenU rfl (st.argV (j := 7) (aft_of haft (by kernel_rfl)) rfl rfl)) rfl
    · intro oo aa ww LL hho hLL haft st; obtain rfl := Option.some.inj hho; exact payW st hlast hLL (by decide) (st.wantV haft rfl (by kernel_rfl) rfl) (run_fp1 rfl (st.outV (by kernel_rfl) e3)) rfl
    · intro oo aa ww LL hho hLL haft st; obtain rfl := Option.some.inj hho; exact payW st hlast hLL (by decide) (st.wantV haft rfl (by kernel_rfl) rfl) (run_ldS rfl (st.argV (j := 9) (aft_of haft (by kernel_rfl)) rfl rfl) (x3.cell 1)) rfl
    · intro oo aa ww LL hho hLL haft st; obtain rfl := Option.some.inj hho; exact payW st hlast hLL (by decide) (st.wantV haft rfl (by kernel_rfl) rfl) (run_lenU rfl (st.argV (j := 10) (aft_of haft (by kernel_rfl)) rfl rfl)) rfl
    · intro oo aa ww LL hho hLL haft st; obtain rfl := Option.some.inj hho; exact payW st hlast hLL (by decide) (st.wantV haft rfl (by kernel_rfl) rfl) ((run_neI rfl (st.argV (j := 8) (aft_of haft (by kernel_rfl)) rfl rfl) (st.argV (j := 11) (aft_of haft (by kernel_rfl)) rfl rfl)).trans (okB (c := true) (by simp; omega))) rfl
    · intro oo aa ww LL hho hLL haft st; obtain rfl := Option.some.inj hho; exact payW_pick st hlast hLL (by decide) (want_none rfl) rfl (st.argV (j := 5) (aft_of haft (by kernel_rfl)) rfl rfl) (st.argV (j := 12) (aft_of haft (by kernel_rfl)) rfl rfl) rfl
  clear hlast
  obtain rfl := st.end1 (Nat.le_of_eq (by kernel_rfl))
  have k4 : KeepM 6 [] a3 a4 := st.keepM (by kernel_rfl)
  have e19 : a4.eval (.tmp 19) = (.bool true) := st.argV (j := 13) (hL 13 (by omega)) rfl rfl
  clear st hL L
  replace e2 := k4.ev e2 (by decide)
  replace e3 := k4.ev e3 (by decide)
  replace e4 := k4.ev e4 (by decide)
  replace hz := k4.size.trans hz
  replace hd := k4.defers.trans hd
  refine wp_cond_true e19 ?_
  refine wp_seq ?_
  refine seq_startL (l := [0]) (by kernel_rfl) ?_
  refine seq_assign 4 (v := (.bool false)) rfl rfl rfl rfl rfl ?_
  refine seq_nil ?_
  refine seq_out ((KeepM.refl 6 [4] a4).put (by decide)) fun a5 k5 tr => ?_
  have f4 := tr 4 (.bool false) (ev_same (by first | (rw [hz]; decide) | (simp only [size_put, hz]; decide)))
  clear tr
  replace e2 := k5.ev e2 (by decide)
  replace e3 := k5.ev e3 (by decide)
  replace hz := k5.size.trans hz
  replace hd := k5.defers.trans hd
  have e4 := f4
  clear f4
  refine wp_ret ?_
  exact post_slot rfl hd (get_of_bool e4) (Ret.b rfl hB)
set_option maxRecDepth 100000 in
set_option maxHeartbeats 4000000 in
theorem rSame_r (a b : RA) (w0 : World) (ha : a.good w0) (hb : b.good w0) (hs : a.rows.length ≤ 9223372036854775807) (hn : a.n = b.n) (hl : a.rows.length = b.rows.length) : Calls Tryd.prog 30 #[a.val, b.val] w0 (Ret w0 (.bool (a.ok && decide (a.rows = b.rows)))) := by
  unfold RA.val
  refine calls_of_wp Tryd.func30 rfl ?_
  obtain ⟨hz, e0, e1⟩ := start_act2 41 ((.agg #[.int .i64 a.n, .slice a.A a.rows.length a.cap])) ((.agg #[.int .i64 b.n, .slice b.A b.rows.length b.cap])) (by decide)
  have hd : ({ tmps := #[(.agg #[.int .i64 a.n, .slice a.A a.rows.length a.cap]), (.agg #[.int .i64 b.n, .slice b.A b.rows.length b.cap])] ++ Array.replicate (41 - 2) undef, defers := [] } : Act).defers = [] := rfl
  rw [show Tryd.f30.ntmps - (#[(.agg #[.int .i64 a.n, .slice a.A a.rows.length a.cap]), (.agg #[.int .i64 b.n, .slice b.A b.rows.length b.cap])] : Array Value).size = 41 - 2 from rfl]
  generalize ({ tmps := #[(.agg #[.int .i64 a.n, .slice a.A a.rows.length a.cap]), (.agg #[.int .i64 b.n, .slice b.A b.rows.length b.cap])] ++ Array.replicate (41 - 2) undef, defers := [] } : Act) = a0 at hz e0 e1 hd ⊢
  have hB : Below w0.heap.size w0 w0 := Below.refl _ _
  have hS := hB.size
  refine wp_seq ?_
  refine seq_startL (l := [0, 1, 2]) (by kernel_rfl) ?_
  refine seq_valD 2 rfl rfl rfl (run_boxC rfl e0) ?_
  have x2 := RowT.new w0 26 [.int .i64 a.n, .slice a.A a.rows.length a.cap]
  replace hB := hB.al (o := .cells ([.int .i64 a.n, .slice a.A a.rows.length a.cap] : List Value).toArray 26)
  change wpOps _ _ _ _ _ (w0.alloc (.cells ([.int .i64 a.n, .slice a.A a.rows.length a.cap] : List Value).toArray 26))
  generalize (w0.alloc (.cells ([.int .i64 a.n, .slice a.A a.rows.length a.cap] : List Value).toArray 26)) = w1 at x2 hB ⊢
  generalize hbq2 : w0.heap.size = b2 at x2 ⊢
  have hge2 : w0.heap.size ≤ b2 := by rw [← hbq2]; exact hS
  clear hbq2
  have hS := hB.size
  refine seq_valD 3 rfl rfl rfl (run_boxC rfl ((ev_ne (by decide)).trans e1)) ?_
  have nx2_3 : b2 ≠ w1.heap.size := Nat.ne_of_lt x2.lt
  have x3 := RowT.new w1 26 [.int .i64 b.n, .slice b.A b.rows.length b.cap]
  replace x2 := x2.alloc (.cells ([.int .i64 b.n, .slice b.A b.rows.length b.cap] : List Value).toArray 26)
  replace hB := hB.al (o := .cells ([.int .i64 b.n, .slice b.A b.rows.length b.cap] : List Value).toArray 26)
  change wpOps _ _ _ _ _ (w1.alloc (.cells ([.int .i64 b.n, .slice b.A b.rows.length b.cap] : List Value).toArray 26))
  generalize (w1.alloc (.cells ([.int .i64 b.n, .slice b.A b.rows.length b.cap] : List Value).toArray 26)) = w2 at x2 x3 hB ⊢
  generalize hbq3 : w1.heap.size = b3 at x3 nx2_3 ⊢
  have hge3 : w0.heap.size ≤ b3 := by rw [← hbq3]; exact hS
  clear hbq3
  have hS := hB.size
  refine seq_assign 4 (v := (.bool false)) rfl rfl rfl rfl rfl ?_
  refine seq_nil ?_
  refine seq_out ((((KeepM.refl 6 [2, 3, 4] a0).put (by decide)).put (by decide)).put (by decide)) fun a3 k3 tr => ?_
  have f2 := tr 2 (.pointer (some ⟨b2, 0, none⟩)) ((ev_ne (by decide)).trans ((ev_ne (by decide)).trans (ev_same (by first | (rw [hz]; decide) | (simp only [size_put, hz]; decide)))))
  have f3 := tr 3 (.pointer (some ⟨b3, 0, none⟩)) ((ev_ne (by decide)).trans (ev_same (by first | (rw [hz]; decide) | (simp only [size_put, hz]; decide))))
  have f4 := tr 4 (.bool false) (ev_same (by first | (rw [hz]; decide) | (simp only [size_put, hz]; decide)))
  clear tr
  replace e0 := k3.ev e0 (by decide)
  replace e1 := k3.ev e1 (by decide)
  replace hz := k3.size.trans hz
  replace hd := k3.defers.trans hd
  have e2 := f2
  clear f2
  have e3 := f3
  clear f3
  have e4 := f4
  clear f4
  refine wp_seq ?_
  refine wp_seq ?_
  have hlast : lastOk (regOps Tryd.f30 1) 14 = true := by kernel_rfl
  refine region_ws (n := 14) [some (.pointer (some ⟨b2, 0, none⟩)), some (.int .i64 a.n), some (.pointer (some ⟨b3, 0, none⟩)), some (.int .i64 b.n), some (.bool false), some (.bool false), some (.pointer (some ⟨b2, 1, none⟩)), some (.slice a.A a.rows.length a.cap), some (.int .i64 ((a.rows.length : Nat) : Int)), some (.pointer (some ⟨b3, 1, none⟩)), some (.slice b.A b.rows.length b.cap), some (.int .i64 ((b.rows.length : Nat) : Int)), some (.bool false), some (.bool false)] 14 w2 w2 (by rw [hz]; kernel_rfl) (by kernel_rfl) (by kernel_rfl) (by kernel_rfl) ?_ fun L a4 w4 hL st => ?_
  · refine ⟨⟨⟨⟨⟨⟨⟨⟨⟨⟨⟨⟨⟨⟨trivial, ?_⟩, ?_⟩, ?_⟩, ?_⟩, ?_⟩, ?_⟩, ?_⟩, ?_⟩, ?_⟩, ?_⟩, ?_⟩, ?_⟩, ?_⟩, ?_⟩
    · intro oo aa ww LL hho hLL haft st; obtain rfl := Option.some.inj hho; exact payW st hlast hLL (by decide) (want_none rfl) (run_fp0 rfl (st.outV (by kernel_rfl) e2)) rfl
    · intro oo aa ww LL hho hLL haft st; obtain rfl := Option.some.inj hho; exact payW st hlast hLL (by decide) (want_none rfl) (run_ldI rfl (st.argV (j := 0) (aft_of haft (by kernel_rfl)) rfl rfl) (x2.cell 0)) rfl
    · intro oo aa ww LL hho hLL haft st; obtain rfl := Option.some.inj hho; exact payW st hlast hLL (by decide) (want_none rfl) (run_fp0 rfl (st.outV (by kernel_rfl) e3)) rfl
    · intro oo aa ww LL hho hLL haft st; obtain rfl := Option.some.inj hho; exact payW st hlast hLL (by decide) (want_none rfl) (run_ldI rfl (st.argV (j := 2) (aft_of haft (by kernel_rfl)) rfl rfl) (x3.cell 0)) rfl
    · intro oo aa ww LL hho hLL haft st; obtain rfl := Option.some.inj hho; exact payW st hlast hLL (by decide) (want_none rfl) ((run_neI rfl (st.argV (j := 1) (aft_of haft (by kernel_rfl)) rfl rfl) (st.argV (j := 3) (aft_of haft (by kernel_rfl)) rfl rfl)).trans (okB (c := false) (by simpa using hn))) rfl
    · intro oo aa ww LL hho hLL haft st; obtain rfl := Option.some.inj hho; exact payW_move st hlast hLL (by decide) (want_none rfl) rfl (st.argV (j := 4) (aft_of haft (by kernel_rfl)) rfl rfl) rfl
    · intro oo aa ww LL hho hLL haft st; obtain rfl := Option.some.inj hho; exact payW st hlast hLL (by decide) (st.wantV haft rfl (by kernel_rfl) rfl) (run_fp1 rfl (st.outV (by kernel_rfl) e2)) rfl
    · intro oo aa ww LL hho hLL haft st; obtain rfl := Option.some.inj hho; exact payW st hlast hLL (by decide) (st.wantV haft rfl (by kernel_rfl) rfl) (run_ldS rfl (st.argV (j := 6) (aft_of haft (by kernel_rfl)) rfl rfl) (x2.cell 1)) rfl
    · intro oo aa ww LL hho hLL haft st; obtain rfl := Option.some.inj hho; exact payW st hlast hLL (by decide) (st.wantV haft rfl (by kernel_rfl) rfl) (run_lenU rfl (st.argV (j := 7) (aft_of haft (by kernel_rfl)) rfl rfl)) rfl
    · intro oo aa ww LL hho hLL haft st; obtain rfl := Option.some.inj hho; exact payW st hlast hLL (by decide) (st.wantV haft rfl (by kernel_rfl) rfl) (run_fp1 rfl (st.outV (by kernel_rfl) e3)) rfl
    · intro oo aa ww LL hho hLL haft st; obtain rfl := Option.some.inj hho; exact payW st hlast hLL (by decide) (st.wantV haft rfl (by kernel_rfl) rfl) (run_ldS rfl (st.argV (j := 9) (aft_of haft (by kernel_rfl)) rfl rfl) (x3.cell 1)) rfl
    · intro oo aa ww LL hho hLL haft st; obtain rfl := Option.some.inj hho; exact payW st hlast hLL (by decide) (st.wantV haft rfl (by kernel_rfl) rfl) (run_lenU rfl (st.argV (j := 10) (aft_of haft (by kernel_rfl)) rfl rfl)) rfl
    · intro oo aa ww LL hho hLL haft st; obtain rfl := Option.some.inj hho; exact payW st hlast hLL (by decide) (st.wantV haft rfl (by kernel_rfl) rfl) ((run_neI rfl (st.argV (j := 8) (aft_of haft (by kernel_rfl)) rfl rfl) (st.argV (j := 11) (aft_of haft (by kernel_rfl)) rfl rfl)).trans (okB (c := false) (by simp; omega))) rfl
    · intro oo aa ww LL hho hLL haft st; obtain rfl := Option.some.inj hho; exact payW_pick st hlast hLL (by decide) (want_none rfl) rfl (st.argV (j := 5) (aft_of haft (by kernel_rfl)) rfl rfl) (st.argV (j := 12) (aft_of haft (by kernel_rfl)) rfl rfl) rfl
  clear hlast
  obtain rfl := st.end1 (Nat.le_of_eq (by kernel_rfl))
  have k4 : KeepM 6 [] a3 a4 := st.keepM (by kernel_rfl)
  have e19 : a4.eval (.tmp 19) = (.bool false) := st.argV (j := 13) (hL 13 (by omega)) rfl rfl
  clear st hL L
  replace e2 := k4.ev e2 (by decide)
  replace e3 := k4.ev e3 (by decide)
  replace e4 := k4.ev e4 (by decide)
  replace hz := k4.size.trans hz
  replace hd := k4.defers.trans hd
  refine wp_cond_false e19 ?_
  refine wp_skip ?_
  refine wp_seq ?_
  refine wp_seq ?_
  refine seq_startL (l := [0]) (by kernel_rfl) ?_
  refine seq_assign 5 (v := (.int .i64 0)) rfl rfl rfl rfl rfl ?_
  refine seq_nil ?_
  refine seq_out ((KeepM.refl 6 [5] a4).put (by decide)) fun a5 k5 tr => ?_
  have f5 := tr 5 (.int .i64 0) (ev_same (by first | (rw [hz]; decide) | (simp only [size_put, hz]; decide)))
  clear tr
  replace e2 := k5.ev e2 (by decide)
  replace e3 := k5.ev e3 (by decide)
  replace e4 := k5.ev e4 (by decide)
  replace hz := k5.size.trans hz
  replace hd := k5.defers.trans hd
  have e5 := f5
  clear f5
  have hall : ∀ i, i < 0 → a.rows.getD i 0 = b.rows.getD i 0 := fun i h => absurd h (Nat.not_lt_zero i)
  refine wp_block ?_
  refine wp_loop (fun aq wq => ∃ (k : Nat), (k ≤ a.rows.length ∧ ∀ i, i < k → a.rows.getD i 0 = b.rows.getD i 0) ∧ KeepM 6 [5] a5 aq ∧ aq.eval (.tmp 5) = (.int .i64 ((k : Nat) : Int)) ∧ RowT wq b2 26 [.int .i64 a.n, .slice a.A a.rows.length a.cap] ∧ RowT wq b3 26 [.int .i64 b.n, .slice b.A b.rows.length b.cap] ∧ Below w0.heap.size w0 wq) (fun aq _ => a.rows.length - (intOf (aq.eval (.tmp 5))).toNat) ⟨0, ⟨Nat.zero_le _, hall⟩, KeepM.refl _ _ _, e5, x2, x3, hB⟩ ?_
  rintro a6 w6 ⟨k, hk0, kk0, g5, qx2, qx3, qB⟩
  replace e2 := kk0.ev e2 (by decide)
  replace e3 := kk0.ev e3 (by decide)
  replace e4 := kk0.ev e4 (by decide)
  replace hz := kk0.size.trans hz
  replace hd := kk0.defers.trans hd
  clear e5 x2 x3 hB hS
  have e5 := g5
  have x2 := qx2
  have x3 := qx3
  have hB := qB
  have hS := hB.size
  clear qx2 qx3 qB
  obtain ⟨hkl, hall2⟩ := hk0
  have e5s := e5
  refine wp_seq ?_
  refine wp_seq ?_
  refine seq_startL (l := [0, 1, 2, 3, 4]) (by kernel_rfl) ?_
  refine seq_move 20 (v := (.int .i64 ((k : Nat) : Int))) rfl rfl rfl rfl e5 ?_
  refine seq_valD 21 (v := (.pointer (some ⟨b2, 1, none⟩))) rfl rfl rfl (run_fp1 rfl ((ev_ne (by decide)).trans e2)) ?_
  refine seq_valD 22 (v := (.slice a.A a.rows.length a.cap)) rfl rfl rfl (run_ldS rfl (ev_same (by first | (rw [hz]; decide) | (simp only [size_put, hz]; decide))) (x2.cell 1)) ?_
  refine seq_valD 23 (v := (.int .i64 ((a.rows.length : Nat) : Int))) rfl rfl rfl (run_lenU rfl (ev_same (by first | (rw [hz]; decide) | (simp only [size_put, hz]; decide)))) ?_
  refine seq_valD 24 (v := (.bool (decide (((k : Nat) : Int) < ((a.rows.length : Nat) : Int))))) rfl rfl rfl (run_ltI rfl ((ev_ne (by decide)).trans ((ev_ne (by decide)).trans ((ev_ne (by decide)).trans (ev_same (by first | (rw [hz]; decide) | (simp only [size_put, hz]; decide)))))) (ev_same (by first | (rw [hz]; decide) | (simp only [size_put, hz]; decide)))) ?_
  refine seq_nil ?_
  refine seq_out ((((((KeepM.refl 6 [] a6).put (by decide)).put (by decide)).put (by decide)).put (by decide)).put (by decide)) fun a7 k7 tr => ?_
  have f24 := tr 24 (.bool (decide (((k : Nat) : Int) < ((a.rows.length : Nat) : Int)))) (ev_same (by first | (rw [hz]; decide) | (simp only [size_put, hz]; decide)))
  clear tr
  replace e2 := k7.ev e2 (by decide)
  replace e3 := k7.ev e3 (by decide)
  replace e4 := k7.ev e4 (by decide)
  replace e5 := k7.ev e5 (by decide)
  replace hz := k7.size.trans hz
  replace hd := k7.defers.trans hd
  replace kk0 := kk0.trans (k7.mono (ys := [5]) (by decide))
  have e24 := f24
  clear f24
  by_cases hltk : k < a.rows.length
  · rw [decide_eq_true (by omega)] at e24
    refine wp_cond_true e24 ?_
    refine wp_skip ?_
    refine wp_seq ?_
    refine wp_block ?_
    refine wp_seq ?_
    obtain ⟨ad, hA, hal1, hcA, huA⟩ := good_row (ha.on hB) (k := k) (by omega)
    obtain ⟨bd, hBB, hbl1, hcB, huB⟩ := good_row (hb.on hB) (k := k) (by omega)
    by_cases hne : a.rows.getD k 0 = b.rows.getD k 0
    · have hlast : lastOk (regOps Tryd.f30 6) 11 = true := by kernel_rfl
      refine region_w (n := 11) [some (.pointer (some ⟨b2, 1, none⟩)), some (.slice (some ad) a.rows.length a.cap), some (.int .i64 ((k : Nat) : Int)), some (.pointer (some (ad.add k))), some (.int .u64 (((a.rows.getD k 0) : Nat) : Int)), some (.pointer (some ⟨b3, 1, none⟩)), some (.slice (some bd) b.rows.length b.cap), some (.int .i64 ((k : Nat) : Int)), some (.pointer (some (bd.add k))), some (.int .u64 (((b.rows.getD k 0) : Nat) : Int)), some (.bool false)] 11 w6 w6.drew (by kernel_rfl) (by rw [hz]; kernel_rfl) (by kernel_rfl) (by kernel_rfl) (by kernel_rfl) (by kernel_rfl) ?_ fun L a8 w8 hL st => ?_
      · refine ⟨⟨⟨⟨⟨⟨⟨⟨⟨⟨⟨trivial, ?_⟩, ?_⟩, ?_⟩, ?_⟩, ?_⟩, ?_⟩, ?_⟩, ?_⟩, ?_⟩, ?_⟩, ?_⟩
        · intro oo aa ww LL hho hLL haft st; obtain rfl := Option.some.inj hho; exact payW st hlast hLL (by decide) (want_none rfl) (run_fp1 rfl (st.outV (by kernel_rfl) e2)) rfl
        · intro oo aa ww LL hho hLL haft st; obtain rfl := Option.some.inj hho; exact payW st hlast hLL (by decide) (want_none rfl) (run_ldS rfl (st.argV (j := 0) (aft_of haft (by kernel_rfl)) rfl rfl) (by rw [← hA]; exact x2.cell 1)) rfl
        · intro oo aa ww LL hho hLL haft st; obtain rfl := Option.some.inj hho; exact payW_move st hlast hLL (by decide) (want_none rfl) rfl (st.outV (by kernel_rfl) e5) rfl
        · intro oo aa ww LL hho hLL haft st; obtain rfl := Option.some.inj hho; exact payW st hlast hLL (by decide) (want_none rfl) (run_ixU (k := k) rfl (st.argV (j := 1) (aft_of haft (by kernel_rfl)) rfl rfl) (st.argV (j := 2) (aft_of haft (by kernel_rfl)) rfl rfl) hltk) rfl
        · intro oo aa ww LL hho hLL haft st; obtain rfl := Option.some.inj hho; exact payW st hlast hLL (by decide) (want_none rfl) (run_ldU rfl (st.argV (j := 3) (aft_of haft (by kernel_rfl)) rfl rfl) hcA) rfl
        · intro oo aa ww LL hho hLL haft st; obtain rfl := Option.some.inj hho; exact payW st hlast hLL (by decide) (want_none rfl) (run_fp1 rfl (st.outV (by kernel_rfl) e3)) rfl
        · intro oo aa ww LL hho hLL haft st; obtain rfl := Option.some.inj hho; exact payW st hlast hLL (by decide) (want_none rfl) (run_ldS rfl (st.argV (j := 5) (aft_of haft (by kernel_rfl)) rfl rfl) (by rw [← hBB]; exact x3.cell 1)) rfl
        · intro oo aa ww LL hho hLL haft st; obtain rfl := Option.some.inj hho; exact payW_move st hlast hLL (by decide) (want_none rfl) rfl (st.outV (by kernel_rfl) e5) rfl
        · intro oo aa ww LL hho hLL haft st; obtain rfl := Option.some.inj hho; exact payW st hlast hLL (by decide) (want_none rfl) (run_ixU (k := k) rfl (st.argV (j := 6) (aft_of haft (by kernel_rfl)) rfl rfl) (st.argV (j := 7) (aft_of haft (by kernel_rfl)) rfl rfl) (by omega)) rfl
        · intro oo aa ww LL hho hLL haft st; obtain rfl := Option.some.inj hho; exact payW st hlast hLL (by decide) (want_none rfl) (run_ldU rfl (st.argV (j := 8) (aft_of haft (by kernel_rfl)) rfl rfl) hcB) rfl
        · intro oo aa ww LL hho hLL haft st; obtain rfl := Option.some.inj hho; exact payW st hlast hLL (by decide) (want_none rfl) ((run_neU rfl (st.argV (j := 4) (aft_of haft (by kernel_rfl)) rfl rfl) (st.argV (j := 9) (aft_of haft (by kernel_rfl)) rfl rfl)).trans (okB (c := false) (by rw [hne]; simp))) rfl
      clear hlast
      obtain rfl := st.end1 (Nat.le_of_eq (by kernel_rfl))
      have k8 : KeepM 6 [] a7 a8 := st.keepM (by kernel_rfl)
      have e37 : a8.eval (.tmp 37) = (.bool false) := st.argV (j := 10) (hL 10 (by omega)) rfl rfl
      clear st hL L
      replace e2 := k8.ev e2 (by decide)
      replace e3 := k8.ev e3 (by decide)
      replace e4 := k8.ev e4 (by decide)
      replace e5 := k8.ev e5 (by decide)
      replace hz := k8.size.trans hz
      replace hd := k8.defers.trans hd
      replace kk0 := kk0.trans (k8.mono (ys := [5]) (by decide))
      replace x2 := x2.drew
      replace x3 := x3.drew
      replace hB := hB.drew
      generalize w6.drew = w9 at x2 x3 hB ⊢
      refine wp_cond_false e37 ?_
      refine wp_skip ?_
      refine seq_startL (l := [0, 1, 2]) (by kernel_rfl) ?_
      refine seq_move 25 (v := (.int .i64 ((k : Nat) : Int))) rfl rfl rfl rfl e5 ?_
      refine seq_valD 26 (v := (.int .i64 ((k + 1 : Nat) : Int))) rfl rfl rfl (run_incI rfl (ev_same (by first | (rw [hz]; decide) | (simp only [size_put, hz]; decide))) rfl (by omega)) ?_
      refine seq_assign 5 (v := (.int .i64 ((k + 1 : Nat) : Int))) rfl rfl rfl rfl (ev_same (by first | (rw [hz]; decide) | (simp only [size_put, hz]; decide))) ?_
      refine seq_nil ?_
      refine seq_out ((((KeepM.refl 6 [5] a8).put (by decide)).put (by decide)).put (by decide)) fun a10 k10 tr => ?_
      have f5 := tr 5 (.int .i64 ((k + 1 : Nat) : Int)) (ev_same (by first | (rw [hz]; decide) | (simp only [size_put, hz]; decide)))
      clear tr
      replace e2 := k10.ev e2 (by decide)
      replace e3 := k10.ev e3 (by decide)
      replace e4 := k10.ev e4 (by decide)
      replace hz := k10.size.trans hz
      replace hd := k10.defers.trans hd
      replace kk0 := kk0.trans (k10.mono (ys := [5]) (by decide))
      have e5 := f5
      clear f5
      refine ⟨⟨k + 1, ⟨by omega, fun i hi => ?_⟩, kk0, e5, x2, x3, hB⟩, ?_⟩
      · by_cases e : i = k
        · rw [e]; exact hne
        · exact hall2 i (by omega)
      · rw [e5, e5s]; simp [intOf]; omega
    · have hlast : lastOk (regOps Tryd.f30 6) 11 = true := by kernel_rfl
      refine region_w (n := 11) [some (.pointer (some ⟨b2, 1, none⟩)), some (.slice (some ad) a.rows.length a.cap), some (.int .i64 ((k : Nat) : Int)), some (.pointer (some (ad.add k))), some (.int .u64 (((a.rows.getD k 0) : Nat) : Int)), some (.pointer (some ⟨b3, 1, none⟩)), some (.slice (some bd) b.rows.length b.cap), some (.int .i64 ((k : Nat) : Int)), some (.pointer (some (bd.add k))), some (.int .u64 (((b.rows.getD k 0) : Nat) : Int)), some (.bool true)] 11 w6 w6.drew (by kernel_rfl) (by rw [hz]; kernel_rfl) (by kernel_rfl) (by kernel_rfl) (by kernel_rfl) (by kernel_rfl) ?_ fun L a11 w11 hL st => ?_
      · refine ⟨⟨⟨⟨⟨⟨⟨⟨⟨⟨⟨trivial, ?_⟩, ?_⟩, ?_⟩, ?_⟩, ?_⟩, ?_⟩, ?_⟩, ?_⟩, ?_⟩, ?_⟩, ?_⟩
        · intro oo aa ww LL hho hLL haft st; obtain rfl := Option.some.inj hho; exact payW st hlast hLL (by decide) (want_none rfl) (run_fp1 rfl (st.outV (by kernel_rfl) e2)) rfl
        · intro oo aa ww LL hho hLL haft st; obtain rfl := Option.some.inj hho; exact payW st hlast hLL (by decide) (want_none rfl) (run_ldS rfl (st.argV (j := 0) (aft_of haft (by kernel_rfl)) rfl rfl) (by rw [← hA]; exact x2.cell 1)) rfl
        · intro oo aa ww LL hho hLL haft st; obtain rfl := Option.some.inj hho; exact payW_move st hlast hLL (by decide) (want_none rfl) rfl (st.outV (by kernel_rfl) e5) rfl
        · intro oo aa ww LL hho hLL haft st; obtain rfl := Option.some.inj hho; exact payW st hlast hLL (by decide) (want_none rfl) (run_ixU (k := k) rfl (st.argV (j := 1) (aft_of haft (by kernel_rfl)) rfl rfl) (st.argV (j := 2) (aft_of haft (by kernel_rfl)) rfl rfl) hltk) rfl
        · intro oo aa ww LL hho hLL haft st; obtain rfl := Option.some.inj hho; exact payW st hlast hLL (by decide) (want_none rfl) (run_ldU rfl (st.argV (j := 3) (aft_of haft (by kernel_rfl)) rfl rfl) hcA) rfl
        · intro oo aa ww LL hho hLL haft st; obtain rfl := Option.some.inj hho; exact payW st hlast hLL (by decide) (want_none rfl) (run_fp1 rfl (st.outV (by kernel_rfl) e3)) rfl
        · intro oo aa ww LL hho hLL haft st; obtain rfl := Option.some.inj hho; exact payW st hlast hLL (by decide) (want_none rfl) (run_ldS rfl (st.argV (j := 5) (aft_of haft (by kernel_rfl)) rfl rfl) (by rw [← hBB]; exact x3.cell 1)) rfl
        · intro oo aa ww LL hho hLL haft st; obtain rfl := Option.some.inj hho; exact payW_move st hlast hLL (by decide) (want_none rfl) rfl (st.outV (by kernel_rfl) e5) rfl
        · intro oo aa ww LL hho hLL haft st; obtain rfl := Option.some.inj hho; exact payW st hlast hLL (by decide) (want_none rfl) (run_ixU (k := k) rfl (st.argV (j := 6) (aft_of haft (by kernel_rfl)) rfl rfl) (st.argV (j := 7) (aft_of haft (by kernel_rfl)) rfl rfl) (by omega)) rfl
        · intro oo aa ww LL hho hLL haft st; obtain rfl := Option.some.inj hho; exact payW st hlast hLL (by decide) (want_none rfl) (run_ldU rfl (st.argV (j := 8) (aft_of haft (by kernel_rfl)) rfl rfl) hcB) rfl
        · intro oo aa ww LL hho hLL haft st; obtain rfl := Option.some.inj hho; exact payW st hlast hLL (by decide) (want_none rfl) ((run_neU rfl (st.argV (j := 4) (aft_of haft (by kernel_rfl)) rfl rfl) (st.argV (j := 9) (aft_of haft (by kernel_rfl)) rfl rfl)).trans (okB (c := true) (bne_iff_ne.2 (fun e => hne (by omega))))) rfl
      clear hlast
      obtain rfl := st.end1 (Nat.le_of_eq (by kernel_rfl))
      have k11 : KeepM 6 [] a7 a11 := st.keepM (by kernel_rfl)
      have e37 : a11.eval (.tmp 37) = (.bool true) := st.argV (j := 10) (hL 10 (by omega)) rfl rfl
      clear st hL L
      replace e2 := k11.ev e2 (by decide)
      replace e3 := k11.ev e3 (by decide)
      replace e4 := k11.ev e4 (by decide)
      replace e5 := k11.ev e5 (by decide)
      replace hz := k11.size.trans hz
      replace hd := k11.defers.trans hd
      replace kk0 := kk0.trans (k11.mono (ys := [5]) (by decide))
      replace x2 := x2.drew
      replace x3 := x3.drew
      replace hB := hB.drew
      generalize w6.drew = w12 at x2 x3 hB ⊢
      refine wp_cond_true e37 ?_
      refine wp_seq ?_
      refine seq_startL (l := [0]) (by kernel_rfl) ?_
      refine seq_assign 4 (v := (.bool false)) rfl rfl rfl rfl rfl ?_
      refine seq_nil ?_
      refine seq_out ((KeepM.refl 6 [4] a11).put (by decide)) fun a13 k13 tr => ?_
      have f4 := tr 4 (.bool false) (ev_same (by first | (rw [hz]; decide) | (simp only [size_put, hz]; decide)))
      clear tr
      replace e2 := k13.ev e2 (by decide)
      replace e3 := k13.ev e3 (by decide)
      replace e5 := k13.ev e5 (by decide)
      replace hz := k13.size.trans hz
      replace hd := k13.defers.trans hd
      have e4 := f4
      clear f4
      refine wp_ret ?_
      refine post_slot rfl hd (get_of_bool e4) (Ret.b ?_ hB)
      rw [decide_eq_false (fun e => hne (by rw [e])), Bool.and_false]
  · rw [decide_eq_false (by omega)] at e24
    refine wp_cond_false e24 ?_
    refine wp_exit ?_
    refine exit_here1 (id := 0) ?_
    have hrows : a.rows = b.rows := List.ext_getElem hl (fun i h1 h2 => by have := hall2 i (by omega); simpa [List.getD_eq_getElem?_getD, List.getElem?_eq_getElem h1, List.getElem?_eq_getElem h2] using this)
    refine wp_seq ?_
    refine seq_startL (l := [0, 1, 2, 3]) (by kernel_rfl) ?_
    refine seq_valD 38 (v := (.agg #[.int .i64 a.n, .slice a.A a.rows.length a.cap])) rfl rfl rfl (run_ldR rfl e2 (x2.cell 0) (x2.cell 1)) ?_
    refine seq_callD 39 rfl rfl rfl en_rCheck rfl (args_one (ev_same (by first | (rw [hz]; decide) | (simp only [size_put, hz]; decide)))) ((rcheck_any a.n a.A a.cap a.rows w6 (ha.on hB).1 (ha.on hB).2).mono ?_)
    rintro e w14 ⟨rfl, hb14⟩
    refine ⟨_, rfl, ?_⟩
    replace x2 := x2.below hb14 x2.lt
    replace x3 := x3.below hb14 x3.lt
    replace hB := Below.next hB hb14
    replace hS := hB.size
    refine seq_valD 40 (v := (.bool a.ok)) rfl rfl rfl ((run_eqE rfl (ev_same (by first | (rw [hz]; decide) | (simp only [size_put, hz]; decide))) rfl).trans (okB (c := a.ok) (chk_eq a))) ?_
    refine seq_assign 4 (v := (.bool a.ok)) rfl rfl rfl rfl (ev_same (by first | (rw [hz]; decide) | (simp only [size_put, hz]; decide))) ?_
    refine seq_nil ?_
    refine seq_out (((((KeepM.refl 6 [4] a7).put (by decide)).put (by decide)).put (by decide)).put (by decide)) fun a15 k15 tr => ?_
    have f4 := tr 4 (.bool a.ok) (ev_same (by first | (rw [hz]; decide) | (simp only [size_put, hz]; decide)))
    clear tr
    replace e2 := k15.ev e2 (by decide)
    replace e3 := k15.ev e3 (by decide)
    replace e5 := k15.ev e5 (by decide)
    replace hz := k15.size.trans hz
    replace hd := k15.defers.trans hd
    have e4 := f4
    clear f4
    refine wp_ret ?_
    refine post_slot rfl hd (get_of_bool e4) (Ret.b ?_ hB)
    rw [decide_eq_true hrows, Bool.and_true]
theorem en_rSame : Enters Tryd.prog 30 := enters_of Tryd.func30 (by kernel_rfl) rfl
theorem C_rSame : CallRRB 30 Psame := fun a b w ha hb hsa _ => by
  by_cases hn : a.n = b.n
  · by_cases hl : a.rows.length = b.rows.length
    · have := rSame_r a b w ha hb hsa hn hl
      have e : Psame a.pr b.pr = (a.ok && decide (a.rows = b.rows)) := by
        unfold Psame
        by_cases hr : a.rows = b.rows
        · have e1 : b.pr = a.pr := by unfold RA.pr; rw [hn, hr]
          rw [e1, show Palike [a.pr, a.pr] = a.ok by unfold Palike; simp [show a.pr.ok = a.ok from rfl]]
          simp [hr]
        · rw [show decide (a.pr.rows = b.pr.rows) = false from decide_eq_false hr, decide_eq_false hr, Bool.and_false, Bool.and_false]
      rw [e]; exact this
    · have e : Psame a.pr b.pr = false := by
        unfold Psame
        rw [show decide (a.pr.rows = b.pr.rows) = false from decide_eq_false (fun e => hl (congrArg List.length e)), Bool.and_false]
      rw [e]; exact rSame_l a b w hn hl
  · have e : Psame a.pr b.pr = false := by
      cases hp : Psame a.pr b.pr with
      | false => rfl
      | true =>
        unfold Psame at hp
        rw [Bool.and_eq_true] at hp
        exact absurd (Palike_ok hp.1 b.pr (by simp)).2.symm hn
    rw [e]; exact rSame_n a b w hn
set_option maxRecDepth 100000 in
set_option maxHeartbeats 4000000 in
theorem rImage_ok (r : RA) (f N : Nat) (w0 : World) (hT : Tab w0) (hr : r.good w0) (hsr : Short r.pr) (ho : r.ok = true) (hnr : r.n = (N : Nat)) (hlr : r.rows.length = N) (h64 : N ≤ 64) : Calls Tryd.prog 28 #[r.val, .int .u64 ((f : Nat) : Int)] w0 (Ret w0 (.int .u64 ((imgTo r.rows f N : Nat) : Int))) := by
  have hrv : r.val = (.agg #[.int .i64 ((N : Nat) : Int), .slice r.A N r.cap]) := by unfold RA.val; rw [hnr, hlr]
  rw [hrv]
  refine calls_of_wp Tryd.func28 rfl ?_
  obtain ⟨hz, e0, e1⟩ := start_act2 32 ((.agg #[.int .i64 ((N : Nat) : Int), .slice r.A N r.cap])) ((.int .u64 ((f : Nat) : Int))) (by decide)
  have hd : ({ tmps := #[(.agg #[.int .i64 ((N : Nat) : Int), .slice r.A N r.cap]), (.int .u64 ((f : Nat) : Int))] ++ Array.replicate (32 - 2) undef, defers := [] } : Act).defers = [] := rfl
  rw [show Tryd.f28.ntmps - (#[(.agg #[.int .i64 ((N : Nat) : Int), .slice r.A N r.cap]), (.int .u64 ((f : Nat) : Int))] : Array Value).size = 32 - 2 from rfl]
  generalize ({ tmps := #[(.agg #[.int .i64 ((N : Nat) : Int), .slice r.A N r.cap]), (.int .u64 ((f : Nat) : Int))] ++ Array.replicate (32 - 2) undef, defers := [] } : Act) = a0 at hz e0 e1 hd ⊢
  have hB : Below w0.heap.size w0 w0 := Below.refl _ _
  have hS := hB.size
  refine wp_seq ?_
  refine seq_startL (l := [0, 1]) (by kernel_rfl) ?_
  refine seq_valD 2 rfl rfl rfl (run_boxC rfl e0) ?_
  have x2 := RowT.new w0 26 [.int .i64 ((N : Nat) : Int), .slice r.A N r.cap]
  replace hB := hB.al (o := .cells ([.int .i64 ((N : Nat) : Int), .slice r.A N r.cap] : List Value).toArray 26)
  change wpOps _ _ _ _ _ (w0.alloc (.cells ([.int .i64 ((N : Nat) : Int), .slice r.A N r.cap] : List Value).toArray 26))
  generalize (w0.alloc (.cells ([.int .i64 ((N : Nat) : Int), .slice r.A N r.cap] : List Value).toArray 26)) = w1 at x2 hB ⊢
  generalize hbq2 : w0.heap.size = b2 at x2 ⊢
  have hge2 : w0.heap.size ≤ b2 := by rw [← hbq2]; exact hS
  clear hbq2
  have hS := hB.size
  refine seq_assign 4 (v := (.int .u64 0)) rfl rfl rfl rfl rfl ?_
  refine seq_nil ?_
  refine seq_out (((KeepM.refl 7 [2, 4] a0).put (by decide)).put (by decide)) fun a2 k2 tr => ?_
  have f2 := tr 2 (.pointer (some ⟨b2, 0, none⟩)) ((ev_ne (by decide)).trans (ev_same (by first | (rw [hz]; decide) | (simp only [size_put, hz]; decide))))
  have f4 := tr 4 (.int .u64 0) (ev_same (by first | (rw [hz]; decide) | (simp only [size_put, hz]; decide)))
  clear tr
  replace e0 := k2.ev e0 (by decide)
  replace e1 := k2.ev e1 (by decide)
  replace hz := k2.size.trans hz
  replace hd := k2.defers.trans hd
  have e2 := f2
  clear f2
  have e4 := f4
  clear f4
  refine wp_seq ?_
  refine seq_startL (l := [0]) (by kernel_rfl) ?_
  refine seq_assign 5 (v := (.int .u64 0)) rfl rfl rfl rfl rfl ?_
  refine seq_nil ?_
  refine seq_out ((KeepM.refl 7 [5] a2).put (by decide)) fun a3 k3 tr => ?_
  have f5 := tr 5 (.int .u64 0) (ev_same (by first | (rw [hz]; decide) | (simp only [size_put, hz]; decide)))
  clear tr
  replace e1 := k3.ev e1 (by decide)
  replace e2 := k3.ev e2 (by decide)
  replace e4 := k3.ev e4 (by decide)
  replace hz := k3.size.trans hz
  replace hd := k3.defers.trans hd
  have e5 := f5
  clear f5
  refine wp_seq ?_
  refine wp_seq ?_
  refine seq_startL (l := [0]) (by kernel_rfl) ?_
  refine seq_assign 6 (v := (.int .i64 0)) rfl rfl rfl rfl rfl ?_
  refine seq_nil ?_
  refine seq_out ((KeepM.refl 7 [6] a3).put (by decide)) fun a4 k4 tr => ?_
  have f6 := tr 6 (.int .i64 0) (ev_same (by first | (rw [hz]; decide) | (simp only [size_put, hz]; decide)))
  clear tr
  replace e1 := k4.ev e1 (by decide)
  replace e2 := k4.ev e2 (by decide)
  replace e4 := k4.ev e4 (by decide)
  replace e5 := k4.ev e5 (by decide)
  replace hz := k4.size.trans hz
  replace hd := k4.defers.trans hd
  have e6 := f6
  clear f6
  refine wp_block ?_
  refine wp_loop (fun aq wq => ∃ (k : Nat), (k ≤ N) ∧ KeepM 7 [5, 6] a4 aq ∧ aq.eval (.tmp 5) = (.int .u64 (((imgTo r.rows f k) : Nat) : Int)) ∧ aq.eval (.tmp 6) = (.int .i64 ((k : Nat) : Int)) ∧ RowT wq b2 26 [.int .i64 ((N : Nat) : Int), .slice r.A N r.cap] ∧ Below w0.heap.size w0 wq) (fun aq _ => N - (intOf (aq.eval (.tmp 6))).toNat) ⟨0, Nat.zero_le _, KeepM.refl _ _ _, e5, e6, x2, hB⟩ ?_
  rintro a5 w5 ⟨k, hk0, kk0, g5, g6, qx2, qB⟩
  replace e1 := kk0.ev e1 (by decide)
  replace e2 := kk0.ev e2 (by decide)
  replace e4 := kk0.ev e4 (by decide)
  replace hz := kk0.size.trans hz
  replace hd := kk0.defers.trans hd
  clear e5 e6 x2 hB hS
  have e5 := g5
  have e6 := g6
  have x2 := qx2
  have hB := qB
  have hS := hB.size
  clear qx2 qB
  have e6s := e6
  have x2r : RowT w5 b2 26 r.cells := by unfold RA.cells; rw [hnr, hlr]; exact x2
  refine wp_seq ?_
  refine wp_seq ?_
  by_cases hltk : k < N
  · refine region_ts_seq (n := 9) [Sp.val (.int .i64 ((k : Nat) : Int)), Sp.val (.pointer (some ⟨b2, 0, none⟩)), Sp.val (.int .i64 r.n), Sp.val (.bool true), Sp.val (.bool true), Sp.rel r.pr, Sp.val (.int .i64 0), Sp.val (.bool true), Sp.val (.bool true)] w5 (by rw [hz]; kernel_rfl) (by kernel_rfl) (by kernel_rfl) (by kernel_rfl) ?_ fun L a6 w6 hL st => ?_
    · refine ⟨⟨⟨⟨⟨⟨⟨⟨⟨trivial, ?_⟩, ?_⟩, ?_⟩, ?_⟩, ?_⟩, ?_⟩, ?_⟩, ?_⟩, ?_⟩
      · intro oo aa ww LL hho hLL haft st; obtain rfl := Option.some.inj hho; exact pay_move st (want_none rfl) rfl (show Sp.holds (Sp.val (.int .i64 ((k : Nat) : Int))) _ _ _ from (st.out (by kernel_rfl) (get_of_int e6))) rfl rfl
      · intro oo aa ww LL hho hLL haft st; obtain rfl := Option.some.inj hho; exact pay_field st (want_none rfl) rfl (st.out (by kernel_rfl) (get_of_eval e2)) rfl
      · intro oo aa ww LL hho hLL haft st; obtain rfl := Option.some.inj hho; exact pay_loadN st (want_none rfl) rfl (st.arg (j := 1) (aft_of haft (by kernel_rfl)) rfl rfl) x2r rfl
      · intro oo aa ww LL hho hLL haft st; obtain rfl := Option.some.inj hho; exact pay_run st (want_none rfl) ((run_ltI rfl (st.arg (j := 0) (aft_of haft (by kernel_rfl)) rfl rfl) (st.arg (j := 2) (aft_of haft (by kernel_rfl)) rfl rfl)).trans (okB (decide_eq_true (by rw [hnr]; omega)))) rfl
      · intro oo aa ww LL hho hLL haft st; obtain rfl := Option.some.inj hho; exact pay_move st (want_none rfl) rfl (show Sp.holds (Sp.val (.bool true)) _ _ _ from (st.arg (j := 3) (aft_of haft (by kernel_rfl)) rfl rfl)) rfl rfl
      · intro oo aa ww LL hho hLL haft st; obtain rfl := Option.some.inj hho; exact pay_loadR st (st.want haft rfl (by kernel_rfl) rfl) rfl (st.out (by kernel_rfl) (get_of_eval e2)) x2r (hr.on hB) hsr rfl
      · intro oo aa ww LL hho hLL haft st; obtain rfl := Option.some.inj hho; exact call_RV C_rCheck en_rCheck (hT.on hB) st (st.want haft rfl (by kernel_rfl) rfl) rfl (st.arg (j := 5) (aft_of haft (by kernel_rfl)) rfl rfl) rfl (by rw [show chk r.pr.n r.pr.rows = 0 from chk_yes ho])
      · intro oo aa ww LL hho hLL haft st; obtain rfl := Option.some.inj hho; exact pay_run st (st.want haft rfl (by kernel_rfl) rfl) ((run_eqE rfl (st.arg (j := 6) (aft_of haft (by kernel_rfl)) rfl rfl) rfl).trans (okB rfl)) rfl
      · intro oo aa ww LL hho hLL haft st; obtain rfl := Option.some.inj hho; exact pay_pick st (want_none rfl) rfl (st.arg (j := 4) (aft_of haft (by kernel_rfl)) rfl rfl) (show Sp.holds (Sp.val (.bool true)) _ _ _ from (st.arg (j := 7) (aft_of haft (by kernel_rfl)) rfl rfl)) rfl rfl
    have k6 : KeepM 7 [] a5 a6 := st.keepM (by kernel_rfl)
    have hb6 := st.g
    have e15 : a6.eval (.tmp 15) = (.bool true) := st.arg (j := 8) (hL 8 (by omega)) rfl rfl
    clear st hL L
    replace e1 := k6.ev e1 (by decide)
    replace e2 := k6.ev e2 (by decide)
    replace e4 := k6.ev e4 (by decide)
    replace e5 := k6.ev e5 (by decide)
    replace e6 := k6.ev e6 (by decide)
    replace hz := k6.size.trans hz
    replace hd := k6.defers.trans hd
    replace kk0 := kk0.trans (k6.mono (ys := [5, 6]) (by decide))
    replace x2 := x2.below hb6 x2.lt
    replace hB := Below.next hB hb6
    replace hS := hB.size
    clear x2r
    refine wp_cond_true e15 ?_
    refine wp_skip ?_
    refine wp_seq ?_
    refine wp_block ?_
    refine wp_seq ?_
    obtain ⟨ad, hA, hal1, hcA, huA⟩ := good_row (hr.on hB) (k := k) (by omega)
    cases hbt : f.testBit k with
    | false =>
      refine seq_startL (l := [0, 1, 2, 3, 4, 5]) (by kernel_rfl) ?_
      refine seq_move 18 (v := (.int .u64 ((f : Nat) : Int))) rfl rfl rfl rfl e1 ?_
      refine seq_move 19 (v := (.int .i64 ((k : Nat) : Int))) rfl rfl rfl rfl ((ev_ne (by decide)).trans e6) ?_
      refine seq_valD 20 (v := (.int .u64 ((k : Nat) : Int))) rfl rfl rfl (run_cvU rfl (ev_same (by first | (rw [hz]; decide) | (simp only [size_put, hz]; decide))) (by omega)) ?_
      refine seq_valD 21 (v := (.int .u64 (((f / 2 ^ k) : Nat) : Int))) rfl rfl rfl (run_shr rfl ((ev_ne (by decide)).trans ((ev_ne (by decide)).trans (ev_same (by first | (rw [hz]; decide) | (simp only [size_put, hz]; decide))))) (ev_same (by first | (rw [hz]; decide) | (simp only [size_put, hz]; decide))) (by omega)) ?_
      refine seq_valD 22 (v := (.int .u64 ((((f / 2 ^ k) % 2) : Nat) : Int))) rfl rfl rfl (run_rem2 rfl (ev_same (by first | (rw [hz]; decide) | (simp only [size_put, hz]; decide))) rfl) ?_
      refine seq_valD 23 (v := (.bool false)) rfl rfl rfl ((run_eqU rfl (ev_same (by first | (rw [hz]; decide) | (simp only [size_put, hz]; decide))) rfl).trans (okB (c := false) (bit_eq hbt))) ?_
      refine seq_nil ?_
      refine seq_out (((((((KeepM.refl 7 [] a6).put (by decide)).put (by decide)).put (by decide)).put (by decide)).put (by decide)).put (by decide)) fun a7 k7 tr => ?_
      have f23 := tr 23 (.bool false) (ev_same (by first | (rw [hz]; decide) | (simp only [size_put, hz]; decide)))
      clear tr
      replace e1 := k7.ev e1 (by decide)
      replace e2 := k7.ev e2 (by decide)
      replace e4 := k7.ev e4 (by decide)
      replace e5 := k7.ev e5 (by decide)
      replace e6 := k7.ev e6 (by decide)
      replace hz := k7.size.trans hz
      replace hd := k7.defers.trans hd
      replace kk0 := kk0.trans (k7.mono (ys := [5, 6]) (by decide))
      have e23 := f23
      clear f23
      refine wp_cond_false e23 ?_
      refine wp_skip ?_
      have hst : imgTo r.rows f (k + 1) = imgTo r.rows f k := by rw [imgTo_succ, hbt]; simp
      rw [← hst] at e5
      refine seq_startL (l := [0, 1, 2]) (by kernel_rfl) ?_
      refine seq_move 16 (v := (.int .i64 ((k : Nat) : Int))) rfl rfl rfl rfl e6 ?_
      refine seq_valD 17 (v := (.int .i64 ((k + 1 : Nat) : Int))) rfl rfl rfl (run_incI rfl (ev_same (by first | (rw [hz]; decide) | (simp only [size_put, hz]; decide))) rfl (by omega)) ?_
      refine seq_assign 6 (v := (.int .i64 ((k + 1 : Nat) : Int))) rfl rfl rfl rfl (ev_same (by first | (rw [hz]; decide) | (simp only [size_put, hz]; decide))) ?_
      refine seq_nil ?_
      refine seq_out ((((KeepM.refl 7 [6] a7).put (by decide)).put (by decide)).put (by decide)) fun a8 k8 tr => ?_
      have f6 := tr 6 (.int .i64 ((k + 1 : Nat) : Int)) (ev_same (by first | (rw [hz]; decide) | (simp only [size_put, hz]; decide)))
      clear tr
      replace e1 := k8.ev e1 (by decide)
      replace e2 := k8.ev e2 (by decide)
      replace e4 := k8.ev e4 (by decide)
      replace e5 := k8.ev e5 (by decide)
      replace hz := k8.size.trans hz
      replace hd := k8.defers.trans hd
      replace kk0 := kk0.trans (k8.mono (ys := [5, 6]) (by decide))
      have e6 := f6
      clear f6
      refine ⟨⟨k + 1, by omega, kk0, e5, e6, x2, hB⟩, ?_⟩
      rw [e6, e6s]; simp [intOf]; omega
    | true =>
      refine seq_startL (l := [0, 1, 2, 3, 4, 5]) (by kernel_rfl) ?_
      refine seq_move 18 (v := (.int .u64 ((f : Nat) : Int))) rfl rfl rfl rfl e1 ?_
      refine seq_move 19 (v := (.int .i64 ((k : Nat) : Int))) rfl rfl rfl rfl ((ev_ne (by decide)).trans e6) ?_
      refine seq_valD 20 (v := (.int .u64 ((k : Nat) : Int))) rfl rfl rfl (run_cvU rfl (ev_same (by first | (rw [hz]; decide) | (simp only [size_put, hz]; decide))) (by omega)) ?_
      refine seq_valD 21 (v := (.int .u64 (((f / 2 ^ k) : Nat) : Int))) rfl rfl rfl (run_shr rfl ((ev_ne (by decide)).trans ((ev_ne (by decide)).trans (ev_same (by first | (rw [hz]; decide) | (simp only [size_put, hz]; decide))))) (ev_same (by first | (rw [hz]; decide) | (simp only [size_put, hz]; decide))) (by omega)) ?_
      refine seq_valD 22 (v := (.int .u64 ((((f / 2 ^ k) % 2) : Nat) : Int))) rfl rfl rfl (run_rem2 rfl (ev_same (by first | (rw [hz]; decide) | (simp only [size_put, hz]; decide))) rfl) ?_
      refine seq_valD 23 (v := (.bool true)) rfl rfl rfl ((run_eqU rfl (ev_same (by first | (rw [hz]; decide) | (simp only [size_put, hz]; decide))) rfl).trans (okB (c := true) (bit_eq hbt))) ?_
      refine seq_nil ?_
      refine seq_out (((((((KeepM.refl 7 [] a6).put (by decide)).put (by decide)).put (by decide)).put (by decide)).put (by decide)).put (by decide)) fun a9 k9 tr => ?_
      have f23 := tr 23 (.bool true) (ev_same (by first | (rw [hz]; decide) | (simp only [size_put, hz]; decide)))
      clear tr
      replace e1 := k9.ev e1 (by decide)
      replace e2 := k9.ev e2 (by decide)
      replace e4 := k9.ev e4 (by decide)
      replace e5 := k9.ev e5 (by decide)
      replace e6 := k9.ev e6 (by decide)
      replace hz := k9.size.trans hz
      replace hd := k9.defers.trans hd
      replace kk0 := kk0.trans (k9.mono (ys := [5, 6]) (by decide))
      have e23 := f23
      clear f23
      refine wp_cond_true e23 ?_
      refine seq_startL (l := [0, 1, 2, 3, 4, 5, 6, 7]) (by kernel_rfl) ?_
      refine seq_move 24 (v := (.int .u64 (((imgTo r.rows f k) : Nat) : Int))) rfl rfl rfl rfl e5 ?_
      refine seq_valD 25 (v := (.pointer (some ⟨b2, 1, none⟩))) rfl rfl rfl (run_fp1 rfl ((ev_ne (by decide)).trans e2)) ?_
      refine seq_valD 26 (v := (.slice (some ad) N r.cap)) rfl rfl rfl (run_ldS rfl (ev_same (by first | (rw [hz]; decide) | (simp only [size_put, hz]; decide))) (by rw [← hA]; exact x2.cell 1)) ?_
      refine seq_move 27 (v := (.int .i64 ((k : Nat) : Int))) rfl rfl rfl rfl ((ev_ne (by decide)).trans ((ev_ne (by decide)).trans ((ev_ne (by decide)).trans e6))) ?_
      refine seq_valD 28 (v := (.pointer (some (ad.add k)))) rfl rfl rfl (run_ixU (k := k) rfl ((ev_ne (by decide)).trans (ev_same (by first | (rw [hz]; decide) | (simp only [size_put, hz]; decide)))) (ev_same (by first | (rw [hz]; decide) | (simp only [size_put, hz]; decide))) hltk) ?_
      refine seq_valD 29 (v := (.int .u64 (((r.rows.getD k 0) : Nat) : Int))) rfl rfl rfl (run_ldU rfl (ev_same (by first | (rw [hz]; decide) | (simp only [size_put, hz]; decide))) hcA) ?_
      refine seq_valD 30 (v := (.int .u64 ((((imgTo r.rows f k) ||| (r.rows.getD k 0)) : Nat) : Int))) rfl rfl rfl (run_orU rfl ((ev_ne (by decide)).trans ((ev_ne (by decide)).trans ((ev_ne (by decide)).trans ((ev_ne (by decide)).trans ((ev_ne (by decide)).trans (ev_same (by first | (rw [hz]; decide) | (simp only [size_put, hz]; decide)))))))) (ev_same (by first | (rw [hz]; decide) | (simp only [size_put, hz]; decide))) (imgTo_lt hr.1 _ _) huA) ?_
      refine seq_assign 5 (v := (.int .u64 ((((imgTo r.rows f k) ||| (r.rows.getD k 0)) : Nat) : Int))) rfl rfl rfl rfl (ev_same (by first | (rw [hz]; decide) | (simp only [size_put, hz]; decide))) ?_
      refine seq_nil ?_
      refine seq_out (((((((((KeepM.refl 7 [5] a9).put (by decide)).put (by decide)).put (by decide)).put (by decide)).put (by decide)).put (by decide)).put (by decide)).put (by decide)) fun a10 k10 tr => ?_
      have f5 := tr 5 (.int .u64 ((((imgTo r.rows f k) ||| (r.rows.getD k 0)) : Nat) : Int)) (ev_same (by first | (rw [hz]; decide) | (simp only [size_put, hz]; decide)))
      clear tr
      replace e1 := k10.ev e1 (by decide)
      replace e2 := k10.ev e2 (by decide)
      replace e4 := k10.ev e4 (by decide)
      replace e6 := k10.ev e6 (by decide)
      replace hz := k10.size.trans hz
      replace hd := k10.defers.trans hd
      replace kk0 := kk0.trans (k10.mono (ys := [5, 6]) (by decide))
      have e5 := f5
      clear f5
      have hst : imgTo r.rows f (k + 1) = (imgTo r.rows f k ||| r.rows.getD k 0) := by rw [imgTo_succ, hbt]; simp
      rw [← hst] at e5
      refine seq_startL (l := [0, 1, 2]) (by kernel_rfl) ?_
      refine seq_move 16 (v := (.int .i64 ((k : Nat) : Int))) rfl rfl rfl rfl e6 ?_
      refine seq_valD 17 (v := (.int .i64 ((k + 1 : Nat) : Int))) rfl rfl rfl (run_incI rfl (ev_same (by first | (rw [hz]; decide) | (simp only [size_put, hz]; decide))) rfl (by omega)) ?_
      refine seq_assign 6 (v := (.int .i64 ((k + 1 : Nat) : Int))) rfl rfl rfl rfl (ev_same (by first | (rw [hz]; decide) | (simp only [size_put, hz]; decide))) ?_
      refine seq_nil ?_
      refine seq_out ((((KeepM.refl 7 [6] a10).put (by decide)).put (by decide)).put (by decide)) fun a11 k11 tr => ?_
      have f6 := tr 6 (.int .i64 ((k + 1 : Nat) : Int)) (ev_same (by first | (rw [hz]; decide) | (simp only [size_put, hz]; decide)))
      clear tr
      replace e1 := k11.ev e1 (by decide)
      replace e2 := k11.ev e2 (by decide)
      replace e4 := k11.ev e4 (by decide)
      replace e5 := k11.ev e5 (by decide)
      replace hz := k11.size.trans hz
      replace hd := k11.defers.trans hd
      replace kk0 := kk0.trans (k11.mono (ys := [5, 6]) (by decide))
      have e6 := f6
      clear f6
      refine ⟨⟨k + 1, by omega, kk0, e5, e6, x2, hB⟩, ?_⟩
      rw [e6, e6s]; simp [intOf]; omega
  · refine region_ts_seq (n := 9) [Sp.val (.int .i64 ((k : Nat) : Int)), Sp.val (.pointer (some ⟨b2, 0, none⟩)), Sp.val (.int .i64 r.n), Sp.val (.bool false), Sp.val (.bool false), Sp.top, Sp.top, Sp.top, Sp.val (.bool false)] w5 (by rw [hz]; kernel_rfl) (by kernel_rfl) (by kernel_rfl) (by kernel_rfl) ?_ fun L a12 w12 hL st => ?_
    · refine ⟨⟨⟨⟨⟨⟨⟨⟨⟨trivial, ?_⟩, ?_⟩, ?_⟩, ?_⟩, ?_⟩, ?_⟩, ?_⟩, ?_⟩, ?_⟩
      · intro oo aa ww LL hho hLL haft st; obtain rfl := Option.some.inj hho; exact pay_move st (want_none rfl) rfl (show Sp.holds (Sp.val (.int .i64 ((k : Nat) : Int))) _ _ _ from (st.out (by kernel_rfl) (get_of_int e6))) rfl rfl
      · intro oo aa ww LL hho hLL haft st; obtain rfl := Option.some.inj hho; exact pay_field st (want_none rfl) rfl (st.out (by kernel_rfl) (get_of_eval e2)) rfl
      · intro oo aa ww LL hho hLL haft st; obtain rfl := Option.some.inj hho; exact pay_loadN st (want_none rfl) rfl (st.arg (j := 1) (aft_of haft (by kernel_rfl)) rfl rfl) x2r rfl
      · intro oo aa ww LL hho hLL haft st; obtain rfl := Option.some.inj hho; exact pay_run st (want_none rfl) ((run_ltI rfl (st.arg (j := 0) (aft_of haft (by kernel_rfl)) rfl rfl) (st.arg (j := 2) (aft_of haft (by kernel_rfl)) rfl rfl)).trans (okB (decide_eq_false (by rw [hnr]; omega)))) rfl
      · intro oo aa ww LL hho hLL haft st; obtain rfl := Option.some.inj hho; exact pay_move st (want_none rfl) rfl (show Sp.holds (Sp.val (.bool false)) _ _ _ from (st.arg (j := 3) (aft_of haft (by kernel_rfl)) rfl rfl)) rfl rfl
      · intro oo aa ww LL hho hLL haft st; obtain rfl := Option.some.inj hho; exact st.skip haft rfl (by kernel_rfl) rfl rfl
      · intro oo aa ww LL hho hLL haft st; obtain rfl := Option.some.inj hho; exact st.skip haft rfl (by kernel_rfl) rfl rfl
      · intro oo aa ww LL hho hLL haft st; obtain rfl := Option.some.inj hho; exact st.skip haft rfl (by kernel_rfl) rfl rfl
      · intro oo aa ww LL hho hLL haft st; obtain rfl := Option.some.inj hho; exact pay_pick st (want_none rfl) rfl (st.arg (j := 4) (aft_of haft (by kernel_rfl)) rfl rfl) (show Sp.holds (Sp.val (.bool false)) _ _ _ from rfl) rfl rfl
    have k12 : KeepM 7 [] a5 a12 := st.keepM (by kernel_rfl)
    have hb12 := st.g
    have e15 : a12.eval (.tmp 15) = (.bool false) := st.arg (j := 8) (hL 8 (by omega)) rfl rfl
    clear st hL L
    replace e1 := k12.ev e1 (by decide)
    replace e2 := k12.ev e2 (by decide)
    replace e4 := k12.ev e4 (by decide)
    replace e5 := k12.ev e5 (by decide)
    replace e6 := k12.ev e6 (by decide)
    replace hz := k12.size.trans hz
    replace hd := k12.defers.trans hd
    replace kk0 := kk0.trans (k12.mono (ys := [5, 6]) (by decide))
    replace x2 := x2.below hb12 x2.lt
    replace hB := Below.next hB hb12
    replace hS := hB.size
    refine wp_cond_false e15 ?_
    refine wp_exit ?_
    refine exit_here1 (id := 0) ?_
    obtain rfl : N = k := by omega
    refine wp_seq ?_
    refine seq_startL (l := [0, 1]) (by kernel_rfl) ?_
    refine seq_move 31 (v := (.int .u64 (((imgTo r.rows f N) : Nat) : Int))) rfl rfl rfl rfl e5 ?_
    refine seq_assign 4 (v := (.int .u64 (((imgTo r.rows f N) : Nat) : Int))) rfl rfl rfl rfl (ev_same (by first | (rw [hz]; decide) | (simp only [size_put, hz]; decide))) ?_
    refine seq_nil ?_
    refine seq_out (((KeepM.refl 7 [4] a12).put (by decide)).put (by decide)) fun a13 k13 tr => ?_
    have f4 := tr 4 (.int .u64 (((imgTo r.rows f N) : Nat) : Int)) (ev_same (by first | (rw [hz]; decide) | (simp only [size_put, hz]; decide)))
    clear tr
    replace e1 := k13.ev e1 (by decide)
    replace e2 := k13.ev e2 (by decide)
    replace e5 := k13.ev e5 (by decide)
    replace e6 := k13.ev e6 (by decide)
    replace hz := k13.size.trans hz
    replace hd := k13.defers.trans hd
    have e4 := f4
    clear f4
    refine wp_ret ?_
    exact post_slot rfl hd (get_of_int e4) (Ret.u rfl hB)
set_option maxRecDepth 100000 in
set_option maxHeartbeats 4000000 in
theorem rImage_bad (r : RA) (f : Nat) (w0 : World) (hT : Tab w0) (hr : r.good w0) (hsr : Short r.pr) (ho : r.ok = false) : Calls Tryd.prog 28 #[r.val, .int .u64 ((f : Nat) : Int)] w0 (Ret w0 (.int .u64 0)) := by
  have hrv : r.val = (.agg #[.int .i64 r.n, .slice r.A r.rows.length r.cap]) := rfl
  rw [hrv]
  refine calls_of_wp Tryd.func28 rfl ?_
  obtain ⟨hz, e0, e1⟩ := start_act2 32 ((.agg #[.int .i64 r.n, .slice r.A r.rows.length r.cap])) ((.int .u64 ((f : Nat) : Int))) (by decide)
  have hd : ({ tmps := #[(.agg #[.int .i64 r.n, .slice r.A r.rows.length r.cap]), (.int .u64 ((f : Nat) : Int))] ++ Array.replicate (32 - 2) undef, defers := [] } : Act).defers = [] := rfl
  rw [show Tryd.f28.ntmps - (#[(.agg #[.int .i64 r.n, .slice r.A r.rows.length r.cap]), (.int .u64 ((f : Nat) : Int))] : Array Value).size = 32 - 2 from rfl]
  generalize ({ tmps := #[(.agg #[.int .i64 r.n, .slice r.A r.rows.length r.cap]), (.int .u64 ((f : Nat) : Int))] ++ Array.replicate (32 - 2) undef, defers := [] } : Act) = a0 at hz e0 e1 hd ⊢
  have hB : Below w0.heap.size w0 w0 := Below.refl _ _
  have hS := hB.size
  refine wp_seq ?_
  refine seq_startL (l := [0, 1]) (by kernel_rfl) ?_
  refine seq_valD 2 rfl rfl rfl (run_boxC rfl e0) ?_
  have x2 := RowT.new w0 26 [.int .i64 r.n, .slice r.A r.rows.length r.cap]
  replace hB := hB.al (o := .cells ([.int .i64 r.n, .slice r.A r.rows.length r.cap] : List Value).toArray 26)
  change wpOps _ _ _ _ _ (w0.alloc (.cells ([.int .i64 r.n, .slice r.A r.rows.length r.cap] : List Value).toArray 26))
  generalize (w0.alloc (.cells ([.int .i64 r.n, .slice r.A r.rows.length r.cap] : List Value).toArray 26)) = w1 at x2 hB ⊢
  generalize hbq2 : w0.heap.size = b2 at x2 ⊢
  have hge2 : w0.heap.size ≤ b2 := by rw [← hbq2]; exact hS
  clear hbq2
  have hS := hB.size
  refine seq_assign 4 (v := (.int .u64 0)) rfl rfl rfl rfl rfl ?_
  refine seq_nil ?_
  refine seq_out (((KeepM.refl 7 [2, 4] a0).put (by decide)).put (by decide)) fun a2 k2 tr => ?_
  have f2 := tr 2 (.pointer (some ⟨b2, 0, none⟩)) ((ev_ne (by decide)).trans (ev_same (by first | (rw [hz]; decide) | (simp only [size_put, hz]; decide))))
  have f4 := tr 4 (.int .u64 0) (ev_same (by first | (rw [hz]; decide) | (simp only [size_put, hz]; decide)))
  clear tr
  replace e0 := k2.ev e0 (by decide)
  replace e1 := k2.ev e1 (by decide)
  replace hz := k2.size.trans hz
  replace hd := k2.defers.trans hd
  have e2 := f2
  clear f2
  have e4 := f4
  clear f4
  refine wp_seq ?_
  refine seq_startL (l := [0]) (by kernel_rfl) ?_
  refine seq_assign 5 (v := (.int .u64 0)) rfl rfl rfl rfl rfl ?_
  refine seq_nil ?_
  refine seq_out ((KeepM.refl 7 [5] a2).put (by decide)) fun a3 k3 tr => ?_
  have f5 := tr 5 (.int .u64 0) (ev_same (by first | (rw [hz]; decide) | (simp only [size_put, hz]; decide)))
  clear tr
  replace e1 := k3.ev e1 (by decide)
  replace e2 := k3.ev e2 (by decide)
  replace e4 := k3.ev e4 (by decide)
  replace hz := k3.size.trans hz
  replace hd := k3.defers.trans hd
  have e5 := f5
  clear f5
  refine wp_seq ?_
  refine wp_seq ?_
  refine seq_startL (l := [0]) (by kernel_rfl) ?_
  refine seq_assign 6 (v := (.int .i64 0)) rfl rfl rfl rfl rfl ?_
  refine seq_nil ?_
  refine seq_out ((KeepM.refl 7 [6] a3).put (by decide)) fun a4 k4 tr => ?_
  have f6 := tr 6 (.int .i64 0) (ev_same (by first | (rw [hz]; decide) | (simp only [size_put, hz]; decide)))
  clear tr
  replace e1 := k4.ev e1 (by decide)
  replace e2 := k4.ev e2 (by decide)
  replace e4 := k4.ev e4 (by decide)
  replace e5 := k4.ev e5 (by decide)
  replace hz := k4.size.trans hz
  replace hd := k4.defers.trans hd
  have e6 := f6
  clear f6
  change RowT _ _ _ r.cells at x2
  refine wp_block ?_
  refine wp_loop (fun aq wq => aq = a4 ∧ wq = w1) (fun _ _ => 0) ⟨rfl, rfl⟩ ?_
  rintro aL wL ⟨haL, hwL⟩
  rw [haL, hwL]
  refine wp_seq ?_
  refine wp_seq ?_
  by_cases h0 : 0 < r.n
  · refine region_ts_seq (n := 9) [Sp.val (.int .i64 0), Sp.val (.pointer (some ⟨b2, 0, none⟩)), Sp.val (.int .i64 r.n), Sp.val (.bool true), Sp.val (.bool true), Sp.rel r.pr, Sp.val (.int .i64 2), Sp.val (.bool false), Sp.val (.bool false)] w1 (by rw [hz]; kernel_rfl) (by kernel_rfl) (by kernel_rfl) (by kernel_rfl) ?_ fun L a5 w5 hL st => ?_
    · refine ⟨⟨⟨⟨⟨⟨⟨⟨⟨trivial, ?_⟩, ?_⟩, ?_⟩, ?_⟩, ?_⟩, ?_⟩, ?_⟩, ?_⟩, ?_⟩
      · intro oo aa ww LL hho hLL haft st; obtain rfl := Option.some.inj hho; exact pay_move st (want_none rfl) rfl (show Sp.holds (Sp.val (.int .i64 0)) _ _ _ from (st.out (by kernel_rfl) (get_of_int e6))) rfl rfl
      · intro oo aa ww LL hho hLL haft st; obtain rfl := Option.some.inj hho; exact pay_field st (want_none rfl) rfl (st.out (by kernel_rfl) (get_of_eval e2)) rfl
      · intro oo aa ww LL hho hLL haft st; obtain rfl := Option.some.inj hho; exact pay_loadN st (want_none rfl) rfl (st.arg (j := 1) (aft_of haft (by kernel_rfl)) rfl rfl) x2 rfl
      · intro oo aa ww LL hho hLL haft st; obtain rfl := Option.some.inj hho; exact pay_run st (want_none rfl) ((run_ltI rfl (st.arg (j := 0) (aft_of haft (by kernel_rfl)) rfl rfl) (st.arg (j := 2) (aft_of haft (by kernel_rfl)) rfl rfl)).trans (okB (decide_eq_true (by omega)))) rfl
      · intro oo aa ww LL hho hLL haft st; obtain rfl := Option.some.inj hho; exact pay_move st (want_none rfl) rfl (show Sp.holds (Sp.val (.bool true)) _ _ _ from (st.arg (j := 3) (aft_of haft (by kernel_rfl)) rfl rfl)) rfl rfl
      · intro oo aa ww LL hho hLL haft st; obtain rfl := Option.some.inj hho; exact pay_loadR st (st.want haft rfl (by kernel_rfl) rfl) rfl (st.out (by kernel_rfl) (get_of_eval e2)) x2 (hr.on hB) hsr rfl
      · intro oo aa ww LL hho hLL haft st; obtain rfl := Option.some.inj hho; exact call_RV C_rCheck en_rCheck (hT.on hB) st (st.want haft rfl (by kernel_rfl) rfl) rfl (st.arg (j := 5) (aft_of haft (by kernel_rfl)) rfl rfl) rfl (by rw [show chk r.pr.n r.pr.rows = 2 from chk_not ho])
      · intro oo aa ww LL hho hLL haft st; obtain rfl := Option.some.inj hho; exact pay_run st (st.want haft rfl (by kernel_rfl) rfl) ((run_eqE rfl (st.arg (j := 6) (aft_of haft (by kernel_rfl)) rfl rfl) rfl).trans (okB rfl)) rfl
      · intro oo aa ww LL hho hLL haft st; obtain rfl := Option.some.inj hho; exact pay_pick st (want_none rfl) rfl (st.arg (j := 4) (aft_of haft (by kernel_rfl)) rfl rfl) (show Sp.holds (Sp.val (.bool false)) _ _ _ from (st.arg (j := 7) (aft_of haft (by kernel_rfl)) rfl rfl)) rfl rfl
    have k5 : KeepM 7 [] a4 a5 := st.keepM (by kernel_rfl)
    have hb5 := st.g
    have e15 : a5.eval (.tmp 15) = (.bool false) := st.arg (j := 8) (hL 8 (by omega)) rfl rfl
    clear st hL L
    replace e1 := k5.ev e1 (by decide)
    replace e2 := k5.ev e2 (by decide)
    replace e4 := k5.ev e4 (by decide)
    replace e5 := k5.ev e5 (by decide)
    replace e6 := k5.ev e6 (by decide)
    replace hz := k5.size.trans hz
    replace hd := k5.defers.trans hd
    replace x2 := x2.below hb5 x2.lt
    replace hB := Below.next hB hb5
    replace hS := hB.size
    refine wp_cond_false e15 ?_
    refine wp_exit ?_
    refine exit_here1 (id := 0) ?_
    refine wp_seq ?_
    refine seq_startL (l := [0, 1]) (by kernel_rfl) ?_
    refine seq_move 31 (v := (.int .u64 0)) rfl rfl rfl rfl e5 ?_
    refine seq_assign 4 (v := (.int .u64 0)) rfl rfl rfl rfl (ev_same (by first | (rw [hz]; decide) | (simp only [size_put, hz]; decide))) ?_
    refine seq_nil ?_
    refine seq_out (((KeepM.refl 7 [4] a5).put (by decide)).put (by decide)) fun a6 k6 tr => ?_
    have f4 := tr 4 (.int .u64 0) (ev_same (by first | (rw [hz]; decide) | (simp only [size_put, hz]; decide)))
    clear tr
    replace e1 := k6.ev e1 (by decide)
    replace e2 := k6.ev e2 (by decide)
    replace e5 := k6.ev e5 (by decide)
    replace e6 := k6.ev e6 (by decide)
    replace hz := k6.size.trans hz
    replace hd := k6.defers.trans hd
    have e4 := f4
    clear f4
    refine wp_ret ?_
    exact post_slot rfl hd (get_of_int e4) (Ret.u rfl hB)
  · refine region_ts_seq (n := 9) [Sp.val (.int .i64 0), Sp.val (.pointer (some ⟨b2, 0, none⟩)), Sp.val (.int .i64 r.n), Sp.val (.bool false), Sp.val (.bool false), Sp.top, Sp.top, Sp.top, Sp.val (.bool false)] w1 (by rw [hz]; kernel_rfl) (by kernel_rfl) (by kernel_rfl) (by kernel_rfl) ?_ fun L a7 w7 hL st => ?_
    · refine ⟨⟨⟨⟨⟨⟨⟨⟨⟨trivial, ?_⟩, ?_⟩, ?_⟩, ?_⟩, ?_⟩, ?_⟩, ?_⟩, ?_⟩, ?_⟩
      · intro oo aa ww LL hho hLL haft st; obtain rfl := Option.some.inj hho; exact pay_move st (want_none rfl) rfl (show Sp.holds (Sp.val (.int .i64 0)) _ _ _ from (st.out (by kernel_rfl) (get_of_int e6))) rfl rfl
      · intro oo aa ww LL hho hLL haft st; obtain rfl := Option.some.inj hho; exact pay_field st (want_none rfl) rfl (st.out (by kernel_rfl) (get_of_eval e2)) rfl
      · intro oo aa ww LL hho hLL haft st; obtain rfl := Option.some.inj hho; exact pay_loadN st (want_none rfl) rfl (st.arg (j := 1) (aft_of haft (by kernel_rfl)) rfl rfl) x2 rfl
      · intro oo aa ww LL hho hLL haft st; obtain rfl := Option.some.inj hho; exact pay_run st (want_none rfl) ((run_ltI rfl (st.arg (j := 0) (aft_of haft (by kernel_rfl)) rfl rfl) (st.arg (j := 2) (aft_of haft (by kernel_rfl)) rfl rfl)).trans (okB (decide_eq_false (by omega)))) rfl
      · intro oo aa ww LL hho hLL haft st; obtain rfl := Option.some.inj hho; exact pay_move st (want_none rfl) rfl (show Sp.holds (Sp.val (.bool false)) _ _ _ from (st.arg (j := 3) (aft_of haft (by kernel_rfl)) rfl rfl)) rfl rfl
      · intro oo aa ww LL hho hLL haft st; obtain rfl := Option.some.inj hho; exact st.skip haft rfl (by kernel_rfl) rfl rfl
      · intro oo aa ww LL hho hLL haft st; obtain rfl := Option.some.inj hho; exact st.skip haft rfl (by kernel_rfl) rfl rfl
      · intro oo aa ww LL hho hLL haft st; obtain rfl := Option.some.inj hho; exact st.skip haft rfl (by kernel_rfl) rfl rfl
      · intro oo aa ww LL hho hLL haft st; obtain rfl := Option.some.inj hho; exact pay_pick st (want_none rfl) rfl (st.arg (j := 4) (aft_of haft (by kernel_rfl)) rfl rfl) (show Sp.holds (Sp.val (.bool false)) _ _ _ from rfl) rfl rfl
    have k7 : KeepM 7 [] a4 a7 := st.keepM (by kernel_rfl)
    have hb7 := st.g
    have e15 : a7.eval (.tmp 15) = (.bool false) := st.arg (j := 8) (hL 8 (by omega)) rfl rfl
    clear st hL L
    replace e1 := k7.ev e1 (by decide)
    replace e2 := k7.ev e2 (by decide)
    replace e4 := k7.ev e4 (by decide)
    replace e5 := k7.ev e5 (by decide)
    replace e6 := k7.ev e6 (by decide)
    replace hz := k7.size.trans hz
    replace hd := k7.defers.trans hd
    replace x2 := x2.below hb7 x2.lt
    replace hB := Below.next hB hb7
    replace hS := hB.size
    refine wp_cond_false e15 ?_
    refine wp_exit ?_
    refine exit_here1 (id := 0) ?_
    refine wp_seq ?_
    refine seq_startL (l := [0, 1]) (by kernel_rfl) ?_
    refine seq_move 31 (v := (.int .u64 0)) rfl rfl rfl rfl e5 ?_
    refine seq_assign 4 (v := (.int .u64 0)) rfl rfl rfl rfl (ev_same (by first | (rw [hz]; decide) | (simp only [size_put, hz]; decide))) ?_
    refine seq_nil ?_
    refine seq_out (((KeepM.refl 7 [4] a7).put (by decide)).put (by decide)) fun a8 k8 tr => ?_
    have f4 := tr 4 (.int .u64 0) (ev_same (by first | (rw [hz]; decide) | (simp only [size_put, hz]; decide)))
    clear tr
    replace e1 := k8.ev e1 (by decide)
    replace e2 := k8.ev e2 (by decide)
    replace e5 := k8.ev e5 (by decide)
    replace e6 := k8.ev e6 (by decide)
    replace hz := k8.size.trans hz
    replace hd := k8.defers.trans hd
    have e4 := f4
    clear f4
    refine wp_ret ?_
    exact post_slot rfl hd (get_of_int e4) (Ret.u rfl hB)
theorem img_mask {rows : List Nat} {f N : Nat} (hN : N ≤ 64) : imgTo rows f N = img rows (f &&& (2 ^ N - 1)) := by
  apply Nat.eq_of_testBit_eq
  intro b
  have hm : f &&& (2 ^ N - 1) < 18446744073709551616 := Nat.lt_of_le_of_lt Nat.and_le_right (by have := pow_le_64 N hN; have := Nat.two_pow_pos N; omega)
  rw [Bool.eq_iff_iff, imgTo_bit, img_bit rows _ b hm]
  constructor
  · rintro ⟨k, h1, h2, h3⟩; exact ⟨k, (all_bit f N k).2 ⟨h2, h1⟩, h3⟩
  · rintro ⟨k, h1, h3⟩
    obtain ⟨h2, h4⟩ := (all_bit f N k).1 h1
    exact ⟨k, h4, h2, h3⟩
theorem en_rImage : Enters Tryd.prog 28 := enters_of Tryd.func28 (by kernel_rfl) rfl
theorem rImage_c (r : RA) (f : Nat) (w : World) (hT : Tab w) (hr : r.good w) (hsr : Short r.pr) : Calls Tryd.prog 28 #[r.val, .int .u64 ((f : Nat) : Int)] w (Ret w (.int .u64 ((Pimage r.pr f : Nat) : Int))) := by
  unfold Pimage
  cases ho : r.ok with
  | false => rw [if_neg (fun e => by rw [show r.pr.ok = r.ok from rfl, ho] at e; cases e)]; exact rImage_bad r f w hT hr hsr ho
  | true =>
    obtain ⟨h1, h2, _⟩ := ok_rows (show r.pr.ok = true from ho)
    rw [if_pos (show r.pr.ok = true from ho), ← img_mask h2]
    exact rImage_ok r f r.rows.length w hT hr hsr ho h1 rfl h2
end Go.Proofs.YtigdecmfieaacaaDoor
namespace Go.Proofs.YtigdecmfieaacaaDoor
open Go Go.RowKit

theorem run_appP {o : Oper} {ρ : Operand → Value} {w w' : World} {x y : Operand} {u v v' : Value} (hop : o.op = .call { callee := .builtin .append, args := #[x, y], argTypes := #[34, 34] }) (hx : ρ x = u) (hy : ρ y = v) (hr : (Builtin.append_ #[34, 34] 34 #[u, v]).run Tryd.prog w = .ok v' w') (ht : o.type = 34 := by rfl) : (execOp ρ o).run Tryd.prog w = .ok (.value v') w' := by
  simp [execOp, hop, resolve, invoke, builtin, hx, hy, ht, hr, Result.andThen]
theorem below_no (m j : Nat) (h : m.testBit j = false) : bitsBelow m (j + 1) = bitsBelow m j := by
  simp [bitsBelow, List.range_succ, h]
theorem pairs_zero (rows : List Nat) (k : Nat) : pairsTo rows k ++ pairsRow k (bitsBelow (rows.getD k 0) 0) = pairsTo rows k := by simp [bitsBelow, pairsRow]
theorem pairs_idle (rows : List Nat) (k : Nat) {j : Nat} (h : (rows.getD k 0).testBit j = false) : pairsTo rows k ++ pairsRow k (bitsBelow (rows.getD k 0) (j + 1)) = pairsTo rows k ++ pairsRow k (bitsBelow (rows.getD k 0) j) := by rw [below_no _ _ h]
theorem pairs_more (rows : List Nat) (k : Nat) {j : Nat} (h : (rows.getD k 0).testBit j = true) (hj : j < 64) : pairsTo rows k ++ pairsRow k (bitsBelow (rows.getD k 0) (j + 1)) = pairsTo rows k ++ pairsRow k (bitsBelow (rows.getD k 0) j) ++ [((k : Int), (j : Int))] := by
  rw [show j + 1 = j + 0 + 1 from rfl, bitsBelow_step _ j 0 ⟨h, hj⟩ (fun q hq => absurd hq (Nat.not_lt_zero q)), pairsRow_snoc, List.append_assoc]; rfl
theorem pairs_step_len (rows : List Nat) (k : Nat) {j : Nat} (h : (rows.getD k 0).testBit j = true) (hj : j < 64) : (pairsTo rows k ++ pairsRow k (bitsBelow (rows.getD k 0) (j + 1))).length = (pairsTo rows k ++ pairsRow k (bitsBelow (rows.getD k 0) j)).length + 1 := by
  rw [pairs_more rows k h hj, List.length_append]; rfl
theorem pairs_step (rows : List Nat) (k : Nat) {j : Nat} (h : (rows.getD k 0).testBit j = true) (hj : j < 64) : prs (pairsTo rows k ++ pairsRow k (bitsBelow (rows.getD k 0) (j + 1))) = prs (pairsTo rows k ++ pairsRow k (bitsBelow (rows.getD k 0) j)) ++ [I ((k : Nat) : Int), I ((j : Nat) : Int)] := by
  rw [pairs_more rows k h hj, prs_snoc]
theorem pairs_full (rows : List Nat) (k : Nat) {N : Nat} (h : ∀ v ∈ rows, v < 2 ^ N) (hN : N ≤ 64) : pairsTo rows k ++ pairsRow k (bitsBelow (rows.getD k 0) N) = pairsTo rows (k + 1) := by
  rw [pairsTo_succ rows k _ rfl, bitsBelow_all _ N (fun j hj => ?_) hN]
  have hv : rows.getD k 0 < 2 ^ N := by
    rw [List.getD_eq_getElem?_getD]
    cases e : rows[k]? with
    | none => exact Nat.two_pow_pos N
    | some v => exact h v (List.mem_of_getElem? e)
  exact Nat.testBit_lt_two_pow (Nat.lt_of_lt_of_le hv (Nat.pow_le_pow_right (by decide) hj))
theorem pairs_len (rows : List Nat) (k j : Nat) (hk : k < 64) : (pairsTo rows k ++ pairsRow k (bitsBelow (rows.getD k 0) j)).length ≤ 64 * 64 + j := by
  rw [List.length_append]
  have h1 := pairsTo_len rows k
  have h2 := bitsBelow_len (rows.getD k 0) j
  have h3 : (pairsRow k (bitsBelow (rows.getD k 0) j)).length = (bitsBelow (rows.getD k 0) j).length := List.length_map _
  omega
def Ppairs (r : PR) : List (Int × Int) := if r.ok = true then pairsR r.rows else []
set_option maxRecDepth 100000 in
set_option maxHeartbeats 4000000 in
theorem rPairs_ok (r : RA) (N : Nat) (w0 : World) (hT : Tab w0) (hr : r.good w0) (hsr : Short r.pr) (ho : r.ok = true) (hnr : r.n = (N : Nat)) (hlr : r.rows.length = N) (h64 : N ≤ 64) (hlt2 : ∀ v ∈ r.rows, v < 2 ^ N) : Calls Tryd.prog 33 #[r.val] w0 (RetQ w0 fun v w' => ∃ A c, v = .slice A (pairsR r.rows).length c ∧ Reads w' w'.heap.size 2 A (pairsR r.rows).length (prs (pairsR r.rows))) := by
  obtain ⟨i0, hi, hz0, hz1, hz2⟩ := info_parts infoPair
  have hrv : r.val = (.agg #[.int .i64 ((N : Nat) : Int), .slice r.A N r.cap]) := by unfold RA.val; rw [hnr, hlr]
  rw [hrv]
  refine calls_of_wp Tryd.func33 rfl ?_
  obtain ⟨hz, e0⟩ := start_act1 40 ((.agg #[.int .i64 ((N : Nat) : Int), .slice r.A N r.cap])) (by decide)
  have hd : ({ tmps := #[(.agg #[.int .i64 ((N : Nat) : Int), .slice r.A N r.cap])] ++ Array.replicate (40 - 1) undef, defers := [] } : Act).defers = [] := rfl
  rw [show Tryd.f33.ntmps - (#[(.agg #[.int .i64 ((N : Nat) : Int), .slice r.A N r.cap])] : Array Value).size = 40 - 1 from rfl]
  generalize ({ tmps := #[(.agg #[.int .i64 ((N : Nat) : Int), .slice r.A N r.cap])] ++ Array.replicate (40 - 1) undef, defers := [] } : Act) = a0 at hz e0 hd ⊢
  have hB : Below w0.heap.size w0 w0 := Below.refl _ _
  have hS := hB.size
  refine wp_seq ?_
  refine seq_startL (l := [0, 1]) (by kernel_rfl) ?_
  refine seq_valD 1 rfl rfl rfl (run_boxC rfl e0) ?_
  have x1 := RowT.new w0 26 [.int .i64 ((N : Nat) : Int), .slice r.A N r.cap]
  replace hB := hB.al (o := .cells ([.int .i64 ((N : Nat) : Int), .slice r.A N r.cap] : List Value).toArray 26)
  change wpOps _ _ _ _ _ (w0.alloc (.cells ([.int .i64 ((N : Nat) : Int), .slice r.A N r.cap] : List Value).toArray 26))
  generalize (w0.alloc (.cells ([.int .i64 ((N : Nat) : Int), .slice r.A N r.cap] : List Value).toArray 26)) = w1 at x1 hB ⊢
  generalize hbq1 : w0.heap.size = b1 at x1 ⊢
  have hge1 : w0.heap.size ≤ b1 := by rw [← hbq1]; exact hS
  clear hbq1
  have hS := hB.size
  refine seq_assign 2 (v := (.slice none 0 0)) rfl rfl rfl rfl rfl ?_
  refine seq_nil ?_
  refine seq_out (((KeepM.refl 6 [1, 2] a0).put (by decide)).put (by decide)) fun a2 k2 tr => ?_
  have f1 := tr 1 (.pointer (some ⟨b1, 0, none⟩)) ((ev_ne (by decide)).trans (ev_same (by first | (rw [hz]; decide) | (simp only [size_put, hz]; decide))))
  have f2 := tr 2 (.slice none 0 0) (ev_same (by first | (rw [hz]; decide) | (simp only [size_put, hz]; decide)))
  clear tr
  replace e0 := k2.ev e0 (by decide)
  replace hz := k2.size.trans hz
  replace hd := k2.defers.trans hd
  have e1 := f1
  clear f1
  have e2 := f2
  clear f2
  refine wp_seq ?_
  refine seq_startL (l := [0]) (by kernel_rfl) ?_
  refine seq_assign 3 (v := (.slice none 0 0)) rfl rfl rfl rfl rfl ?_
  refine seq_nil ?_
  refine seq_out ((KeepM.refl 6 [3] a2).put (by decide)) fun a3 k3 tr => ?_
  have f3 := tr 3 (.slice none 0 0) (ev_same (by first | (rw [hz]; decide) | (simp only [size_put, hz]; decide)))
  clear tr
  replace e1 := k3.ev e1 (by decide)
  replace e2 := k3.ev e2 (by decide)
  replace hz := k3.size.trans hz
  replace hd := k3.defers.trans hd
  have e3 := f3
  clear f3
  refine wp_seq ?_
  refine wp_seq ?_
  refine seq_startL (l := [0]) (by kernel_rfl) ?_
  refine seq_assign 4 (v := (.int .i64 0)) rfl rfl rfl rfl rfl ?_
  refine seq_nil ?_
  refine seq_out ((KeepM.refl 6 [4] a3).put (by decide)) fun a4 k4 tr => ?_
  have f4 := tr 4 (.int .i64 0) (ev_same (by first | (rw [hz]; decide) | (simp only [size_put, hz]; decide)))
  clear tr
  replace e1 := k4.ev e1 (by decide)
  replace e2 := k4.ev e2 (by decide)
  replace e3 := k4.ev e3 (by decide)
  replace hz := k4.size.trans hz
  replace hd := k4.defers.trans hd
  have e4 := f4
  clear f4
  have ow : w1.ownsRow w0.heap.size 28 2 (.slice none (pairsTo r.rows 0).length 0) (pairsTo r.rows 0).length (prs (pairsTo r.rows 0)) := ⟨rfl, .inl ⟨rfl, rfl⟩⟩
  change _ = Value.slice none (pairsTo r.rows 0).length 0 at e3
  refine wp_block ?_
  refine wp_loop (fun aq wq => ∃ (k : Nat) (A : Option Addr) (c : Nat), (k ≤ N) ∧ KeepM 6 [3, 4, 5] a4 aq ∧ aq.eval (.tmp 3) = (.slice A (pairsTo r.rows k).length c) ∧ aq.eval (.tmp 4) = (.int .i64 ((k : Nat) : Int)) ∧ RowT wq b1 26 [.int .i64 ((N : Nat) : Int), .slice r.A N r.cap] ∧ wq.ownsRow w0.heap.size 28 2 (.slice A (pairsTo r.rows k).length c) (pairsTo r.rows k).length (prs (pairsTo r.rows k)) ∧ Below w0.heap.size w0 wq) (fun aq _ => N - (intOf (aq.eval (.tmp 4))).toNat) ⟨0, none, 0, Nat.zero_le _, KeepM.refl _ _ _, e3, e4, x1, ow, hB⟩ ?_
  rintro a5 w5 ⟨k, A, c, hk0, kk0, g3, g4, qx1, qow, qB⟩
  replace e1 := kk0.ev e1 (by decide)
  replace e2 := kk0.ev e2 (by decide)
  replace hz := kk0.size.trans hz
  replace hd := kk0.defers.trans hd
  clear e3 e4 x1 ow hB hS
  have e3 := g3
  have e4 := g4
  have x1 := qx1
  have ow := qow
  have hB := qB
  have hS := hB.size
  clear qx1 qow qB
  have e4s := e4
  have x1r : RowT w5 b1 26 r.cells := by unfold RA.cells; rw [hnr, hlr]; exact x1
  refine wp_seq ?_
  refine wp_seq ?_
  by_cases hltk : k < N
  · refine region_ts_seq (n := 9) [Sp.val (.int .i64 ((k : Nat) : Int)), Sp.val (.pointer (some ⟨b1, 0, none⟩)), Sp.val (.int .i64 r.n), Sp.val (.bool true), Sp.val (.bool true), Sp.rel r.pr, Sp.val (.int .i64 0), Sp.val (.bool true), Sp.val (.bool true)] w5 (by rw [hz]; kernel_rfl) (by kernel_rfl) (by kernel_rfl) (by kernel_rfl) ?_ fun L a6 w6 hL st => ?_
    · refine ⟨⟨⟨⟨⟨⟨⟨⟨⟨trivial, ?_⟩, ?_⟩, ?_⟩, ?_⟩, ?_⟩, ?_⟩, ?_⟩, ?_⟩, ?_⟩
      · intro oo aa ww LL hho hLL haft st; obtain rfl := Option.some.inj hho; exact pay_move st (want_none rfl) rfl (show Sp.holds (Sp.val (.int .i64 ((k : Nat) : Int))) _ _ _ from (st.out (by kernel_rfl) (get_of_int e4))) rfl rfl
      · intro oo aa ww LL hho hLL haft st; obtain rfl := Option.some.inj hho; exact pay_field st (want_none rfl) rfl (st.out (by kernel_rfl) (get_of_eval e1)) rfl
      · intro oo aa ww LL hho hLL haft st; obtain rfl := Option.some.inj hho; exact pay_loadN st (want_none rfl) rfl (st.arg (j := 1) (aft_of haft (by kernel_rfl)) rfl rfl) x1r rfl
      · intro oo aa ww LL hho hLL haft st; obtain rfl := Option.some.inj hho; exact pay_run st (want_none rfl) ((run_ltI rfl (st.arg (j := 0) (aft_of haft (by kernel_rfl)) rfl rfl) (st.arg (j := 2) (aft_of haft (by kernel_rfl)) rfl rfl)).trans (okB (decide_eq_true (by rw [hnr]; omega)))) rfl
      · intro oo aa ww LL hho hLL haft st; obtain rfl := Option.some.inj hho; exact pay_move st (want_none rfl) rfl (show Sp.holds (Sp.val (.bool true)) _ _ _ from (st.arg (j := 3) (aft_of haft (by kernel_rfl)) rfl rfl)) rfl rfl
      · intro oo aa ww LL hho hLL haft st; obtain rfl := Option.some.inj hho; exact pay_loadR st (st.want haft rfl (by kernel_rfl) rfl) rfl (st.out (by kernel_rfl) (get_of_eval e1)) x1r (hr.on hB) hsr rfl
      · intro oo aa ww LL hho hLL haft st; obtain rfl := Option.some.inj hho; exact call_RV C_rCheck en_rCheck (hT.on hB) st (st.want haft rfl (by kernel_rfl) rfl) rfl (st.arg (j := 5) (aft_of haft (by kernel_rfl)) rfl rfl) rfl (by rw [show chk r.pr.n r.pr.rows = 0 from chk_yes ho])
      · intro oo aa ww LL hho hLL haft st; obtain rfl := Option.some.inj hho; exact pay_run st (st.want haft rfl (by kernel_rfl) rfl) ((run_eqE rfl (st.arg (j := 6) (aft_of haft (by kernel_rfl)) rfl rfl) rfl).trans (okB rfl)) rfl
      · intro oo aa ww LL hho hLL haft st; obtain rfl := Option.some.inj hho; exact pay_pick st (want_none rfl) rfl (st.arg (j := 4) (aft_of haft (by kernel_rfl)) rfl rfl) (show Sp.holds (Sp.val (.bool true)) _ _ _ from (st.arg (j := 7) (aft_of haft (by kernel_rfl)) rfl rfl)) rfl rfl
    have k6 : KeepM 6 [] a5 a6 := st.keepM (by kernel_rfl)
    have hb6 := st.g
    have e14 : a6.eval (.tmp 14) = (.bool true) := st.arg (j := 8) (hL 8 (by omega)) rfl rfl
    clear st hL L
    replace e1 := k6.ev e1 (by decide)
    replace e2 := k6.ev e2 (by decide)
    replace e3 := k6.ev e3 (by decide)
    replace e4 := k6.ev e4 (by decide)
    replace hz := k6.size.trans hz
    replace hd := k6.defers.trans hd
    replace kk0 := kk0.trans (k6.mono (ys := [3, 4, 5]) (by decide))
    replace x1 := x1.below hb6 x1.lt
    replace ow := own_on ow hb6
    replace hB := Below.next hB hb6
    replace hS := hB.size
    clear x1r
    refine wp_cond_true e14 ?_
    refine wp_skip ?_
    refine wp_seq ?_
    refine wp_block ?_
    refine wp_seq ?_
    refine seq_startL (l := [0]) (by kernel_rfl) ?_
    refine seq_assign 5 (v := (.int .i64 0)) rfl rfl rfl rfl rfl ?_
    refine seq_nil ?_
    refine seq_out ((KeepM.refl 6 [5] a6).put (by decide)) fun a7 k7 tr => ?_
    have f5 := tr 5 (.int .i64 0) (ev_same (by first | (rw [hz]; decide) | (simp only [size_put, hz]; decide)))
    clear tr
    replace e1 := k7.ev e1 (by decide)
    replace e2 := k7.ev e2 (by decide)
    replace e3 := k7.ev e3 (by decide)
    replace e4 := k7.ev e4 (by decide)
    replace hz := k7.size.trans hz
    replace hd := k7.defers.trans hd
    replace kk0 := kk0.trans (k7.mono (ys := [3, 4, 5]) (by decide))
    have e5 := f5
    clear f5
    rw [← pairs_zero r.rows k] at ow e3
    refine wp_block ?_
    refine wp_loop (fun aq wq => ∃ (j : Nat) (A : Option Addr) (c : Nat), (j ≤ N) ∧ KeepM 6 [3, 5] a7 aq ∧ aq.eval (.tmp 3) = (.slice A (pairsTo r.rows k ++ pairsRow k (bitsBelow (r.rows.getD k 0) j)).length c) ∧ aq.eval (.tmp 5) = (.int .i64 ((j : Nat) : Int)) ∧ RowT wq b1 26 [.int .i64 ((N : Nat) : Int), .slice r.A N r.cap] ∧ wq.ownsRow w0.heap.size 28 2 (.slice A (pairsTo r.rows k ++ pairsRow k (bitsBelow (r.rows.getD k 0) j)).length c) (pairsTo r.rows k ++ pairsRow k (bitsBelow (r.rows.getD k 0) j)).length (prs (pairsTo r.rows k ++ pairsRow k (bitsBelow (r.rows.getD k 0) j))) ∧ Below w0.heap.size w0 wq) (fun aq _ => N - (intOf (aq.eval (.tmp 5))).toNat) ⟨0, A, c, Nat.zero_le _, KeepM.refl _ _ _, e3, e5, x1, ow, hB⟩ ?_
    rintro a8 w8 ⟨j, A, c, hk2, kk2, g3, g5, qx1, qow, qB⟩
    replace e1 := kk2.ev e1 (by decide)
    replace e2 := kk2.ev e2 (by decide)
    replace e4 := kk2.ev e4 (by decide)
    replace hz := kk2.size.trans hz
    replace hd := kk2.defers.trans hd
    replace kk0 := kk0.trans (kk2.mono (ys := [3, 4, 5]) (by decide))
    clear e3 e5 x1 ow hB hS
    have e3 := g3
    have e5 := g5
    have x1 := qx1
    have ow := qow
    have hB := qB
    have hS := hB.size
    clear qx1 qow qB
    have e5s := e5
    refine wp_seq ?_
    refine wp_seq ?_
    refine seq_startL (l := [0, 1, 2, 3]) (by kernel_rfl) ?_
    refine seq_move 17 (v := (.int .i64 ((j : Nat) : Int))) rfl rfl rfl rfl e5 ?_
    refine seq_valD 18 (v := (.pointer (some ⟨b1, 0, none⟩))) rfl rfl rfl (run_fp0 rfl ((ev_ne (by decide)).trans e1)) ?_
    refine seq_valD 19 (v := (.int .i64 ((N : Nat) : Int))) rfl rfl rfl (run_ldI rfl (ev_same (by first | (rw [hz]; decide) | (simp only [size_put, hz]; decide))) (x1.cell 0)) ?_
    refine seq_valD 20 (v := (.bool (decide (((j : Nat) : Int) < ((N : Nat) : Int))))) rfl rfl rfl (run_ltI rfl ((ev_ne (by decide)).trans ((ev_ne (by decide)).trans (ev_same (by first | (rw [hz]; decide) | (simp only [size_put, hz]; decide))))) (ev_same (by first | (rw [hz]; decide) | (simp only [size_put, hz]; decide)))) ?_
    refine seq_nil ?_
    refine seq_out (((((KeepM.refl 6 [] a8).put (by decide)).put (by decide)).put (by decide)).put (by decide)) fun a9 k9 tr => ?_
    have f20 := tr 20 (.bool (decide (((j : Nat) : Int) < ((N : Nat) : Int)))) (ev_same (by first | (rw [hz]; decide) | (simp only [size_put, hz]; decide)))
    clear tr
    replace e1 := k9.ev e1 (by decide)
    replace e2 := k9.ev e2 (by decide)
    replace e3 := k9.ev e3 (by decide)
    replace e4 := k9.ev e4 (by decide)
    replace e5 := k9.ev e5 (by decide)
    replace hz := k9.size.trans hz
    replace hd := k9.defers.trans hd
    replace kk0 := kk0.trans (k9.mono (ys := [3, 4, 5]) (by decide))
    replace kk2 := kk2.trans (k9.mono (ys := [3, 5]) (by decide))
    have e20 := f20
    clear f20
    by_cases hltj : j < N
    · rw [decide_eq_true (by omega)] at e20
      refine wp_cond_true e20 ?_
      refine wp_skip ?_
      refine wp_seq ?_
      refine wp_block ?_
      refine wp_seq ?_
      obtain ⟨ad, hA, hal1, hcA, huA⟩ := good_row (hr.on hB) (k := k) (by omega)
      cases hbt : (r.rows.getD k 0).testBit j with
      | false =>
        refine seq_startL (l := [0, 1, 2, 3, 4, 5, 6, 7, 8, 9]) (by kernel_rfl) ?_
        refine seq_valD 23 (v := (.pointer (some ⟨b1, 1, none⟩))) rfl rfl rfl (run_fp1 rfl e1) ?_
        refine seq_valD 24 (v := (.slice (some ad) N r.cap)) rfl rfl rfl (run_ldS rfl (ev_same (by first | (rw [hz]; decide) | (simp only [size_put, hz]; decide))) (by rw [← hA]; exact x1.cell 1)) ?_
        refine seq_move 25 (v := (.int .i64 ((k : Nat) : Int))) rfl rfl rfl rfl ((ev_ne (by decide)).trans ((ev_ne (by decide)).trans e4)) ?_
        refine seq_valD 26 (v := (.pointer (some (ad.add k)))) rfl rfl rfl (run_ixU (k := k) rfl ((ev_ne (by decide)).trans (ev_same (by first | (rw [hz]; decide) | (simp only [size_put, hz]; decide)))) (ev_same (by first | (rw [hz]; decide) | (simp only [size_put, hz]; decide))) hltk) ?_
        refine seq_valD 27 (v := (.int .u64 (((r.rows.getD k 0) : Nat) : Int))) rfl rfl rfl (run_ldU rfl (ev_same (by first | (rw [hz]; decide) | (simp only [size_put, hz]; decide))) hcA) ?_
        refine seq_move 28 (v := (.int .i64 ((j : Nat) : Int))) rfl rfl rfl rfl ((ev_ne (by decide)).trans ((ev_ne (by decide)).trans ((ev_ne (by decide)).trans ((ev_ne (by decide)).trans ((ev_ne (by decide)).trans e5))))) ?_
        refine seq_valD 29 (v := (.int .u64 ((j : Nat) : Int))) rfl rfl rfl (run_cvU rfl (ev_same (by first | (rw [hz]; decide) | (simp only [size_put, hz]; decide))) (by omega)) ?_
        refine seq_valD 30 (v := (.int .u64 ((((r.rows.getD k 0) / 2 ^ j) : Nat) : Int))) rfl rfl rfl (run_shr rfl ((ev_ne (by decide)).trans ((ev_ne (by decide)).trans (ev_same (by first | (rw [hz]; decide) | (simp only [size_put, hz]; decide))))) (ev_same (by first | (rw [hz]; decide) | (simp only [size_put, hz]; decide))) (by omega)) ?_
        refine seq_valD 31 (v := (.int .u64 (((((r.rows.getD k 0) / 2 ^ j) % 2) : Nat) : Int))) rfl rfl rfl (run_rem2 rfl (ev_same (by first | (rw [hz]; decide) | (simp only [size_put, hz]; decide))) rfl) ?_
        refine seq_valD 32 (v := (.bool false)) rfl rfl rfl ((run_eqU rfl (ev_same (by first | (rw [hz]; decide) | (simp only [size_put, hz]; decide))) rfl).trans (okB (c := false) (bit_eq hbt))) ?_
        refine seq_nil ?_
        refine seq_out (((((((((((KeepM.refl 6 [] a9).put (by decide)).put (by decide)).put (by decide)).put (by decide)).put (by decide)).put (by decide)).put (by decide)).put (by decide)).put (by decide)).put (by decide)) fun a10 k10 tr => ?_
        have f32 := tr 32 (.bool false) (ev_same (by first | (rw [hz]; decide) | (simp only [size_put, hz]; decide)))
        clear tr
        replace e1 := k10.ev e1 (by decide)
        replace e2 := k10.ev e2 (by decide)
        replace e3 := k10.ev e3 (by decide)
        replace e4 := k10.ev e4 (by decide)
        replace e5 := k10.ev e5 (by decide)
        replace hz := k10.size.trans hz
        replace hd := k10.defers.trans hd
        replace kk0 := kk0.trans (k10.mono (ys := [3, 4, 5]) (by decide))
        replace kk2 := kk2.trans (k10.mono (ys := [3, 5]) (by decide))
        have e32 := f32
        clear f32
        refine wp_cond_false e32 ?_
        refine wp_skip ?_
        rw [← pairs_idle r.rows k hbt] at ow e3
        refine seq_startL (l := [0, 1, 2]) (by kernel_rfl) ?_
        refine seq_move 21 (v := (.int .i64 ((j : Nat) : Int))) rfl rfl rfl rfl e5 ?_
        refine seq_valD 22 (v := (.int .i64 ((j + 1 : Nat) : Int))) rfl rfl rfl (run_incI rfl (ev_same (by first | (rw [hz]; decide) | (simp only [size_put, hz]; decide))) rfl (by omega)) ?_
        refine seq_assign 5 (v := (.int .i64 ((j + 1 : Nat) : Int))) rfl rfl rfl rfl (ev_same (by first | (rw [hz]; decide) | (simp only [size_put, hz]; decide))) ?_
        refine seq_nil ?_
        refine seq_out ((((KeepM.refl 6 [5] a10).put (by decide)).put (by decide)).put (by decide)) fun a11 k11 tr => ?_
        have f5 := tr 5 (.int .i64 ((j + 1 : Nat) : Int)) (ev_same (by first | (rw [hz]; decide) | (simp only [size_put, hz]; decide)))
        clear tr
        replace e1 := k11.ev e1 (by decide)
        replace e2 := k11.ev e2 (by decide)
        replace e3 := k11.ev e3 (by decide)
        replace e4 := k11.ev e4 (by decide)
        replace hz := k11.size.trans hz
        replace hd := k11.defers.trans hd
        replace kk0 := kk0.trans (k11.mono (ys := [3, 4, 5]) (by decide))
        replace kk2 := kk2.trans (k11.mono (ys := [3, 5]) (by decide))
        have e5 := f5
        clear f5
        refine ⟨⟨j + 1, A, c, by omega, kk2, e3, e5, x1, ow, hB⟩, ?_⟩
        rw [e5, e5s]; simp [intOf]; omega
      | true =>
        refine seq_startL (l := [0, 1, 2, 3, 4, 5, 6, 7, 8, 9]) (by kernel_rfl) ?_
        refine seq_valD 23 (v := (.pointer (some ⟨b1, 1, none⟩))) rfl rfl rfl (run_fp1 rfl e1) ?_
        refine seq_valD 24 (v := (.slice (some ad) N r.cap)) rfl rfl rfl (run_ldS rfl (ev_same (by first | (rw [hz]; decide) | (simp only [size_put, hz]; decide))) (by rw [← hA]; exact x1.cell 1)) ?_
        refine seq_move 25 (v := (.int .i64 ((k : Nat) : Int))) rfl rfl rfl rfl ((ev_ne (by decide)).trans ((ev_ne (by decide)).trans e4)) ?_
        refine seq_valD 26 (v := (.pointer (some (ad.add k)))) rfl rfl rfl (run_ixU (k := k) rfl ((ev_ne (by decide)).trans (ev_same (by first | (rw [hz]; decide) | (simp only [size_put, hz]; decide)))) (ev_same (by first | (rw [hz]; decide) | (simp only [size_put, hz]; decide))) hltk) ?_
        refine seq_valD 27 (v := (.int .u64 (((r.rows.getD k 0) : Nat) : Int))) rfl rfl rfl (run_ldU rfl (ev_same (by first | (rw [hz]; decide) | (simp only [size_put, hz]; decide))) hcA) ?_
        refine seq_move 28 (v := (.int .i64 ((j : Nat) : Int))) rfl rfl rfl rfl ((ev_ne (by decide)).trans ((ev_ne (by decide)).trans ((ev_ne (by decide)).trans ((ev_ne (by decide)).trans ((ev_ne (by decide)).trans e5))))) ?_
        refine seq_valD 29 (v := (.int .u64 ((j : Nat) : Int))) rfl rfl rfl (run_cvU rfl (ev_same (by first | (rw [hz]; decide) | (simp only [size_put, hz]; decide))) (by omega)) ?_
        refine seq_valD 30 (v := (.int .u64 ((((r.rows.getD k 0) / 2 ^ j) : Nat) : Int))) rfl rfl rfl (run_shr rfl ((ev_ne (by decide)).trans ((ev_ne (by decide)).trans (ev_same (by first | (rw [hz]; decide) | (simp only [size_put, hz]; decide))))) (ev_same (by first | (rw [hz]; decide) | (simp only [size_put, hz]; decide))) (by omega)) ?_
        refine seq_valD 31 (v := (.int .u64 (((((r.rows.getD k 0) / 2 ^ j) % 2) : Nat) : Int))) rfl rfl rfl (run_rem2 rfl (ev_same (by first | (rw [hz]; decide) | (simp only [size_put, hz]; decide))) rfl) ?_
        refine seq_valD 32 (v := (.bool true)) rfl rfl rfl ((run_eqU rfl (ev_same (by first | (rw [hz]; decide) | (simp only [size_put, hz]; decide))) rfl).trans (okB (c := true) (bit_eq hbt))) ?_
        refine seq_nil ?_
        refine seq_out (((((((((((KeepM.refl 6 [] a9).put (by decide)).put (by decide)).put (by decide)).put (by decide)).put (by decide)).put (by decide)).put (by decide)).put (by decide)).put (by decide)).put (by decide)) fun a12 k12 tr => ?_
        have f32 := tr 32 (.bool true) (ev_same (by first | (rw [hz]; decide) | (simp only [size_put, hz]; decide)))
        clear tr
        replace e1 := k12.ev e1 (by decide)
        replace e2 := k12.ev e2 (by decide)
        replace e3 := k12.ev e3 (by decide)
        replace e4 := k12.ev e4 (by decide)
        replace e5 := k12.ev e5 (by decide)
        replace hz := k12.size.trans hz
        replace hd := k12.defers.trans hd
        replace kk0 := kk0.trans (k12.mono (ys := [3, 4, 5]) (by decide))
        replace kk2 := kk2.trans (k12.mono (ys := [3, 5]) (by decide))
        have e32 := f32
        clear f32
        refine wp_cond_true e32 ?_
        have hlen := pairs_len r.rows k j (by omega)
        refine seq_startL (l := [0, 1, 2, 3, 4, 5, 6]) (by kernel_rfl) ?_
        refine seq_move 33 (v := (.slice A (pairsTo r.rows k ++ pairsRow k (bitsBelow (r.rows.getD k 0) j)).length c)) rfl rfl rfl rfl e3 ?_
        refine seq_move 34 (v := (.int .i64 ((k : Nat) : Int))) rfl rfl rfl rfl ((ev_ne (by decide)).trans e4) ?_
        refine seq_move 35 (v := (.int .i64 ((j : Nat) : Int))) rfl rfl rfl rfl ((ev_ne (by decide)).trans ((ev_ne (by decide)).trans e5)) ?_
        refine seq_valD 36 (v := (.agg #[.int .i64 ((k : Nat) : Int), .int .i64 ((j : Nat) : Int)])) rfl rfl rfl (run_arr2 rfl ((ev_ne (by decide)).trans (ev_same (by first | (rw [hz]; decide) | (simp only [size_put, hz]; decide)))) (ev_same (by first | (rw [hz]; decide) | (simp only [size_put, hz]; decide)))) ?_
        refine seq_valD 37 rfl rfl rfl (run_prs1 (i := ((k : Nat) : Int)) (j := ((j : Nat) : Int)) rfl (ev_same (by first | (rw [hz]; decide) | (simp only [size_put, hz]; decide)))) ?_
        obtain ⟨v9, w13, hrun, hown, hgrow, _⟩ := run_append_own (P := Tryd.prog) (w8.alloc (.cells (prs [(((k : Nat) : Int), ((j : Nat) : Int))]).toArray 28)) w0.heap.size 34 34 28 i0 (.agg #[.int .i64 0, .int .i64 0]) 2 16 Tryd.underlying34 hi hz0 hz1 hz2 rfl (by decide) _ _ _ (ow.alloc _) ⟨w8.heap.size, 0, none⟩ 1 1 [I ((k : Nat) : Int), I ((j : Nat) : Int)] rfl (cell_two_new _ _ _ _) (fun u hu => by rcases List.mem_cons.1 hu with rfl | hu; rfl; rw [List.mem_singleton.1 hu]; rfl) (by unfold maxLen; omega) (by omega) (by rw [World.size_alloc]; omega)
        refine seq_valD 38 rfl rfl rfl (run_appP rfl ((ev_ne (by decide)).trans ((ev_ne (by decide)).trans ((ev_ne (by decide)).trans ((ev_ne (by decide)).trans (ev_same (by first | (rw [hz]; decide) | (simp only [size_put, hz]; decide))))))) (ev_same (by first | (rw [hz]; decide) | (simp only [size_put, hz]; decide))) hrun) ?_
        obtain ⟨g9, c9, rfl⟩ := ownsRow_succ hown
        replace x1 := (x1.alloc (.cells (prs [(((k : Nat) : Int), ((j : Nat) : Int))]).toArray 28)).grown hgrow (x1.not_row (by decide) ow)
        replace hB := (hB.al (o := .cells (prs [(((k : Nat) : Int), ((j : Nat) : Int))]).toArray 28)).grown hgrow (by rw [World.size_alloc]; omega) (fun q eq => (ow.lt q eq).1)
        replace hS := hB.size
        clear ow
        have ow := hown
        clear hown hrun hgrow
        refine seq_assign 3 (v := (.slice (some ⟨g9, 0, none⟩) ((pairsTo r.rows k ++ pairsRow k (bitsBelow (r.rows.getD k 0) j)).length + 1) c9)) rfl rfl rfl rfl (ev_same (by first | (rw [hz]; decide) | (simp only [size_put, hz]; decide))) ?_
        refine seq_nil ?_
        refine seq_out ((((((((KeepM.refl 6 [3] a12).put (by decide)).put (by decide)).put (by decide)).put (by decide)).put (by decide)).put (by decide)).put (by decide)) fun a14 k14 tr => ?_
        have f3 := tr 3 (.slice (some ⟨g9, 0, none⟩) ((pairsTo r.rows k ++ pairsRow k (bitsBelow (r.rows.getD k 0) j)).length + 1) c9) (ev_same (by first | (rw [hz]; decide) | (simp only [size_put, hz]; decide)))
        clear tr
        replace e1 := k14.ev e1 (by decide)
        replace e2 := k14.ev e2 (by decide)
        replace e4 := k14.ev e4 (by decide)
        replace e5 := k14.ev e5 (by decide)
        replace hz := k14.size.trans hz
        replace hd := k14.defers.trans hd
        replace kk0 := kk0.trans (k14.mono (ys := [3, 4, 5]) (by decide))
        replace kk2 := kk2.trans (k14.mono (ys := [3, 5]) (by decide))
        have e3 := f3
        clear f3
        rw [← pairs_step_len r.rows k hbt (by omega)] at ow e3
        rw [← pairs_step r.rows k hbt (by omega)] at ow
        refine seq_startL (l := [0, 1, 2]) (by kernel_rfl) ?_
        refine seq_move 21 (v := (.int .i64 ((j : Nat) : Int))) rfl rfl rfl rfl e5 ?_
        refine seq_valD 22 (v := (.int .i64 ((j + 1 : Nat) : Int))) rfl rfl rfl (run_incI rfl (ev_same (by first | (rw [hz]; decide) | (simp only [size_put, hz]; decide))) rfl (by omega)) ?_
        refine seq_assign 5 (v := (.int .i64 ((j + 1 : Nat) : Int))) rfl rfl rfl rfl (ev_same (by first | (rw [hz]; decide) | (simp only [size_put, hz]; decide))) ?_
        refine seq_nil ?_
        refine seq_out ((((KeepM.refl 6 [5] a14).put (by decide)).put (by decide)).put (by decide)) fun a15 k15 tr => ?_
        have f5 := tr 5 (.int .i64 ((j + 1 : Nat) : Int)) (ev_same (by first | (rw [hz]; decide) | (simp only [size_put, hz]; decide)))
        clear tr
        replace e1 := k15.ev e1 (by decide)
        replace e2 := k15.ev e2 (by decide)
        replace e4 := k15.ev e4 (by decide)
        replace e3 := k15.ev e3 (by decide)
        replace hz := k15.size.trans hz
        replace hd := k15.defers.trans hd
        replace kk0 := kk0.trans (k15.mono (ys := [3, 4, 5]) (by decide))
        replace kk2 := kk2.trans (k15.mono (ys := [3, 5]) (by decide))
        have e5 := f5
        clear f5
        refine ⟨⟨j + 1, _, _, by omega, kk2, e3, e5, x1, ow, hB⟩, ?_⟩
        rw [e5, e5s]; simp [intOf]; omega
    · rw [decide_eq_false (by omega)] at e20
      refine wp_cond_false e20 ?_
      refine wp_exit ?_
      refine exit_here1 (id := 2) ?_
      obtain rfl : N = j := by omega
      rw [pairs_full r.rows k hlt2 h64] at ow e3
      refine seq_startL (l := [0, 1, 2]) (by kernel_rfl) ?_
      refine seq_move 15 (v := (.int .i64 ((k : Nat) : Int))) rfl rfl rfl rfl e4 ?_
      refine seq_valD 16 (v := (.int .i64 ((k + 1 : Nat) : Int))) rfl rfl rfl (run_incI rfl (ev_same (by first | (rw [hz]; decide) | (simp only [size_put, hz]; decide))) rfl (by omega)) ?_
      refine seq_assign 4 (v := (.int .i64 ((k + 1 : Nat) : Int))) rfl rfl rfl rfl (ev_same (by first | (rw [hz]; decide) | (simp only [size_put, hz]; decide))) ?_
      refine seq_nil ?_
      refine seq_out ((((KeepM.refl 6 [4] a9).put (by decide)).put (by decide)).put (by decide)) fun a16 k16 tr => ?_
      have f4 := tr 4 (.int .i64 ((k + 1 : Nat) : Int)) (ev_same (by first | (rw [hz]; decide) | (simp only [size_put, hz]; decide)))
      clear tr
      replace e1 := k16.ev e1 (by decide)
      replace e2 := k16.ev e2 (by decide)
      replace e3 := k16.ev e3 (by decide)
      replace e5 := k16.ev e5 (by decide)
      replace hz := k16.size.trans hz
      replace hd := k16.defers.trans hd
      replace kk0 := kk0.trans (k16.mono (ys := [3, 4, 5]) (by decide))
      have e4 := f4
      clear f4
      refine ⟨⟨k + 1, A, c, by omega, kk0, e3, e4, x1, ow, hB⟩, ?_⟩
      rw [e4, e4s]; simp [intOf]; omega
  · refine region_ts_seq (n := 9) [Sp.val (.int .i64 ((k : Nat) : Int)), Sp.val (.pointer (some ⟨b1, 0, none⟩)), Sp.val (.int .i64 r.n), Sp.val (.bool false), Sp.val (.bool false), Sp.top, Sp.top, Sp.top, Sp.val (.bool false)] w5 (by rw [hz]; kernel_rfl) (by kernel_rfl) (by kernel_rfl) (by kernel_rfl) ?_ fun L a17 w17 hL st => ?_
    · refine ⟨⟨⟨⟨⟨⟨⟨⟨⟨trivial, ?_⟩, ?_⟩, ?_⟩, ?_⟩, ?_⟩, ?_⟩, ?_⟩, ?_⟩, ?_⟩
      · intro oo aa ww LL hho hLL haft st; obtain rfl := Option.some.inj hho; exact pay_move st (want_none rfl) rfl (show Sp.holds (Sp.val (.int .i64 ((k : Nat) : Int))) _ _ _ from (st.out (by kernel_rfl) (get_of_int e4))) rfl rfl
      · intro oo aa ww LL hho hLL haft st; obtain rfl := Option.some.inj hho; exact pay_field st (want_none rfl) rfl (st.out (by kernel_rfl) (get_of_eval e1)) rfl
      · intro oo aa ww LL hho hLL haft st; obtain rfl := Option.some.inj hho; exact pay_loadN st (want_none rfl) rfl (st.arg (j := 1) (aft_of haft (by kernel_rfl)) rfl rfl) x1r rfl
      · intro oo aa ww LL hho hLL haft st; obtain rfl := Option.some.inj hho; exact pay_run st (want_none rfl) ((run_ltI rfl (st.arg (j := 0) (aft_of haft (by kernel_rfl)) rfl rfl) (st.arg (j := 2) (aft_of haft (by kernel_rfl)) rfl rfl)).trans (okB (decide_eq_false (by rw [hnr]; omega)))) rfl
      · intro oo aa ww LL hho hLL haft st; obtain rfl := Option.some.inj hho; exact pay_move st (want_none rfl) rfl (show Sp.holds (Sp.val (.bool false)) _ _ _ from (st.arg (j := 3) (aft_of haft (by kernel_rfl)) rfl rfl)) rfl rfl
      · intro oo aa ww LL hho hLL haft st; obtain rfl := Option.some.inj hho; exact st.skip haft rfl (by kernel_rfl) rfl rfl
      · intro oo aa ww LL hho hLL haft st; obtain rfl := Option.some.inj hho; exact st.skip haft rfl (by kernel_rfl) rfl rfl
      · intro oo aa ww LL hho hLL haft st; obtain rfl := Option.some.inj hho; exact st.skip haft rfl (by kernel_rfl) rfl rfl
      · intro oo aa ww LL hho hLL haft st; obtain rfl := Option.some.inj hho; exact pay_pick st (want_none rfl) rfl (st.arg (j := 4) (aft_of haft (by kernel_rfl)) rfl rfl) (show Sp.holds (Sp.val (.bool false)) _ _ _ from rfl) rfl rfl
    have k17 : KeepM 6 [] a5 a17 := st.keepM (by kernel_rfl)
    have hb17 := st.g
    have e14 : a17.eval (.tmp 14) = (.bool false) := st.arg (j := 8) (hL 8 (by omega)) rfl rfl
    clear st hL L
    replace e1 := k17.ev e1 (by decide)
    replace e2 := k17.ev e2 (by decide)
    replace e3 := k17.ev e3 (by decide)
    replace e4 := k17.ev e4 (by decide)
    replace hz := k17.size.trans hz
    replace hd := k17.defers.trans hd
    replace kk0 := kk0.trans (k17.mono (ys := [3, 4, 5]) (by decide))
    replace x1 := x1.below hb17 x1.lt
    replace ow := own_on ow hb17
    replace hB := Below.next hB hb17
    replace hS := hB.size
    refine wp_cond_false e14 ?_
    refine wp_exit ?_
    refine exit_here1 (id := 0) ?_
    obtain rfl : N = k := by omega
    refine wp_seq ?_
    refine seq_startL (l := [0, 1]) (by kernel_rfl) ?_
    refine seq_move 39 (v := (.slice A (pairsTo r.rows N).length c)) rfl rfl rfl rfl e3 ?_
    refine seq_assign 2 (v := (.slice A (pairsTo r.rows N).length c)) rfl rfl rfl rfl (ev_same (by first | (rw [hz]; decide) | (simp only [size_put, hz]; decide))) ?_
    refine seq_nil ?_
    refine seq_out (((KeepM.refl 6 [2] a17).put (by decide)).put (by decide)) fun a18 k18 tr => ?_
    have f2 := tr 2 (.slice A (pairsTo r.rows N).length c) (ev_same (by first | (rw [hz]; decide) | (simp only [size_put, hz]; decide)))
    clear tr
    replace e1 := k18.ev e1 (by decide)
    replace e3 := k18.ev e3 (by decide)
    replace e4 := k18.ev e4 (by decide)
    replace hz := k18.size.trans hz
    replace hd := k18.defers.trans hd
    have e2 := f2
    clear f2
    refine wp_ret ?_
    rw [show pairsTo r.rows N = pairsR r.rows by unfold pairsR; rw [hlr]] at ow e2
    exact post_slot rfl hd (get_of_slice e2) ⟨_, rfl, ⟨A, c, rfl, Reads.of_own ow⟩, hB⟩
set_option maxRecDepth 100000 in
set_option maxHeartbeats 4000000 in
theorem rPairs_bad (r : RA) (w0 : World) (hT : Tab w0) (hr : r.good w0) (hsr : Short r.pr) (ho : r.ok = false) : Calls Tryd.prog 33 #[r.val] w0 (RetQ w0 fun v w' => ∃ A c, v = .slice A ([] : List (Int × Int)).length c ∧ Reads w' w'.heap.size 2 A ([] : List (Int × Int)).length (prs ([] : List (Int × Int)))) := by
  have hrv : r.val = (.agg #[.int .i64 r.n, .slice r.A r.rows.length r.cap]) := rfl
  rw [hrv]
  refine calls_of_wp Tryd.func33 rfl ?_
  obtain ⟨hz, e0⟩ := start_act1 40 ((.agg #[.int .i64 r.n, .slice r.A r.rows.length r.cap])) (by decide)
  have hd : ({ tmps := #[(.agg #[.int .i64 r.n, .slice r.A r.rows.length r.cap])] ++ Array.replicate (40 - 1) undef, defers := [] } : Act).defers = [] := rfl
  rw [show Tryd.f33.ntmps - (#[(.agg #[.int .i64 r.n, .slice r.A r.rows.length r.cap])] : Array Value).size = 40 - 1 from rfl]
  generalize ({ tmps := #[(.agg #[.int .i64 r.n, .slice r.A r.rows.length r.cap])] ++ Array.replicate (40 - 1) undef, defers := [] } : Act) = a0 at hz e0 hd ⊢
  have hB : Below w0.heap.size w0 w0 := Below.refl _ _
  have hS := hB.size
  refine wp_seq ?_
  refine seq_startL (l := [0, 1]) (by kernel_rfl) ?_
  refine seq_valD 1 rfl rfl rfl (run_boxC rfl e0) ?_
  have x1 := RowT.new w0 26 [.int .i64 r.n, .slice r.A r.rows.length r.cap]
  replace hB := hB.al (o := .cells ([.int .i64 r.n, .slice r.A r.rows.length r.cap] : List Value).toArray 26)
  change wpOps _ _ _ _ _ (w0.alloc (.cells ([.int .i64 r.n, .slice r.A r.rows.length r.cap] : List Value).toArray 26))
  generalize (w0.alloc (.cells ([.int .i64 r.n, .slice r.A r.rows.length r.cap] : List Value).toArray 26)) = w1 at x1 hB ⊢
  generalize hbq1 : w0.heap.size = b1 at x1 ⊢
  have hge1 : w0.heap.size ≤ b1 := by rw [← hbq1]; exact hS
  clear hbq1
  have hS := hB.size
  refine seq_assign 2 (v := (.slice none 0 0)) rfl rfl rfl rfl rfl ?_
  refine seq_nil ?_
  refine seq_out (((KeepM.refl 6 [1, 2] a0).put (by decide)).put (by decide)) fun a2 k2 tr => ?_
  have f1 := tr 1 (.pointer (some ⟨b1, 0, none⟩)) ((ev_ne (by decide)).trans (ev_same (by first | (rw [hz]; decide) | (simp only [size_put, hz]; decide))))
  have f2 := tr 2 (.slice none 0 0) (ev_same (by first | (rw [hz]; decide) | (simp only [size_put, hz]; decide)))
  clear tr
  replace e0 := k2.ev e0 (by decide)
  replace hz := k2.size.trans hz
  replace hd := k2.defers.trans hd
  have e1 := f1
  clear f1
  have e2 := f2
  clear f2
  refine wp_seq ?_
  refine seq_startL (l := [0]) (by kernel_rfl) ?_
  refine seq_assign 3 (v := (.slice none 0 0)) rfl rfl rfl rfl rfl ?_
  refine seq_nil ?_
  refine seq_out ((KeepM.refl 6 [3] a2).put (by decide)) fun a3 k3 tr => ?_
  have f3 := tr 3 (.slice none 0 0) (ev_same (by first | (rw [hz]; decide) | (simp only [size_put, hz]; decide)))
  clear tr
  replace e1 := k3.ev e1 (by decide)
  replace e2 := k3.ev e2 (by decide)
  replace hz := k3.size.trans hz
  replace hd := k3.defers.trans hd
  have e3 := f3
  clear f3
  refine wp_seq ?_
  refine wp_seq ?_
  refine seq_startL (l := [0]) (by kernel_rfl) ?_
  refine seq_assign 4 (v := (.int .i64 0)) rfl rfl rfl rfl rfl ?_
  refine seq_nil ?_
  refine seq_out ((KeepM.refl 6 [4] a3).put (by decide)) fun a4 k4 tr => ?_
  have f4 := tr 4 (.int .i64 0) (ev_same (by first | (rw [hz]; decide) | (simp only [size_put, hz]; decide)))
  clear tr
  replace e1 := k4.ev e1 (by decide)
  replace e2 := k4.ev e2 (by decide)
  replace e3 := k4.ev e3 (by decide)
  replace hz := k4.size.trans hz
  replace hd := k4.defers.trans hd
  have e4 := f4
  clear f4
  change RowT _ _ _ r.cells at x1
  refine wp_block ?_
  refine wp_loop (fun aq wq => aq = a4 ∧ wq = w1) (fun _ _ => 0) ⟨rfl, rfl⟩ ?_
  rintro aL wL ⟨haL, hwL⟩
  rw [haL, hwL]
  refine wp_seq ?_
  refine wp_seq ?_
  by_cases h0 : 0 < r.n
  · refine region_ts_seq (n := 9) [Sp.val (.int .i64 0), Sp.val (.pointer (some ⟨b1, 0, none⟩)), Sp.val (.int .i64 r.n), Sp.val (.bool true), Sp.val (.bool true), Sp.rel r.pr, Sp.val (.int .i64 2), Sp.val (.bool false), Sp.val (.bool false)] w1 (by rw [hz]; kernel_rfl) (by kernel_rfl) (by kernel_rfl) (by kernel_rfl) ?_ fun L a5 w5 hL st => ?_
    · refine ⟨⟨⟨⟨⟨⟨⟨⟨⟨trivial, ?_⟩, ?_⟩, ?_⟩, ?_⟩, ?_⟩, ?_⟩, ?_⟩, ?_⟩, ?_⟩
      · intro oo aa ww LL hho hLL haft st; obtain rfl := Option.some.inj hho; exact pay_move st (want_none rfl) rfl (show Sp.holds (Sp.val (.int .i64 0)) _ _ _ from (st.out (by kernel_rfl) (get_of_int e4))) rfl rfl
      · intro oo aa ww LL hho hLL haft st; obtain rfl := Option.some.inj hho; exact pay_field st (want_none rfl) rfl (st.out (by kernel_rfl) (get_of_eval e1)) rfl
      · intro oo aa ww LL hho hLL haft st; obtain rfl := Option.some.inj hho; exact pay_loadN st (want_none rfl) rfl (st.arg (j := 1) (aft_of haft (by kernel_rfl)) rfl rfl) x1 rfl
      · intro oo aa ww LL hho hLL haft st; obtain rfl := Option.some.inj hho; exact pay_run st (want_none rfl) ((run_ltI rfl (st.arg (j := 0) (aft_of haft (by kernel_rfl)) rfl rfl) (st.arg (j := 2) (aft_of haft (by kernel_rfl)) rfl rfl)).trans (okB (decide_eq_true (by omega)))) rfl
      · intro oo aa ww LL hho hLL haft st; obtain rfl := Option.some.inj hho; exact pay_move st (want_none rfl) rfl (show Sp.holds (Sp.val (.bool true)) _ _ _ from (st.arg (j := 3) (aft_of haft (by kernel_rfl)) rfl rfl)) rfl rfl
      · intro oo aa ww LL hho hLL haft st; obtain rfl := Option.some.inj hho; exact pay_loadR st (st.want haft rfl (by kernel_rfl) rfl) rfl (st.out (by kernel_rfl) (get_of_eval e1)) x1 (hr.on hB) hsr rfl
      · intro oo aa ww LL hho hLL haft st; obtain rfl := Option.some.inj hho; exact call_RV C_rCheck en_rCheck (hT.on hB) st (st.want haft rfl (by kernel_rfl) rfl) rfl (st.arg (j := 5) (aft_of haft (by kernel_rfl)) rfl rfl) rfl (by rw [show chk r.pr.n r.pr.rows = 2 from chk_not ho])
      · intro oo aa ww LL hho hLL haft st; obtain rfl := Option.some.inj hho; exact pay_run st (st.want haft rfl (by kernel_rfl) rfl) ((run_eqE rfl (st.arg (j := 6) (aft_of haft (by kernel_rfl)) rfl rfl) rfl).trans (okB rfl)) rfl
      · intro oo aa ww LL hho hLL haft st; obtain rfl := Option.some.inj hho; exact pay_pick st (want_none rfl) rfl (st.arg (j := 4) (aft_of haft (by kernel_rfl)) rfl rfl) (show Sp.holds (Sp.val (.bool false)) _ _ _ from (st.arg (j := 7) (aft_of haft (by kernel_rfl)) rfl rfl)) rfl rfl
    have k5 : KeepM 6 [] a4 a5 := st.keepM (by kernel_rfl)
    have hb5 := st.g
    have e14 : a5.eval (.tmp 14) = (.bool false) := st.arg (j := 8) (hL 8 (by omega)) rfl rfl
    clear st hL L
    replace e1 := k5.ev e1 (by decide)
    replace e2 := k5.ev e2 (by decide)
    replace e3 := k5.ev e3 (by decide)
    replace e4 := k5.ev e4 (by decide)
    replace hz := k5.size.trans hz
    replace hd := k5.defers.trans hd
    replace x1 := x1.below hb5 x1.lt
    replace hB := Below.next hB hb5
    replace hS := hB.size
    refine wp_cond_false e14 ?_
    refine wp_exit ?_
    refine exit_here1 (id := 0) ?_
    refine wp_seq ?_
    refine seq_startL (l := [0, 1]) (by kernel_rfl) ?_
    refine seq_move 39 (v := (.slice none 0 0)) rfl rfl rfl rfl e3 ?_
    refine seq_assign 2 (v := (.slice none 0 0)) rfl rfl rfl rfl (ev_same (by first | (rw [hz]; decide) | (simp only [size_put, hz]; decide))) ?_
    refine seq_nil ?_
    refine seq_out (((KeepM.refl 6 [2] a5).put (by decide)).put (by decide)) fun a6 k6 tr => ?_
    have f2 := tr 2 (.slice none 0 0) (ev_same (by first | (rw [hz]; decide) | (simp only [size_put, hz]; decide)))
    clear tr
    replace e1 := k6.ev e1 (by decide)
    replace e3 := k6.ev e3 (by decide)
    replace e4 := k6.ev e4 (by decide)
    replace hz := k6.size.trans hz
    replace hd := k6.defers.trans hd
    have e2 := f2
    clear f2
    refine wp_ret ?_
    exact post_slot rfl hd (get_of_slice e2) ⟨_, rfl, ⟨none, 0, rfl, Reads.none_⟩, hB⟩
  · refine region_ts_seq (n := 9) [Sp.val (.int .i64 0), Sp.val (.pointer (some ⟨b1, 0, none⟩)), Sp.val (.int .i64 r.n), Sp.val (.bool false), Sp.val (.bool false), Sp.top, Sp.top, Sp.top, Sp.val (.bool false)] w1 (by rw [hz]; kernel_rfl) (by kernel_rfl) (by kernel_rfl) (by kernel_rfl) ?_ fun L a7 w7 hL st => ?_
    · refine ⟨⟨⟨⟨⟨⟨⟨⟨⟨trivial, ?_⟩, ?_⟩, ?_⟩, ?_⟩, ?_⟩, ?_⟩, ?_⟩, ?_⟩, ?_⟩
      · intro oo aa ww LL hho hLL haft st; obtain rfl := Option.some.inj hho; exact pay_move st (want_none rfl) rfl (show Sp.holds (Sp.val (.int .i64 0)) _ _ _ from (st.out (by kernel_rfl) (get_of_int e4))) rfl rfl
      · intro oo aa ww LL hho hLL haft st; obtain rfl := Option.some.inj hho; exact pay_field st (want_none rfl) rfl (st.out (by kernel_rfl) (get_of_eval e1)) rfl
      · intro oo aa ww LL hho hLL haft st; obtain rfl := Option.some.inj hho; exact pay_loadN st (want_none rfl) rfl (st.arg (j := 1) (aft_of haft (by kernel_rfl)) rfl rfl) x1 rfl
      · intro oo aa ww LL hho hLL haft st; obtain rfl := Option.some.inj hho; exact pay_run st (want_none rfl) ((run_ltI rfl (st.arg (j := 0) (aft_of haft (by kernel_rfl)) rfl rfl) (st.arg (j := 2) (aft_of haft (by kernel_rfl)) rfl rfl)).trans (okB (decide_eq_false (by omega)))) rfl
      · intro oo aa ww LL hho hLL haft st; obtain rfl := Option.some.inj hho; exact pay_move st (want_none rfl) rfl (show Sp.holds (Sp.val (.bool false)) _ _ _ from (st.arg (j := 3) (aft_of haft (by kernel_rfl)) rfl rfl)) rfl rfl
      · intro oo aa ww LL hho hLL haft st; obtain rfl := Option.some.inj hho; exact st.skip haft rfl (by kernel_rfl) rfl rfl
      · intro oo aa ww LL hho hLL haft st; obtain rfl := Option.some.inj hho; exact st.skip haft rfl (by kernel_rfl) rfl rfl
      · intro oo aa ww LL hho hLL haft st; obtain rfl := Option.some.inj hho; exact st.skip haft rfl (by kernel_rfl) rfl rfl
      · intro oo aa ww LL hho hLL haft st; obtain rfl := Option.some.inj hho; exact pay_pick st (want_none rfl) rfl (st.arg (j := 4) (aft_of haft (by kernel_rfl)) rfl rfl) (show Sp.holds (Sp.val (.bool false)) _ _ _ from rfl) rfl rfl
    have k7 : KeepM 6 [] a4 a7 := st.keepM (by kernel_rfl)
    have hb7 := st.g
    have e14 : a7.eval (.tmp 14) = (.bool false) := st.arg (j := 8) (hL 8 (by omega)) rfl rfl
    clear st hL L
    replace e1 := k7.ev e1 (by decide)
    replace e2 := k7.ev e2 (by decide)
    replace e3 := k7.ev e3 (by decide)
    replace e4 := k7.ev e4 (by decide)
    replace hz := k7.size.trans hz
    replace hd := k7.defers.trans hd
    replace x1 := x1.below hb7 x1.lt
    replace hB := Below.next hB hb7
    replace hS := hB.size
    refine wp_cond_false e14 ?_
    refine wp_exit ?_
    refine exit_here1 (id := 0) ?_
    refine wp_seq ?_
    refine seq_startL (l := [0, 1]) (by kernel_rfl) ?_
    refine seq_move 39 (v := (.slice none 0 0)) rfl rfl rfl rfl e3 ?_
    refine seq_assign 2 (v := (.slice none 0 0)) rfl rfl rfl rfl (ev_same (by first | (rw [hz]; decide) | (simp only [size_put, hz]; decide))) ?_
    refine seq_nil ?_
    refine seq_out (((KeepM.refl 6 [2] a7).put (by decide)).put (by decide)) fun a8 k8 tr => ?_
    have f2 := tr 2 (.slice none 0 0) (ev_same (by first | (rw [hz]; decide) | (simp only [size_put, hz]; decide)))
    clear tr
    replace e1 := k8.ev e1 (by decide)
    replace e3 := k8.ev e3 (by decide)
    replace e4 := k8.ev e4 (by decide)
    replace hz := k8.size.trans hz
    replace hd := k8.defers.trans hd
    have e2 := f2
    clear f2
    refine wp_ret ?_
    exact post_slot rfl hd (get_of_slice e2) ⟨_, rfl, ⟨none, 0, rfl, Reads.none_⟩, hB⟩
theorem en_rPairs : Enters Tryd.prog 33 := enters_of Tryd.func33 (by kernel_rfl) rfl
theorem rPairs_c (r : RA) (w0 : World) (hT : Tab w0) (hr : r.good w0) (hsr : Short r.pr) : Calls Tryd.prog 33 #[r.val] w0 (RetQ w0 fun v w' => ∃ A c, v = .slice A (Ppairs r.pr).length c ∧ Reads w' w'.heap.size 2 A (Ppairs r.pr).length (prs (Ppairs r.pr))) := by
  unfold Ppairs
  cases ho : r.ok with
  | false => rw [if_neg (fun e => by rw [show r.pr.ok = r.ok from rfl, ho] at e; cases e)]; exact rPairs_bad r w0 hT hr hsr ho
  | true =>
    obtain ⟨h1, h2, h3⟩ := (PR.ok_iff r.pr).1 ho
    rw [if_pos (show r.pr.ok = true from ho)]
    exact rPairs_ok r r.rows.length w0 hT hr hsr ho h1 rfl h2 h3
set_option maxHeartbeats 2000000 in
theorem pairs_bad (r : RA) (w0 : World) (hr : r.good w0) (ho : r.ok = false) : Calls Tryd.prog 32 #[r.val] w0 (RetQ w0 fun v w' => ∃ A c, v = .slice A ([] : List (Int × Int)).length c ∧ Reads w' w'.heap.size 2 A ([] : List (Int × Int)).length (prs ([] : List (Int × Int)))) := by
  have HG := Lib.hid hr
  have HO := Lib.hid ho
  clear hr ho
  have hval : r.val = .agg #[.int .i64 r.n, .slice r.A r.rows.length r.cap] := rfl
  rw [hval]
  go_enter Tryd.func32, Tryd.ntmps32
  go_wp2_with (go_at_call 16; refine (check_bad HG.out.1 ?_ HO.out).mono ?_; exact HG.out.2.into (below_alloc _ _); rintro e w1 ⟨rfl, hb1⟩)
  go_ret
  exact ⟨_, rfl, ⟨none, 0, rfl, Reads.none_⟩, (below_alloc w0 _).trans (hb1.mono (by simp))⟩
theorem pairs_all (r : RA) (w0 : World) (hT : Tab w0) (hr : r.good w0) : Calls Tryd.prog 32 #[r.val] w0 (RetQ w0 fun v w' => ∃ A c, v = .slice A (Ppairs r.pr).length c ∧ Reads w' w'.heap.size 2 A (Ppairs r.pr).length (prs (Ppairs r.pr))) := by
  unfold Ppairs
  cases ho : r.ok with
  | false => rw [if_neg (fun e => by rw [show r.pr.ok = r.ok from rfl, ho] at e; cases e)]; exact pairs_bad r w0 hr ho
  | true => rw [if_pos (show r.pr.ok = true from ho)]; exact pairs_c w0 ho hT hr
end Go.Proofs.YtigdecmfieaacaaDoor
namespace Go.Proofs.YtigdecmfieaacaaDoor
open Go Go.RowKit

theorem args_two {a : Act} {x y : Operand} {u v : Value} (h : a.eval x = u) (k : a.eval y = v) : (#[x, y] : Array Operand).map a.eval = #[u, v] := by simp [h, k]
theorem por_one {r : PR} (h : r.ok = true) : Por [r] = r := by
  have hR := IsR.of_ok h
  exact (IsR.or_ (IsR.alike (L := []) ⟨_, hR⟩ (by simp)) ⟨_, hR⟩).ext hR fun i j => by
    show (∃ x ∈ [r], bt x.rows i j = true) ↔ _
    simp
/-- How many pairs there are. -/
def cnt (rows : List Nat) : Nat := ((List.range 4096).filter fun q => bt rows (q / 64) (q % 64)).length
theorem cnt_le (rows : List Nat) : cnt rows ≤ 4096 := by
  have := List.length_filter_le (fun q => bt rows (q / 64) (q % 64)) (List.range 4096)
  simpa [cnt] using this
theorem filter_lt {p q : Nat → Bool} (h : ∀ x, p x = true → q x = true) : ∀ (l : List Nat) (x : Nat), x ∈ l → q x = true → p x = false → (l.filter p).length < (l.filter q).length := by
  have hle : ∀ l : List Nat, (l.filter p).length ≤ (l.filter q).length := by
    intro l
    induction l with
    | nil => simp
    | cons a l ih =>
      rw [List.filter_cons, List.filter_cons]
      by_cases hp : p a = true
      · rw [if_pos hp, if_pos (h a hp)]; simpa using ih
      · rw [if_neg hp]
        split
        · simp only [List.length_cons]; omega
        · exact ih
  intro l
  induction l with
  | nil => intro x hx; cases hx
  | cons a l ih =>
    intro x hx hq hp
    rw [List.filter_cons, List.filter_cons]
    rcases List.mem_cons.1 hx with e | hx
    · subst e
      rw [if_neg (by rw [hp]; simp), if_pos hq]
      have := hle l
      simp only [List.length_cons]; omega
    · have := ih x hx hq hp
      by_cases hpa : p a = true
      · rw [if_pos hpa, if_pos (h a hpa)]; simpa using this
      · rw [if_neg hpa]
        split
        · simp only [List.length_cons]; omega
        · exact this
theorem isR_of {p : RA} {N : Nat} (hn : p.n = (N : Nat)) (h64 : N ≤ 64) (ho : OKR N p.rows) : IsR N (fun i j => bt p.rows i j = true) p.pr := ⟨hn, h64, ho, fun _ _ => Iff.rfl⟩
theorem next_isR {p : RA} {N : Nat} (hn : p.n = (N : Nat)) (h64 : N ≤ 64) (ho : OKR N p.rows) : IsR N (fun i j => bt p.rows i j = true ∨ ∃ k, bt p.rows i k = true ∧ bt p.rows k j = true) (Por [p.pr, Pthen [p.pr, p.pr]]) :=
  (isR_of hn h64 ho).or2 ((isR_of hn h64 ho).then2 (isR_of hn h64 ho))
theorem plus_next {p q : RA} {N : Nat} (hn : p.n = (N : Nat)) (_hl : p.rows.length = N) (h64 : N ≤ 64) (ho : OKR N p.rows) (hq : q.pr = Por [p.pr, Pthen [p.pr, p.pr]]) : q.n = (N : Nat) ∧ OKR N q.rows ∧ ∀ i j, bt p.rows i j = true → bt q.rows i j = true := by
  have h := next_isR hn h64 ho
  rw [← hq] at h
  exact ⟨h.1, h.2.2.1, fun i j hb => (h.2.2.2 i j).2 (.inl hb)⟩
theorem plus_in {p q r : RA} {N : Nat} (hR : OKR N r.rows) (hn : p.n = (N : Nat)) (ho : OKR N p.rows) (hq : q.pr = Por [p.pr, Pthen [p.pr, p.pr]]) (h64 : N ≤ 64) (hs : ∀ i j, bt p.rows i j = true → bt (plusL r.rows) i j = true) {i j : Nat} (h : bt q.rows i j = true) : bt (plusL r.rows) i j = true := by
  have k := next_isR hn h64 ho
  rw [← hq] at k
  rcases (k.2.2.2 i j).1 h with h | ⟨m, h1, h2⟩
  · exact hs i j h
  · exact plusL_trans hR (hs _ _ h1) (hs _ _ h2)
theorem plus_done {p q r : RA} {N : Nat} (hR : OKR N r.rows) (ho : OKR N p.rows) (hn : p.n = (N : Nat)) (hq : q.pr = Por [p.pr, Pthen [p.pr, p.pr]]) (ht : Psame q.pr p.pr = true) (hsub : ∀ i j, bt r.rows i j = true → bt p.rows i j = true) (hsup : ∀ i j, bt p.rows i j = true → bt (plusL r.rows) i j = true) (h64 : N ≤ 64) : p.rows = plusL r.rows := by
  have k := next_isR hn h64 ho
  rw [← hq] at k
  have hs := (IsR.same k (isR_of hn h64 ho)).1 ht
  refine rows_ext ho (plusL_ok hR) fun i j _ _ => ?_
  rw [Bool.eq_iff_iff]
  exact ⟨hsup i j, plusL_least (fun i j => bt p.rows i j = true) (fun i m j h1 h2 => (hs i j).1 (.inr ⟨m, h1, h2⟩)) hsub⟩
theorem plus_grows {p q : RA} {N : Nat} (ho : OKR N p.rows) (hqo : OKR N q.rows) (hn : p.n = (N : Nat)) (hq : q.pr = Por [p.pr, Pthen [p.pr, p.pr]]) (ht : Psame q.pr p.pr = false) (hE : ∀ i j, bt p.rows i j = true → bt q.rows i j = true) (h64 : N ≤ 64 := by omega) : cnt p.rows < cnt q.rows := by
  have k := next_isR hn h64 ho
  rw [← hq] at k
  obtain ⟨i, j, h1, h2⟩ : ∃ i j, bt q.rows i j = true ∧ bt p.rows i j = false := by
    refine Classical.byContradiction fun hno => ?_
    have : Psame q.pr p.pr = true := (IsR.same k (isR_of hn h64 ho)).2 fun i j => by
      refine (k.2.2.2 i j).symm.trans ⟨fun h => ?_, hE i j⟩
      cases e : bt p.rows i j with
      | true => rfl
      | false => exact absurd ⟨i, j, h, e⟩ hno
    rw [ht] at this; cases this
  obtain ⟨hi, hj⟩ := bt_lt hqo h1
  refine filter_lt (fun x h => hE _ _ h) _ (i * 64 + j) (by simp; omega) ?_ ?_
  · rw [show (i * 64 + j) / 64 = i by omega, show (i * 64 + j) % 64 = j by omega]; exact h1
  · rw [show (i * 64 + j) / 64 = i by omega, show (i * 64 + j) % 64 = j by omega]; exact h2
set_option maxRecDepth 100000 in
set_option maxHeartbeats 4000000 in
theorem plus_rounds (r : RA) (N b2 b3 : Nat) (w0 : World) (h64 : N ≤ 64) (hR : OKR N r.rows) (hT : Tab w0) : ∀ (fuel : Nat) (a0 : Act) (w : World) (p : RA), a0.tmps.size = 24 → a0.defers = [] → a0.eval (.tmp 2) = .pointer (some ⟨b2, 0, none⟩) → a0.eval (.tmp 3) = .pointer (some ⟨b3, 0, none⟩) →
    p.n = (N : Nat) → p.rows.length = N → OKR N p.rows → (∀ i j, bt r.rows i j = true → bt p.rows i j = true) → (∀ i j, bt p.rows i j = true → bt (plusL r.rows) i j = true) → 4096 ≤ cnt p.rows + fuel →
    RowT w b2 26 [.int .i64 0, .slice none 0 0] → RowT w b3 26 [.int .i64 ((N : Nat) : Int), .slice p.A N p.cap] → p.good w → w0.heap.size ≤ b2 → w0.heap.size ≤ b3 → b2 ≠ b3 → Below w0.heap.size w0 w →
    Code.rounds Tryd.prog (Code.block 1 (blkCode Tryd.f44 1)) (Exit.inBlock 0 (bodyPost Tryd.prog Tryd.f44 (RetR w0 ⟨((N : Nat) : Int), plusL r.rows⟩))) (fuel + 1) a0 w := by
  intro fuel
  induction fuel using Nat.strongRecOn with
  | _ fuel ih0 =>
    intro a0 w p hz hd e2 e3 hpn hpl hpo hsub hsup hfuel x2 x3 hp hge2 hge3 nx2_3 hB
    have ih : ∀ f, f < fuel → ∀ (a0 : Act) (w : World) (p : RA), a0.tmps.size = 24 → a0.defers = [] → a0.eval (.tmp 2) = .pointer (some ⟨b2, 0, none⟩) → a0.eval (.tmp 3) = .pointer (some ⟨b3, 0, none⟩) → p.n = (N : Nat) → p.rows.length = N → OKR N p.rows → (∀ i j, bt r.rows i j = true → bt p.rows i j = true) → (∀ i j, bt p.rows i j = true → bt (plusL r.rows) i j = true) → 4096 ≤ cnt p.rows + f →
        RowT w b2 26 [.int .i64 0, .slice none 0 0] → RowT w b3 26 [.int .i64 ((N : Nat) : Int), .slice p.A N p.cap] → p.good w → Below w0.heap.size w0 w → Code.rounds Tryd.prog (Code.block 1 (blkCode Tryd.f44 1)) (Exit.inBlock 0 (bodyPost Tryd.prog Tryd.f44 (RetR w0 ⟨((N : Nat) : Int), plusL r.rows⟩))) (f + 1) a0 w :=
      fun f hf a w p h1 h2 h3 h4 h5 h6 h7 h8 h9 h10 h11 h12 h13 h14 => ih0 f hf a w p h1 h2 h3 h4 h5 h6 h7 h8 h9 h10 h11 h12 h13 hge2 hge3 nx2_3 h14
    clear ih0
    rw [rounds_succ]
    have hS := hB.size
    refine wp_block ?_
    refine wp_seq ?_
    have x3p : RowT w b3 26 p.cells := by unfold RA.cells; rw [hpn, hpl]; exact x3
    have hsp : Short p.pr := short_of (by show p.rows.length ≤ 64; omega)
    refine region_ts (n := 9) [Sp.rel p.pr, Sp.rel p.pr, Sp.rel p.pr, Sp.rels [p.pr, p.pr], Sp.rel (Pthen [p.pr, p.pr]), Sp.rels [p.pr, (Pthen [p.pr, p.pr])], Sp.rel (Por [p.pr, (Pthen [p.pr, p.pr])]), Sp.box w.heap.size, Sp.stored 7 (Por [p.pr, (Pthen [p.pr, p.pr])])] w (by kernel_rfl) (by rw [hz]; kernel_rfl) (by kernel_rfl) (by kernel_rfl) (by kernel_rfl) (by kernel_rfl) ?_ fun L a1 w1 hL st => ?_
    · refine ⟨⟨⟨⟨⟨⟨⟨⟨⟨trivial, ?_⟩, ?_⟩, ?_⟩, ?_⟩, ?_⟩, ?_⟩, ?_⟩, ?_⟩, ?_⟩
      · intro oo aa ww LL hho hLL haft st; obtain rfl := Option.some.inj hho; exact pay_loadR st (want_none rfl) rfl (st.out (by kernel_rfl) (get_of_eval e3)) x3p hp hsp rfl
      · intro oo aa ww LL hho hLL haft st; obtain rfl := Option.some.inj hho; exact pay_loadR st (want_none rfl) rfl (st.out (by kernel_rfl) (get_of_eval e3)) x3p hp hsp rfl
      · intro oo aa ww LL hho hLL haft st; obtain rfl := Option.some.inj hho; exact pay_loadR st (want_none rfl) rfl (st.out (by kernel_rfl) (get_of_eval e3)) x3p hp hsp rfl
      · intro oo aa ww LL hho hLL haft st; obtain rfl := Option.some.inj hho; exact pay_rels2 st (want_none rfl) rfl (st.arg (j := 1) (aft_of haft (by kernel_rfl)) rfl rfl) (st.arg (j := 2) (aft_of haft (by kernel_rfl)) rfl rfl) rfl
      · intro oo aa ww LL hho hLL haft st; obtain rfl := Option.some.inj hho; exact call_LR C_rThen en_rThen (hT.on hB) st (want_none rfl) rfl (st.arg (j := 3) (aft_of haft (by kernel_rfl)) rfl rfl) (by simp) rfl rfl (short_then _)
      · intro oo aa ww LL hho hLL haft st; obtain rfl := Option.some.inj hho; exact pay_rels2 st (want_none rfl) rfl (st.arg (j := 0) (aft_of haft (by kernel_rfl)) rfl rfl) (st.arg (j := 4) (aft_of haft (by kernel_rfl)) rfl rfl) rfl
      · intro oo aa ww LL hho hLL haft st; obtain rfl := Option.some.inj hho; exact call_LR C_rOr en_rOr (hT.on hB) st (want_none rfl) rfl (st.arg (j := 5) (aft_of haft (by kernel_rfl)) rfl rfl) (by simp) rfl rfl (short_or _)
      · intro oo aa ww LL hho hLL haft st; obtain rfl := Option.some.inj hho; exact pay_allocR st (want_none rfl) rfl rfl
      · intro oo aa ww LL hho hLL haft st; obtain rfl := Option.some.inj hho; exact pay_store (k := 7) st haft (want_none rfl) rfl rfl rfl (by kernel_rfl) rfl (by decide) (st.arg (j := 6) (aft_of haft (by kernel_rfl)) rfl rfl) rfl (by kernel_rfl) rfl
    have k1 : KeepM 5 [4] a0 a1 := st.keepM (by kernel_rfl)
    have hb1 := st.g
    have hst := st.arg_stored (j := 8) (hL 8 (by omega)) rfl rfl
    clear st hL L
    replace e2 := k1.ev e2 (by decide)
    replace e3 := k1.ev e3 (by decide)
    replace hz := k1.size.trans hz
    replace hd := k1.defers.trans hd
    replace x2 := x2.below hb1 x2.lt
    replace x3 := x3.below hb1 x3.lt
    replace hp := hp.on hb1
    replace hB := Below.next hB hb1
    replace hS := hB.size
    clear x3p
    obtain ⟨b4, q, e4, x4, hqp, hq, hsq⟩ := hst
    rw [← hqp] at hsq
    obtain ⟨hqn, hqR, hqE⟩ := plus_next hpn hpl h64 hpo hqp
    have hql := hqR.1
    replace x4 : RowT w1 b4 26 [.int .i64 ((N : Nat) : Int), .slice q.A N q.cap] := by rw [← hqn, ← hql]; exact x4
    refine wp_seq ?_
    refine wp_seq ?_
    obtain ⟨t, ht⟩ : ∃ t, Psame q.pr p.pr = t := ⟨_, rfl⟩
    have hqv : (.agg #[.int .i64 ((N : Nat) : Int), .slice q.A N q.cap] : Value) = q.val := by unfold RA.val; rw [hqn, hql]
    have hpv : (.agg #[.int .i64 ((N : Nat) : Int), .slice p.A N p.cap] : Value) = p.val := by unfold RA.val; rw [hpn, hpl]
    refine seq_startL (l := [0, 1, 2]) (by kernel_rfl) ?_
    refine seq_valD 19 (v := (.agg #[.int .i64 ((N : Nat) : Int), .slice q.A N q.cap])) rfl rfl rfl (run_ldR rfl e4 (x4.cell 0) (x4.cell 1)) ?_
    refine seq_valD 20 (v := (.agg #[.int .i64 ((N : Nat) : Int), .slice p.A N p.cap])) rfl rfl rfl (run_ldR rfl ((ev_ne (by decide)).trans e3) (x3.cell 0) (x3.cell 1)) ?_
    refine seq_callD 21 rfl rfl rfl en_rSame rfl (args_two (((ev_ne (by decide)).trans (ev_same (by first | (rw [hz]; decide) | (simp only [size_put, hz]; decide)))).trans hqv) ((ev_same (by first | (rw [hz]; decide) | (simp only [size_put, hz]; decide))).trans hpv)) ((C_rSame q p w1 hq hp hsq hsp).mono ?_)
    rintro e w2 ⟨rfl, hb2⟩
    refine ⟨_, rfl, ?_⟩
    replace x2 := x2.below hb2 x2.lt
    replace x3 := x3.below hb2 x3.lt
    replace x4 := x4.below hb2 x4.lt
    replace hp := hp.on hb2
    replace hq := hq.on hb2
    replace hB := Below.next hB hb2
    replace hS := hB.size
    rw [ht]
    refine seq_nil ?_
    refine seq_out ((((KeepM.refl 5 [] a1).put (by decide)).put (by decide)).put (by decide)) fun a3 k3 tr => ?_
    have f21 := tr 21 (.bool t) (ev_same (by first | (rw [hz]; decide) | (simp only [size_put, hz]; decide)))
    clear tr
    replace e2 := k3.ev e2 (by decide)
    replace e3 := k3.ev e3 (by decide)
    replace e4 := k3.ev e4 (by decide)
    replace hz := k3.size.trans hz
    replace hd := k3.defers.trans hd
    have e21 := f21
    clear f21
    cases t with
    | true =>
      refine wp_cond_true e21 ?_
      refine wp_seq ?_
      clear hq
      refine seq_startL (l := [0, 1]) (by kernel_rfl) ?_
      refine seq_valD 22 (v := (.agg #[.int .i64 ((N : Nat) : Int), .slice p.A N p.cap])) rfl rfl rfl (run_ldR rfl e3 (x3.cell 0) (x3.cell 1)) ?_
      refine seq_skipD rfl rfl rfl (run_stR rfl ((ev_ne (by decide)).trans e2) (ev_same (by first | (rw [hz]; decide) | (simp only [size_put, hz]; decide))) x2) ?_
      have y2 : RowT ((w2.setCell ⟨b2, 0, none⟩ (.int .i64 ((N : Nat) : Int))).setCell ⟨b2, 1, none⟩ (.slice p.A N p.cap)) b2 26 [.int .i64 ((N : Nat) : Int), .slice p.A N p.cap] := (x2.set_ 0 _).set_ 1 _
      replace x3 := (x3.far (p := ⟨b2, 0, none⟩) nx2_3.symm (.int .i64 ((N : Nat) : Int))).far (p := ⟨b2, 1, none⟩) nx2_3.symm (.slice p.A N p.cap)
      replace hp := good_box hp x2 (.int .i64 ((N : Nat) : Int)) (.slice p.A N p.cap)
      replace hB := (hB.setCell (p := ⟨b2, 0, none⟩) hge2 (.int .i64 ((N : Nat) : Int))).setCell (p := ⟨b2, 1, none⟩) hge2 (.slice p.A N p.cap)
      have x2 := y2
      clear y2
      generalize ((w2.setCell ⟨b2, 0, none⟩ (.int .i64 ((N : Nat) : Int))).setCell ⟨b2, 1, none⟩ (.slice p.A N p.cap)) = w4 at x2 x3 hp hB ⊢
      replace hS := hB.size
      refine seq_nil ?_
      refine seq_out ((KeepM.refl 5 [] a3).put (by decide)) fun a5 k5 tr => ?_
      clear tr
      replace e2 := k5.ev e2 (by decide)
      replace e3 := k5.ev e3 (by decide)
      replace e4 := k5.ev e4 (by decide)
      replace hz := k5.size.trans hz
      replace hd := k5.defers.trans hd
      refine wp_ret ?_
      have hdone := plus_done hR hpo hpn hqp ht hsub hsup h64
      exact post_cell rfl hd e2 x2 ⟨p, by rw [hpn, hpl], Lib.hid (by unfold RA.pr; rw [hpn, hdone]), Lib.hid hp, hB⟩
    | false =>
      refine wp_cond_false e21 ?_
      refine wp_skip ?_
      have c40 := x4.cell 0
      have c41 := x4.cell 1
      clear hp
      refine seq_startL (l := [0, 1]) (by kernel_rfl) ?_
      refine seq_valD 23 (v := (.agg #[.int .i64 ((N : Nat) : Int), .slice q.A N q.cap])) rfl rfl rfl (run_ldR rfl e4 c40 c41) ?_
      refine seq_skipD rfl rfl rfl (run_stR rfl ((ev_ne (by decide)).trans e3) (ev_same (by first | (rw [hz]; decide) | (simp only [size_put, hz]; decide))) x3) ?_
      have y3 : RowT ((w2.setCell ⟨b3, 0, none⟩ (.int .i64 ((N : Nat) : Int))).setCell ⟨b3, 1, none⟩ (.slice q.A N q.cap)) b3 26 [.int .i64 ((N : Nat) : Int), .slice q.A N q.cap] := (x3.set_ 0 _).set_ 1 _
      replace x2 := (x2.far (p := ⟨b3, 0, none⟩) nx2_3 (.int .i64 ((N : Nat) : Int))).far (p := ⟨b3, 1, none⟩) nx2_3 (.slice q.A N q.cap)
      replace hq := good_box hq x3 (.int .i64 ((N : Nat) : Int)) (.slice q.A N q.cap)
      replace hB := (hB.setCell (p := ⟨b3, 0, none⟩) hge3 (.int .i64 ((N : Nat) : Int))).setCell (p := ⟨b3, 1, none⟩) hge3 (.slice q.A N q.cap)
      have x3 := y3
      clear y3
      generalize ((w2.setCell ⟨b3, 0, none⟩ (.int .i64 ((N : Nat) : Int))).setCell ⟨b3, 1, none⟩ (.slice q.A N q.cap)) = w6 at x2 x3 hq hB ⊢
      replace hS := hB.size
      refine seq_nil ?_
      refine seq_out ((KeepM.refl 5 [] a3).put (by decide)) fun a7 k7 tr => ?_
      clear tr
      replace e2 := k7.ev e2 (by decide)
      replace e3 := k7.ev e3 (by decide)
      replace e4 := k7.ev e4 (by decide)
      replace hz := k7.size.trans hz
      replace hd := k7.defers.trans hd
      have hgrow := plus_grows hpo hqR hpn hqp ht hqE
      have hcq := cnt_le q.rows
      obtain ⟨f, rfl⟩ : ∃ f, fuel = f + 1 := ⟨fuel - 1, by omega⟩
      exact ih f (by omega) a7 w6 q hz hd e2 e3 hqn hql hqR (fun i j h => hqE i j (hsub i j h)) (fun i j h => plus_in hR hpn hpo hqp h64 hsup h) (by omega) x2 x3 hq hB
set_option maxRecDepth 100000 in
set_option maxHeartbeats 4000000 in
theorem rPlus_ok (r : RA) (N : Nat) (w0 : World) (hT : Tab w0) (hr : r.good w0) (hsr : Short r.pr) (ho : r.ok = true) (hnr : r.n = (N : Nat)) (hlr : r.rows.length = N) (h64 : N ≤ 64) (hR : OKR N r.rows) : Calls Tryd.prog 44 #[r.val] w0 (RetR w0 ⟨((N : Nat) : Int), plusL r.rows⟩) := by
  have hrv : r.val = (.agg #[.int .i64 ((N : Nat) : Int), .slice r.A N r.cap]) := by unfold RA.val; rw [hnr, hlr]
  rw [hrv]
  refine calls_of_wp Tryd.func44 rfl ?_
  obtain ⟨hz, e0⟩ := start_act1 24 ((.agg #[.int .i64 ((N : Nat) : Int), .slice r.A N r.cap])) (by decide)
  have hd : ({ tmps := #[(.agg #[.int .i64 ((N : Nat) : Int), .slice r.A N r.cap])] ++ Array.replicate (24 - 1) undef, defers := [] } : Act).defers = [] := rfl
  rw [show Tryd.f44.ntmps - (#[(.agg #[.int .i64 ((N : Nat) : Int), .slice r.A N r.cap])] : Array Value).size = 24 - 1 from rfl]
  generalize ({ tmps := #[(.agg #[.int .i64 ((N : Nat) : Int), .slice r.A N r.cap])] ++ Array.replicate (24 - 1) undef, defers := [] } : Act) = a0 at hz e0 hd ⊢
  have hB : Below w0.heap.size w0 w0 := Below.refl _ _
  have hS := hB.size
  refine wp_seq ?_
  refine seq_startL (l := [0, 1]) (by kernel_rfl) ?_
  refine seq_valD 1 rfl rfl rfl (run_boxC rfl e0) ?_
  have x1 := RowT.new w0 26 [.int .i64 ((N : Nat) : Int), .slice r.A N r.cap]
  replace hB := hB.al (o := .cells ([.int .i64 ((N : Nat) : Int), .slice r.A N r.cap] : List Value).toArray 26)
  change wpOps _ _ _ _ _ (w0.alloc (.cells ([.int .i64 ((N : Nat) : Int), .slice r.A N r.cap] : List Value).toArray 26))
  generalize (w0.alloc (.cells ([.int .i64 ((N : Nat) : Int), .slice r.A N r.cap] : List Value).toArray 26)) = w1 at x1 hB ⊢
  generalize hbq1 : w0.heap.size = b1 at x1 ⊢
  have hge1 : w0.heap.size ≤ b1 := by rw [← hbq1]; exact hS
  clear hbq1
  have hS := hB.size
  refine seq_valD 2 rfl rfl rfl (run_allocR rfl rfl) ?_
  have nx1_2 : b1 ≠ w1.heap.size := Nat.ne_of_lt x1.lt
  have x2 := RowT.new w1 26 [.int .i64 0, .slice none 0 0]
  replace x1 := x1.alloc (.cells ([.int .i64 0, .slice none 0 0] : List Value).toArray 26)
  replace hB := hB.al (o := .cells ([.int .i64 0, .slice none 0 0] : List Value).toArray 26)
  change wpOps _ _ _ _ _ (w1.alloc (.cells ([.int .i64 0, .slice none 0 0] : List Value).toArray 26))
  generalize (w1.alloc (.cells ([.int .i64 0, .slice none 0 0] : List Value).toArray 26)) = w2 at x1 x2 hB ⊢
  generalize hbq2 : w1.heap.size = b2 at x2 nx1_2 ⊢
  have hge2 : w0.heap.size ≤ b2 := by rw [← hbq2]; exact hS
  clear hbq2
  have hS := hB.size
  refine seq_nil ?_
  refine seq_out (((KeepM.refl 5 [1, 2] a0).put (by decide)).put (by decide)) fun a3 k3 tr => ?_
  have f1 := tr 1 (.pointer (some ⟨b1, 0, none⟩)) ((ev_ne (by decide)).trans (ev_same (by first | (rw [hz]; decide) | (simp only [size_put, hz]; decide))))
  have f2 := tr 2 (.pointer (some ⟨b2, 0, none⟩)) (ev_same (by first | (rw [hz]; decide) | (simp only [size_put, hz]; decide)))
  clear tr
  replace e0 := k3.ev e0 (by decide)
  replace hz := k3.size.trans hz
  replace hd := k3.defers.trans hd
  have e1 := f1
  clear f1
  have e2 := f2
  clear f2
  refine wp_seq ?_
  refine wp_seq ?_
  refine seq_startL (l := [0, 1, 2]) (by kernel_rfl) ?_
  refine seq_valD 5 (v := (.agg #[.int .i64 ((N : Nat) : Int), .slice r.A N r.cap])) rfl rfl rfl (run_ldR rfl e1 (x1.cell 0) (x1.cell 1)) ?_
  refine seq_callD 6 rfl rfl rfl en_rCheck rfl (args_one (ev_same (by first | (rw [hz]; decide) | (simp only [size_put, hz]; decide)))) ((hrv ▸ C_rCheck r w2 (hT.on hB) (hr.on hB) hsr).mono ?_)
  rintro e w4 ⟨rfl, hb4⟩
  refine ⟨_, rfl, ?_⟩
  replace x1 := x1.below hb4 x1.lt
  replace x2 := x2.below hb4 x2.lt
  replace hB := Below.next hB hb4
  replace hS := hB.size
  refine seq_valD 7 (v := (.bool false)) rfl rfl rfl ((run_neE rfl (ev_same (by first | (rw [hz]; decide) | (simp only [size_put, hz]; decide))) rfl).trans (okB (c := false) (by rw [chk_yes ho]; rfl))) ?_
  refine seq_nil ?_
  refine seq_out ((((KeepM.refl 5 [] a3).put (by decide)).put (by decide)).put (by decide)) fun a5 k5 tr => ?_
  have f7 := tr 7 (.bool false) (ev_same (by first | (rw [hz]; decide) | (simp only [size_put, hz]; decide)))
  clear tr
  replace e1 := k5.ev e1 (by decide)
  replace e2 := k5.ev e2 (by decide)
  replace hz := k5.size.trans hz
  replace hd := k5.defers.trans hd
  have e7 := f7
  clear f7
  refine wp_cond_false e7 ?_
  refine wp_skip ?_
  refine wp_seq ?_
  refine seq_startL (l := [0, 1, 2, 3, 4]) (by kernel_rfl) ?_
  refine seq_valD 9 (v := (.agg #[.int .i64 ((N : Nat) : Int), .slice r.A N r.cap])) rfl rfl rfl (run_ldR rfl e1 (x1.cell 0) (x1.cell 1)) ?_
  refine seq_valD 10 rfl rfl rfl (run_rels1 (a1 := r) rfl ((ev_same (by first | (rw [hz]; decide) | (simp only [size_put, hz]; decide))).trans hrv.symm)) ?_
  have nx1_10 : b1 ≠ w4.heap.size := Nat.ne_of_lt x1.lt
  have nx2_10 : b2 ≠ w4.heap.size := Nat.ne_of_lt x2.lt
  have x10 := RowT.new w4 26 ([r].flatMap RA.cells)
  replace x1 := x1.alloc (.cells (([r].flatMap RA.cells) : List Value).toArray 26)
  replace x2 := x2.alloc (.cells (([r].flatMap RA.cells) : List Value).toArray 26)
  replace hB := hB.al (o := .cells (([r].flatMap RA.cells) : List Value).toArray 26)
  change wpOps _ _ _ _ _ (w4.alloc (.cells (([r].flatMap RA.cells) : List Value).toArray 26))
  generalize (w4.alloc (.cells (([r].flatMap RA.cells) : List Value).toArray 26)) = w6 at x1 x2 x10 hB ⊢
  generalize hbq10 : w4.heap.size = b10 at x10 nx1_10 nx2_10 ⊢
  have hge10 : w0.heap.size ≤ b10 := by rw [← hbq10]; exact hS
  clear hbq10
  have hS := hB.size
  refine seq_callD 11 rfl rfl rfl en_rOr rfl (args_one (ev_same (by first | (rw [hz]; decide) | (simp only [size_put, hz]; decide)))) ((C_rOr [r] b10 w6 (hT.on hB) (by simp) x10 (fun a ha => by rw [List.mem_singleton.1 ha]; exact hr.on hB)).mono ?_)
  rintro e w7 ⟨p, rfl, hpp, hp, hb7⟩
  refine ⟨_, rfl, ?_⟩
  replace x1 := x1.below hb7 x1.lt
  replace x2 := x2.below hb7 x2.lt
  replace x10 := x10.below hb7 x10.lt
  replace hB := Below.next hB hb7
  replace hS := hB.size
  obtain ⟨hpn, hpr, hpl⟩ := then_first (a := r) ho hlr hpp.out
  replace hp := hp.out
  rw [hpn, hpl]
  refine seq_valD 3 rfl rfl rfl (run_allocR rfl rfl) ?_
  have nx1_3 : b1 ≠ w7.heap.size := Nat.ne_of_lt x1.lt
  have nx2_3 : b2 ≠ w7.heap.size := Nat.ne_of_lt x2.lt
  have nx10_3 : b10 ≠ w7.heap.size := Nat.ne_of_lt x10.lt
  have x3 := RowT.new w7 26 [.int .i64 0, .slice none 0 0]
  replace x1 := x1.alloc (.cells ([.int .i64 0, .slice none 0 0] : List Value).toArray 26)
  replace x2 := x2.alloc (.cells ([.int .i64 0, .slice none 0 0] : List Value).toArray 26)
  replace x10 := x10.alloc (.cells ([.int .i64 0, .slice none 0 0] : List Value).toArray 26)
  replace hp := hp.on (below_alloc w7 (.cells ([.int .i64 0, .slice none 0 0] : List Value).toArray 26))
  replace hB := hB.al (o := .cells ([.int .i64 0, .slice none 0 0] : List Value).toArray 26)
  change wpOps _ _ _ _ _ (w7.alloc (.cells ([.int .i64 0, .slice none 0 0] : List Value).toArray 26))
  generalize (w7.alloc (.cells ([.int .i64 0, .slice none 0 0] : List Value).toArray 26)) = w8 at x1 x2 x10 x3 hp hB ⊢
  generalize hbq3 : w7.heap.size = b3 at x3 nx1_3 nx2_3 nx10_3 ⊢
  have hge3 : w0.heap.size ≤ b3 := by rw [← hbq3]; exact hS
  clear hbq3
  have hS := hB.size
  refine seq_skipD rfl rfl rfl (run_stR rfl (ev_same (by first | (rw [hz]; decide) | (simp only [size_put, hz]; decide))) ((ev_ne (by decide)).trans (ev_same (by first | (rw [hz]; decide) | (simp only [size_put, hz]; decide)))) x3) ?_
  have y3 : RowT ((w8.setCell ⟨b3, 0, none⟩ (.int .i64 ((N : Nat) : Int))).setCell ⟨b3, 1, none⟩ (.slice p.A N p.cap)) b3 26 [.int .i64 ((N : Nat) : Int), .slice p.A N p.cap] := (x3.set_ 0 _).set_ 1 _
  replace x1 := (x1.far (p := ⟨b3, 0, none⟩) nx1_3 (.int .i64 ((N : Nat) : Int))).far (p := ⟨b3, 1, none⟩) nx1_3 (.slice p.A N p.cap)
  replace x2 := (x2.far (p := ⟨b3, 0, none⟩) nx2_3 (.int .i64 ((N : Nat) : Int))).far (p := ⟨b3, 1, none⟩) nx2_3 (.slice p.A N p.cap)
  replace x10 := (x10.far (p := ⟨b3, 0, none⟩) nx10_3 (.int .i64 ((N : Nat) : Int))).far (p := ⟨b3, 1, none⟩) nx10_3 (.slice p.A N p.cap)
  replace hp := good_box hp x3 (.int .i64 ((N : Nat) : Int)) (.slice p.A N p.cap)
  replace hB := (hB.setCell (p := ⟨b3, 0, none⟩) hge3 (.int .i64 ((N : Nat) : Int))).setCell (p := ⟨b3, 1, none⟩) hge3 (.slice p.A N p.cap)
  have x3 := y3
  clear y3
  generalize ((w8.setCell ⟨b3, 0, none⟩ (.int .i64 ((N : Nat) : Int))).setCell ⟨b3, 1, none⟩ (.slice p.A N p.cap)) = w9 at x1 x2 x10 x3 hp hB ⊢
  replace hS := hB.size
  refine seq_nil ?_
  refine seq_out (((((KeepM.refl 5 [3] a5).put (by decide)).put (by decide)).put (by decide)).put (by decide)) fun a10 k10 tr => ?_
  have f3 := tr 3 (.pointer (some ⟨b3, 0, none⟩)) (ev_same (by first | (rw [hz]; decide) | (simp only [size_put, hz]; decide)))
  clear tr
  replace e1 := k10.ev e1 (by decide)
  replace e2 := k10.ev e2 (by decide)
  replace hz := k10.size.trans hz
  replace hd := k10.defers.trans hd
  have e3 := f3
  clear f3
  clear x10
  have hprr : p.rows = r.rows := congrArg PR.rows (hpp.out.trans (por_one ho))
  refine wp_block ?_
  refine wp_loop_rounds (4096 + 1) ?_
  exact plus_rounds r N b2 b3 w0 h64 hR hT 4096 a10 w9 p hz hd e2 e3 hpn hpl (by rw [hprr]; exact hR) (fun i j h => by rw [hprr]; exact h) (fun i j h => plusL_has (by rw [hprr] at h; exact h)) (Nat.le_add_left _ _) x2 x3 hp hge2 hge3 nx2_3 hB
set_option maxRecDepth 100000 in
theorem rPlus_bad (r : RA) (w0 : World) (hT : Tab w0) (hr : r.good w0) (hsr : Short r.pr) (ho : r.ok = false) : Calls Tryd.prog 44 #[r.val] w0 (RetR w0 PR.zero) := by
  have hrv : r.val = (.agg #[.int .i64 r.n, .slice r.A r.rows.length r.cap]) := rfl
  rw [hrv]
  refine calls_of_wp Tryd.func44 rfl ?_
  obtain ⟨hz, e0⟩ := start_act1 24 ((.agg #[.int .i64 r.n, .slice r.A r.rows.length r.cap])) (by decide)
  have hd : ({ tmps := #[(.agg #[.int .i64 r.n, .slice r.A r.rows.length r.cap])] ++ Array.replicate (24 - 1) undef, defers := [] } : Act).defers = [] := rfl
  rw [show Tryd.f44.ntmps - (#[(.agg #[.int .i64 r.n, .slice r.A r.rows.length r.cap])] : Array Value).size = 24 - 1 from rfl]
  generalize ({ tmps := #[(.agg #[.int .i64 r.n, .slice r.A r.rows.length r.cap])] ++ Array.replicate (24 - 1) undef, defers := [] } : Act) = a0 at hz e0 hd ⊢
  have hB : Below w0.heap.size w0 w0 := Below.refl _ _
  have hS := hB.size
  refine wp_seq ?_
  refine seq_startL (l := [0, 1]) (by kernel_rfl) ?_
  refine seq_valD 1 rfl rfl rfl (run_boxC rfl e0) ?_
  have x1 := RowT.new w0 26 [.int .i64 r.n, .slice r.A r.rows.length r.cap]
  replace hB := hB.al (o := .cells ([.int .i64 r.n, .slice r.A r.rows.length r.cap] : List Value).toArray 26)
  change wpOps _ _ _ _ _ (w0.alloc (.cells ([.int .i64 r.n, .slice r.A r.rows.length r.cap] : List Value).toArray 26))
  generalize (w0.alloc (.cells ([.int .i64 r.n, .slice r.A r.rows.length r.cap] : List Value).toArray 26)) = w1 at x1 hB ⊢
  generalize hbq1 : w0.heap.size = b1 at x1 ⊢
  have hge1 : w0.heap.size ≤ b1 := by rw [← hbq1]; exact hS
  clear hbq1
  have hS := hB.size
  refine seq_valD 2 rfl rfl rfl (run_allocR rfl rfl) ?_
  have nx1_2 : b1 ≠ w1.heap.size := Nat.ne_of_lt x1.lt
  have x2 := RowT.new w1 26 [.int .i64 0, .slice none 0 0]
  replace x1 := x1.alloc (.cells ([.int .i64 0, .slice none 0 0] : List Value).toArray 26)
  replace hB := hB.al (o := .cells ([.int .i64 0, .slice none 0 0] : List Value).toArray 26)
  change wpOps _ _ _ _ _ (w1.alloc (.cells ([.int .i64 0, .slice none 0 0] : List Value).toArray 26))
  generalize (w1.alloc (.cells ([.int .i64 0, .slice none 0 0] : List Value).toArray 26)) = w2 at x1 x2 hB ⊢
  generalize hbq2 : w1.heap.size = b2 at x2 nx1_2 ⊢
  have hge2 : w0.heap.size ≤ b2 := by rw [← hbq2]; exact hS
  clear hbq2
  have hS := hB.size
  refine seq_nil ?_
  refine seq_out (((KeepM.refl 5 [1, 2] a0).put (by decide)).put (by decide)) fun a3 k3 tr => ?_
  have f1 := tr 1 (.pointer (some ⟨b1, 0, none⟩)) ((ev_ne (by decide)).trans (ev_same (by first | (rw [hz]; decide) | (simp only [size_put, hz]; decide))))
  have f2 := tr 2 (.pointer (some ⟨b2, 0, none⟩)) (ev_same (by first | (rw [hz]; decide) | (simp only [size_put, hz]; decide)))
  clear tr
  replace e0 := k3.ev e0 (by decide)
  replace hz := k3.size.trans hz
  replace hd := k3.defers.trans hd
  have e1 := f1
  clear f1
  have e2 := f2
  clear f2
  refine wp_seq ?_
  refine wp_seq ?_
  refine seq_startL (l := [0, 1, 2]) (by kernel_rfl) ?_
  refine seq_valD 5 (v := (.agg #[.int .i64 r.n, .slice r.A r.rows.length r.cap])) rfl rfl rfl (run_ldR rfl e1 (x1.cell 0) (x1.cell 1)) ?_
  refine seq_callD 6 rfl rfl rfl en_rCheck rfl (args_one (ev_same (by first | (rw [hz]; decide) | (simp only [size_put, hz]; decide)))) ((hrv ▸ C_rCheck r w2 (hT.on hB) (hr.on hB) hsr).mono ?_)
  rintro e w4 ⟨rfl, hb4⟩
  refine ⟨_, rfl, ?_⟩
  replace x1 := x1.below hb4 x1.lt
  replace x2 := x2.below hb4 x2.lt
  replace hB := Below.next hB hb4
  replace hS := hB.size
  refine seq_valD 7 (v := (.bool true)) rfl rfl rfl ((run_neE rfl (ev_same (by first | (rw [hz]; decide) | (simp only [size_put, hz]; decide))) rfl).trans (okB (c := true) (by rw [chk_not ho]; rfl))) ?_
  refine seq_nil ?_
  refine seq_out ((((KeepM.refl 5 [] a3).put (by decide)).put (by decide)).put (by decide)) fun a5 k5 tr => ?_
  have f7 := tr 7 (.bool true) (ev_same (by first | (rw [hz]; decide) | (simp only [size_put, hz]; decide)))
  clear tr
  replace e1 := k5.ev e1 (by decide)
  replace e2 := k5.ev e2 (by decide)
  replace hz := k5.size.trans hz
  replace hd := k5.defers.trans hd
  have e7 := f7
  clear f7
  refine wp_cond_true e7 ?_
  refine wp_seq ?_
  refine seq_startL (l := [0, 1]) (by kernel_rfl) ?_
  refine seq_valD 8 (v := (.agg #[.int .i64 0, .slice none 0 0])) rfl rfl rfl (run_rel0 rfl) ?_
  refine seq_skipD rfl rfl rfl (run_stR rfl ((ev_ne (by decide)).trans e2) (ev_same (by first | (rw [hz]; decide) | (simp only [size_put, hz]; decide))) x2) ?_
  have y2 : RowT ((w4.setCell ⟨b2, 0, none⟩ (.int .i64 0)).setCell ⟨b2, 1, none⟩ (.slice none 0 0)) b2 26 [.int .i64 0, .slice none 0 0] := (x2.set_ 0 _).set_ 1 _
  replace x1 := (x1.far (p := ⟨b2, 0, none⟩) nx1_2 (.int .i64 0)).far (p := ⟨b2, 1, none⟩) nx1_2 (.slice none 0 0)
  replace hB := (hB.setCell (p := ⟨b2, 0, none⟩) hge2 (.int .i64 0)).setCell (p := ⟨b2, 1, none⟩) hge2 (.slice none 0 0)
  have x2 := y2
  clear y2
  generalize ((w4.setCell ⟨b2, 0, none⟩ (.int .i64 0)).setCell ⟨b2, 1, none⟩ (.slice none 0 0)) = w6 at x1 x2 hB ⊢
  replace hS := hB.size
  refine seq_nil ?_
  refine seq_out ((KeepM.refl 5 [] a5).put (by decide)) fun a7 k7 tr => ?_
  clear tr
  replace e1 := k7.ev e1 (by decide)
  replace e2 := k7.ev e2 (by decide)
  replace hz := k7.size.trans hz
  replace hd := k7.defers.trans hd
  refine wp_ret ?_
  exact post_cell rfl hd e2 x2 (fin_Z hB)
theorem en_rPlus : Enters Tryd.prog 44 := enters_of Tryd.func44 (by kernel_rfl) rfl
theorem C_rPlus : CallRR 44 Pplus := fun r w hT hr hsr => by
  unfold Pplus
  cases ho : r.ok with
  | false => rw [if_neg (fun e => by rw [show r.pr.ok = r.ok from rfl, ho] at e; cases e)]; exact rPlus_bad r w hT hr hsr ho
  | true =>
    obtain ⟨h1, h2, h3⟩ := (PR.ok_iff r.pr).1 ho
    rw [if_pos (show r.pr.ok = true from ho), show r.pr.n = ((r.rows.length : Nat) : Int) from h1]
    exact rPlus_ok r r.rows.length w hT hr hsr ho h1 rfl h2 ⟨rfl, h3⟩
end Go.Proofs.YtigdecmfieaacaaDoor
