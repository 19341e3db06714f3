/-
  The statement RelCalls answers true: relations are put together, closed, sorted and told as the document says.
-/
import Derived.Test.YtigdecmfieaacaaDoorC6
namespace Go.Proofs.YtigdecmfieaacaaDoor
open Go Go.RowKit

theorem sort_short (r : PR) {l : List Int} {b : Bool} (h : Psort r = (l, b)) : l.length ≤ 9223372036854775807 := by
  unfold Psort at h
  split at h
  · rename_i ho
    cases b with
    | false => rw [sortR_no h]; simp
    | true =>
      have hR := IsR.of_ok ho
      obtain ⟨s, rfl, ht⟩ := sortR_yes hR.2.2.1 hR.2.1 h
      have := Topo.len s _ (pow_u hR.2.1) ht
      have := pc_le (2 ^ r.rows.length - 1)
      simp [castI]; omega
  · obtain ⟨rfl, _⟩ := Prod.mk.inj h; simp
set_option maxRecDepth 100000 in
set_option maxHeartbeats 8000000 in
theorem calls_yes (a b c : RA) (f t : Nat) (w0 : World) (hT : Tab w0) (ha : a.good w0) (hsa : Short a.pr) (hb : b.good w0) (hsb : Short b.pr) (hc : c.good w0) (hsc : Short c.pr) (hf : f < 18446744073709551616) (ht : t < 18446744073709551616) :
    Calls Tryd.prog 5 #[a.val, b.val, c.val, .int .u64 ((f : Nat) : Int), .int .u64 ((t : Nat) : Int)] w0 (Ret w0 (.bool true)) := by
  obtain ⟨⟨l, bs⟩, hps⟩ : ∃ lb, Psort a.pr = lb := ⟨_, rfl⟩
  have hlen := sort_short a.pr hps
  obtain ⟨tA, hA⟩ : ∃ x, Pacyclic a.pr = x := ⟨_, rfl⟩
  obtain ⟨tS, hSm⟩ : ∃ x, Psame a.pr b.pr = x := ⟨_, rfl⟩
  have hav : a.val = (.agg #[.int .i64 a.n, .slice a.A a.rows.length a.cap]) := rfl
  have hbv : b.val = (.agg #[.int .i64 b.n, .slice b.A b.rows.length b.cap]) := rfl
  have hcv : c.val = (.agg #[.int .i64 c.n, .slice c.A c.rows.length c.cap]) := rfl
  rw [hav, hbv, hcv]
  refine calls_of_wp Tryd.func5 rfl ?_
  obtain ⟨hz, e0, e1, e2, e3, e4⟩ := start_act5 150 ((.agg #[.int .i64 a.n, .slice a.A a.rows.length a.cap])) ((.agg #[.int .i64 b.n, .slice b.A b.rows.length b.cap])) ((.agg #[.int .i64 c.n, .slice c.A c.rows.length c.cap])) ((.int .u64 ((f : Nat) : Int))) ((.int .u64 ((t : Nat) : Int))) (by decide)
  have hd : ({ tmps := #[(.agg #[.int .i64 a.n, .slice a.A a.rows.length a.cap]), (.agg #[.int .i64 b.n, .slice b.A b.rows.length b.cap]), (.agg #[.int .i64 c.n, .slice c.A c.rows.length c.cap]), (.int .u64 ((f : Nat) : Int)), (.int .u64 ((t : Nat) : Int))] ++ Array.replicate (150 - 5) undef, defers := [] } : Act).defers = [] := rfl
  rw [show Tryd.f5.ntmps - (#[(.agg #[.int .i64 a.n, .slice a.A a.rows.length a.cap]), (.agg #[.int .i64 b.n, .slice b.A b.rows.length b.cap]), (.agg #[.int .i64 c.n, .slice c.A c.rows.length c.cap]), (.int .u64 ((f : Nat) : Int)), (.int .u64 ((t : Nat) : Int))] : Array Value).size = 150 - 5 from rfl]
  generalize ({ tmps := #[(.agg #[.int .i64 a.n, .slice a.A a.rows.length a.cap]), (.agg #[.int .i64 b.n, .slice b.A b.rows.length b.cap]), (.agg #[.int .i64 c.n, .slice c.A c.rows.length c.cap]), (.int .u64 ((f : Nat) : Int)), (.int .u64 ((t : Nat) : Int))] ++ Array.replicate (150 - 5) undef, defers := [] } : Act) = a0 at hz e0 e1 e2 e3 e4 hd ⊢
  have hB : Below w0.heap.size w0 w0 := Below.refl _ _
  have hS := hB.size
  refine wp_seq ?_
  refine seq_startL (l := [0, 1, 2, 3]) (by kernel_rfl) ?_
  refine seq_valD 5 rfl rfl rfl (run_boxC rfl e0) ?_
  have x5 := RowT.new w0 26 [.int .i64 a.n, .slice a.A a.rows.length a.cap]
  replace hB := hB.al (o := .cells ([.int .i64 a.n, .slice a.A a.rows.length a.cap] : List Value).toArray 26)
  change wpOps _ _ _ _ _ (w0.alloc (.cells ([.int .i64 a.n, .slice a.A a.rows.length a.cap] : List Value).toArray 26))
  generalize (w0.alloc (.cells ([.int .i64 a.n, .slice a.A a.rows.length a.cap] : List Value).toArray 26)) = w1 at x5 hB ⊢
  generalize hbq5 : w0.heap.size = b5 at x5 ⊢
  have hge5 : w0.heap.size ≤ b5 := by rw [← hbq5]; exact hS
  clear hbq5
  have hS := hB.size
  refine seq_valD 6 rfl rfl rfl (run_boxC rfl ((ev_ne (by decide)).trans e1)) ?_
  have nx5_6 : b5 ≠ w1.heap.size := Nat.ne_of_lt x5.lt
  have x6 := RowT.new w1 26 [.int .i64 b.n, .slice b.A b.rows.length b.cap]
  replace x5 := x5.alloc (.cells ([.int .i64 b.n, .slice b.A b.rows.length b.cap] : List Value).toArray 26)
  replace hB := hB.al (o := .cells ([.int .i64 b.n, .slice b.A b.rows.length b.cap] : List Value).toArray 26)
  change wpOps _ _ _ _ _ (w1.alloc (.cells ([.int .i64 b.n, .slice b.A b.rows.length b.cap] : List Value).toArray 26))
  generalize (w1.alloc (.cells ([.int .i64 b.n, .slice b.A b.rows.length b.cap] : List Value).toArray 26)) = w2 at x5 x6 hB ⊢
  generalize hbq6 : w1.heap.size = b6 at x6 nx5_6 ⊢
  have hge6 : w0.heap.size ≤ b6 := by rw [← hbq6]; exact hS
  clear hbq6
  have hS := hB.size
  refine seq_valD 7 rfl rfl rfl (run_boxC rfl ((ev_ne (by decide)).trans ((ev_ne (by decide)).trans e2))) ?_
  have nx5_7 : b5 ≠ w2.heap.size := Nat.ne_of_lt x5.lt
  have nx6_7 : b6 ≠ w2.heap.size := Nat.ne_of_lt x6.lt
  have x7 := RowT.new w2 26 [.int .i64 c.n, .slice c.A c.rows.length c.cap]
  replace x5 := x5.alloc (.cells ([.int .i64 c.n, .slice c.A c.rows.length c.cap] : List Value).toArray 26)
  replace x6 := x6.alloc (.cells ([.int .i64 c.n, .slice c.A c.rows.length c.cap] : List Value).toArray 26)
  replace hB := hB.al (o := .cells ([.int .i64 c.n, .slice c.A c.rows.length c.cap] : List Value).toArray 26)
  change wpOps _ _ _ _ _ (w2.alloc (.cells ([.int .i64 c.n, .slice c.A c.rows.length c.cap] : List Value).toArray 26))
  generalize (w2.alloc (.cells ([.int .i64 c.n, .slice c.A c.rows.length c.cap] : List Value).toArray 26)) = w3 at x5 x6 x7 hB ⊢
  generalize hbq7 : w2.heap.size = b7 at x7 nx5_7 nx6_7 ⊢
  have hge7 : w0.heap.size ≤ b7 := by rw [← hbq7]; exact hS
  clear hbq7
  have hS := hB.size
  refine seq_assign 10 (v := (.bool false)) rfl rfl rfl rfl rfl ?_
  refine seq_nil ?_
  refine seq_out (((((KeepM.refl 15 [5, 6, 7, 10] a0).put (by decide)).put (by decide)).put (by decide)).put (by decide)) fun a4 k4 tr => ?_
  have f5 := tr 5 (.pointer (some ⟨b5, 0, none⟩)) ((ev_ne (by decide)).trans ((ev_ne (by decide)).trans ((ev_ne (by decide)).trans (ev_same (by first | (rw [hz]; decide) | (simp only [size_put, hz]; decide))))))
  have f6 := tr 6 (.pointer (some ⟨b6, 0, none⟩)) ((ev_ne (by decide)).trans ((ev_ne (by decide)).trans (ev_same (by first | (rw [hz]; decide) | (simp only [size_put, hz]; decide)))))
  have f7 := tr 7 (.pointer (some ⟨b7, 0, none⟩)) ((ev_ne (by decide)).trans (ev_same (by first | (rw [hz]; decide) | (simp only [size_put, hz]; decide))))
  have f10 := tr 10 (.bool false) (ev_same (by first | (rw [hz]; decide) | (simp only [size_put, hz]; decide)))
  clear tr
  replace e0 := k4.ev e0 (by decide)
  replace e1 := k4.ev e1 (by decide)
  replace e2 := k4.ev e2 (by decide)
  replace e3 := k4.ev e3 (by decide)
  replace e4 := k4.ev e4 (by decide)
  replace hz := k4.size.trans hz
  replace hd := k4.defers.trans hd
  have e5 := f5
  clear f5
  have e6 := f6
  clear f6
  have e7 := f7
  clear f7
  have e10 := f10
  clear f10
  change RowT _ _ _ a.cells at x5
  change RowT _ _ _ b.cells at x6
  change RowT _ _ _ c.cells at x7
  refine wp_seq ?_
  refine wp_seq ?_
  refine seq_startL (l := [0, 1]) (by kernel_rfl) ?_
  refine seq_callD 15 rfl rfl rfl en_lives rfl (by simp) ((lives_yes w3 (hT.on hB)).mono ?_)
  rintro e w5 ⟨rfl, hb5⟩
  refine ⟨_, rfl, ?_⟩
  replace x5 := x5.below hb5 x5.lt
  replace x6 := x6.below hb5 x6.lt
  replace x7 := x7.below hb5 x7.lt
  replace hB := Below.next hB hb5
  replace hS := hB.size
  refine seq_valD 16 (v := (.bool false)) rfl rfl rfl (run_not rfl (ev_same (by first | (rw [hz]; decide) | (simp only [size_put, hz]; decide)))) ?_
  refine seq_nil ?_
  refine seq_out (((KeepM.refl 15 [] a4).put (by decide)).put (by decide)) fun a6 k6 tr => ?_
  have f16 := tr 16 (.bool false) (ev_same (by first | (rw [hz]; decide) | (simp only [size_put, hz]; decide)))
  clear tr
  replace e3 := k6.ev e3 (by decide)
  replace e4 := k6.ev e4 (by decide)
  replace e5 := k6.ev e5 (by decide)
  replace e6 := k6.ev e6 (by decide)
  replace e7 := k6.ev e7 (by decide)
  replace e10 := k6.ev e10 (by decide)
  replace hz := k6.size.trans hz
  replace hd := k6.defers.trans hd
  have e16 := f16
  clear f16
  refine wp_cond_false e16 ?_
  refine wp_skip ?_
  refine wp_seq ?_
  refine seq_startL (l := [0, 1, 2, 3, 4, 5, 6]) (by kernel_rfl) ?_
  refine seq_valD 18 (v := (.agg #[.int .i64 a.n, .slice a.A a.rows.length a.cap])) rfl rfl rfl (run_ldR rfl e5 (x5.cell 0) (x5.cell 1)) ?_
  refine seq_callD 19 rfl rfl rfl en_Sort rfl (args_one (ev_same (by first | (rw [hz]; decide) | (simp only [size_put, hz]; decide)))) ((sort_c (a := a) w5 hps (hT.on hB) (ha.on hB)).mono ?_)
  rintro e w7 ⟨A1, c1, rfl, hrd1, hb7⟩
  refine ⟨_, rfl, ?_⟩
  replace x5 := x5.below hb7 x5.lt
  replace x6 := x6.below hb7 x6.lt
  replace x7 := x7.below hb7 x7.lt
  replace hB := Below.next hB hb7
  replace hS := hB.size
  replace hrd1 := hrd1.out
  refine seq_move 17 (v := (.tuple #[(.slice A1 l.length c1), (.bool bs)])) rfl rfl rfl rfl (ev_same (by first | (rw [hz]; decide) | (simp only [size_put, hz]; decide))) ?_
  refine seq_valD 20 (v := (.slice A1 l.length c1)) rfl rfl rfl (run_ext0 rfl (ev_same (by first | (rw [hz]; decide) | (simp only [size_put, hz]; decide)))) ?_
  refine seq_valD 21 (v := (.bool bs)) rfl rfl rfl (run_ext1 rfl ((ev_ne (by decide)).trans (ev_same (by first | (rw [hz]; decide) | (simp only [size_put, hz]; decide))))) ?_
  refine seq_assign 11 (v := (.slice A1 l.length c1)) rfl rfl rfl rfl ((ev_ne (by decide)).trans (ev_same (by first | (rw [hz]; decide) | (simp only [size_put, hz]; decide)))) ?_
  refine seq_assign 12 (v := (.bool bs)) rfl rfl rfl rfl ((ev_ne (by decide)).trans (ev_same (by first | (rw [hz]; decide) | (simp only [size_put, hz]; decide)))) ?_
  refine seq_nil ?_
  refine seq_out ((((((((KeepM.refl 15 [11, 12] a6).put (by decide)).put (by decide)).put (by decide)).put (by decide)).put (by decide)).put (by decide)).put (by decide)) fun a8 k8 tr => ?_
  have f11 := tr 11 (.slice A1 l.length c1) ((ev_ne (by decide)).trans (ev_same (by first | (rw [hz]; decide) | (simp only [size_put, hz]; decide))))
  have f12 := tr 12 (.bool bs) (ev_same (by first | (rw [hz]; decide) | (simp only [size_put, hz]; decide)))
  clear tr
  replace e3 := k8.ev e3 (by decide)
  replace e4 := k8.ev e4 (by decide)
  replace e5 := k8.ev e5 (by decide)
  replace e6 := k8.ev e6 (by decide)
  replace e7 := k8.ev e7 (by decide)
  replace e10 := k8.ev e10 (by decide)
  replace hz := k8.size.trans hz
  replace hd := k8.defers.trans hd
  have e11 := f11
  clear f11
  have e12 := f12
  clear f12
  refine wp_seq ?_
  refine seq_startL (l := [0, 1, 2, 3, 4, 5, 6]) (by kernel_rfl) ?_
  refine seq_valD 23 (v := (.agg #[.int .i64 a.n, .slice a.A a.rows.length a.cap])) rfl rfl rfl (run_ldR rfl e5 (x5.cell 0) (x5.cell 1)) ?_
  refine seq_callD 24 rfl rfl rfl en_rSort rfl (args_one (ev_same (by first | (rw [hz]; decide) | (simp only [size_put, hz]; decide)))) ((rSort_c a w7 l bs hps (hT.on hB) (ha.on hB) hsa).mono ?_)
  rintro e w9 ⟨A2, c2, rfl, hrd2, hb9⟩
  refine ⟨_, rfl, ?_⟩
  replace x5 := x5.below hb9 x5.lt
  replace x6 := x6.below hb9 x6.lt
  replace x7 := x7.below hb9 x7.lt
  replace hB := Below.next hB hb9
  replace hS := hB.size
  replace hrd2 := hrd2.out
  replace hrd1 := hrd1.into hb9
  refine seq_move 22 (v := (.tuple #[(.slice A2 l.length c2), (.bool bs)])) rfl rfl rfl rfl (ev_same (by first | (rw [hz]; decide) | (simp only [size_put, hz]; decide))) ?_
  refine seq_valD 25 (v := (.slice A2 l.length c2)) rfl rfl rfl (run_ext0 rfl (ev_same (by first | (rw [hz]; decide) | (simp only [size_put, hz]; decide)))) ?_
  refine seq_valD 26 (v := (.bool bs)) rfl rfl rfl (run_ext1 rfl ((ev_ne (by decide)).trans (ev_same (by first | (rw [hz]; decide) | (simp only [size_put, hz]; decide))))) ?_
  refine seq_assign 13 (v := (.slice A2 l.length c2)) rfl rfl rfl rfl ((ev_ne (by decide)).trans (ev_same (by first | (rw [hz]; decide) | (simp only [size_put, hz]; decide)))) ?_
  refine seq_assign 14 (v := (.bool bs)) rfl rfl rfl rfl ((ev_ne (by decide)).trans (ev_same (by first | (rw [hz]; decide) | (simp only [size_put, hz]; decide)))) ?_
  refine seq_nil ?_
  refine seq_out ((((((((KeepM.refl 15 [13, 14] a8).put (by decide)).put (by decide)).put (by decide)).put (by decide)).put (by decide)).put (by decide)).put (by decide)) fun a10 k10 tr => ?_
  have f13 := tr 13 (.slice A2 l.length c2) ((ev_ne (by decide)).trans (ev_same (by first | (rw [hz]; decide) | (simp only [size_put, hz]; decide))))
  have f14 := tr 14 (.bool bs) (ev_same (by first | (rw [hz]; decide) | (simp only [size_put, hz]; decide)))
  clear tr
  replace e3 := k10.ev e3 (by decide)
  replace e4 := k10.ev e4 (by decide)
  replace e5 := k10.ev e5 (by decide)
  replace e6 := k10.ev e6 (by decide)
  replace e7 := k10.ev e7 (by decide)
  replace e10 := k10.ev e10 (by decide)
  replace e11 := k10.ev e11 (by decide)
  replace e12 := k10.ev e12 (by decide)
  replace hz := k10.size.trans hz
  replace hd := k10.defers.trans hd
  have e13 := f13
  clear f13
  have e14 := f14
  clear f14
  refine wp_seq ?_
  refine wp_seq ?_
  refine region_ts (n := 42) [Sp.ints l, Sp.ints l, Sp.val (.bool true), Sp.val (.bool false), Sp.val (.bool false), Sp.val (.bool bs), Sp.val (.bool bs), Sp.val (.bool false), Sp.val (.bool false), Sp.val (.bool false), Sp.rel a.pr, Sp.val (.bool tA), Sp.rel a.pr, Sp.val (.bool tA), Sp.val (.bool false), Sp.val (.bool false), Sp.val (.bool false), Sp.rel a.pr, Sp.val (.int .u64 ((f : Nat) : Int)), Sp.val (.int .u64 ((Pimage a.pr f : Nat) : Int)), Sp.rel a.pr, Sp.val (.int .u64 ((f : Nat) : Int)), Sp.val (.int .u64 ((Pimage a.pr f : Nat) : Int)), Sp.val (.bool false), Sp.val (.bool false), Sp.val (.bool false), Sp.rel a.pr, Sp.rel b.pr, Sp.val (.bool tS), Sp.rel a.pr, Sp.rel b.pr, Sp.val (.bool tS), Sp.val (.bool false), Sp.val (.bool false), Sp.val (.bool false), Sp.rel a.pr, Sp.prsl (Ppairs a.pr), Sp.rel a.pr, Sp.prsl (Ppairs a.pr), Sp.val (.bool true), Sp.val (.bool false), Sp.val (.bool false)] w9 (by kernel_rfl) (by rw [hz]; kernel_rfl) (by kernel_rfl) (by kernel_rfl) (by kernel_rfl) (by kernel_rfl) ?_ fun L a11 w11 hL st => ?_
  · refine ⟨⟨⟨⟨⟨⟨⟨⟨⟨⟨⟨⟨⟨⟨⟨⟨⟨⟨⟨⟨⟨⟨⟨⟨⟨⟨⟨⟨⟨⟨⟨⟨⟨⟨⟨⟨⟨⟨⟨⟨⟨⟨trivial, ?_⟩, ?_⟩, ?_⟩, ?_⟩, ?_⟩, ?_⟩, ?_⟩, ?_⟩, ?_⟩, ?_⟩, ?_⟩, ?_⟩, ?_⟩, ?_⟩, ?_⟩, ?_⟩, ?_⟩, ?_⟩, ?_⟩, ?_⟩, ?_⟩, ?_⟩, ?_⟩, ?_⟩, ?_⟩, ?_⟩, ?_⟩, ?_⟩, ?_⟩, ?_⟩, ?_⟩, ?_⟩, ?_⟩, ?_⟩, ?_⟩, ?_⟩, ?_⟩, ?_⟩, ?_⟩, ?_⟩, ?_⟩, ?_⟩
    · intro oo aa ww LL hho hLL haft st; obtain rfl := Option.some.inj hho; exact pay_move st (want_none rfl) rfl (show Sp.holds (Sp.ints l) _ _ _ from (st.outI (by kernel_rfl) (get_of_slice e11) hrd1)) rfl rfl
    · intro oo aa ww LL hho hLL haft st; obtain rfl := Option.some.inj hho; exact pay_move st (want_none rfl) rfl (show Sp.holds (Sp.ints l) _ _ _ from (st.outI (by kernel_rfl) (get_of_slice e13) hrd2)) rfl rfl
    · intro oo aa ww LL hho hLL haft st; obtain rfl := Option.some.inj hho; exact call_Ints st (want_none rfl) rfl (st.arg (j := 0) (aft_of haft (by kernel_rfl)) rfl rfl) (st.arg (j := 1) (aft_of haft (by kernel_rfl)) rfl rfl) hlen rfl
    · intro oo aa ww LL hho hLL haft st; obtain rfl := Option.some.inj hho; exact pay_not st (want_none rfl) rfl (st.arg (j := 2) (aft_of haft (by kernel_rfl)) rfl rfl) rfl
    · intro oo aa ww LL hho hLL haft st; obtain rfl := Option.some.inj hho; exact pay_move st (want_none rfl) rfl (show Sp.holds (Sp.val (.bool false)) _ _ _ from (st.arg (j := 3) (aft_of haft (by kernel_rfl)) rfl rfl)) rfl rfl
    · intro oo aa ww LL hho hLL haft st; obtain rfl := Option.some.inj hho; exact pay_move st (st.want haft rfl (by kernel_rfl) rfl) rfl (show Sp.holds (Sp.val (.bool bs)) _ _ _ from (st.out (by kernel_rfl) (get_of_bool e12))) rfl rfl
    · intro oo aa ww LL hho hLL haft st; obtain rfl := Option.some.inj hho; exact pay_move st (st.want haft rfl (by kernel_rfl) rfl) rfl (show Sp.holds (Sp.val (.bool bs)) _ _ _ from (st.out (by kernel_rfl) (get_of_bool e14))) rfl rfl
    · intro oo aa ww LL hho hLL haft st; obtain rfl := Option.some.inj hho; exact pay_run st (st.want haft rfl (by kernel_rfl) rfl) ((run_neB rfl (st.arg (j := 5) (aft_of haft (by kernel_rfl)) rfl rfl) (st.arg (j := 6) (aft_of haft (by kernel_rfl)) rfl rfl)).trans (okB (c := false) (by cases bs <;> rfl))) rfl
    · intro oo aa ww LL hho hLL haft st; obtain rfl := Option.some.inj hho; exact pay_pick st (want_none rfl) rfl (st.arg (j := 4) (aft_of haft (by kernel_rfl)) rfl rfl) (show Sp.holds (Sp.val (.bool false)) _ _ _ from (st.arg (j := 7) (aft_of haft (by kernel_rfl)) rfl rfl)) rfl rfl
    · intro oo aa ww LL hho hLL haft st; obtain rfl := Option.some.inj hho; exact pay_move st (want_none rfl) rfl (show Sp.holds (Sp.val (.bool false)) _ _ _ from (st.arg (j := 8) (aft_of haft (by kernel_rfl)) rfl rfl)) rfl rfl
    · intro oo aa ww LL hho hLL haft st; obtain rfl := Option.some.inj hho; exact pay_loadR st (st.want haft rfl (by kernel_rfl) rfl) rfl (st.out (by kernel_rfl) (get_of_eval e5)) x5 (ha.on hB) hsa rfl
    · intro oo aa ww LL hho hLL haft st; obtain rfl := Option.some.inj hho; exact call_RV C_Acyclic en_Acyclic (hT.on hB) st (st.want haft rfl (by kernel_rfl) rfl) rfl (st.arg (j := 10) (aft_of haft (by kernel_rfl)) rfl rfl) rfl (congrArg Value.bool hA)
    · intro oo aa ww LL hho hLL haft st; obtain rfl := Option.some.inj hho; exact pay_loadR st (st.want haft rfl (by kernel_rfl) rfl) rfl (st.out (by kernel_rfl) (get_of_eval e5)) x5 (ha.on hB) hsa rfl
    · intro oo aa ww LL hho hLL haft st; obtain rfl := Option.some.inj hho; exact call_RV C_rAcyclic en_rAcyclic (hT.on hB) st (st.want haft rfl (by kernel_rfl) rfl) rfl (st.arg (j := 12) (aft_of haft (by kernel_rfl)) rfl rfl) rfl (congrArg Value.bool hA)
    · intro oo aa ww LL hho hLL haft st; obtain rfl := Option.some.inj hho; exact pay_run st (st.want haft rfl (by kernel_rfl) rfl) ((run_neB rfl (st.arg (j := 11) (aft_of haft (by kernel_rfl)) rfl rfl) (st.arg (j := 13) (aft_of haft (by kernel_rfl)) rfl rfl)).trans (okB (c := false) (by cases tA <;> rfl))) rfl
    · intro oo aa ww LL hho hLL haft st; obtain rfl := Option.some.inj hho; exact pay_pick st (want_none rfl) rfl (st.arg (j := 9) (aft_of haft (by kernel_rfl)) rfl rfl) (show Sp.holds (Sp.val (.bool false)) _ _ _ from (st.arg (j := 14) (aft_of haft (by kernel_rfl)) rfl rfl)) rfl rfl
    · intro oo aa ww LL hho hLL haft st; obtain rfl := Option.some.inj hho; exact pay_move st (want_none rfl) rfl (show Sp.holds (Sp.val (.bool false)) _ _ _ from (st.arg (j := 15) (aft_of haft (by kernel_rfl)) rfl rfl)) rfl rfl
    · intro oo aa ww LL hho hLL haft st; obtain rfl := Option.some.inj hho; exact pay_loadR st (st.want haft rfl (by kernel_rfl) rfl) rfl (st.out (by kernel_rfl) (get_of_eval e5)) x5 (ha.on hB) hsa rfl
    · intro oo aa ww LL hho hLL haft st; obtain rfl := Option.some.inj hho; exact pay_move st (st.want haft rfl (by kernel_rfl) rfl) rfl (show Sp.holds (Sp.val (.int .u64 ((f : Nat) : Int))) _ _ _ from (st.out (by kernel_rfl) (get_of_int e3))) rfl rfl
    · intro oo aa ww LL hho hLL haft st; obtain rfl := Option.some.inj hho; exact call_Im C_Im en_Image (hT.on hB) st (st.want haft rfl (by kernel_rfl) rfl) rfl (st.arg (j := 17) (aft_of haft (by kernel_rfl)) rfl rfl) (st.arg (j := 18) (aft_of haft (by kernel_rfl)) rfl rfl) hf rfl
    · intro oo aa ww LL hho hLL haft st; obtain rfl := Option.some.inj hho; exact pay_loadR st (st.want haft rfl (by kernel_rfl) rfl) rfl (st.out (by kernel_rfl) (get_of_eval e5)) x5 (ha.on hB) hsa rfl
    · intro oo aa ww LL hho hLL haft st; obtain rfl := Option.some.inj hho; exact pay_move st (st.want haft rfl (by kernel_rfl) rfl) rfl (show Sp.holds (Sp.val (.int .u64 ((f : Nat) : Int))) _ _ _ from (st.out (by kernel_rfl) (get_of_int e3))) rfl rfl
    · intro oo aa ww LL hho hLL haft st; obtain rfl := Option.some.inj hho; exact call_Im C_rIm en_rImage (hT.on hB) st (st.want haft rfl (by kernel_rfl) rfl) rfl (st.arg (j := 20) (aft_of haft (by kernel_rfl)) rfl rfl) (st.arg (j := 21) (aft_of haft (by kernel_rfl)) rfl rfl) hf rfl
    · intro oo aa ww LL hho hLL haft st; obtain rfl := Option.some.inj hho; exact pay_run st (st.want haft rfl (by kernel_rfl) rfl) ((run_neU rfl (st.arg (j := 19) (aft_of haft (by kernel_rfl)) rfl rfl) (st.arg (j := 22) (aft_of haft (by kernel_rfl)) rfl rfl)).trans (okB (c := false) (by simp))) rfl
    · intro oo aa ww LL hho hLL haft st; obtain rfl := Option.some.inj hho; exact pay_pick st (want_none rfl) rfl (st.arg (j := 16) (aft_of haft (by kernel_rfl)) rfl rfl) (show Sp.holds (Sp.val (.bool false)) _ _ _ from (st.arg (j := 23) (aft_of haft (by kernel_rfl)) rfl rfl)) rfl rfl
    · intro oo aa ww LL hho hLL haft st; obtain rfl := Option.some.inj hho; exact pay_move st (want_none rfl) rfl (show Sp.holds (Sp.val (.bool false)) _ _ _ from (st.arg (j := 24) (aft_of haft (by kernel_rfl)) rfl rfl)) rfl rfl
    · intro oo aa ww LL hho hLL haft st; obtain rfl := Option.some.inj hho; exact pay_loadR st (st.want haft rfl (by kernel_rfl) rfl) rfl (st.out (by kernel_rfl) (get_of_eval e5)) x5 (ha.on hB) hsa rfl
    · intro oo aa ww LL hho hLL haft st; obtain rfl := Option.some.inj hho; exact pay_loadR st (st.want haft rfl (by kernel_rfl) rfl) rfl (st.out (by kernel_rfl) (get_of_eval e6)) x6 (hb.on hB) hsb rfl
    · intro oo aa ww LL hho hLL haft st; obtain rfl := Option.some.inj hho; exact call_RRB C_Same en_Same st (st.want haft rfl (by kernel_rfl) rfl) rfl (st.arg (j := 26) (aft_of haft (by kernel_rfl)) rfl rfl) (st.arg (j := 27) (aft_of haft (by kernel_rfl)) rfl rfl) rfl hSm
    · intro oo aa ww LL hho hLL haft st; obtain rfl := Option.some.inj hho; exact pay_loadR st (st.want haft rfl (by kernel_rfl) rfl) rfl (st.out (by kernel_rfl) (get_of_eval e5)) x5 (ha.on hB) hsa rfl
    · intro oo aa ww LL hho hLL haft st; obtain rfl := Option.some.inj hho; exact pay_loadR st (st.want haft rfl (by kernel_rfl) rfl) rfl (st.out (by kernel_rfl) (get_of_eval e6)) x6 (hb.on hB) hsb rfl
    · intro oo aa ww LL hho hLL haft st; obtain rfl := Option.some.inj hho; exact call_RRB C_rSame en_rSame st (st.want haft rfl (by kernel_rfl) rfl) rfl (st.arg (j := 29) (aft_of haft (by kernel_rfl)) rfl rfl) (st.arg (j := 30) (aft_of haft (by kernel_rfl)) rfl rfl) rfl hSm
    · intro oo aa ww LL hho hLL haft st; obtain rfl := Option.some.inj hho; exact pay_run st (st.want haft rfl (by kernel_rfl) rfl) ((run_neB rfl (st.arg (j := 28) (aft_of haft (by kernel_rfl)) rfl rfl) (st.arg (j := 31) (aft_of haft (by kernel_rfl)) rfl rfl)).trans (okB (c := false) (by cases tS <;> rfl))) rfl
    · intro oo aa ww LL hho hLL haft st; obtain rfl := Option.some.inj hho; exact pay_pick st (want_none rfl) rfl (st.arg (j := 25) (aft_of haft (by kernel_rfl)) rfl rfl) (show Sp.holds (Sp.val (.bool false)) _ _ _ from (st.arg (j := 32) (aft_of haft (by kernel_rfl)) rfl rfl)) rfl rfl
    · intro oo aa ww LL hho hLL haft st; obtain rfl := Option.some.inj hho; exact pay_move st (want_none rfl) rfl (show Sp.holds (Sp.val (.bool false)) _ _ _ from (st.arg (j := 33) (aft_of haft (by kernel_rfl)) rfl rfl)) rfl rfl
    · intro oo aa ww LL hho hLL haft st; obtain rfl := Option.some.inj hho; exact pay_loadR st (st.want haft rfl (by kernel_rfl) rfl) rfl (st.out (by kernel_rfl) (get_of_eval e5)) x5 (ha.on hB) hsa rfl
    · intro oo aa ww LL hho hLL haft st; obtain rfl := Option.some.inj hho; exact call_Ps C_Ps en_Pairs (hT.on hB) st (st.want haft rfl (by kernel_rfl) rfl) rfl (st.arg (j := 35) (aft_of haft (by kernel_rfl)) rfl rfl) rfl
    · intro oo aa ww LL hho hLL haft st; obtain rfl := Option.some.inj hho; exact pay_loadR st (st.want haft rfl (by kernel_rfl) rfl) rfl (st.out (by kernel_rfl) (get_of_eval e5)) x5 (ha.on hB) hsa rfl
    · intro oo aa ww LL hho hLL haft st; obtain rfl := Option.some.inj hho; exact call_Ps C_rPs en_rPairs (hT.on hB) st (st.want haft rfl (by kernel_rfl) rfl) rfl (st.arg (j := 37) (aft_of haft (by kernel_rfl)) rfl rfl) rfl
    · intro oo aa ww LL hho hLL haft st; obtain rfl := Option.some.inj hho; exact call_kitP st (st.want haft rfl (by kernel_rfl) rfl) rfl (st.arg (j := 36) (aft_of haft (by kernel_rfl)) rfl rfl) (st.arg (j := 38) (aft_of haft (by kernel_rfl)) rfl rfl) (Ppairs_len _) rfl
    · intro oo aa ww LL hho hLL haft st; obtain rfl := Option.some.inj hho; exact pay_not st (st.want haft rfl (by kernel_rfl) rfl) rfl (st.arg (j := 39) (aft_of haft (by kernel_rfl)) rfl rfl) rfl
    · intro oo aa ww LL hho hLL haft st; obtain rfl := Option.some.inj hho; exact pay_pick st (want_none rfl) rfl (st.arg (j := 34) (aft_of haft (by kernel_rfl)) rfl rfl) (show Sp.holds (Sp.val (.bool false)) _ _ _ from (st.arg (j := 40) (aft_of haft (by kernel_rfl)) rfl rfl)) rfl rfl
  have k11 : KeepM 15 [] a10 a11 := st.keepM (by kernel_rfl)
  have hb11 := st.g
  have e68 : a11.eval (.tmp 68) = (.bool false) := st.arg (j := 41) (hL 41 (by omega)) rfl rfl
  clear st hL L
  replace e3 := k11.ev e3 (by decide)
  replace e4 := k11.ev e4 (by decide)
  replace e5 := k11.ev e5 (by decide)
  replace e6 := k11.ev e6 (by decide)
  replace e7 := k11.ev e7 (by decide)
  replace e10 := k11.ev e10 (by decide)
  replace e11 := k11.ev e11 (by decide)
  replace e12 := k11.ev e12 (by decide)
  replace e13 := k11.ev e13 (by decide)
  replace e14 := k11.ev e14 (by decide)
  replace hz := k11.size.trans hz
  replace hd := k11.defers.trans hd
  replace x5 := x5.below hb11 x5.lt
  replace x6 := x6.below hb11 x6.lt
  replace x7 := x7.below hb11 x7.lt
  replace hB := Below.next hB hb11
  replace hS := hB.size
  refine wp_cond_false e68 ?_
  refine wp_skip ?_
  refine wp_seq ?_
  refine region_ts (n := 82) [Sp.rel a.pr, Sp.rel b.pr, Sp.rel c.pr, Sp.rels [a.pr, b.pr, c.pr], Sp.rel (Por [a.pr, b.pr, c.pr]), Sp.rel a.pr, Sp.rel b.pr, Sp.rel c.pr, Sp.rels [a.pr, b.pr, c.pr], Sp.rel (Por [a.pr, b.pr, c.pr]), Sp.val (.bool true), Sp.val (.bool true), Sp.rel a.pr, Sp.rel b.pr, Sp.rel (Pand a.pr b.pr), Sp.rel a.pr, Sp.rel b.pr, Sp.rel (Pand a.pr b.pr), Sp.val (.bool true), Sp.val (.bool true), Sp.val (.bool true), Sp.rel a.pr, Sp.rel b.pr, Sp.rel (Pless a.pr b.pr), Sp.rel a.pr, Sp.rel b.pr, Sp.rel (Pless a.pr b.pr), Sp.val (.bool true), Sp.val (.bool true), Sp.val (.bool true), Sp.rel a.pr, Sp.rel b.pr, Sp.rel c.pr, Sp.rels [a.pr, b.pr, c.pr], Sp.rel (Pthen [a.pr, b.pr, c.pr]), Sp.rel a.pr, Sp.rel b.pr, Sp.rel c.pr, Sp.rels [a.pr, b.pr, c.pr], Sp.rel (Pthen [a.pr, b.pr, c.pr]), Sp.val (.bool true), Sp.val (.bool true), Sp.val (.bool true), Sp.rel a.pr, Sp.rel (Pturn a.pr), Sp.rel a.pr, Sp.rel (Pturn a.pr), Sp.val (.bool true), Sp.val (.bool true), Sp.val (.bool true), Sp.rel a.pr, Sp.rel (Pplus a.pr), Sp.rel a.pr, Sp.rel (Pplus a.pr), Sp.val (.bool true), Sp.val (.bool true), Sp.val (.bool true), Sp.rel a.pr, Sp.val (.int .u64 ((f : Nat) : Int)), Sp.val (.int .u64 ((t : Nat) : Int)), Sp.rel (Ponly a.pr f t), Sp.rel a.pr, Sp.val (.int .u64 ((f : Nat) : Int)), Sp.val (.int .u64 ((t : Nat) : Int)), Sp.rel (Ponly a.pr f t), Sp.val (.bool true), Sp.val (.bool true), Sp.val (.bool true), Sp.rel PR.zero, Sp.rel PR.zero, Sp.val (.bool true), Sp.val (.bool true), Sp.val (.bool true), Sp.rel a.pr, Sp.rels [a.pr], Sp.rel (Pthen [a.pr]), Sp.rel a.pr, Sp.rels [a.pr], Sp.rel (Pthen [a.pr]), Sp.val (.bool true), Sp.val (.bool true), Sp.val (.bool true)] w11 (by kernel_rfl) (by rw [hz]; kernel_rfl) (by kernel_rfl) (by kernel_rfl) (by kernel_rfl) (by kernel_rfl) ?_ fun L a12 w12 hL st => ?_
  · refine ⟨⟨⟨⟨⟨⟨⟨⟨⟨⟨⟨⟨⟨⟨⟨⟨⟨⟨⟨⟨⟨⟨⟨⟨⟨⟨⟨⟨⟨⟨⟨⟨⟨⟨⟨⟨⟨⟨⟨⟨⟨⟨⟨⟨⟨⟨⟨⟨⟨⟨⟨⟨⟨⟨⟨⟨⟨⟨⟨⟨⟨⟨⟨⟨⟨⟨⟨⟨⟨⟨⟨⟨⟨⟨⟨⟨⟨⟨⟨⟨⟨⟨trivial, ?_⟩, ?_⟩, ?_⟩, ?_⟩, ?_⟩, ?_⟩, ?_⟩, ?_⟩, ?_⟩, ?_⟩, ?_⟩, ?_⟩, ?_⟩, ?_⟩, ?_⟩, ?_⟩, ?_⟩, ?_⟩, ?_⟩, ?_⟩, ?_⟩, ?_⟩, ?_⟩, ?_⟩, ?_⟩, ?_⟩, ?_⟩, ?_⟩, ?_⟩, ?_⟩, ?_⟩, ?_⟩, ?_⟩, ?_⟩, ?_⟩, ?_⟩, ?_⟩, ?_⟩, ?_⟩, ?_⟩, ?_⟩, ?_⟩, ?_⟩, ?_⟩, ?_⟩, ?_⟩, ?_⟩, ?_⟩, ?_⟩, ?_⟩, ?_⟩, ?_⟩, ?_⟩, ?_⟩, ?_⟩, ?_⟩, ?_⟩, ?_⟩, ?_⟩, ?_⟩, ?_⟩, ?_⟩, ?_⟩, ?_⟩, ?_⟩, ?_⟩, ?_⟩, ?_⟩, ?_⟩, ?_⟩, ?_⟩, ?_⟩, ?_⟩, ?_⟩, ?_⟩, ?_⟩, ?_⟩, ?_⟩, ?_⟩, ?_⟩, ?_⟩, ?_⟩
    · intro oo aa ww LL hho hLL haft st; obtain rfl := Option.some.inj hho; exact pay_loadR st (want_none rfl) rfl (st.out (by kernel_rfl) (get_of_eval e5)) x5 (ha.on hB) hsa rfl
    · intro oo aa ww LL hho hLL haft st; obtain rfl := Option.some.inj hho; exact pay_loadR st (want_none rfl) rfl (st.out (by kernel_rfl) (get_of_eval e6)) x6 (hb.on hB) hsb rfl
    · intro oo aa ww LL hho hLL haft st; obtain rfl := Option.some.inj hho; exact pay_loadR st (want_none rfl) rfl (st.out (by kernel_rfl) (get_of_eval e7)) x7 (hc.on hB) hsc rfl
    · intro oo aa ww LL hho hLL haft st; obtain rfl := Option.some.inj hho; exact pay_rels3 st (want_none rfl) rfl (st.arg (j := 0) (aft_of haft (by kernel_rfl)) rfl rfl) (st.arg (j := 1) (aft_of haft (by kernel_rfl)) rfl rfl) (st.arg (j := 2) (aft_of haft (by kernel_rfl)) rfl rfl) rfl
    · intro oo aa ww LL hho hLL haft st; obtain rfl := Option.some.inj hho; exact call_LR C_Or en_Or (hT.on hB) st (want_none rfl) rfl (st.arg (j := 3) (aft_of haft (by kernel_rfl)) rfl rfl) (by simp) rfl rfl (short_or _)
    · intro oo aa ww LL hho hLL haft st; obtain rfl := Option.some.inj hho; exact pay_loadR st (want_none rfl) rfl (st.out (by kernel_rfl) (get_of_eval e5)) x5 (ha.on hB) hsa rfl
    · intro oo aa ww LL hho hLL haft st; obtain rfl := Option.some.inj hho; exact pay_loadR st (want_none rfl) rfl (st.out (by kernel_rfl) (get_of_eval e6)) x6 (hb.on hB) hsb rfl
    · intro oo aa ww LL hho hLL haft st; obtain rfl := Option.some.inj hho; exact pay_loadR st (want_none rfl) rfl (st.out (by kernel_rfl) (get_of_eval e7)) x7 (hc.on hB) hsc rfl
    · intro oo aa ww LL hho hLL haft st; obtain rfl := Option.some.inj hho; exact pay_rels3 st (want_none rfl) rfl (st.arg (j := 5) (aft_of haft (by kernel_rfl)) rfl rfl) (st.arg (j := 6) (aft_of haft (by kernel_rfl)) rfl rfl) (st.arg (j := 7) (aft_of haft (by kernel_rfl)) rfl rfl) rfl
    · intro oo aa ww LL hho hLL haft st; obtain rfl := Option.some.inj hho; exact call_LR C_rOr en_rOr (hT.on hB) st (want_none rfl) rfl (st.arg (j := 8) (aft_of haft (by kernel_rfl)) rfl rfl) (by simp) rfl rfl (short_or _)
    · intro oo aa ww LL hho hLL haft st; obtain rfl := Option.some.inj hho; exact call_RRB C_kitRel en_kitRel st (want_none rfl) rfl (st.arg (j := 4) (aft_of haft (by kernel_rfl)) rfl rfl) (st.arg (j := 9) (aft_of haft (by kernel_rfl)) rfl rfl) rfl (kitSelf _)
    · intro oo aa ww LL hho hLL haft st; obtain rfl := Option.some.inj hho; exact pay_move st (want_none rfl) rfl (show Sp.holds (Sp.val (.bool true)) _ _ _ from (st.arg (j := 10) (aft_of haft (by kernel_rfl)) rfl rfl)) rfl rfl
    · intro oo aa ww LL hho hLL haft st; obtain rfl := Option.some.inj hho; exact pay_loadR st (st.want haft rfl (by kernel_rfl) rfl) rfl (st.out (by kernel_rfl) (get_of_eval e5)) x5 (ha.on hB) hsa rfl
    · intro oo aa ww LL hho hLL haft st; obtain rfl := Option.some.inj hho; exact pay_loadR st (st.want haft rfl (by kernel_rfl) rfl) rfl (st.out (by kernel_rfl) (get_of_eval e6)) x6 (hb.on hB) hsb rfl
    · intro oo aa ww LL hho hLL haft st; obtain rfl := Option.some.inj hho; exact call_RRR C_And en_And (hT.on hB) st (st.want haft rfl (by kernel_rfl) rfl) rfl (st.arg (j := 12) (aft_of haft (by kernel_rfl)) rfl rfl) (st.arg (j := 13) (aft_of haft (by kernel_rfl)) rfl rfl) rfl rfl (short_and _ _)
    · intro oo aa ww LL hho hLL haft st; obtain rfl := Option.some.inj hho; exact pay_loadR st (st.want haft rfl (by kernel_rfl) rfl) rfl (st.out (by kernel_rfl) (get_of_eval e5)) x5 (ha.on hB) hsa rfl
    · intro oo aa ww LL hho hLL haft st; obtain rfl := Option.some.inj hho; exact pay_loadR st (st.want haft rfl (by kernel_rfl) rfl) rfl (st.out (by kernel_rfl) (get_of_eval e6)) x6 (hb.on hB) hsb rfl
    · intro oo aa ww LL hho hLL haft st; obtain rfl := Option.some.inj hho; exact call_RRR C_rAnd en_rAnd (hT.on hB) st (st.want haft rfl (by kernel_rfl) rfl) rfl (st.arg (j := 15) (aft_of haft (by kernel_rfl)) rfl rfl) (st.arg (j := 16) (aft_of haft (by kernel_rfl)) rfl rfl) rfl rfl (short_and _ _)
    · intro oo aa ww LL hho hLL haft st; obtain rfl := Option.some.inj hho; exact call_RRB C_kitRel en_kitRel st (st.want haft rfl (by kernel_rfl) rfl) rfl (st.arg (j := 14) (aft_of haft (by kernel_rfl)) rfl rfl) (st.arg (j := 17) (aft_of haft (by kernel_rfl)) rfl rfl) rfl (kitSelf _)
    · intro oo aa ww LL hho hLL haft st; obtain rfl := Option.some.inj hho; exact pay_pick st (want_none rfl) rfl (st.arg (j := 11) (aft_of haft (by kernel_rfl)) rfl rfl) (show Sp.holds (Sp.val (.bool true)) _ _ _ from (st.arg (j := 18) (aft_of haft (by kernel_rfl)) rfl rfl)) rfl rfl
    · intro oo aa ww LL hho hLL haft st; obtain rfl := Option.some.inj hho; exact pay_move st (want_none rfl) rfl (show Sp.holds (Sp.val (.bool true)) _ _ _ from (st.arg (j := 19) (aft_of haft (by kernel_rfl)) rfl rfl)) rfl rfl
    · intro oo aa ww LL hho hLL haft st; obtain rfl := Option.some.inj hho; exact pay_loadR st (st.want haft rfl (by kernel_rfl) rfl) rfl (st.out (by kernel_rfl) (get_of_eval e5)) x5 (ha.on hB) hsa rfl
    · intro oo aa ww LL hho hLL haft st; obtain rfl := Option.some.inj hho; exact pay_loadR st (st.want haft rfl (by kernel_rfl) rfl) rfl (st.out (by kernel_rfl) (get_of_eval e6)) x6 (hb.on hB) hsb rfl
    · intro oo aa ww LL hho hLL haft st; obtain rfl := Option.some.inj hho; exact call_RRR C_Less en_Less (hT.on hB) st (st.want haft rfl (by kernel_rfl) rfl) rfl (st.arg (j := 21) (aft_of haft (by kernel_rfl)) rfl rfl) (st.arg (j := 22) (aft_of haft (by kernel_rfl)) rfl rfl) rfl rfl (short_less _ _)
    · intro oo aa ww LL hho hLL haft st; obtain rfl := Option.some.inj hho; exact pay_loadR st (st.want haft rfl (by kernel_rfl) rfl) rfl (st.out (by kernel_rfl) (get_of_eval e5)) x5 (ha.on hB) hsa rfl
    · intro oo aa ww LL hho hLL haft st; obtain rfl := Option.some.inj hho; exact pay_loadR st (st.want haft rfl (by kernel_rfl) rfl) rfl (st.out (by kernel_rfl) (get_of_eval e6)) x6 (hb.on hB) hsb rfl
    · intro oo aa ww LL hho hLL haft st; obtain rfl := Option.some.inj hho; exact call_RRR C_rLess en_rLess (hT.on hB) st (st.want haft rfl (by kernel_rfl) rfl) rfl (st.arg (j := 24) (aft_of haft (by kernel_rfl)) rfl rfl) (st.arg (j := 25) (aft_of haft (by kernel_rfl)) rfl rfl) rfl rfl (short_less _ _)
    · intro oo aa ww LL hho hLL haft st; obtain rfl := Option.some.inj hho; exact call_RRB C_kitRel en_kitRel st (st.want haft rfl (by kernel_rfl) rfl) rfl (st.arg (j := 23) (aft_of haft (by kernel_rfl)) rfl rfl) (st.arg (j := 26) (aft_of haft (by kernel_rfl)) rfl rfl) rfl (kitSelf _)
    · intro oo aa ww LL hho hLL haft st; obtain rfl := Option.some.inj hho; exact pay_pick st (want_none rfl) rfl (st.arg (j := 20) (aft_of haft (by kernel_rfl)) rfl rfl) (show Sp.holds (Sp.val (.bool true)) _ _ _ from (st.arg (j := 27) (aft_of haft (by kernel_rfl)) rfl rfl)) rfl rfl
    · intro oo aa ww LL hho hLL haft st; obtain rfl := Option.some.inj hho; exact pay_move st (want_none rfl) rfl (show Sp.holds (Sp.val (.bool true)) _ _ _ from (st.arg (j := 28) (aft_of haft (by kernel_rfl)) rfl rfl)) rfl rfl
    · intro oo aa ww LL hho hLL haft st; obtain rfl := Option.some.inj hho; exact pay_loadR st (st.want haft rfl (by kernel_rfl) rfl) rfl (st.out (by kernel_rfl) (get_of_eval e5)) x5 (ha.on hB) hsa rfl
    · intro oo aa ww LL hho hLL haft st; obtain rfl := Option.some.inj hho; exact pay_loadR st (st.want haft rfl (by kernel_rfl) rfl) rfl (st.out (by kernel_rfl) (get_of_eval e6)) x6 (hb.on hB) hsb rfl
    · intro oo aa ww LL hho hLL haft st; obtain rfl := Option.some.inj hho; exact pay_loadR st (st.want haft rfl (by kernel_rfl) rfl) rfl (st.out (by kernel_rfl) (get_of_eval e7)) x7 (hc.on hB) hsc rfl
    · intro oo aa ww LL hho hLL haft st; obtain rfl := Option.some.inj hho; exact pay_rels3 st (st.want haft rfl (by kernel_rfl) rfl) rfl (st.arg (j := 30) (aft_of haft (by kernel_rfl)) rfl rfl) (st.arg (j := 31) (aft_of haft (by kernel_rfl)) rfl rfl) (st.arg (j := 32) (aft_of haft (by kernel_rfl)) rfl rfl) rfl
    · intro oo aa ww LL hho hLL haft st; obtain rfl := Option.some.inj hho; exact call_LR C_Then en_Then (hT.on hB) st (st.want haft rfl (by kernel_rfl) rfl) rfl (st.arg (j := 33) (aft_of haft (by kernel_rfl)) rfl rfl) (by simp) rfl rfl (short_then _)
    · intro oo aa ww LL hho hLL haft st; obtain rfl := Option.some.inj hho; exact pay_loadR st (st.want haft rfl (by kernel_rfl) rfl) rfl (st.out (by kernel_rfl) (get_of_eval e5)) x5 (ha.on hB) hsa rfl
    · intro oo aa ww LL hho hLL haft st; obtain rfl := Option.some.inj hho; exact pay_loadR st (st.want haft rfl (by kernel_rfl) rfl) rfl (st.out (by kernel_rfl) (get_of_eval e6)) x6 (hb.on hB) hsb rfl
    · intro oo aa ww LL hho hLL haft st; obtain rfl := Option.some.inj hho; exact pay_loadR st (st.want haft rfl (by kernel_rfl) rfl) rfl (st.out (by kernel_rfl) (get_of_eval e7)) x7 (hc.on hB) hsc rfl
    · intro oo aa ww LL hho hLL haft st; obtain rfl := Option.some.inj hho; exact pay_rels3 st (st.want haft rfl (by kernel_rfl) rfl) rfl (st.arg (j := 35) (aft_of haft (by kernel_rfl)) rfl rfl) (st.arg (j := 36) (aft_of haft (by kernel_rfl)) rfl rfl) (st.arg (j := 37) (aft_of haft (by kernel_rfl)) rfl rfl) rfl
    · intro oo aa ww LL hho hLL haft st; obtain rfl := Option.some.inj hho; exact call_LR C_rThen en_rThen (hT.on hB) st (st.want haft rfl (by kernel_rfl) rfl) rfl (st.arg (j := 38) (aft_of haft (by kernel_rfl)) rfl rfl) (by simp) rfl rfl (short_then _)
    · intro oo aa ww LL hho hLL haft st; obtain rfl := Option.some.inj hho; exact call_RRB C_kitRel en_kitRel st (st.want haft rfl (by kernel_rfl) rfl) rfl (st.arg (j := 34) (aft_of haft (by kernel_rfl)) rfl rfl) (st.arg (j := 39) (aft_of haft (by kernel_rfl)) rfl rfl) rfl (kitSelf _)
    · intro oo aa ww LL hho hLL haft st; obtain rfl := Option.some.inj hho; exact pay_pick st (want_none rfl) rfl (st.arg (j := 29) (aft_of haft (by kernel_rfl)) rfl rfl) (show Sp.holds (Sp.val (.bool true)) _ _ _ from (st.arg (j := 40) (aft_of haft (by kernel_rfl)) rfl rfl)) rfl rfl
    · intro oo aa ww LL hho hLL haft st; obtain rfl := Option.some.inj hho; exact pay_move st (want_none rfl) rfl (show Sp.holds (Sp.val (.bool true)) _ _ _ from (st.arg (j := 41) (aft_of haft (by kernel_rfl)) rfl rfl)) rfl rfl
    · intro oo aa ww LL hho hLL haft st; obtain rfl := Option.some.inj hho; exact pay_loadR st (st.want haft rfl (by kernel_rfl) rfl) rfl (st.out (by kernel_rfl) (get_of_eval e5)) x5 (ha.on hB) hsa rfl
    · intro oo aa ww LL hho hLL haft st; obtain rfl := Option.some.inj hho; exact call_RR C_Turn en_Turn (hT.on hB) st (st.want haft rfl (by kernel_rfl) rfl) rfl (st.arg (j := 43) (aft_of haft (by kernel_rfl)) rfl rfl) rfl rfl (short_turn _)
    · intro oo aa ww LL hho hLL haft st; obtain rfl := Option.some.inj hho; exact pay_loadR st (st.want haft rfl (by kernel_rfl) rfl) rfl (st.out (by kernel_rfl) (get_of_eval e5)) x5 (ha.on hB) hsa rfl
    · intro oo aa ww LL hho hLL haft st; obtain rfl := Option.some.inj hho; exact call_RR C_rTurn en_rTurn (hT.on hB) st (st.want haft rfl (by kernel_rfl) rfl) rfl (st.arg (j := 45) (aft_of haft (by kernel_rfl)) rfl rfl) rfl rfl (short_turn _)
    · intro oo aa ww LL hho hLL haft st; obtain rfl := Option.some.inj hho; exact call_RRB C_kitRel en_kitRel st (st.want haft rfl (by kernel_rfl) rfl) rfl (st.arg (j := 44) (aft_of haft (by kernel_rfl)) rfl rfl) (st.arg (j := 46) (aft_of haft (by kernel_rfl)) rfl rfl) rfl (kitSelf _)
    · intro oo aa ww LL hho hLL haft st; obtain rfl := Option.some.inj hho; exact pay_pick st (want_none rfl) rfl (st.arg (j := 42) (aft_of haft (by kernel_rfl)) rfl rfl) (show Sp.holds (Sp.val (.bool true)) _ _ _ from (st.arg (j := 47) (aft_of haft (by kernel_rfl)) rfl rfl)) rfl rfl
    · intro oo aa ww LL hho hLL haft st; obtain rfl := Option.some.inj hho; exact pay_move st (want_none rfl) rfl (show Sp.holds (Sp.val (.bool true)) _ _ _ from (st.arg (j := 48) (aft_of haft (by kernel_rfl)) rfl rfl)) rfl rfl
    · intro oo aa ww LL hho hLL haft st; obtain rfl := Option.some.inj hho; exact pay_loadR st (st.want haft rfl (by kernel_rfl) rfl) rfl (st.out (by kernel_rfl) (get_of_eval e5)) x5 (ha.on hB) hsa rfl
    · intro oo aa ww LL hho hLL haft st; obtain rfl := Option.some.inj hho; exact call_RR C_Plus en_Plus (hT.on hB) st (st.want haft rfl (by kernel_rfl) rfl) rfl (st.arg (j := 50) (aft_of haft (by kernel_rfl)) rfl rfl) rfl rfl (short_plus _)
    · intro oo aa ww LL hho hLL haft st; obtain rfl := Option.some.inj hho; exact pay_loadR st (st.want haft rfl (by kernel_rfl) rfl) rfl (st.out (by kernel_rfl) (get_of_eval e5)) x5 (ha.on hB) hsa rfl
    · intro oo aa ww LL hho hLL haft st; obtain rfl := Option.some.inj hho; exact call_RR C_rPlus en_rPlus (hT.on hB) st (st.want haft rfl (by kernel_rfl) rfl) rfl (st.arg (j := 52) (aft_of haft (by kernel_rfl)) rfl rfl) rfl rfl (short_plus _)
    · intro oo aa ww LL hho hLL haft st; obtain rfl := Option.some.inj hho; exact call_RRB C_kitRel en_kitRel st (st.want haft rfl (by kernel_rfl) rfl) rfl (st.arg (j := 51) (aft_of haft (by kernel_rfl)) rfl rfl) (st.arg (j := 53) (aft_of haft (by kernel_rfl)) rfl rfl) rfl (kitSelf _)
    · intro oo aa ww LL hho hLL haft st; obtain rfl := Option.some.inj hho; exact pay_pick st (want_none rfl) rfl (st.arg (j := 49) (aft_of haft (by kernel_rfl)) rfl rfl) (show Sp.holds (Sp.val (.bool true)) _ _ _ from (st.arg (j := 54) (aft_of haft (by kernel_rfl)) rfl rfl)) rfl rfl
    · intro oo aa ww LL hho hLL haft st; obtain rfl := Option.some.inj hho; exact pay_move st (want_none rfl) rfl (show Sp.holds (Sp.val (.bool true)) _ _ _ from (st.arg (j := 55) (aft_of haft (by kernel_rfl)) rfl rfl)) rfl rfl
    · intro oo aa ww LL hho hLL haft st; obtain rfl := Option.some.inj hho; exact pay_loadR st (st.want haft rfl (by kernel_rfl) rfl) rfl (st.out (by kernel_rfl) (get_of_eval e5)) x5 (ha.on hB) hsa rfl
    · intro oo aa ww LL hho hLL haft st; obtain rfl := Option.some.inj hho; exact pay_move st (st.want haft rfl (by kernel_rfl) rfl) rfl (show Sp.holds (Sp.val (.int .u64 ((f : Nat) : Int))) _ _ _ from (st.out (by kernel_rfl) (get_of_int e3))) rfl rfl
    · intro oo aa ww LL hho hLL haft st; obtain rfl := Option.some.inj hho; exact pay_move st (st.want haft rfl (by kernel_rfl) rfl) rfl (show Sp.holds (Sp.val (.int .u64 ((t : Nat) : Int))) _ _ _ from (st.out (by kernel_rfl) (get_of_int e4))) rfl rfl
    · intro oo aa ww LL hho hLL haft st; obtain rfl := Option.some.inj hho; exact call_On C_On en_Only (hT.on hB) st (st.want haft rfl (by kernel_rfl) rfl) rfl (st.arg (j := 57) (aft_of haft (by kernel_rfl)) rfl rfl) (st.arg (j := 58) (aft_of haft (by kernel_rfl)) rfl rfl) (st.arg (j := 59) (aft_of haft (by kernel_rfl)) rfl rfl) hf ht rfl
    · intro oo aa ww LL hho hLL haft st; obtain rfl := Option.some.inj hho; exact pay_loadR st (st.want haft rfl (by kernel_rfl) rfl) rfl (st.out (by kernel_rfl) (get_of_eval e5)) x5 (ha.on hB) hsa rfl
    · intro oo aa ww LL hho hLL haft st; obtain rfl := Option.some.inj hho; exact pay_move st (st.want haft rfl (by kernel_rfl) rfl) rfl (show Sp.holds (Sp.val (.int .u64 ((f : Nat) : Int))) _ _ _ from (st.out (by kernel_rfl) (get_of_int e3))) rfl rfl
    · intro oo aa ww LL hho hLL haft st; obtain rfl := Option.some.inj hho; exact pay_move st (st.want haft rfl (by kernel_rfl) rfl) rfl (show Sp.holds (Sp.val (.int .u64 ((t : Nat) : Int))) _ _ _ from (st.out (by kernel_rfl) (get_of_int e4))) rfl rfl
    · intro oo aa ww LL hho hLL haft st; obtain rfl := Option.some.inj hho; exact call_On C_rOn en_rOnly (hT.on hB) st (st.want haft rfl (by kernel_rfl) rfl) rfl (st.arg (j := 61) (aft_of haft (by kernel_rfl)) rfl rfl) (st.arg (j := 62) (aft_of haft (by kernel_rfl)) rfl rfl) (st.arg (j := 63) (aft_of haft (by kernel_rfl)) rfl rfl) hf ht rfl
    · intro oo aa ww LL hho hLL haft st; obtain rfl := Option.some.inj hho; exact call_RRB C_kitRel en_kitRel st (st.want haft rfl (by kernel_rfl) rfl) rfl (st.arg (j := 60) (aft_of haft (by kernel_rfl)) rfl rfl) (st.arg (j := 64) (aft_of haft (by kernel_rfl)) rfl rfl) rfl (kitSelf _)
    · intro oo aa ww LL hho hLL haft st; obtain rfl := Option.some.inj hho; exact pay_pick st (want_none rfl) rfl (st.arg (j := 56) (aft_of haft (by kernel_rfl)) rfl rfl) (show Sp.holds (Sp.val (.bool true)) _ _ _ from (st.arg (j := 65) (aft_of haft (by kernel_rfl)) rfl rfl)) rfl rfl
    · intro oo aa ww LL hho hLL haft st; obtain rfl := Option.some.inj hho; exact pay_move st (want_none rfl) rfl (show Sp.holds (Sp.val (.bool true)) _ _ _ from (st.arg (j := 66) (aft_of haft (by kernel_rfl)) rfl rfl)) rfl rfl
    · intro oo aa ww LL hho hLL haft st; obtain rfl := Option.some.inj hho; exact call_Or0 st (st.want haft rfl (by kernel_rfl) rfl) rfl rfl rfl
    · intro oo aa ww LL hho hLL haft st; obtain rfl := Option.some.inj hho; exact pay_rel0 st (st.want haft rfl (by kernel_rfl) rfl) rfl rfl
    · intro oo aa ww LL hho hLL haft st; obtain rfl := Option.some.inj hho; exact call_RRB C_kitRel en_kitRel st (st.want haft rfl (by kernel_rfl) rfl) rfl (st.arg (j := 68) (aft_of haft (by kernel_rfl)) rfl rfl) (st.arg (j := 69) (aft_of haft (by kernel_rfl)) rfl rfl) rfl (kitSelf _)
    · intro oo aa ww LL hho hLL haft st; obtain rfl := Option.some.inj hho; exact pay_pick st (want_none rfl) rfl (st.arg (j := 67) (aft_of haft (by kernel_rfl)) rfl rfl) (show Sp.holds (Sp.val (.bool true)) _ _ _ from (st.arg (j := 70) (aft_of haft (by kernel_rfl)) rfl rfl)) rfl rfl
    · intro oo aa ww LL hho hLL haft st; obtain rfl := Option.some.inj hho; exact pay_move st (want_none rfl) rfl (show Sp.holds (Sp.val (.bool true)) _ _ _ from (st.arg (j := 71) (aft_of haft (by kernel_rfl)) rfl rfl)) rfl rfl
    · intro oo aa ww LL hho hLL haft st; obtain rfl := Option.some.inj hho; exact pay_loadR st (st.want haft rfl (by kernel_rfl) rfl) rfl (st.out (by kernel_rfl) (get_of_eval e5)) x5 (ha.on hB) hsa rfl
    · intro oo aa ww LL hho hLL haft st; obtain rfl := Option.some.inj hho; exact pay_rels1 st (st.want haft rfl (by kernel_rfl) rfl) rfl (st.arg (j := 73) (aft_of haft (by kernel_rfl)) rfl rfl) rfl
    · intro oo aa ww LL hho hLL haft st; obtain rfl := Option.some.inj hho; exact call_LR C_Then en_Then (hT.on hB) st (st.want haft rfl (by kernel_rfl) rfl) rfl (st.arg (j := 74) (aft_of haft (by kernel_rfl)) rfl rfl) (by simp) rfl rfl (short_then _)
    · intro oo aa ww LL hho hLL haft st; obtain rfl := Option.some.inj hho; exact pay_loadR st (st.want haft rfl (by kernel_rfl) rfl) rfl (st.out (by kernel_rfl) (get_of_eval e5)) x5 (ha.on hB) hsa rfl
    · intro oo aa ww LL hho hLL haft st; obtain rfl := Option.some.inj hho; exact pay_rels1 st (st.want haft rfl (by kernel_rfl) rfl) rfl (st.arg (j := 76) (aft_of haft (by kernel_rfl)) rfl rfl) rfl
    · intro oo aa ww LL hho hLL haft st; obtain rfl := Option.some.inj hho; exact call_LR C_rThen en_rThen (hT.on hB) st (st.want haft rfl (by kernel_rfl) rfl) rfl (st.arg (j := 77) (aft_of haft (by kernel_rfl)) rfl rfl) (by simp) rfl rfl (short_then _)
    · intro oo aa ww LL hho hLL haft st; obtain rfl := Option.some.inj hho; exact call_RRB C_kitRel en_kitRel st (st.want haft rfl (by kernel_rfl) rfl) rfl (st.arg (j := 75) (aft_of haft (by kernel_rfl)) rfl rfl) (st.arg (j := 78) (aft_of haft (by kernel_rfl)) rfl rfl) rfl (kitSelf _)
    · intro oo aa ww LL hho hLL haft st; obtain rfl := Option.some.inj hho; exact pay_pick st (want_none rfl) rfl (st.arg (j := 72) (aft_of haft (by kernel_rfl)) rfl rfl) (show Sp.holds (Sp.val (.bool true)) _ _ _ from (st.arg (j := 79) (aft_of haft (by kernel_rfl)) rfl rfl)) rfl rfl
    · intro oo aa ww LL hho hLL haft st; obtain rfl := Option.some.inj hho; exact pay_assign st (want_none rfl) rfl (show Sp.holds (Sp.val (.bool true)) _ _ _ from (st.arg (j := 80) (aft_of haft (by kernel_rfl)) rfl rfl)) rfl rfl
  have k12 : KeepM 15 [10] a11 a12 := st.keepM (by kernel_rfl)
  have hb12 := st.g
  have e10 : a12.eval (.tmp 10) = (.bool true) := st.arg (j := 81) (hL 81 (by omega)) rfl rfl
  clear st hL L
  replace e3 := k12.ev e3 (by decide)
  replace e4 := k12.ev e4 (by decide)
  replace e5 := k12.ev e5 (by decide)
  replace e6 := k12.ev e6 (by decide)
  replace e7 := k12.ev e7 (by decide)
  replace e11 := k12.ev e11 (by decide)
  replace e12 := k12.ev e12 (by decide)
  replace e13 := k12.ev e13 (by decide)
  replace e14 := k12.ev e14 (by decide)
  replace hz := k12.size.trans hz
  replace hd := k12.defers.trans hd
  replace x5 := x5.below hb12 x5.lt
  replace x6 := x6.below hb12 x6.lt
  replace x7 := x7.below hb12 x7.lt
  replace hB := Below.next hB hb12
  replace hS := hB.size
  refine wp_ret ?_
  exact post_slot rfl hd (get_of_bool e10) (Ret.b rfl hB)
theorem calls_top (a b c : RA) (f t : Nat) (w : World) (hT : Tab w) (ha : a.good w) (la : a.rows.length ≤ maxLen) (hb : b.good w) (lb : b.rows.length ≤ maxLen) (hc : c.good w) (lc : c.rows.length ≤ maxLen) (hf : f < 18446744073709551616) (ht : t < 18446744073709551616) :
    Calls Tryd.prog 5 #[a.val, b.val, c.val, .int .u64 ((f : Nat) : Int), .int .u64 ((t : Nat) : Int)] w (Ret w (.bool true)) :=
  calls_yes a b c f t w hT ha la hb lb hc lc hf ht
end Go.Proofs.YtigdecmfieaacaaDoor
