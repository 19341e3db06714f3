/-
  The document's answers for layer 1: Or, Then.
-/
import Derived.Test.YtigdecmfieaacaaDoorC2
import Derived.Test.YtigdecmfieaacaaDoorRelG
namespace Go.Proofs.YtigdecmfieaacaaDoor
open Go Go.RowKit

theorem orF_zero (L : List RA) (N : Nat) : (List.range N).map (orF L 0) = List.replicate N 0 := by
  apply List.ext_getElem <;> simp [orF]
theorem orMid_at (L : List RA) (m i : Nat) : orMid L m i i = orF L m i := by simp [orMid]
theorem orMid_lt (L : List RA) (m k i : Nat) (h : ∀ a ∈ L, ∀ x ∈ a.rows, x < 18446744073709551616) : orMid L m k i < 18446744073709551616 := by
  unfold orMid
  split
  · exact orF_lt L _ _ h
  · exact orF_lt L _ _ h
theorem orMid_succ {L : List RA} {m k : Nat} {a : RA} (h : L[m]? = some a) (i : Nat) : orMid L m (k + 1) i = if i = k then orMid L m k k ||| a.rows.getD k 0 else orMid L m k i := by
  rw [orMid_at]
  by_cases e : i = k
  · subst e; unfold orMid; rw [if_pos (by omega), if_pos rfl, orF_succ h]
  · rw [if_neg e]; unfold orMid
    by_cases hl : i < k
    · rw [if_pos (by omega), if_pos hl]
    · rw [if_neg (by omega), if_neg hl]
set_option maxRecDepth 100000 in
set_option maxHeartbeats 4000000 in
theorem rOr_ok (L : List RA) (gl n N : Nat) (w0 : World) (hn : L.length = n) (hlen : n < 1000) (hL : RowT w0 gl 26 (L.flatMap RA.cells)) (hg : ∀ a ∈ L, a.good w0) (hal : Palike (L.map RA.pr) = true) (hpos : 0 < n)
    (hc0 : (L.flatMap RA.cells)[0]? = some (.int .i64 ((N : Nat) : Int))) (hrl : ∀ a ∈ L, a.rows.length = N) (h64 : N ≤ 64) :
    Calls Tryd.prog 35 #[.slice (some ⟨gl, 0, none⟩) n n] w0 (RetR w0 ⟨((N : Nat) : Int), (List.range N).map (orF L n)⟩) := by
  refine calls_of_wp Tryd.func35 rfl ?_
  obtain ⟨hz, e0⟩ := start_act1 46 ((.slice (some ⟨gl, 0, none⟩) n n)) (by decide)
  have hd : ({ tmps := #[(.slice (some ⟨gl, 0, none⟩) n n)] ++ Array.replicate (46 - 1) undef, defers := [] } : Act).defers = [] := rfl
  rw [show Tryd.f35.ntmps - (#[(.slice (some ⟨gl, 0, none⟩) n n)] : Array Value).size = 46 - 1 from rfl]
  generalize ({ tmps := #[(.slice (some ⟨gl, 0, none⟩) n n)] ++ Array.replicate (46 - 1) undef, defers := [] } : Act) = a0 at hz e0 hd ⊢
  have hB : Below w0.heap.size w0 w0 := Below.refl _ _
  have hS := hB.size
  refine wp_seq ?_
  refine seq_startL (l := [0]) (by kernel_rfl) ?_
  refine seq_valD 2 rfl rfl rfl (run_allocR rfl rfl) ?_
  have x2 := RowT.new w0 26 [.int .i64 0, .slice none 0 0]
  replace hB := hB.al (o := .cells ([.int .i64 0, .slice none 0 0] : List Value).toArray 26)
  change wpOps _ _ _ _ _ (w0.alloc (.cells ([.int .i64 0, .slice none 0 0] : List Value).toArray 26))
  generalize (w0.alloc (.cells ([.int .i64 0, .slice none 0 0] : List Value).toArray 26)) = w1 at x2 hB ⊢
  generalize hbq2 : w0.heap.size = b2 at x2 ⊢
  have hge2 : w0.heap.size ≤ b2 := by rw [← hbq2]; exact hS
  clear hbq2
  have hS := hB.size
  refine seq_nil ?_
  refine seq_out ((KeepM.refl 6 [2] a0).put (by decide)) fun a2 k2 tr => ?_
  have f2 := tr 2 (.pointer (some ⟨b2, 0, none⟩)) (ev_same (by first | (rw [hz]; decide) | (simp only [size_put, hz]; decide)))
  clear tr
  replace e0 := k2.ev e0 (by decide)
  replace hz := k2.size.trans hz
  replace hd := k2.defers.trans hd
  have e2 := f2
  clear f2
  refine wp_seq ?_
  refine wp_seq ?_
  refine seq_startL (l := [0, 1, 2]) (by kernel_rfl) ?_
  refine seq_move 6 (v := (.slice (some ⟨gl, 0, none⟩) n n)) rfl rfl rfl rfl e0 ?_
  refine seq_callD 7 rfl rfl rfl en_alike rfl (args_one (ev_same (by first | (rw [hz]; decide) | (simp only [size_put, hz]; decide)))) ((hal ▸ ralike_c L gl n w1 hn hlen (hL.below hB hL.lt) (fun a ha => (hg a ha).on hB)).mono ?_)
  rintro e w3 ⟨rfl, hb3⟩
  refine ⟨_, rfl, ?_⟩
  replace x2 := x2.below hb3 x2.lt
  replace hB := Below.next hB hb3
  replace hS := hB.size
  refine seq_valD 8 (v := (.bool false)) rfl rfl rfl (run_not rfl (ev_same (by first | (rw [hz]; decide) | (simp only [size_put, hz]; decide)))) ?_
  refine seq_nil ?_
  refine seq_out ((((KeepM.refl 6 [] a2).put (by decide)).put (by decide)).put (by decide)) fun a4 k4 tr => ?_
  have f8 := tr 8 (.bool false) (ev_same (by first | (rw [hz]; decide) | (simp only [size_put, hz]; decide)))
  clear tr
  replace e0 := k4.ev e0 (by decide)
  replace e2 := k4.ev e2 (by decide)
  replace hz := k4.size.trans hz
  replace hd := k4.defers.trans hd
  have e8 := f8
  clear f8
  refine wp_cond_false e8 ?_
  refine wp_skip ?_
  refine wp_seq ?_
  have hLW := hL.below hB hL.lt
  refine seq_startL (l := [0, 1, 2, 3, 4, 5, 6]) (by kernel_rfl) ?_
  refine seq_move 10 (v := (.slice (some ⟨gl, 0, none⟩) n n)) rfl rfl rfl rfl e0 ?_
  refine seq_valD 11 (v := (.pointer (some ⟨gl, 0, none⟩))) rfl rfl rfl (run_ixR (k := 0) rfl (ev_same (by first | (rw [hz]; decide) | (simp only [size_put, hz]; decide))) rfl (by omega)) ?_
  refine seq_valD 12 (v := (.pointer (some ⟨gl, 0, none⟩))) rfl rfl rfl (run_fp0 rfl (ev_same (by first | (rw [hz]; decide) | (simp only [size_put, hz]; decide)))) ?_
  refine seq_valD 13 (v := (.int .i64 ((N : Nat) : Int))) rfl rfl rfl (run_ldI rfl (ev_same (by first | (rw [hz]; decide) | (simp only [size_put, hz]; decide))) ((hLW.cell 0).trans hc0)) ?_
  refine seq_callD 14 rfl rfl rfl en_rNone rfl (args_one (ev_same (by first | (rw [hz]; decide) | (simp only [size_put, hz]; decide)))) ((rnone_ok N w3 h64).mono ?_)
  rintro e w5 ⟨v5, rfl, ⟨g, rfl, hgg, y⟩, hb5⟩
  refine ⟨_, rfl, ?_⟩
  replace hgg : w0.heap.size ≤ g := Nat.le_trans hS hgg
  replace x2 := x2.below hb5 x2.lt
  replace hB := Below.next hB hb5
  replace hS := hB.size
  refine seq_valD 3 rfl rfl rfl (run_allocR rfl rfl) ?_
  have nx2_3 : b2 ≠ w5.heap.size := Nat.ne_of_lt x2.lt
  have x3 := RowT.new w5 26 [.int .i64 0, .slice none 0 0]
  replace x2 := x2.alloc (.cells ([.int .i64 0, .slice none 0 0] : List Value).toArray 26)
  replace y := y.alloc (.cells ([.int .i64 0, .slice none 0 0] : List Value).toArray 26)
  replace hB := hB.al (o := .cells ([.int .i64 0, .slice none 0 0] : List Value).toArray 26)
  change wpOps _ _ _ _ _ (w5.alloc (.cells ([.int .i64 0, .slice none 0 0] : List Value).toArray 26))
  generalize (w5.alloc (.cells ([.int .i64 0, .slice none 0 0] : List Value).toArray 26)) = w6 at x2 y x3 hB ⊢
  generalize hbq3 : w5.heap.size = b3 at x3 nx2_3 ⊢
  have hge3 : w0.heap.size ≤ b3 := by rw [← hbq3]; exact hS
  clear hbq3
  have hS := hB.size
  refine seq_skipD rfl rfl rfl (run_stR rfl (ev_same (by first | (rw [hz]; decide) | (simp only [size_put, hz]; decide))) ((ev_ne (by decide)).trans (ev_same (by first | (rw [hz]; decide) | (simp only [size_put, hz]; decide)))) x3) ?_
  have y3 : RowT ((w6.setCell ⟨b3, 0, none⟩ (.int .i64 ((N : Nat) : Int))).setCell ⟨b3, 1, none⟩ (.slice (some ⟨g, 0, none⟩) N N)) b3 26 [.int .i64 ((N : Nat) : Int), .slice (some ⟨g, 0, none⟩) N N] := (x3.set_ 0 _).set_ 1 _
  replace x2 := (x2.far (p := ⟨b3, 0, none⟩) nx2_3 (.int .i64 ((N : Nat) : Int))).far (p := ⟨b3, 1, none⟩) nx2_3 (.slice (some ⟨g, 0, none⟩) N N)
  replace y := (y.keep (i := 0) x3 (by decide) (.int .i64 ((N : Nat) : Int))).keep (i := 1) (x3.set_ 0 (.int .i64 ((N : Nat) : Int))) (by decide) (.slice (some ⟨g, 0, none⟩) N N)
  replace hB := (hB.setCell (p := ⟨b3, 0, none⟩) hge3 (.int .i64 ((N : Nat) : Int))).setCell (p := ⟨b3, 1, none⟩) hge3 (.slice (some ⟨g, 0, none⟩) N N)
  have x3 := y3
  clear y3
  generalize ((w6.setCell ⟨b3, 0, none⟩ (.int .i64 ((N : Nat) : Int))).setCell ⟨b3, 1, none⟩ (.slice (some ⟨g, 0, none⟩) N N)) = w7 at x2 y x3 hB ⊢
  replace hS := hB.size
  refine seq_nil ?_
  refine seq_out (((((((KeepM.refl 6 [3] a4).put (by decide)).put (by decide)).put (by decide)).put (by decide)).put (by decide)).put (by decide)) fun a8 k8 tr => ?_
  have f3 := tr 3 (.pointer (some ⟨b3, 0, none⟩)) (ev_same (by first | (rw [hz]; decide) | (simp only [size_put, hz]; decide)))
  clear tr
  replace e0 := k8.ev e0 (by decide)
  replace e2 := k8.ev e2 (by decide)
  replace hz := k8.size.trans hz
  replace hd := k8.defers.trans hd
  have e3 := f3
  clear f3
  clear hLW
  have y0 : RowT w7 g 37 (((List.range N).map (orF L 0)).map U) := by rw [orF_zero]; exact y
  clear y
  have y := y0
  clear y0
  refine wp_seq ?_
  refine wp_seq ?_
  refine seq_startL (l := [0]) (by kernel_rfl) ?_
  refine seq_assign 4 (v := (.int .i64 0)) rfl rfl rfl rfl rfl ?_
  refine seq_nil ?_
  refine seq_out ((KeepM.refl 6 [4] a8).put (by decide)) fun a9 k9 tr => ?_
  have f4 := tr 4 (.int .i64 0) (ev_same (by first | (rw [hz]; decide) | (simp only [size_put, hz]; decide)))
  clear tr
  replace e0 := k9.ev e0 (by decide)
  replace e2 := k9.ev e2 (by decide)
  replace e3 := k9.ev e3 (by decide)
  replace hz := k9.size.trans hz
  replace hd := k9.defers.trans hd
  have e4 := f4
  clear f4
  refine wp_block ?_
  refine wp_loop (fun aq wq => ∃ (k : Nat), (k ≤ n) ∧ KeepM 6 [4, 5] a9 aq ∧ aq.eval (.tmp 4) = (.int .i64 ((k : Nat) : Int)) ∧ RowT wq b2 26 [.int .i64 0, .slice none 0 0] ∧ RowT wq g 37 (((List.range N).map (orF L k)).map U) ∧ RowT wq b3 26 [.int .i64 ((N : Nat) : Int), .slice (some ⟨g, 0, none⟩) N N] ∧ Below w0.heap.size w0 wq) (fun aq _ => n - (intOf (aq.eval (.tmp 4))).toNat) ⟨0, Nat.zero_le _, KeepM.refl _ _ _, e4, x2, y, x3, hB⟩ ?_
  rintro a10 w10 ⟨k, hk0, kk0, g4, qx2, qy, qx3, qB⟩
  replace e0 := kk0.ev e0 (by decide)
  replace e2 := kk0.ev e2 (by decide)
  replace e3 := kk0.ev e3 (by decide)
  replace hz := kk0.size.trans hz
  replace hd := kk0.defers.trans hd
  clear e4 x2 y x3 hB hS
  have e4 := g4
  have x2 := qx2
  have y := qy
  have x3 := qx3
  have hB := qB
  have hS := hB.size
  clear qx2 qy qx3 qB
  have e4s := e4
  refine wp_seq ?_
  refine wp_seq ?_
  refine seq_startL (l := [0, 1, 2, 3]) (by kernel_rfl) ?_
  refine seq_move 15 (v := (.int .i64 ((k : Nat) : Int))) rfl rfl rfl rfl e4 ?_
  refine seq_move 16 (v := (.slice (some ⟨gl, 0, none⟩) n n)) rfl rfl rfl rfl ((ev_ne (by decide)).trans e0) ?_
  refine seq_valD 17 (v := (.int .i64 ((n : Nat) : Int))) rfl rfl rfl (run_lenR rfl (ev_same (by first | (rw [hz]; decide) | (simp only [size_put, hz]; decide)))) ?_
  refine seq_valD 18 (v := (.bool (decide (((k : Nat) : Int) < ((n : Nat) : Int))))) rfl rfl rfl (run_ltI rfl ((ev_ne (by decide)).trans ((ev_ne (by decide)).trans (ev_same (by first | (rw [hz]; decide) | (simp only [size_put, hz]; decide))))) (ev_same (by first | (rw [hz]; decide) | (simp only [size_put, hz]; decide)))) ?_
  refine seq_nil ?_
  refine seq_out (((((KeepM.refl 6 [] a10).put (by decide)).put (by decide)).put (by decide)).put (by decide)) fun a11 k11 tr => ?_
  have f18 := tr 18 (.bool (decide (((k : Nat) : Int) < ((n : Nat) : Int)))) (ev_same (by first | (rw [hz]; decide) | (simp only [size_put, hz]; decide)))
  clear tr
  replace e0 := k11.ev e0 (by decide)
  replace e2 := k11.ev e2 (by decide)
  replace e3 := k11.ev e3 (by decide)
  replace e4 := k11.ev e4 (by decide)
  replace hz := k11.size.trans hz
  replace hd := k11.defers.trans hd
  replace kk0 := kk0.trans (k11.mono (ys := [4, 5]) (by decide))
  have e18 := f18
  clear f18
  by_cases hltk : k < n
  · rw [decide_eq_true (by omega)] at e18
    refine wp_cond_true e18 ?_
    refine wp_skip ?_
    refine wp_seq ?_
    refine wp_block ?_
    refine wp_seq ?_
    refine seq_startL (l := [0]) (by kernel_rfl) ?_
    refine seq_assign 5 (v := (.int .i64 0)) rfl rfl rfl rfl rfl ?_
    refine seq_nil ?_
    refine seq_out ((KeepM.refl 6 [5] a11).put (by decide)) fun a12 k12 tr => ?_
    have f5 := tr 5 (.int .i64 0) (ev_same (by first | (rw [hz]; decide) | (simp only [size_put, hz]; decide)))
    clear tr
    replace e0 := k12.ev e0 (by decide)
    replace e2 := k12.ev e2 (by decide)
    replace e3 := k12.ev e3 (by decide)
    replace e4 := k12.ev e4 (by decide)
    replace hz := k12.size.trans hz
    replace hd := k12.defers.trans hd
    replace kk0 := kk0.trans (k12.mono (ys := [4, 5]) (by decide))
    have e5 := f5
    clear f5
    rw [← orMid_zero] at y
    obtain ⟨x, hx⟩ : ∃ x, L[k]? = some x := ⟨_, List.getElem?_eq_getElem (by omega)⟩
    have hxl : x.rows.length = N := hrl x (List.mem_of_getElem? hx)
    refine wp_block ?_
    refine wp_loop (fun aq wq => ∃ (i : Nat), (i ≤ N) ∧ KeepM 6 [5] a12 aq ∧ aq.eval (.tmp 5) = (.int .i64 ((i : Nat) : Int)) ∧ RowT wq b2 26 [.int .i64 0, .slice none 0 0] ∧ RowT wq g 37 (((List.range N).map (orMid L k i)).map U) ∧ RowT wq b3 26 [.int .i64 ((N : Nat) : Int), .slice (some ⟨g, 0, none⟩) N N] ∧ Below w0.heap.size w0 wq) (fun aq _ => N - (intOf (aq.eval (.tmp 5))).toNat) ⟨0, Nat.zero_le _, KeepM.refl _ _ _, e5, x2, y, x3, hB⟩ ?_
    rintro a13 w13 ⟨i, hk2, kk2, g5, qx2, qy, qx3, qB⟩
    replace e0 := kk2.ev e0 (by decide)
    replace e2 := kk2.ev e2 (by decide)
    replace e3 := kk2.ev e3 (by decide)
    replace e4 := kk2.ev e4 (by decide)
    replace hz := kk2.size.trans hz
    replace hd := kk2.defers.trans hd
    replace kk0 := kk0.trans (kk2.mono (ys := [4, 5]) (by decide))
    clear e5 x2 y x3 hB hS
    have e5 := g5
    have x2 := qx2
    have y := qy
    have x3 := qx3
    have hB := qB
    have hS := hB.size
    clear qx2 qy qx3 qB
    have e5s := e5
    refine wp_seq ?_
    refine wp_seq ?_
    refine seq_startL (l := [0, 1, 2, 3]) (by kernel_rfl) ?_
    refine seq_move 21 (v := (.int .i64 ((i : Nat) : Int))) rfl rfl rfl rfl e5 ?_
    refine seq_valD 22 (v := (.pointer (some ⟨b3, 0, none⟩))) rfl rfl rfl (run_fp0 rfl ((ev_ne (by decide)).trans e3)) ?_
    refine seq_valD 23 (v := (.int .i64 ((N : Nat) : Int))) rfl rfl rfl (run_ldI rfl (ev_same (by first | (rw [hz]; decide) | (simp only [size_put, hz]; decide))) (x3.cell 0)) ?_
    refine seq_valD 24 (v := (.bool (decide (((i : Nat) : Int) < ((N : Nat) : Int))))) rfl rfl rfl (run_ltI rfl ((ev_ne (by decide)).trans ((ev_ne (by decide)).trans (ev_same (by first | (rw [hz]; decide) | (simp only [size_put, hz]; decide))))) (ev_same (by first | (rw [hz]; decide) | (simp only [size_put, hz]; decide)))) ?_
    refine seq_nil ?_
    refine seq_out (((((KeepM.refl 6 [] a13).put (by decide)).put (by decide)).put (by decide)).put (by decide)) fun a14 k14 tr => ?_
    have f24 := tr 24 (.bool (decide (((i : Nat) : Int) < ((N : Nat) : Int)))) (ev_same (by first | (rw [hz]; decide) | (simp only [size_put, hz]; decide)))
    clear tr
    replace e0 := k14.ev e0 (by decide)
    replace e2 := k14.ev e2 (by decide)
    replace e3 := k14.ev e3 (by decide)
    replace e4 := k14.ev e4 (by decide)
    replace e5 := k14.ev e5 (by decide)
    replace hz := k14.size.trans hz
    replace hd := k14.defers.trans hd
    replace kk0 := kk0.trans (k14.mono (ys := [4, 5]) (by decide))
    replace kk2 := kk2.trans (k14.mono (ys := [5]) (by decide))
    have e24 := f24
    clear f24
    by_cases hlti : i < N
    · rw [decide_eq_true (by omega)] at e24
      refine wp_cond_true e24 ?_
      refine wp_skip ?_
      refine wp_seq ?_
      refine wp_block ?_
      obtain ⟨ad, hA, hal1, hcA, huA⟩ := good_row ((hg x (List.mem_of_getElem? hx)).on hB) (k := i) (by omega)
      have hLW := hL.below hB hL.lt
      have hxc := (hLW.cell _).trans (cells_get L k x hx).2
      rw [hA] at hxc
      have hlast : lastOk (regOps Tryd.f35 10) 18 = true := by kernel_rfl
      refine region_w (n := 19) [some (.pointer (some ⟨b3, 1, none⟩)), some (.slice (some ⟨g, 0, none⟩) N N), some (.int .i64 ((i : Nat) : Int)), some (.pointer (some ⟨b3, 1, none⟩)), some (.slice (some ⟨g, 0, none⟩) N N), some (.int .i64 ((i : Nat) : Int)), some (.pointer (some ((⟨g, 0, none⟩ : Addr).add i))), some (.int .u64 (((orMid L k i i) : Nat) : Int)), some (.slice (some ⟨gl, 0, none⟩) n n), some (.int .i64 ((k : Nat) : Int)), some (.pointer (some ⟨gl, k * 2, none⟩)), some (.pointer (some ⟨gl, k * 2 + 1, none⟩)), some (.slice (some ad) x.rows.length x.cap), some (.int .i64 ((i : Nat) : Int)), some (.pointer (some (ad.add i))), some (.int .u64 (((x.rows.getD i 0) : Nat) : Int)), some (.int .u64 ((((orMid L k i i) ||| (x.rows.getD i 0)) : Nat) : Int)), some (.pointer (some ((⟨g, 0, none⟩ : Addr).add i))), none] 18 w13 (w13.drew.setCell ((⟨g, 0, none⟩ : Addr).add i) (.int .u64 ((((orMid L k i i) ||| (x.rows.getD i 0)) : Nat) : Int))) (by kernel_rfl) (by rw [hz]; kernel_rfl) (by kernel_rfl) (by kernel_rfl) (by kernel_rfl) (by kernel_rfl) ?_ fun L a15 w15 hL st => ?_
      · refine ⟨⟨⟨⟨⟨⟨⟨⟨⟨⟨⟨⟨⟨⟨⟨⟨⟨⟨⟨trivial, ?_⟩, ?_⟩, ?_⟩, ?_⟩, ?_⟩, ?_⟩, ?_⟩, ?_⟩, ?_⟩, ?_⟩, ?_⟩, ?_⟩, ?_⟩, ?_⟩, ?_⟩, ?_⟩, ?_⟩, ?_⟩, ?_⟩
        · intro o a w L ho hL haft st; obtain rfl := Option.some.inj ho; exact payW st hlast hL (by decide) (want_none rfl) (run_fp1 rfl (st.outV (by kernel_rfl) e3)) rfl
        · intro o a w L ho hL haft st; obtain rfl := Option.some.inj ho; exact payW st hlast hL (by decide) (want_none rfl) (run_ldS rfl (st.argV (j := 0) (aft_of haft (by kernel_rfl)) rfl rfl) (x3.cell 1)) rfl
        · intro o a w L ho hL haft st; obtain rfl := Option.some.inj ho; exact payW_move st hlast hL (by decide) (want_none rfl) rfl (st.outV (by kernel_rfl) e5) rfl
        · intro o a w L ho hL haft st; obtain rfl := Option.some.inj ho; exact payW st hlast hL (by decide) (want_none rfl) (run_fp1 rfl (st.outV (by kernel_rfl) e3)) rfl
        · intro o a w L ho hL haft st; obtain rfl := Option.some.inj ho; exact payW st hlast hL (by decide) (want_none rfl) (run_ldS rfl (st.argV (j := 3) (aft_of haft (by kernel_rfl)) rfl rfl) (x3.cell 1)) rfl
        · intro o a w L ho hL haft st; obtain rfl := Option.some.inj ho; exact payW_move st hlast hL (by decide) (want_none rfl) rfl (st.outV (by kernel_rfl) e5) rfl
        · intro o a w L ho hL haft st; obtain rfl := Option.some.inj ho; exact payW st hlast hL (by decide) (want_none rfl) (run_ixU (k := i) rfl (st.argV (j := 4) (aft_of haft (by kernel_rfl)) rfl rfl) (st.argV (j := 5) (aft_of haft (by kernel_rfl)) rfl rfl) hlti) rfl
        · intro o a w L ho hL haft st; obtain rfl := Option.some.inj ho; exact payW st hlast hL (by decide) (want_none rfl) (run_ldU rfl (st.argV (j := 6) (aft_of haft (by kernel_rfl)) rfl rfl) (y.addc (row_get hlti))) rfl
        · intro o a w L ho hL haft st; obtain rfl := Option.some.inj ho; exact payW_move st hlast hL (by decide) (want_none rfl) rfl (st.outV (by kernel_rfl) e0) rfl
        · intro o a w L ho hL haft st; obtain rfl := Option.some.inj ho; exact payW_move st hlast hL (by decide) (want_none rfl) rfl (st.outV (by kernel_rfl) e4) rfl
        · intro o a w L ho hL haft st; obtain rfl := Option.some.inj ho; exact payW st hlast hL (by decide) (want_none rfl) (run_ixR (k := k) rfl (st.argV (j := 8) (aft_of haft (by kernel_rfl)) rfl rfl) (st.argV (j := 9) (aft_of haft (by kernel_rfl)) rfl rfl) hltk) rfl
        · intro o a w L ho hL haft st; obtain rfl := Option.some.inj ho; exact payW st hlast hL (by decide) (want_none rfl) (run_fp1 rfl (st.argV (j := 10) (aft_of haft (by kernel_rfl)) rfl rfl)) rfl
        · intro o a w L ho hL haft st; obtain rfl := Option.some.inj ho; exact payW st hlast hL (by decide) (want_none rfl) (run_ldS rfl (st.argV (j := 11) (aft_of haft (by kernel_rfl)) rfl rfl) hxc) rfl
        · intro o a w L ho hL haft st; obtain rfl := Option.some.inj ho; exact payW_move st hlast hL (by decide) (want_none rfl) rfl (st.outV (by kernel_rfl) e5) rfl
        · intro o a w L ho hL haft st; obtain rfl := Option.some.inj ho; exact payW st hlast hL (by decide) (want_none rfl) (run_ixU (k := i) rfl (st.argV (j := 12) (aft_of haft (by kernel_rfl)) rfl rfl) (st.argV (j := 13) (aft_of haft (by kernel_rfl)) rfl rfl) (by omega)) rfl
        · intro o a w L ho hL haft st; obtain rfl := Option.some.inj ho; exact payW st hlast hL (by decide) (want_none rfl) (run_ldU rfl (st.argV (j := 14) (aft_of haft (by kernel_rfl)) rfl rfl) hcA) rfl
        · intro o a w L ho hL haft st; obtain rfl := Option.some.inj ho; exact payW st hlast hL (by decide) (want_none rfl) (run_orU rfl (st.argV (j := 7) (aft_of haft (by kernel_rfl)) rfl rfl) (st.argV (j := 15) (aft_of haft (by kernel_rfl)) rfl rfl) (orMid_lt _ _ _ _ (fun a ha => (hg a ha).1)) huA) rfl
        · intro o a w L ho hL haft st; obtain rfl := Option.some.inj ho; exact payW st hlast hL (by decide) (want_none rfl) (run_ixU (k := i) rfl (st.argV (j := 1) (aft_of haft (by kernel_rfl)) rfl rfl) (st.argV (j := 2) (aft_of haft (by kernel_rfl)) rfl rfl) hlti) rfl
        · intro o a w L ho hL haft st; obtain rfl := Option.some.inj ho; exact storeW st hlast hL (want_none rfl) (run_stU rfl (st.argV (j := 17) (aft_of haft (by kernel_rfl)) rfl rfl) (st.argV (j := 16) (aft_of haft (by kernel_rfl)) rfl rfl) (y.addc (row_get hlti)) y.addf) rfl
      clear hlast
      obtain rfl := st.end2 hL (by omega)
      have k15 : KeepM 6 [] a14 a15 := st.keepM (by kernel_rfl)
      clear st hL L
      replace e0 := k15.ev e0 (by decide)
      replace e2 := k15.ev e2 (by decide)
      replace e3 := k15.ev e3 (by decide)
      replace e4 := k15.ev e4 (by decide)
      replace e5 := k15.ev e5 (by decide)
      replace hz := k15.size.trans hz
      replace hd := k15.defers.trans hd
      replace kk0 := kk0.trans (k15.mono (ys := [4, 5]) (by decide))
      replace kk2 := kk2.trans (k15.mono (ys := [5]) (by decide))
      rw [add0]
      replace x2 := x2.drew.keep (i := i) y.drew (by decide) (.int .u64 ((((orMid L k i i) ||| (x.rows.getD i 0)) : Nat) : Int))
      replace x3 := x3.drew.keep (i := i) y.drew (by decide) (.int .u64 ((((orMid L k i i) ||| (x.rows.getD i 0)) : Nat) : Int))
      replace y := row_set (F' := orMid L k (i + 1)) y.drew (fun j => orMid_succ hx j)
      replace hB := hB.drew.setCell (p := ⟨g, i, none⟩) hgg (.int .u64 ((((orMid L k i i) ||| (x.rows.getD i 0)) : Nat) : Int))
      generalize (w13.drew.setCell ⟨g, i, none⟩ (.int .u64 ((((orMid L k i i) ||| (x.rows.getD i 0)) : Nat) : Int))) = w16 at x2 y x3 hB ⊢
      replace hS := hB.size
      refine seq_startL (l := [0, 1, 2]) (by kernel_rfl) ?_
      refine seq_move 25 (v := (.int .i64 ((i : Nat) : Int))) rfl rfl rfl rfl e5 ?_
      refine seq_valD 26 (v := (.int .i64 ((i + 1 : Nat) : Int))) rfl rfl rfl (run_incI rfl (ev_same (by first | (rw [hz]; decide) | (simp only [size_put, hz]; decide))) rfl (by omega)) ?_
      refine seq_assign 5 (v := (.int .i64 ((i + 1 : Nat) : Int))) rfl rfl rfl rfl (ev_same (by first | (rw [hz]; decide) | (simp only [size_put, hz]; decide))) ?_
      refine seq_nil ?_
      refine seq_out ((((KeepM.refl 6 [5] a15).put (by decide)).put (by decide)).put (by decide)) fun a17 k17 tr => ?_
      have f5 := tr 5 (.int .i64 ((i + 1 : Nat) : Int)) (ev_same (by first | (rw [hz]; decide) | (simp only [size_put, hz]; decide)))
      clear tr
      replace e0 := k17.ev e0 (by decide)
      replace e2 := k17.ev e2 (by decide)
      replace e3 := k17.ev e3 (by decide)
      replace e4 := k17.ev e4 (by decide)
      replace hz := k17.size.trans hz
      replace hd := k17.defers.trans hd
      replace kk0 := kk0.trans (k17.mono (ys := [4, 5]) (by decide))
      replace kk2 := kk2.trans (k17.mono (ys := [5]) (by decide))
      have e5 := f5
      clear f5
      refine ⟨⟨i + 1, by omega, kk2, e5, x2, y, x3, hB⟩, ?_⟩
      rw [e5, e5s]; simp [intOf]; omega
    · rw [decide_eq_false (by omega)] at e24
      refine wp_cond_false e24 ?_
      refine wp_exit ?_
      refine exit_here1 (id := 2) ?_
      obtain rfl : N = i := by omega
      rw [orMid_full] at y
      refine seq_startL (l := [0, 1, 2]) (by kernel_rfl) ?_
      refine seq_move 19 (v := (.int .i64 ((k : Nat) : Int))) rfl rfl rfl rfl e4 ?_
      refine seq_valD 20 (v := (.int .i64 ((k + 1 : Nat) : Int))) rfl rfl rfl (run_incI rfl (ev_same (by first | (rw [hz]; decide) | (simp only [size_put, hz]; decide))) rfl (by omega)) ?_
      refine seq_assign 4 (v := (.int .i64 ((k + 1 : Nat) : Int))) rfl rfl rfl rfl (ev_same (by first | (rw [hz]; decide) | (simp only [size_put, hz]; decide))) ?_
      refine seq_nil ?_
      refine seq_out ((((KeepM.refl 6 [4] a14).put (by decide)).put (by decide)).put (by decide)) fun a18 k18 tr => ?_
      have f4 := tr 4 (.int .i64 ((k + 1 : Nat) : Int)) (ev_same (by first | (rw [hz]; decide) | (simp only [size_put, hz]; decide)))
      clear tr
      replace e0 := k18.ev e0 (by decide)
      replace e2 := k18.ev e2 (by decide)
      replace e3 := k18.ev e3 (by decide)
      replace e5 := k18.ev e5 (by decide)
      replace hz := k18.size.trans hz
      replace hd := k18.defers.trans hd
      replace kk0 := kk0.trans (k18.mono (ys := [4, 5]) (by decide))
      have e4 := f4
      clear f4
      refine ⟨⟨k + 1, by omega, kk0, e4, x2, y, x3, hB⟩, ?_⟩
      rw [e4, e4s]; simp [intOf]; omega
  · rw [decide_eq_false (by omega)] at e18
    refine wp_cond_false e18 ?_
    refine wp_exit ?_
    refine exit_here1 (id := 0) ?_
    obtain rfl : n = k := by omega
    refine wp_seq ?_
    refine seq_startL (l := [0, 1]) (by kernel_rfl) ?_
    refine seq_valD 45 (v := (.agg #[.int .i64 ((N : Nat) : Int), .slice (some ⟨g, 0, none⟩) N N])) rfl rfl rfl (run_ldR rfl e3 (x3.cell 0) (x3.cell 1)) ?_
    refine seq_skipD rfl rfl rfl (run_stR rfl ((ev_ne (by decide)).trans e2) (ev_same (by first | (rw [hz]; decide) | (simp only [size_put, hz]; decide))) x2) ?_
    have y2 : RowT ((w10.setCell ⟨b2, 0, none⟩ (.int .i64 ((N : Nat) : Int))).setCell ⟨b2, 1, none⟩ (.slice (some ⟨g, 0, none⟩) N N)) b2 26 [.int .i64 ((N : Nat) : Int), .slice (some ⟨g, 0, none⟩) N N] := (x2.set_ 0 _).set_ 1 _
    replace y := (y.keep (i := 0) x2 (by decide) (.int .i64 ((N : Nat) : Int))).keep (i := 1) (x2.set_ 0 (.int .i64 ((N : Nat) : Int))) (by decide) (.slice (some ⟨g, 0, none⟩) N N)
    replace x3 := (x3.far (p := ⟨b2, 0, none⟩) nx2_3.symm (.int .i64 ((N : Nat) : Int))).far (p := ⟨b2, 1, none⟩) nx2_3.symm (.slice (some ⟨g, 0, none⟩) N N)
    replace hB := (hB.setCell (p := ⟨b2, 0, none⟩) hge2 (.int .i64 ((N : Nat) : Int))).setCell (p := ⟨b2, 1, none⟩) hge2 (.slice (some ⟨g, 0, none⟩) N N)
    have x2 := y2
    clear y2
    generalize ((w10.setCell ⟨b2, 0, none⟩ (.int .i64 ((N : Nat) : Int))).setCell ⟨b2, 1, none⟩ (.slice (some ⟨g, 0, none⟩) N N)) = w19 at x2 y x3 hB ⊢
    replace hS := hB.size
    refine seq_nil ?_
    refine seq_out ((KeepM.refl 6 [] a11).put (by decide)) fun a20 k20 tr => ?_
    clear tr
    replace e0 := k20.ev e0 (by decide)
    replace e2 := k20.ev e2 (by decide)
    replace e3 := k20.ev e3 (by decide)
    replace e4 := k20.ev e4 (by decide)
    replace hz := k20.size.trans hz
    replace hd := k20.defers.trans hd
    refine wp_ret ?_
    exact post_cell rfl hd e2 x2 (fin_R y (by simp) (by intro v hv; obtain ⟨i, _, rfl⟩ := List.mem_map.1 hv; exact orF_lt L _ _ fun a ha => (hg a ha).1) hB)
set_option maxRecDepth 100000 in
theorem rOr_bad (L : List RA) (gl n : Nat) (w0 : World) (hn : L.length = n) (hlen : n < 1000) (hL : RowT w0 gl 26 (L.flatMap RA.cells)) (hg : ∀ a ∈ L, a.good w0) (hal : Palike (L.map RA.pr) = false) :
    Calls Tryd.prog 35 #[.slice (some ⟨gl, 0, none⟩) n n] w0 (RetR w0 PR.zero) := by
  refine calls_of_wp Tryd.func35 rfl ?_
  obtain ⟨hz, e0⟩ := start_act1 46 ((.slice (some ⟨gl, 0, none⟩) n n)) (by decide)
  have hd : ({ tmps := #[(.slice (some ⟨gl, 0, none⟩) n n)] ++ Array.replicate (46 - 1) undef, defers := [] } : Act).defers = [] := rfl
  rw [show Tryd.f35.ntmps - (#[(.slice (some ⟨gl, 0, none⟩) n n)] : Array Value).size = 46 - 1 from rfl]
  generalize ({ tmps := #[(.slice (some ⟨gl, 0, none⟩) n n)] ++ Array.replicate (46 - 1) undef, defers := [] } : Act) = a0 at hz e0 hd ⊢
  have hB : Below w0.heap.size w0 w0 := Below.refl _ _
  have hS := hB.size
  refine wp_seq ?_
  refine seq_startL (l := [0]) (by kernel_rfl) ?_
  refine seq_valD 2 rfl rfl rfl (run_allocR rfl rfl) ?_
  have x2 := RowT.new w0 26 [.int .i64 0, .slice none 0 0]
  replace hB := hB.al (o := .cells ([.int .i64 0, .slice none 0 0] : List Value).toArray 26)
  change wpOps _ _ _ _ _ (w0.alloc (.cells ([.int .i64 0, .slice none 0 0] : List Value).toArray 26))
  generalize (w0.alloc (.cells ([.int .i64 0, .slice none 0 0] : List Value).toArray 26)) = w1 at x2 hB ⊢
  generalize hbq2 : w0.heap.size = b2 at x2 ⊢
  have hge2 : w0.heap.size ≤ b2 := by rw [← hbq2]; exact hS
  clear hbq2
  have hS := hB.size
  refine seq_nil ?_
  refine seq_out ((KeepM.refl 6 [2] a0).put (by decide)) fun a2 k2 tr => ?_
  have f2 := tr 2 (.pointer (some ⟨b2, 0, none⟩)) (ev_same (by first | (rw [hz]; decide) | (simp only [size_put, hz]; decide)))
  clear tr
  replace e0 := k2.ev e0 (by decide)
  replace hz := k2.size.trans hz
  replace hd := k2.defers.trans hd
  have e2 := f2
  clear f2
  refine wp_seq ?_
  refine wp_seq ?_
  refine seq_startL (l := [0, 1, 2]) (by kernel_rfl) ?_
  refine seq_move 6 (v := (.slice (some ⟨gl, 0, none⟩) n n)) rfl rfl rfl rfl e0 ?_
  refine seq_callD 7 rfl rfl rfl en_alike rfl (args_one (ev_same (by first | (rw [hz]; decide) | (simp only [size_put, hz]; decide)))) ((hal ▸ ralike_c L gl n w1 hn hlen (hL.below hB hL.lt) (fun a ha => (hg a ha).on hB)).mono ?_)
  rintro e w3 ⟨rfl, hb3⟩
  refine ⟨_, rfl, ?_⟩
  replace x2 := x2.below hb3 x2.lt
  replace hB := Below.next hB hb3
  replace hS := hB.size
  refine seq_valD 8 (v := (.bool true)) rfl rfl rfl (run_not rfl (ev_same (by first | (rw [hz]; decide) | (simp only [size_put, hz]; decide)))) ?_
  refine seq_nil ?_
  refine seq_out ((((KeepM.refl 6 [] a2).put (by decide)).put (by decide)).put (by decide)) fun a4 k4 tr => ?_
  have f8 := tr 8 (.bool true) (ev_same (by first | (rw [hz]; decide) | (simp only [size_put, hz]; decide)))
  clear tr
  replace e0 := k4.ev e0 (by decide)
  replace e2 := k4.ev e2 (by decide)
  replace hz := k4.size.trans hz
  replace hd := k4.defers.trans hd
  have e8 := f8
  clear f8
  refine wp_cond_true e8 ?_
  refine wp_seq ?_
  refine seq_startL (l := [0, 1]) (by kernel_rfl) ?_
  refine seq_valD 9 (v := (.agg #[.int .i64 0, .slice none 0 0])) rfl rfl rfl (run_rel0 rfl) ?_
  refine seq_skipD rfl rfl rfl (run_stR rfl ((ev_ne (by decide)).trans e2) (ev_same (by first | (rw [hz]; decide) | (simp only [size_put, hz]; decide))) x2) ?_
  have y2 : RowT ((w3.setCell ⟨b2, 0, none⟩ (.int .i64 0)).setCell ⟨b2, 1, none⟩ (.slice none 0 0)) b2 26 [.int .i64 0, .slice none 0 0] := (x2.set_ 0 _).set_ 1 _
  replace hB := (hB.setCell (p := ⟨b2, 0, none⟩) hge2 (.int .i64 0)).setCell (p := ⟨b2, 1, none⟩) hge2 (.slice none 0 0)
  have x2 := y2
  clear y2
  generalize ((w3.setCell ⟨b2, 0, none⟩ (.int .i64 0)).setCell ⟨b2, 1, none⟩ (.slice none 0 0)) = w5 at x2 hB ⊢
  replace hS := hB.size
  refine seq_nil ?_
  refine seq_out ((KeepM.refl 6 [] a4).put (by decide)) fun a6 k6 tr => ?_
  clear tr
  replace e0 := k6.ev e0 (by decide)
  replace e2 := k6.ev e2 (by decide)
  replace hz := k6.size.trans hz
  replace hd := k6.defers.trans hd
  refine wp_ret ?_
  exact post_cell rfl hd e2 x2 (fin_Z hB)
theorem en_rOr : Enters Tryd.prog 35 := enters_of Tryd.func35 (by kernel_rfl) rfl
/-- What the first relation of relations that are alike says of all. -/
theorem alike_all {L : List RA} {a0 : RA} {M : List RA} (hM : L = a0 :: M) (hal : Palike (L.map RA.pr) = true) : a0.n = (a0.rows.length : Nat) ∧ a0.rows.length ≤ 64 ∧ ∀ a ∈ L, a.rows.length = a0.rows.length := by
  subst hM
  obtain ⟨h1, h2, _⟩ := ok_rows (Palike_ok hal a0.pr (by simp)).1
  refine ⟨h1, h2, fun a ha => ?_⟩
  exact (alike_lt hal a.pr (by simpa using List.mem_map_of_mem (f := RA.pr) ha)).1
theorem C_rOr : CallLR 35 Por := fun L g w _ hlen hL hg => by
  cases hal : Palike (L.map RA.pr) with
  | false => unfold Por; rw [if_neg (by rw [hal]; simp)]; exact rOr_bad L g _ w rfl hlen hL hg hal
  | true =>
    cases hL0 : L with
    | nil => rw [hL0] at hal; cases hal
    | cons a0 M =>
      obtain ⟨h1, h2, h3⟩ := alike_all hL0 hal
      have hc0 : (L.flatMap RA.cells)[0]? = some (.int .i64 ((a0.rows.length : Nat) : Int)) := by rw [hL0, ← h1]; rfl
      have := rOr_ok L g _ a0.rows.length w rfl hlen hL hg hal (by rw [hL0]; simp) hc0 h3 h2
      rw [← hL0]
      unfold Por
      rw [if_pos hal]
      have e : (List.range a0.rows.length).map (orF L L.length) = (List.range a0.rows.length).map (PorF (L.map RA.pr)) := List.map_congr_left fun i _ => orF_pr L i
      rw [e] at this
      have e2 : (L.map RA.pr).headD PR.zero = a0.pr := by rw [hL0]; rfl
      rw [e2, show a0.pr.n = ((a0.rows.length : Nat) : Int) from h1]
      exact this
end Go.Proofs.YtigdecmfieaacaaDoor
namespace Go.Proofs.YtigdecmfieaacaaDoor
open Go Go.RowKit

/-- The code of a block. -/
def findBlk (id : Nat) : Code → Option Code
  | .block i c => if i = id then some c else findBlk id c
  | .seq x y => match findBlk id x with
    | some o => some o
    | none => findBlk id y
  | .cond _ x y => match findBlk id x with
    | some o => some o
    | none => findBlk id y
  | .loop c => findBlk id c
  | _ => none
def blkCode (f : Func) (id : Nat) : Code := (f.body.bind (findBlk id)).getD .skip
/-- The rows of rows that the first j bits of m lead to. -/
def imgTo (rows : List Nat) (m j : Nat) : Nat := (List.range j).foldl (fun acc b => if m.testBit b = true then acc ||| rows.getD b 0 else acc) 0
theorem imgTo_succ (rows : List Nat) (m j : Nat) : imgTo rows m (j + 1) = if m.testBit j = true then imgTo rows m j ||| rows.getD j 0 else imgTo rows m j := by
  simp [imgTo, List.range_succ]
theorem imgTo_lt {rows : List Nat} (h : ∀ x ∈ rows, x < 18446744073709551616) (m j : Nat) : imgTo rows m j < 18446744073709551616 := by
  induction j with
  | zero => simp [imgTo]
  | succ j ih =>
    rw [imgTo_succ]
    split
    · exact Nat.or_lt_two_pow (n := 64) ih (getD_u h j)
    · exact ih
theorem imgTo_bit (rows : List Nat) (m j b : Nat) : (imgTo rows m j).testBit b = true ↔ ∃ k, k < j ∧ m.testBit k = true ∧ bt rows k b = true := by
  induction j with
  | zero => simp [imgTo]
  | succ j ih =>
    rw [imgTo_succ]
    constructor
    · intro h
      split at h
      · rename_i hb
        rw [Nat.testBit_or, Bool.or_eq_true] at h
        rcases h with h | h
        · obtain ⟨k, h1, h2⟩ := ih.1 h; exact ⟨k, by omega, h2⟩
        · exact ⟨j, by omega, hb, h⟩
      · obtain ⟨k, h1, h2⟩ := ih.1 h; exact ⟨k, by omega, h2⟩
    · rintro ⟨k, h1, h2, h3⟩
      by_cases e : k = j
      · subst e; rw [if_pos h2, Nat.testBit_or, Bool.or_eq_true]; exact .inr h3
      · have := ih.2 ⟨k, by omega, h2, h3⟩
        split
        · rw [Nat.testBit_or, this]; rfl
        · exact this
theorem imgTo_all {rows : List Nat} {m N : Nat} (hN : N ≤ 64) (hm : m < 2 ^ N) : imgTo rows m N = img rows m := by
  apply Nat.eq_of_testBit_eq
  intro b
  rw [Bool.eq_iff_iff, imgTo_bit, img_bit rows m b (Nat.lt_of_lt_of_le hm (pow_le_64 N hN))]
  constructor
  · rintro ⟨k, _, h2, h3⟩; exact ⟨k, h2, h3⟩
  · rintro ⟨k, h2, h3⟩
    refine ⟨k, ?_, h2, h3⟩
    rcases Nat.lt_or_ge k N with h | h
    · exact h
    · rw [Nat.testBit_lt_two_pow (Nat.lt_of_lt_of_le hm (Nat.pow_le_pow_right (by decide) h))] at h2; cases h2
/-- The rows while row i is made of the first j bits. -/
def thenMid (p x : List Nat) (i j q : Nat) : Nat := if q < i then img x (p.getD q 0) else if q = i then imgTo x (p.getD i 0) j else 0
theorem thenMid_zero (p x : List Nat) (i : Nat) : thenMid p x i 0 = midF (fun i => img x (p.getD i 0)) i := by
  funext q; unfold thenMid midF
  by_cases h : q < i
  · rw [if_pos h, if_pos h]
  · rw [if_neg h, if_neg h]; split <;> rfl
theorem thenMid_at (p x : List Nat) (i j : Nat) : thenMid p x i j i = imgTo x (p.getD i 0) j := by simp [thenMid]
theorem thenMid_lt (p x : List Nat) (i j : Nat) (h : ∀ v ∈ x, v < 18446744073709551616) : thenMid p x i j i < 18446744073709551616 := by
  rw [thenMid_at]; exact imgTo_lt h _ _
theorem thenMid_idle {p x : List Nat} {i j : Nat} (h : (p.getD i 0).testBit j = false) : thenMid p x i (j + 1) = thenMid p x i j := by
  funext q; unfold thenMid; rw [imgTo_succ, h]; simp
theorem thenMid_succ {p x : List Nat} {i j : Nat} (h : (p.getD i 0).testBit j = true) (q : Nat) : thenMid p x i (j + 1) q = if q = i then thenMid p x i j i ||| x.getD j 0 else thenMid p x i j q := by
  rw [thenMid_at]
  by_cases e : q = i
  · subst e; rw [if_pos rfl, thenMid_at, imgTo_succ, if_pos h]
  · rw [if_neg e]; unfold thenMid; rw [if_neg e, if_neg e]
theorem thenMid_full {p x : List Nat} {i N : Nat} (hN : N ≤ 64) (hp : ∀ v ∈ p, v < 2 ^ N) (_hx : x.length = N) : thenMid p x i N = midF (fun i => img x (p.getD i 0)) (i + 1) := by
  have hi : p.getD i 0 < 2 ^ N := by
    rw [List.getD_eq_getElem?_getD]
    cases e : p[i]? with
    | none => exact Nat.two_pow_pos N
    | some v => exact hp v (List.mem_of_getElem? e)
  funext q
  rw [midF_succ]
  unfold thenMid midF
  by_cases e : q = i
  · subst e; rw [if_neg (by omega), if_pos rfl, if_pos rfl, imgTo_all hN hi]
  · rw [if_neg e, if_neg e]
set_option maxRecDepth 100000 in
set_option maxHeartbeats 4000000 in
theorem then_step {Q : Exit → Act → World → Prop} {a0 : Act} {w0 : World} {L : List RA} {x p : RA} {gl n N k b3 : Nat} (hz : a0.tmps.size = 68) (e0 : a0.eval (.tmp 0) = .slice (some ⟨gl, 0, none⟩) n n) (e3 : a0.eval (.tmp 3) = .pointer (some ⟨b3, 0, none⟩)) (e4 : a0.eval (.tmp 4) = .int .i64 ((k : Nat) : Int)) (hk : k < n)
    (hL : RowT w0 gl 26 (L.flatMap RA.cells)) (hxk : (L.flatMap RA.cells)[k * 2 + 1]? = some (.slice x.A x.rows.length x.cap)) (x3 : RowT w0 b3 26 [.int .i64 ((N : Nat) : Int), .slice p.A N p.cap]) (hp : p.good w0) (hx : x.good w0) (hpl : p.rows.length = N) (hxl : x.rows.length = N) (hpu : ∀ v ∈ p.rows, v < 2 ^ N) (h64 : N ≤ 64)
    (hK : ∀ a w b5 g, KeepM 8 [5, 6, 7] a0 a → a.eval (.tmp 5) = .pointer (some ⟨b5, 0, none⟩) → RowT w b5 26 [.int .i64 ((N : Nat) : Int), .slice (some ⟨g, 0, none⟩) N N] → RowT w g 37 (((List.range N).map fun i => img x.rows (p.rows.getD i 0)).map U) → w0.heap.size ≤ b5 → w0.heap.size ≤ g → Below w0.heap.size w0 w → (Code.region 16 (regOps Tryd.f40 16) false).wp Tryd.prog Q a w) :
    (blkCode Tryd.f40 1).wp Tryd.prog Q a0 w0 := by
  have hd : a0.defers = a0.defers := rfl
  have hB : Below w0.heap.size w0 w0 := Below.refl _ _
  have hS := hB.size
  refine wp_seq ?_
  refine seq_startL (l := [0, 1, 2, 3, 4]) (by kernel_rfl) ?_
  refine seq_valD 23 (v := (.pointer (some ⟨b3, 0, none⟩))) rfl rfl rfl (run_fp0 rfl e3) ?_
  refine seq_valD 24 (v := (.int .i64 ((N : Nat) : Int))) rfl rfl rfl (run_ldI rfl (ev_same (by first | (rw [hz]; decide) | (simp only [size_put, hz]; decide))) (x3.cell 0)) ?_
  refine seq_callD 25 rfl rfl rfl en_rNone rfl (args_one (ev_same (by first | (rw [hz]; decide) | (simp only [size_put, hz]; decide)))) ((rnone_ok N w0 h64).mono ?_)
  rintro e w1 ⟨v1, rfl, ⟨g, rfl, hgg, y⟩, hb1⟩
  refine ⟨_, rfl, ?_⟩
  replace hgg : w0.heap.size ≤ g := Nat.le_trans hS hgg
  replace x3 := x3.below hb1 x3.lt
  replace hB := Below.next hB hb1
  replace hS := hB.size
  refine seq_valD 5 rfl rfl rfl (run_allocR rfl rfl) ?_
  have nx3_5 : b3 ≠ w1.heap.size := Nat.ne_of_lt x3.lt
  have x5 := RowT.new w1 26 [.int .i64 0, .slice none 0 0]
  replace x3 := x3.alloc (.cells ([.int .i64 0, .slice none 0 0] : List Value).toArray 26)
  replace y := y.alloc (.cells ([.int .i64 0, .slice none 0 0] : List Value).toArray 26)
  replace hB := hB.al (o := .cells ([.int .i64 0, .slice none 0 0] : List Value).toArray 26)
  change wpOps _ _ _ _ _ (w1.alloc (.cells ([.int .i64 0, .slice none 0 0] : List Value).toArray 26))
  generalize (w1.alloc (.cells ([.int .i64 0, .slice none 0 0] : List Value).toArray 26)) = w2 at x3 y x5 hB ⊢
  generalize hbq5 : w1.heap.size = b5 at x5 nx3_5 ⊢
  have hge5 : w0.heap.size ≤ b5 := by rw [← hbq5]; exact hS
  clear hbq5
  have hS := hB.size
  refine seq_skipD rfl rfl rfl (run_stR rfl (ev_same (by first | (rw [hz]; decide) | (simp only [size_put, hz]; decide))) ((ev_ne (by decide)).trans (ev_same (by first | (rw [hz]; decide) | (simp only [size_put, hz]; decide)))) x5) ?_
  have y5 : RowT ((w2.setCell ⟨b5, 0, none⟩ (.int .i64 ((N : Nat) : Int))).setCell ⟨b5, 1, none⟩ (.slice (some ⟨g, 0, none⟩) N N)) b5 26 [.int .i64 ((N : Nat) : Int), .slice (some ⟨g, 0, none⟩) N N] := (x5.set_ 0 _).set_ 1 _
  replace x3 := (x3.far (p := ⟨b5, 0, none⟩) nx3_5 (.int .i64 ((N : Nat) : Int))).far (p := ⟨b5, 1, none⟩) nx3_5 (.slice (some ⟨g, 0, none⟩) N N)
  replace y := (y.keep (i := 0) x5 (by decide) (.int .i64 ((N : Nat) : Int))).keep (i := 1) (x5.set_ 0 (.int .i64 ((N : Nat) : Int))) (by decide) (.slice (some ⟨g, 0, none⟩) N N)
  replace hB := (hB.setCell (p := ⟨b5, 0, none⟩) hge5 (.int .i64 ((N : Nat) : Int))).setCell (p := ⟨b5, 1, none⟩) hge5 (.slice (some ⟨g, 0, none⟩) N N)
  have x5 := y5
  clear y5
  generalize ((w2.setCell ⟨b5, 0, none⟩ (.int .i64 ((N : Nat) : Int))).setCell ⟨b5, 1, none⟩ (.slice (some ⟨g, 0, none⟩) N N)) = w3 at x3 y x5 hB ⊢
  replace hS := hB.size
  refine seq_nil ?_
  refine seq_out (((((KeepM.refl 8 [5] a0).put (by decide)).put (by decide)).put (by decide)).put (by decide)) fun a4 k4 tr => ?_
  have f5 := tr 5 (.pointer (some ⟨b5, 0, none⟩)) (ev_same (by first | (rw [hz]; decide) | (simp only [size_put, hz]; decide)))
  clear tr
  replace e0 := k4.ev e0 (by decide)
  replace e3 := k4.ev e3 (by decide)
  replace e4 := k4.ev e4 (by decide)
  replace hz := k4.size.trans hz
  replace hd := k4.defers.trans hd
  have e5 := f5
  clear f5
  have y0 : RowT w3 g 37 (((List.range N).map (midF (fun i => img x.rows (p.rows.getD i 0)) 0)).map U) := by rw [midF_zero]; exact y
  clear y
  have y := y0
  clear y0
  refine wp_seq ?_
  refine wp_seq ?_
  refine seq_startL (l := [0]) (by kernel_rfl) ?_
  refine seq_assign 6 (v := (.int .i64 0)) rfl rfl rfl rfl rfl ?_
  refine seq_nil ?_
  refine seq_out ((KeepM.refl 8 [6] a4).put (by decide)) fun a5 k5 tr => ?_
  have f6 := tr 6 (.int .i64 0) (ev_same (by first | (rw [hz]; decide) | (simp only [size_put, hz]; decide)))
  clear tr
  replace e0 := k5.ev e0 (by decide)
  replace e3 := k5.ev e3 (by decide)
  replace e4 := k5.ev e4 (by decide)
  replace e5 := k5.ev e5 (by decide)
  replace hz := k5.size.trans hz
  replace hd := k5.defers.trans hd
  have e6 := f6
  clear f6
  refine wp_block ?_
  refine wp_loop (fun aq wq => ∃ (i : Nat), (i ≤ N) ∧ KeepM 8 [6, 7] a5 aq ∧ aq.eval (.tmp 6) = (.int .i64 ((i : Nat) : Int)) ∧ RowT wq b3 26 [.int .i64 ((N : Nat) : Int), .slice p.A N p.cap] ∧ RowT wq g 37 (((List.range N).map (midF (fun i => img x.rows (p.rows.getD i 0)) i)).map U) ∧ RowT wq b5 26 [.int .i64 ((N : Nat) : Int), .slice (some ⟨g, 0, none⟩) N N] ∧ Below w0.heap.size w0 wq) (fun aq _ => N - (intOf (aq.eval (.tmp 6))).toNat) ⟨0, Nat.zero_le _, KeepM.refl _ _ _, e6, x3, y, x5, hB⟩ ?_
  rintro a6 w6 ⟨i, hk2, kk2, g6, qx3, qy, qx5, qB⟩
  replace e0 := kk2.ev e0 (by decide)
  replace e3 := kk2.ev e3 (by decide)
  replace e4 := kk2.ev e4 (by decide)
  replace e5 := kk2.ev e5 (by decide)
  replace hz := kk2.size.trans hz
  replace hd := kk2.defers.trans hd
  clear e6 x3 y x5 hB hS
  have e6 := g6
  have x3 := qx3
  have y := qy
  have x5 := qx5
  have hB := qB
  have hS := hB.size
  clear qx3 qy qx5 qB
  have e6s := e6
  refine wp_seq ?_
  refine wp_seq ?_
  refine seq_startL (l := [0, 1, 2, 3]) (by kernel_rfl) ?_
  refine seq_move 26 (v := (.int .i64 ((i : Nat) : Int))) rfl rfl rfl rfl e6 ?_
  refine seq_valD 27 (v := (.pointer (some ⟨b3, 0, none⟩))) rfl rfl rfl (run_fp0 rfl ((ev_ne (by decide)).trans e3)) ?_
  refine seq_valD 28 (v := (.int .i64 ((N : Nat) : Int))) rfl rfl rfl (run_ldI rfl (ev_same (by first | (rw [hz]; decide) | (simp only [size_put, hz]; decide))) (x3.cell 0)) ?_
  refine seq_valD 29 (v := (.bool (decide (((i : Nat) : Int) < ((N : Nat) : Int))))) rfl rfl rfl (run_ltI rfl ((ev_ne (by decide)).trans ((ev_ne (by decide)).trans (ev_same (by first | (rw [hz]; decide) | (simp only [size_put, hz]; decide))))) (ev_same (by first | (rw [hz]; decide) | (simp only [size_put, hz]; decide)))) ?_
  refine seq_nil ?_
  refine seq_out (((((KeepM.refl 8 [] a6).put (by decide)).put (by decide)).put (by decide)).put (by decide)) fun a7 k7 tr => ?_
  have f29 := tr 29 (.bool (decide (((i : Nat) : Int) < ((N : Nat) : Int)))) (ev_same (by first | (rw [hz]; decide) | (simp only [size_put, hz]; decide)))
  clear tr
  replace e0 := k7.ev e0 (by decide)
  replace e3 := k7.ev e3 (by decide)
  replace e4 := k7.ev e4 (by decide)
  replace e5 := k7.ev e5 (by decide)
  replace e6 := k7.ev e6 (by decide)
  replace hz := k7.size.trans hz
  replace hd := k7.defers.trans hd
  replace kk2 := kk2.trans (k7.mono (ys := [6, 7]) (by decide))
  have e29 := f29
  clear f29
  by_cases hlti : i < N
  · rw [decide_eq_true (by omega)] at e29
    refine wp_cond_true e29 ?_
    refine wp_skip ?_
    refine wp_seq ?_
    refine wp_block ?_
    refine wp_seq ?_
    refine seq_startL (l := [0]) (by kernel_rfl) ?_
    refine seq_assign 7 (v := (.int .i64 0)) rfl rfl rfl rfl rfl ?_
    refine seq_nil ?_
    refine seq_out ((KeepM.refl 8 [7] a7).put (by decide)) fun a8 k8 tr => ?_
    have f7 := tr 7 (.int .i64 0) (ev_same (by first | (rw [hz]; decide) | (simp only [size_put, hz]; decide)))
    clear tr
    replace e0 := k8.ev e0 (by decide)
    replace e3 := k8.ev e3 (by decide)
    replace e4 := k8.ev e4 (by decide)
    replace e5 := k8.ev e5 (by decide)
    replace e6 := k8.ev e6 (by decide)
    replace hz := k8.size.trans hz
    replace hd := k8.defers.trans hd
    replace kk2 := kk2.trans (k8.mono (ys := [6, 7]) (by decide))
    have e7 := f7
    clear f7
    rw [← thenMid_zero] at y
    refine wp_block ?_
    refine wp_loop (fun aq wq => ∃ (j : Nat), (j ≤ N) ∧ KeepM 8 [7] a8 aq ∧ aq.eval (.tmp 7) = (.int .i64 ((j : Nat) : Int)) ∧ RowT wq b3 26 [.int .i64 ((N : Nat) : Int), .slice p.A N p.cap] ∧ RowT wq g 37 (((List.range N).map (thenMid p.rows x.rows i j)).map U) ∧ RowT wq b5 26 [.int .i64 ((N : Nat) : Int), .slice (some ⟨g, 0, none⟩) N N] ∧ Below w0.heap.size w0 wq) (fun aq _ => N - (intOf (aq.eval (.tmp 7))).toNat) ⟨0, Nat.zero_le _, KeepM.refl _ _ _, e7, x3, y, x5, hB⟩ ?_
    rintro a9 w9 ⟨j, hk4, kk4, g7, qx3, qy, qx5, qB⟩
    replace e0 := kk4.ev e0 (by decide)
    replace e3 := kk4.ev e3 (by decide)
    replace e4 := kk4.ev e4 (by decide)
    replace e5 := kk4.ev e5 (by decide)
    replace e6 := kk4.ev e6 (by decide)
    replace hz := kk4.size.trans hz
    replace hd := kk4.defers.trans hd
    replace kk2 := kk2.trans (kk4.mono (ys := [6, 7]) (by decide))
    clear e7 x3 y x5 hB hS
    have e7 := g7
    have x3 := qx3
    have y := qy
    have x5 := qx5
    have hB := qB
    have hS := hB.size
    clear qx3 qy qx5 qB
    have e7s := e7
    refine wp_seq ?_
    refine wp_seq ?_
    refine seq_startL (l := [0, 1, 2, 3]) (by kernel_rfl) ?_
    refine seq_move 32 (v := (.int .i64 ((j : Nat) : Int))) rfl rfl rfl rfl e7 ?_
    refine seq_valD 33 (v := (.pointer (some ⟨b3, 0, none⟩))) rfl rfl rfl (run_fp0 rfl ((ev_ne (by decide)).trans e3)) ?_
    refine seq_valD 34 (v := (.int .i64 ((N : Nat) : Int))) rfl rfl rfl (run_ldI rfl (ev_same (by first | (rw [hz]; decide) | (simp only [size_put, hz]; decide))) (x3.cell 0)) ?_
    refine seq_valD 35 (v := (.bool (decide (((j : Nat) : Int) < ((N : Nat) : Int))))) rfl rfl rfl (run_ltI rfl ((ev_ne (by decide)).trans ((ev_ne (by decide)).trans (ev_same (by first | (rw [hz]; decide) | (simp only [size_put, hz]; decide))))) (ev_same (by first | (rw [hz]; decide) | (simp only [size_put, hz]; decide)))) ?_
    refine seq_nil ?_
    refine seq_out (((((KeepM.refl 8 [] a9).put (by decide)).put (by decide)).put (by decide)).put (by decide)) fun a10 k10 tr => ?_
    have f35 := tr 35 (.bool (decide (((j : Nat) : Int) < ((N : Nat) : Int)))) (ev_same (by first | (rw [hz]; decide) | (simp only [size_put, hz]; decide)))
    clear tr
    replace e0 := k10.ev e0 (by decide)
    replace e3 := k10.ev e3 (by decide)
    replace e4 := k10.ev e4 (by decide)
    replace e5 := k10.ev e5 (by decide)
    replace e6 := k10.ev e6 (by decide)
    replace e7 := k10.ev e7 (by decide)
    replace hz := k10.size.trans hz
    replace hd := k10.defers.trans hd
    replace kk2 := kk2.trans (k10.mono (ys := [6, 7]) (by decide))
    replace kk4 := kk4.trans (k10.mono (ys := [7]) (by decide))
    have e35 := f35
    clear f35
    by_cases hltj : j < N
    · rw [decide_eq_true (by omega)] at e35
      refine wp_cond_true e35 ?_
      refine wp_skip ?_
      refine wp_seq ?_
      refine wp_block ?_
      refine wp_seq ?_
      obtain ⟨ad, hA, hal1, hcA, huA⟩ := good_row (hp.on hB) (k := i) (by omega)
      obtain ⟨bd, hXA, hbl1, hcB, huB⟩ := good_row (hx.on hB) (k := j) (by omega)
      have hxc := (hL.below hB hL.lt).cell (k * 2 + 1)
      rw [hxk, hXA] at hxc
      cases hbt : (p.rows.getD i 0).testBit j with
      | false =>
        refine seq_startL (l := [0, 1, 2, 3, 4, 5, 6, 7, 8, 9]) (by kernel_rfl) ?_
        refine seq_valD 38 (v := (.pointer (some ⟨b3, 1, none⟩))) rfl rfl rfl (run_fp1 rfl e3) ?_
        refine seq_valD 39 (v := (.slice (some ad) N p.cap)) rfl rfl rfl (run_ldS rfl (ev_same (by first | (rw [hz]; decide) | (simp only [size_put, hz]; decide))) (by rw [← hA]; exact x3.cell 1)) ?_
        refine seq_move 40 (v := (.int .i64 ((i : Nat) : Int))) rfl rfl rfl rfl ((ev_ne (by decide)).trans ((ev_ne (by decide)).trans e6)) ?_
        refine seq_valD 41 (v := (.pointer (some (ad.add i)))) rfl rfl rfl (run_ixU (k := i) rfl ((ev_ne (by decide)).trans (ev_same (by first | (rw [hz]; decide) | (simp only [size_put, hz]; decide)))) (ev_same (by first | (rw [hz]; decide) | (simp only [size_put, hz]; decide))) hlti) ?_
        refine seq_valD 42 (v := (.int .u64 (((p.rows.getD i 0) : Nat) : Int))) rfl rfl rfl (run_ldU rfl (ev_same (by first | (rw [hz]; decide) | (simp only [size_put, hz]; decide))) hcA) ?_
        refine seq_move 43 (v := (.int .i64 ((j : Nat) : Int))) rfl rfl rfl rfl ((ev_ne (by decide)).trans ((ev_ne (by decide)).trans ((ev_ne (by decide)).trans ((ev_ne (by decide)).trans ((ev_ne (by decide)).trans e7))))) ?_
        refine seq_valD 44 (v := (.int .u64 ((j : Nat) : Int))) rfl rfl rfl (run_cvU rfl (ev_same (by first | (rw [hz]; decide) | (simp only [size_put, hz]; decide))) (by omega)) ?_
        refine seq_valD 45 (v := (.int .u64 ((((p.rows.getD i 0) / 2 ^ j) : Nat) : Int))) rfl rfl rfl (run_shr rfl ((ev_ne (by decide)).trans ((ev_ne (by decide)).trans (ev_same (by first | (rw [hz]; decide) | (simp only [size_put, hz]; decide))))) (ev_same (by first | (rw [hz]; decide) | (simp only [size_put, hz]; decide))) (by omega)) ?_
        refine seq_valD 46 (v := (.int .u64 (((((p.rows.getD i 0) / 2 ^ j) % 2) : Nat) : Int))) rfl rfl rfl (run_rem2 rfl (ev_same (by first | (rw [hz]; decide) | (simp only [size_put, hz]; decide))) rfl) ?_
        refine seq_valD 47 (v := (.bool false)) rfl rfl rfl ((run_eqU rfl (ev_same (by first | (rw [hz]; decide) | (simp only [size_put, hz]; decide))) rfl).trans (okB (c := false) (bit_eq hbt))) ?_
        refine seq_nil ?_
        refine seq_out (((((((((((KeepM.refl 8 [] a10).put (by decide)).put (by decide)).put (by decide)).put (by decide)).put (by decide)).put (by decide)).put (by decide)).put (by decide)).put (by decide)).put (by decide)) fun a11 k11 tr => ?_
        have f47 := tr 47 (.bool false) (ev_same (by first | (rw [hz]; decide) | (simp only [size_put, hz]; decide)))
        clear tr
        replace e0 := k11.ev e0 (by decide)
        replace e3 := k11.ev e3 (by decide)
        replace e4 := k11.ev e4 (by decide)
        replace e5 := k11.ev e5 (by decide)
        replace e6 := k11.ev e6 (by decide)
        replace e7 := k11.ev e7 (by decide)
        replace hz := k11.size.trans hz
        replace hd := k11.defers.trans hd
        replace kk2 := kk2.trans (k11.mono (ys := [6, 7]) (by decide))
        replace kk4 := kk4.trans (k11.mono (ys := [7]) (by decide))
        have e47 := f47
        clear f47
        refine wp_cond_false e47 ?_
        refine wp_skip ?_
        rw [← thenMid_idle hbt] at y
        refine seq_startL (l := [0, 1, 2]) (by kernel_rfl) ?_
        refine seq_move 36 (v := (.int .i64 ((j : Nat) : Int))) rfl rfl rfl rfl e7 ?_
        refine seq_valD 37 (v := (.int .i64 ((j + 1 : Nat) : Int))) rfl rfl rfl (run_incI rfl (ev_same (by first | (rw [hz]; decide) | (simp only [size_put, hz]; decide))) rfl (by omega)) ?_
        refine seq_assign 7 (v := (.int .i64 ((j + 1 : Nat) : Int))) rfl rfl rfl rfl (ev_same (by first | (rw [hz]; decide) | (simp only [size_put, hz]; decide))) ?_
        refine seq_nil ?_
        refine seq_out ((((KeepM.refl 8 [7] a11).put (by decide)).put (by decide)).put (by decide)) fun a12 k12 tr => ?_
        have f7 := tr 7 (.int .i64 ((j + 1 : Nat) : Int)) (ev_same (by first | (rw [hz]; decide) | (simp only [size_put, hz]; decide)))
        clear tr
        replace e0 := k12.ev e0 (by decide)
        replace e3 := k12.ev e3 (by decide)
        replace e4 := k12.ev e4 (by decide)
        replace e5 := k12.ev e5 (by decide)
        replace e6 := k12.ev e6 (by decide)
        replace hz := k12.size.trans hz
        replace hd := k12.defers.trans hd
        replace kk2 := kk2.trans (k12.mono (ys := [6, 7]) (by decide))
        replace kk4 := kk4.trans (k12.mono (ys := [7]) (by decide))
        have e7 := f7
        clear f7
        refine ⟨⟨j + 1, by omega, kk4, e7, x3, y, x5, hB⟩, ?_⟩
        rw [e7, e7s]; simp [intOf]; omega
      | true =>
        refine seq_startL (l := [0, 1, 2, 3, 4, 5, 6, 7, 8, 9]) (by kernel_rfl) ?_
        refine seq_valD 38 (v := (.pointer (some ⟨b3, 1, none⟩))) rfl rfl rfl (run_fp1 rfl e3) ?_
        refine seq_valD 39 (v := (.slice (some ad) N p.cap)) rfl rfl rfl (run_ldS rfl (ev_same (by first | (rw [hz]; decide) | (simp only [size_put, hz]; decide))) (by rw [← hA]; exact x3.cell 1)) ?_
        refine seq_move 40 (v := (.int .i64 ((i : Nat) : Int))) rfl rfl rfl rfl ((ev_ne (by decide)).trans ((ev_ne (by decide)).trans e6)) ?_
        refine seq_valD 41 (v := (.pointer (some (ad.add i)))) rfl rfl rfl (run_ixU (k := i) rfl ((ev_ne (by decide)).trans (ev_same (by first | (rw [hz]; decide) | (simp only [size_put, hz]; decide)))) (ev_same (by first | (rw [hz]; decide) | (simp only [size_put, hz]; decide))) hlti) ?_
        refine seq_valD 42 (v := (.int .u64 (((p.rows.getD i 0) : Nat) : Int))) rfl rfl rfl (run_ldU rfl (ev_same (by first | (rw [hz]; decide) | (simp only [size_put, hz]; decide))) hcA) ?_
        refine seq_move 43 (v := (.int .i64 ((j : Nat) : Int))) rfl rfl rfl rfl ((ev_ne (by decide)).trans ((ev_ne (by decide)).trans ((ev_ne (by decide)).trans ((ev_ne (by decide)).trans ((ev_ne (by decide)).trans e7))))) ?_
        refine seq_valD 44 (v := (.int .u64 ((j : Nat) : Int))) rfl rfl rfl (run_cvU rfl (ev_same (by first | (rw [hz]; decide) | (simp only [size_put, hz]; decide))) (by omega)) ?_
        refine seq_valD 45 (v := (.int .u64 ((((p.rows.getD i 0) / 2 ^ j) : Nat) : Int))) rfl rfl rfl (run_shr rfl ((ev_ne (by decide)).trans ((ev_ne (by decide)).trans (ev_same (by first | (rw [hz]; decide) | (simp only [size_put, hz]; decide))))) (ev_same (by first | (rw [hz]; decide) | (simp only [size_put, hz]; decide))) (by omega)) ?_
        refine seq_valD 46 (v := (.int .u64 (((((p.rows.getD i 0) / 2 ^ j) % 2) : Nat) : Int))) rfl rfl rfl (run_rem2 rfl (ev_same (by first | (rw [hz]; decide) | (simp only [size_put, hz]; decide))) rfl) ?_
        refine seq_valD 47 (v := (.bool true)) rfl rfl rfl ((run_eqU rfl (ev_same (by first | (rw [hz]; decide) | (simp only [size_put, hz]; decide))) rfl).trans (okB (c := true) (bit_eq hbt))) ?_
        refine seq_nil ?_
        refine seq_out (((((((((((KeepM.refl 8 [] a10).put (by decide)).put (by decide)).put (by decide)).put (by decide)).put (by decide)).put (by decide)).put (by decide)).put (by decide)).put (by decide)).put (by decide)) fun a13 k13 tr => ?_
        have f47 := tr 47 (.bool true) (ev_same (by first | (rw [hz]; decide) | (simp only [size_put, hz]; decide)))
        clear tr
        replace e0 := k13.ev e0 (by decide)
        replace e3 := k13.ev e3 (by decide)
        replace e4 := k13.ev e4 (by decide)
        replace e5 := k13.ev e5 (by decide)
        replace e6 := k13.ev e6 (by decide)
        replace e7 := k13.ev e7 (by decide)
        replace hz := k13.size.trans hz
        replace hd := k13.defers.trans hd
        replace kk2 := kk2.trans (k13.mono (ys := [6, 7]) (by decide))
        replace kk4 := kk4.trans (k13.mono (ys := [7]) (by decide))
        have e47 := f47
        clear f47
        refine wp_cond_true e47 ?_
        have hlast : lastOk (regOps Tryd.f40 15) 18 = true := by kernel_rfl
        refine region_w (n := 19) [some (.pointer (some ⟨b5, 1, none⟩)), some (.slice (some ⟨g, 0, none⟩) N N), some (.int .i64 ((i : Nat) : Int)), some (.pointer (some ⟨b5, 1, none⟩)), some (.slice (some ⟨g, 0, none⟩) N N), some (.int .i64 ((i : Nat) : Int)), some (.pointer (some ((⟨g, 0, none⟩ : Addr).add i))), some (.int .u64 (((thenMid p.rows x.rows i j i) : Nat) : Int)), some (.slice (some ⟨gl, 0, none⟩) n n), some (.int .i64 ((k : Nat) : Int)), some (.pointer (some ⟨gl, k * 2, none⟩)), some (.pointer (some ⟨gl, k * 2 + 1, none⟩)), some (.slice (some bd) x.rows.length x.cap), some (.int .i64 ((j : Nat) : Int)), some (.pointer (some (bd.add j))), some (.int .u64 (((x.rows.getD j 0) : Nat) : Int)), some (.int .u64 ((((thenMid p.rows x.rows i j i) ||| (x.rows.getD j 0)) : Nat) : Int)), some (.pointer (some ((⟨g, 0, none⟩ : Addr).add i))), none] 18 w9 (w9.drew.setCell ((⟨g, 0, none⟩ : Addr).add i) (.int .u64 ((((thenMid p.rows x.rows i j i) ||| (x.rows.getD j 0)) : Nat) : Int))) (by kernel_rfl) (by rw [hz]; kernel_rfl) (by kernel_rfl) (by kernel_rfl) (by kernel_rfl) (by kernel_rfl) ?_ fun L a14 w14 hL st => ?_
        · refine ⟨⟨⟨⟨⟨⟨⟨⟨⟨⟨⟨⟨⟨⟨⟨⟨⟨⟨⟨trivial, ?_⟩, ?_⟩, ?_⟩, ?_⟩, ?_⟩, ?_⟩, ?_⟩, ?_⟩, ?_⟩, ?_⟩, ?_⟩, ?_⟩, ?_⟩, ?_⟩, ?_⟩, ?_⟩, ?_⟩, ?_⟩, ?_⟩
          · intro o a w L ho hL haft st; obtain rfl := Option.some.inj ho; exact payW st hlast hL (by decide) (want_none rfl) (run_fp1 rfl (st.outV (by kernel_rfl) e5)) rfl
          · intro o a w L ho hL haft st; obtain rfl := Option.some.inj ho; exact payW st hlast hL (by decide) (want_none rfl) (run_ldS rfl (st.argV (j := 0) (aft_of haft (by kernel_rfl)) rfl rfl) (x5.cell 1)) rfl
          · intro o a w L ho hL haft st; obtain rfl := Option.some.inj ho; exact payW_move st hlast hL (by decide) (want_none rfl) rfl (st.outV (by kernel_rfl) e6) rfl
          · intro o a w L ho hL haft st; obtain rfl := Option.some.inj ho; exact payW st hlast hL (by decide) (want_none rfl) (run_fp1 rfl (st.outV (by kernel_rfl) e5)) rfl
          · intro o a w L ho hL haft st; obtain rfl := Option.some.inj ho; exact payW st hlast hL (by decide) (want_none rfl) (run_ldS rfl (st.argV (j := 3) (aft_of haft (by kernel_rfl)) rfl rfl) (x5.cell 1)) rfl
          · intro o a w L ho hL haft st; obtain rfl := Option.some.inj ho; exact payW_move st hlast hL (by decide) (want_none rfl) rfl (st.outV (by kernel_rfl) e6) rfl
          · intro o a w L ho hL haft st; obtain rfl := Option.some.inj ho; exact payW st hlast hL (by decide) (want_none rfl) (run_ixU (k := i) rfl (st.argV (j := 4) (aft_of haft (by kernel_rfl)) rfl rfl) (st.argV (j := 5) (aft_of haft (by kernel_rfl)) rfl rfl) hlti) rfl
          · intro o a w L ho hL haft st; obtain rfl := Option.some.inj ho; exact payW st hlast hL (by decide) (want_none rfl) (run_ldU rfl (st.argV (j := 6) (aft_of haft (by kernel_rfl)) rfl rfl) (y.addc (row_get hlti))) rfl
          · intro o a w L ho hL haft st; obtain rfl := Option.some.inj ho; exact payW_move st hlast hL (by decide) (want_none rfl) rfl (st.outV (by kernel_rfl) e0) rfl
          · intro o a w L ho hL haft st; obtain rfl := Option.some.inj ho; exact payW_move st hlast hL (by decide) (want_none rfl) rfl (st.outV (by kernel_rfl) e4) rfl
          · intro o a w L ho hL haft st; obtain rfl := Option.some.inj ho; exact payW st hlast hL (by decide) (want_none rfl) (run_ixR (k := k) rfl (st.argV (j := 8) (aft_of haft (by kernel_rfl)) rfl rfl) (st.argV (j := 9) (aft_of haft (by kernel_rfl)) rfl rfl) hk) rfl
          · intro o a w L ho hL haft st; obtain rfl := Option.some.inj ho; exact payW st hlast hL (by decide) (want_none rfl) (run_fp1 rfl (st.argV (j := 10) (aft_of haft (by kernel_rfl)) rfl rfl)) rfl
          · intro o a w L ho hL haft st; obtain rfl := Option.some.inj ho; exact payW st hlast hL (by decide) (want_none rfl) (run_ldS rfl (st.argV (j := 11) (aft_of haft (by kernel_rfl)) rfl rfl) hxc) rfl
          · intro o a w L ho hL haft st; obtain rfl := Option.some.inj ho; exact payW_move st hlast hL (by decide) (want_none rfl) rfl (st.outV (by kernel_rfl) e7) rfl
          · intro o a w L ho hL haft st; obtain rfl := Option.some.inj ho; exact payW st hlast hL (by decide) (want_none rfl) (run_ixU (k := j) rfl (st.argV (j := 12) (aft_of haft (by kernel_rfl)) rfl rfl) (st.argV (j := 13) (aft_of haft (by kernel_rfl)) rfl rfl) (by omega)) rfl
          · intro o a w L ho hL haft st; obtain rfl := Option.some.inj ho; exact payW st hlast hL (by decide) (want_none rfl) (run_ldU rfl (st.argV (j := 14) (aft_of haft (by kernel_rfl)) rfl rfl) hcB) rfl
          · intro o a w L ho hL haft st; obtain rfl := Option.some.inj ho; exact payW st hlast hL (by decide) (want_none rfl) (run_orU rfl (st.argV (j := 7) (aft_of haft (by kernel_rfl)) rfl rfl) (st.argV (j := 15) (aft_of haft (by kernel_rfl)) rfl rfl) (thenMid_lt _ _ _ _ hx.1) huB) rfl
          · intro o a w L ho hL haft st; obtain rfl := Option.some.inj ho; exact payW st hlast hL (by decide) (want_none rfl) (run_ixU (k := i) rfl (st.argV (j := 1) (aft_of haft (by kernel_rfl)) rfl rfl) (st.argV (j := 2) (aft_of haft (by kernel_rfl)) rfl rfl) hlti) rfl
          · intro o a w L ho hL haft st; obtain rfl := Option.some.inj ho; exact storeW st hlast hL (want_none rfl) (run_stU rfl (st.argV (j := 17) (aft_of haft (by kernel_rfl)) rfl rfl) (st.argV (j := 16) (aft_of haft (by kernel_rfl)) rfl rfl) (y.addc (row_get hlti)) y.addf) rfl
        clear hlast
        obtain rfl := st.end2 hL (by omega)
        have k14 : KeepM 8 [] a13 a14 := st.keepM (by kernel_rfl)
        clear st hL L
        replace e0 := k14.ev e0 (by decide)
        replace e3 := k14.ev e3 (by decide)
        replace e4 := k14.ev e4 (by decide)
        replace e5 := k14.ev e5 (by decide)
        replace e6 := k14.ev e6 (by decide)
        replace e7 := k14.ev e7 (by decide)
        replace hz := k14.size.trans hz
        replace hd := k14.defers.trans hd
        replace kk2 := kk2.trans (k14.mono (ys := [6, 7]) (by decide))
        replace kk4 := kk4.trans (k14.mono (ys := [7]) (by decide))
        rw [add0]
        replace x3 := x3.drew.keep (i := i) y.drew (by decide) (.int .u64 ((((thenMid p.rows x.rows i j i) ||| (x.rows.getD j 0)) : Nat) : Int))
        replace x5 := x5.drew.keep (i := i) y.drew (by decide) (.int .u64 ((((thenMid p.rows x.rows i j i) ||| (x.rows.getD j 0)) : Nat) : Int))
        replace y := row_set (F' := thenMid p.rows x.rows i (j + 1)) y.drew (fun q => thenMid_succ hbt q)
        replace hB := hB.drew.setCell (p := ⟨g, i, none⟩) hgg (.int .u64 ((((thenMid p.rows x.rows i j i) ||| (x.rows.getD j 0)) : Nat) : Int))
        generalize (w9.drew.setCell ⟨g, i, none⟩ (.int .u64 ((((thenMid p.rows x.rows i j i) ||| (x.rows.getD j 0)) : Nat) : Int))) = w15 at x3 y x5 hB ⊢
        replace hS := hB.size
        refine seq_startL (l := [0, 1, 2]) (by kernel_rfl) ?_
        refine seq_move 36 (v := (.int .i64 ((j : Nat) : Int))) rfl rfl rfl rfl e7 ?_
        refine seq_valD 37 (v := (.int .i64 ((j + 1 : Nat) : Int))) rfl rfl rfl (run_incI rfl (ev_same (by first | (rw [hz]; decide) | (simp only [size_put, hz]; decide))) rfl (by omega)) ?_
        refine seq_assign 7 (v := (.int .i64 ((j + 1 : Nat) : Int))) rfl rfl rfl rfl (ev_same (by first | (rw [hz]; decide) | (simp only [size_put, hz]; decide))) ?_
        refine seq_nil ?_
        refine seq_out ((((KeepM.refl 8 [7] a14).put (by decide)).put (by decide)).put (by decide)) fun a16 k16 tr => ?_
        have f7 := tr 7 (.int .i64 ((j + 1 : Nat) : Int)) (ev_same (by first | (rw [hz]; decide) | (simp only [size_put, hz]; decide)))
        clear tr
        replace e0 := k16.ev e0 (by decide)
        replace e3 := k16.ev e3 (by decide)
        replace e4 := k16.ev e4 (by decide)
        replace e5 := k16.ev e5 (by decide)
        replace e6 := k16.ev e6 (by decide)
        replace hz := k16.size.trans hz
        replace hd := k16.defers.trans hd
        replace kk2 := kk2.trans (k16.mono (ys := [6, 7]) (by decide))
        replace kk4 := kk4.trans (k16.mono (ys := [7]) (by decide))
        have e7 := f7
        clear f7
        refine ⟨⟨j + 1, by omega, kk4, e7, x3, y, x5, hB⟩, ?_⟩
        rw [e7, e7s]; simp [intOf]; omega
    · rw [decide_eq_false (by omega)] at e35
      refine wp_cond_false e35 ?_
      refine wp_exit ?_
      refine exit_here1 (id := 4) ?_
      obtain rfl : N = j := by omega
      rw [thenMid_full (by omega) hpu hxl] at y
      refine seq_startL (l := [0, 1, 2]) (by kernel_rfl) ?_
      refine seq_move 30 (v := (.int .i64 ((i : Nat) : Int))) rfl rfl rfl rfl e6 ?_
      refine seq_valD 31 (v := (.int .i64 ((i + 1 : Nat) : Int))) rfl rfl rfl (run_incI rfl (ev_same (by first | (rw [hz]; decide) | (simp only [size_put, hz]; decide))) rfl (by omega)) ?_
      refine seq_assign 6 (v := (.int .i64 ((i + 1 : Nat) : Int))) rfl rfl rfl rfl (ev_same (by first | (rw [hz]; decide) | (simp only [size_put, hz]; decide))) ?_
      refine seq_nil ?_
      refine seq_out ((((KeepM.refl 8 [6] a10).put (by decide)).put (by decide)).put (by decide)) fun a17 k17 tr => ?_
      have f6 := tr 6 (.int .i64 ((i + 1 : Nat) : Int)) (ev_same (by first | (rw [hz]; decide) | (simp only [size_put, hz]; decide)))
      clear tr
      replace e0 := k17.ev e0 (by decide)
      replace e3 := k17.ev e3 (by decide)
      replace e4 := k17.ev e4 (by decide)
      replace e5 := k17.ev e5 (by decide)
      replace e7 := k17.ev e7 (by decide)
      replace hz := k17.size.trans hz
      replace hd := k17.defers.trans hd
      replace kk2 := kk2.trans (k17.mono (ys := [6, 7]) (by decide))
      have e6 := f6
      clear f6
      refine ⟨⟨i + 1, by omega, kk2, e6, x3, y, x5, hB⟩, ?_⟩
      rw [e6, e6s]; simp [intOf]; omega
  · rw [decide_eq_false (by omega)] at e29
    refine wp_cond_false e29 ?_
    refine wp_exit ?_
    refine exit_here1 (id := 2) ?_
    obtain rfl : N = i := by omega
    rw [midF_full] at y
    exact hK _ _ b5 g ((k4.mono (ys := [5, 6, 7]) (by decide)).trans ((k5.mono (by decide)).trans (kk2.mono (by decide)))) e5 x5 y hge5 hgg hB
theorem then_first {a p : RA} {N : Nat} (ha : a.pr.ok = true) (hN : a.rows.length = N) (hp : p.pr = Por ([a].map RA.pr)) : p.n = (N : Nat) ∧ p.rows = PthenF N [a.pr] ∧ p.rows.length = N := by
  have hR := IsR.of_ok' ha (N := N) (by rw [(ok_rows ha).1, show a.pr.rows = a.rows from rfl, hN])
  have h1 : p.pr = a.pr := by
    rw [hp]
    exact (IsR.or_ (IsR.alike (L := []) ⟨_, hR⟩ (by simp)) ⟨_, hR⟩).ext hR fun i j => by
      show (∃ r ∈ [a.pr], bt r.rows i j = true) ↔ _
      simp
  have h2 : PthenF N [a.pr] = a.pr.rows := rows_ext (N := N) ⟨PthenF_length _ _, PthenF_lt (fun r hr => by rw [List.mem_singleton.1 hr]; exact hR.2.2.1.2)⟩ hR.2.2.1 (fun i j _ _ => by rw [Bool.eq_iff_iff]; exact then1_bits hR i j)
  have h3 : p.rows = a.rows := congrArg PR.rows h1
  refine ⟨?_, by rw [h3, h2]; rfl, by rw [h3]; exact hN⟩
  rw [show p.n = p.pr.n from rfl, h1]; exact hR.1
theorem then_more (M : List PR) (r : PR) (N : Nat) (h : (PthenF N M).length = N) : PthenF N (M ++ [r]) = (List.range N).map fun i => img r.rows ((PthenF N M).getD i 0) := by
  rw [show PthenF N (M ++ [r]) = (PthenF N M).map (img r.rows) by simp [PthenF]]
  apply List.ext_getElem
  · simp [h]
  · intro i h1 h2
    have : i < (PthenF N M).length := by simpa using h1
    simp [List.getElem?_eq_getElem this]
set_option maxRecDepth 100000 in
set_option maxHeartbeats 4000000 in
theorem rThen_ok (L M : List RA) (a0r : RA) (gl n N : Nat) (w0 : World) (hn : L.length = n) (hlen : n < 1000) (hT : Tab w0) (hL : RowT w0 gl 26 (L.flatMap RA.cells)) (hg : ∀ a ∈ L, a.good w0) (hal : Palike (L.map RA.pr) = true) (hL0 : L = a0r :: M)
    (hN0 : a0r.rows.length = N) (hrl : ∀ a ∈ L, a.rows.length = N) (hlt2 : ∀ a ∈ L, ∀ v ∈ a.rows, v < 2 ^ N) (h64 : N ≤ 64) :
    Calls Tryd.prog 40 #[.slice (some ⟨gl, 0, none⟩) n n] w0 (RetR w0 ⟨((N : Nat) : Int), PthenF N (L.map RA.pr)⟩) := by
  have hpos : 0 < n := by rw [← hn, hL0]; simp
  have h0m : a0r ∈ L := by rw [hL0]; simp
  have ha0 : a0r.pr.ok = true := (Palike_ok hal a0r.pr (by rw [hL0]; simp)).1
  have hc0 : (L.flatMap RA.cells)[0]? = some (.int .i64 a0r.n) := by rw [hL0]; rfl
  have hc1 : (L.flatMap RA.cells)[1]? = some (.slice a0r.A a0r.rows.length a0r.cap) := by rw [hL0]; rfl
  have h1t : (L.take 1).map RA.pr = [a0r.pr] := by rw [hL0]; rfl
  refine calls_of_wp Tryd.func40 rfl ?_
  obtain ⟨hz, e0⟩ := start_act1 68 ((.slice (some ⟨gl, 0, none⟩) n n)) (by decide)
  have hd : ({ tmps := #[(.slice (some ⟨gl, 0, none⟩) n n)] ++ Array.replicate (68 - 1) undef, defers := [] } : Act).defers = [] := rfl
  rw [show Tryd.f40.ntmps - (#[(.slice (some ⟨gl, 0, none⟩) n n)] : Array Value).size = 68 - 1 from rfl]
  generalize ({ tmps := #[(.slice (some ⟨gl, 0, none⟩) n n)] ++ Array.replicate (68 - 1) undef, defers := [] } : Act) = a0 at hz e0 hd ⊢
  have hB : Below w0.heap.size w0 w0 := Below.refl _ _
  have hS := hB.size
  refine wp_seq ?_
  refine seq_startL (l := [0]) (by kernel_rfl) ?_
  refine seq_valD 2 rfl rfl rfl (run_allocR rfl rfl) ?_
  have x2 := RowT.new w0 26 [.int .i64 0, .slice none 0 0]
  replace hB := hB.al (o := .cells ([.int .i64 0, .slice none 0 0] : List Value).toArray 26)
  change wpOps _ _ _ _ _ (w0.alloc (.cells ([.int .i64 0, .slice none 0 0] : List Value).toArray 26))
  generalize (w0.alloc (.cells ([.int .i64 0, .slice none 0 0] : List Value).toArray 26)) = w1 at x2 hB ⊢
  generalize hbq2 : w0.heap.size = b2 at x2 ⊢
  have hge2 : w0.heap.size ≤ b2 := by rw [← hbq2]; exact hS
  clear hbq2
  have hS := hB.size
  refine seq_nil ?_
  refine seq_out ((KeepM.refl 8 [2] a0).put (by decide)) fun a2 k2 tr => ?_
  have f2 := tr 2 (.pointer (some ⟨b2, 0, none⟩)) (ev_same (by first | (rw [hz]; decide) | (simp only [size_put, hz]; decide)))
  clear tr
  replace e0 := k2.ev e0 (by decide)
  replace hz := k2.size.trans hz
  replace hd := k2.defers.trans hd
  have e2 := f2
  clear f2
  refine wp_seq ?_
  refine wp_seq ?_
  refine seq_startL (l := [0, 1, 2]) (by kernel_rfl) ?_
  refine seq_move 8 (v := (.slice (some ⟨gl, 0, none⟩) n n)) rfl rfl rfl rfl e0 ?_
  refine seq_callD 9 rfl rfl rfl en_alike rfl (args_one (ev_same (by first | (rw [hz]; decide) | (simp only [size_put, hz]; decide)))) ((hal ▸ ralike_c L gl n w1 hn hlen (hL.below hB hL.lt) (fun a ha => (hg a ha).on hB)).mono ?_)
  rintro e w3 ⟨rfl, hb3⟩
  refine ⟨_, rfl, ?_⟩
  replace x2 := x2.below hb3 x2.lt
  replace hB := Below.next hB hb3
  replace hS := hB.size
  refine seq_valD 10 (v := (.bool false)) rfl rfl rfl (run_not rfl (ev_same (by first | (rw [hz]; decide) | (simp only [size_put, hz]; decide)))) ?_
  refine seq_nil ?_
  refine seq_out ((((KeepM.refl 8 [] a2).put (by decide)).put (by decide)).put (by decide)) fun a4 k4 tr => ?_
  have f10 := tr 10 (.bool false) (ev_same (by first | (rw [hz]; decide) | (simp only [size_put, hz]; decide)))
  clear tr
  replace e0 := k4.ev e0 (by decide)
  replace e2 := k4.ev e2 (by decide)
  replace hz := k4.size.trans hz
  replace hd := k4.defers.trans hd
  have e10 := f10
  clear f10
  refine wp_cond_false e10 ?_
  refine wp_skip ?_
  refine wp_seq ?_
  have hLW := hL.below hB hL.lt
  refine seq_startL (l := [0, 1, 2, 3, 4, 5, 6]) (by kernel_rfl) ?_
  refine seq_move 12 (v := (.slice (some ⟨gl, 0, none⟩) n n)) rfl rfl rfl rfl e0 ?_
  refine seq_valD 13 (v := (.pointer (some ⟨gl, 0, none⟩))) rfl rfl rfl (run_ixR (k := 0) rfl (ev_same (by first | (rw [hz]; decide) | (simp only [size_put, hz]; decide))) rfl (by omega)) ?_
  refine seq_valD 14 (v := (.agg #[.int .i64 a0r.n, .slice a0r.A a0r.rows.length a0r.cap])) rfl rfl rfl (run_ldR rfl (ev_same (by first | (rw [hz]; decide) | (simp only [size_put, hz]; decide))) ((hLW.cell 0).trans hc0) ((hLW.cell 1).trans hc1)) ?_
  refine seq_valD 15 rfl rfl rfl (run_rels1 (a1 := a0r) rfl (ev_same (by first | (rw [hz]; decide) | (simp only [size_put, hz]; decide)))) ?_
  have nx2_15 : b2 ≠ w3.heap.size := Nat.ne_of_lt x2.lt
  have x15 := RowT.new w3 26 ([a0r].flatMap RA.cells)
  replace x2 := x2.alloc (.cells (([a0r].flatMap RA.cells) : List Value).toArray 26)
  replace hB := hB.al (o := .cells (([a0r].flatMap RA.cells) : List Value).toArray 26)
  change wpOps _ _ _ _ _ (w3.alloc (.cells (([a0r].flatMap RA.cells) : List Value).toArray 26))
  generalize (w3.alloc (.cells (([a0r].flatMap RA.cells) : List Value).toArray 26)) = w5 at x2 x15 hB ⊢
  generalize hbq15 : w3.heap.size = b15 at x15 nx2_15 ⊢
  have hge15 : w0.heap.size ≤ b15 := by rw [← hbq15]; exact hS
  clear hbq15
  have hS := hB.size
  refine seq_callD 16 rfl rfl rfl en_rOr rfl (args_one (ev_same (by first | (rw [hz]; decide) | (simp only [size_put, hz]; decide)))) ((C_rOr [a0r] b15 w5 (hT.on hB) (by simp) x15 (fun a ha => by rw [List.mem_singleton.1 ha]; exact (hg a0r h0m).on hB)).mono ?_)
  rintro e w6 ⟨p, rfl, hpp, hpg, hb6⟩
  refine ⟨_, rfl, ?_⟩
  replace x2 := x2.below hb6 x2.lt
  replace x15 := x15.below hb6 x15.lt
  replace hB := Below.next hB hb6
  replace hS := hB.size
  obtain ⟨hpn, hpr, hpl⟩ := then_first ha0 hN0 hpp.out
  replace hpg := hpg.out
  clear hpp
  rw [hpn, hpl]
  refine seq_valD 3 rfl rfl rfl (run_allocR rfl rfl) ?_
  have nx2_3 : b2 ≠ w6.heap.size := Nat.ne_of_lt x2.lt
  have nx15_3 : b15 ≠ w6.heap.size := Nat.ne_of_lt x15.lt
  have x3 := RowT.new w6 26 [.int .i64 0, .slice none 0 0]
  replace x2 := x2.alloc (.cells ([.int .i64 0, .slice none 0 0] : List Value).toArray 26)
  replace x15 := x15.alloc (.cells ([.int .i64 0, .slice none 0 0] : List Value).toArray 26)
  replace hpg := hpg.on (below_alloc w6 (.cells ([.int .i64 0, .slice none 0 0] : List Value).toArray 26))
  replace hB := hB.al (o := .cells ([.int .i64 0, .slice none 0 0] : List Value).toArray 26)
  change wpOps _ _ _ _ _ (w6.alloc (.cells ([.int .i64 0, .slice none 0 0] : List Value).toArray 26))
  generalize (w6.alloc (.cells ([.int .i64 0, .slice none 0 0] : List Value).toArray 26)) = w7 at x2 x15 x3 hpg hB ⊢
  generalize hbq3 : w6.heap.size = b3 at x3 nx2_3 nx15_3 ⊢
  have hge3 : w0.heap.size ≤ b3 := by rw [← hbq3]; exact hS
  clear hbq3
  have hS := hB.size
  refine seq_skipD rfl rfl rfl (run_stR rfl (ev_same (by first | (rw [hz]; decide) | (simp only [size_put, hz]; decide))) ((ev_ne (by decide)).trans (ev_same (by first | (rw [hz]; decide) | (simp only [size_put, hz]; decide)))) x3) ?_
  have y3 : RowT ((w7.setCell ⟨b3, 0, none⟩ (.int .i64 ((N : Nat) : Int))).setCell ⟨b3, 1, none⟩ (.slice p.A N p.cap)) b3 26 [.int .i64 ((N : Nat) : Int), .slice p.A N p.cap] := (x3.set_ 0 _).set_ 1 _
  replace x2 := (x2.far (p := ⟨b3, 0, none⟩) nx2_3 (.int .i64 ((N : Nat) : Int))).far (p := ⟨b3, 1, none⟩) nx2_3 (.slice p.A N p.cap)
  replace x15 := (x15.far (p := ⟨b3, 0, none⟩) nx15_3 (.int .i64 ((N : Nat) : Int))).far (p := ⟨b3, 1, none⟩) nx15_3 (.slice p.A N p.cap)
  replace hpg := good_box hpg x3 (.int .i64 ((N : Nat) : Int)) (.slice p.A N p.cap)
  replace hB := (hB.setCell (p := ⟨b3, 0, none⟩) hge3 (.int .i64 ((N : Nat) : Int))).setCell (p := ⟨b3, 1, none⟩) hge3 (.slice p.A N p.cap)
  have x3 := y3
  clear y3
  generalize ((w7.setCell ⟨b3, 0, none⟩ (.int .i64 ((N : Nat) : Int))).setCell ⟨b3, 1, none⟩ (.slice p.A N p.cap)) = w8 at x2 x15 x3 hpg hB ⊢
  replace hS := hB.size
  refine seq_nil ?_
  refine seq_out (((((((KeepM.refl 8 [3] a4).put (by decide)).put (by decide)).put (by decide)).put (by decide)).put (by decide)).put (by decide)) fun a9 k9 tr => ?_
  have f3 := tr 3 (.pointer (some ⟨b3, 0, none⟩)) (ev_same (by first | (rw [hz]; decide) | (simp only [size_put, hz]; decide)))
  clear tr
  replace e0 := k9.ev e0 (by decide)
  replace e2 := k9.ev e2 (by decide)
  replace hz := k9.size.trans hz
  replace hd := k9.defers.trans hd
  have e3 := f3
  clear f3
  clear x15
  clear hLW
  refine wp_seq ?_
  refine wp_seq ?_
  refine seq_startL (l := [0]) (by kernel_rfl) ?_
  refine seq_assign 4 (v := (.int .i64 1)) rfl rfl rfl rfl rfl ?_
  refine seq_nil ?_
  refine seq_out ((KeepM.refl 8 [4] a9).put (by decide)) fun a10 k10 tr => ?_
  have f4 := tr 4 (.int .i64 1) (ev_same (by first | (rw [hz]; decide) | (simp only [size_put, hz]; decide)))
  clear tr
  replace e0 := k10.ev e0 (by decide)
  replace e2 := k10.ev e2 (by decide)
  replace e3 := k10.ev e3 (by decide)
  replace hz := k10.size.trans hz
  replace hd := k10.defers.trans hd
  have e4 := f4
  clear f4
  refine wp_block ?_
  refine wp_loop (fun aq wq => ∃ (k : Nat) (p : RA), (1 ≤ k ∧ k ≤ n ∧ p.n = (N : Nat) ∧ p.rows.length = N ∧ p.rows = PthenF N ((L.take k).map RA.pr)) ∧ KeepM 8 [4, 5, 6, 7] a10 aq ∧ aq.eval (.tmp 4) = (.int .i64 ((k : Nat) : Int)) ∧ RowT wq b2 26 [.int .i64 0, .slice none 0 0] ∧ RowT wq b3 26 [.int .i64 ((N : Nat) : Int), .slice p.A N p.cap] ∧ p.good wq ∧ Below w0.heap.size w0 wq) (fun aq _ => n - (intOf (aq.eval (.tmp 4))).toNat) ⟨1, p, ⟨Nat.le_refl _, by omega, hpn, hpl, by rw [h1t]; exact hpr⟩, KeepM.refl _ _ _, e4, x2, x3, hpg, hB⟩ ?_
  rintro a11 w11 ⟨k, p, hk0, kk0, g4, qx2, qx3, qhpg, qB⟩
  replace e0 := kk0.ev e0 (by decide)
  replace e2 := kk0.ev e2 (by decide)
  replace e3 := kk0.ev e3 (by decide)
  replace hz := kk0.size.trans hz
  replace hd := kk0.defers.trans hd
  clear e4 x2 x3 hpg hB hS
  have e4 := g4
  have x2 := qx2
  have x3 := qx3
  have hpg := qhpg
  have hB := qB
  have hS := hB.size
  clear qx2 qx3 qhpg qB
  obtain ⟨hk1, hkn, hpn2, hpl2, hpr2⟩ := hk0
  have e4s := e4
  refine wp_seq ?_
  refine wp_seq ?_
  refine seq_startL (l := [0, 1, 2, 3]) (by kernel_rfl) ?_
  refine seq_move 17 (v := (.int .i64 ((k : Nat) : Int))) rfl rfl rfl rfl e4 ?_
  refine seq_move 18 (v := (.slice (some ⟨gl, 0, none⟩) n n)) rfl rfl rfl rfl ((ev_ne (by decide)).trans e0) ?_
  refine seq_valD 19 (v := (.int .i64 ((n : Nat) : Int))) rfl rfl rfl (run_lenR rfl (ev_same (by first | (rw [hz]; decide) | (simp only [size_put, hz]; decide)))) ?_
  refine seq_valD 20 (v := (.bool (decide (((k : Nat) : Int) < ((n : Nat) : Int))))) rfl rfl rfl (run_ltI rfl ((ev_ne (by decide)).trans ((ev_ne (by decide)).trans (ev_same (by first | (rw [hz]; decide) | (simp only [size_put, hz]; decide))))) (ev_same (by first | (rw [hz]; decide) | (simp only [size_put, hz]; decide)))) ?_
  refine seq_nil ?_
  refine seq_out (((((KeepM.refl 8 [] a11).put (by decide)).put (by decide)).put (by decide)).put (by decide)) fun a12 k12 tr => ?_
  have f20 := tr 20 (.bool (decide (((k : Nat) : Int) < ((n : Nat) : Int)))) (ev_same (by first | (rw [hz]; decide) | (simp only [size_put, hz]; decide)))
  clear tr
  replace e0 := k12.ev e0 (by decide)
  replace e2 := k12.ev e2 (by decide)
  replace e3 := k12.ev e3 (by decide)
  replace e4 := k12.ev e4 (by decide)
  replace hz := k12.size.trans hz
  replace hd := k12.defers.trans hd
  replace kk0 := kk0.trans (k12.mono (ys := [4, 5, 6, 7]) (by decide))
  have e20 := f20
  clear f20
  by_cases hltk : k < n
  · rw [decide_eq_true (by omega)] at e20
    refine wp_cond_true e20 ?_
    refine wp_skip ?_
    refine wp_seq ?_
    refine wp_block ?_
    obtain ⟨x, hx⟩ : ∃ x, L[k]? = some x := ⟨_, List.getElem?_eq_getElem (by omega)⟩
    have hxm := List.mem_of_getElem? hx
    have hpu : ∀ v ∈ p.rows, v < 2 ^ N := by rw [hpr2]; exact PthenF_lt (fun q hq => by obtain ⟨a, ha, rfl⟩ := List.mem_map.1 hq; exact hlt2 a (List.mem_of_mem_take ha))
    refine then_step (L := L) (x := x) (p := p) hz e0 e3 e4 hltk (hL.below hB hL.lt) (cells_get L k x hx).2 x3 hpg ((hg x hxm).on hB) hpl2 (hrl x hxm) hpu h64 fun a13 w13 b5 g k13 e5 x5 y hge5 hgg hb13 => ?_
    replace e0 := k13.ev e0 (by decide)
    replace e2 := k13.ev e2 (by decide)
    replace e3 := k13.ev e3 (by decide)
    replace e4 := k13.ev e4 (by decide)
    replace hz := k13.size.trans hz
    replace hd := k13.defers.trans hd
    replace kk0 := kk0.trans (k13.mono (ys := [4, 5, 6, 7]) (by decide))
    have nx3_5 : b3 ≠ b5 := by have := x3.lt; omega
    have nx2_5 : b2 ≠ b5 := by have := x2.lt; omega
    replace x2 := x2.below hb13 x2.lt
    replace x3 := x3.below hb13 x3.lt
    replace hpg := hpg.on hb13
    replace hB := Below.next hB hb13
    replace hS := hB.size
    refine seq_startL (l := [0, 1]) (by kernel_rfl) ?_
    refine seq_valD 66 (v := (.agg #[.int .i64 ((N : Nat) : Int), .slice (some ⟨g, 0, none⟩) N N])) rfl rfl rfl (run_ldR rfl e5 (x5.cell 0) (x5.cell 1)) ?_
    refine seq_skipD rfl rfl rfl (run_stR rfl ((ev_ne (by decide)).trans e3) (ev_same (by first | (rw [hz]; decide) | (simp only [size_put, hz]; decide))) x3) ?_
    have y3 : RowT ((w13.setCell ⟨b3, 0, none⟩ (.int .i64 ((N : Nat) : Int))).setCell ⟨b3, 1, none⟩ (.slice (some ⟨g, 0, none⟩) N N)) b3 26 [.int .i64 ((N : Nat) : Int), .slice (some ⟨g, 0, none⟩) N N] := (x3.set_ 0 _).set_ 1 _
    replace x2 := (x2.far (p := ⟨b3, 0, none⟩) nx2_3 (.int .i64 ((N : Nat) : Int))).far (p := ⟨b3, 1, none⟩) nx2_3 (.slice (some ⟨g, 0, none⟩) N N)
    replace x5 := (x5.far (p := ⟨b3, 0, none⟩) nx3_5.symm (.int .i64 ((N : Nat) : Int))).far (p := ⟨b3, 1, none⟩) nx3_5.symm (.slice (some ⟨g, 0, none⟩) N N)
    replace y := (y.keep (i := 0) x3 (by decide) (.int .i64 ((N : Nat) : Int))).keep (i := 1) (x3.set_ 0 (.int .i64 ((N : Nat) : Int))) (by decide) (.slice (some ⟨g, 0, none⟩) N N)
    replace hB := (hB.setCell (p := ⟨b3, 0, none⟩) hge3 (.int .i64 ((N : Nat) : Int))).setCell (p := ⟨b3, 1, none⟩) hge3 (.slice (some ⟨g, 0, none⟩) N N)
    have x3 := y3
    clear y3
    generalize ((w13.setCell ⟨b3, 0, none⟩ (.int .i64 ((N : Nat) : Int))).setCell ⟨b3, 1, none⟩ (.slice (some ⟨g, 0, none⟩) N N)) = w14 at x2 x3 x5 y hB ⊢
    replace hS := hB.size
    refine seq_nil ?_
    refine seq_out ((KeepM.refl 8 [] a13).put (by decide)) fun a15 k15 tr => ?_
    clear tr
    replace e0 := k15.ev e0 (by decide)
    replace e2 := k15.ev e2 (by decide)
    replace e3 := k15.ev e3 (by decide)
    replace e4 := k15.ev e4 (by decide)
    replace e5 := k15.ev e5 (by decide)
    replace hz := k15.size.trans hz
    replace hd := k15.defers.trans hd
    replace kk0 := kk0.trans (k15.mono (ys := [4, 5, 6, 7]) (by decide))
    refine seq_startL (l := [0, 1, 2]) (by kernel_rfl) ?_
    refine seq_move 21 (v := (.int .i64 ((k : Nat) : Int))) rfl rfl rfl rfl e4 ?_
    refine seq_valD 22 (v := (.int .i64 ((k + 1 : Nat) : Int))) rfl rfl rfl (run_incI rfl (ev_same (by first | (rw [hz]; decide) | (simp only [size_put, hz]; decide))) rfl (by omega)) ?_
    refine seq_assign 4 (v := (.int .i64 ((k + 1 : Nat) : Int))) rfl rfl rfl rfl (ev_same (by first | (rw [hz]; decide) | (simp only [size_put, hz]; decide))) ?_
    refine seq_nil ?_
    refine seq_out ((((KeepM.refl 8 [4] a15).put (by decide)).put (by decide)).put (by decide)) fun a16 k16 tr => ?_
    have f4 := tr 4 (.int .i64 ((k + 1 : Nat) : Int)) (ev_same (by first | (rw [hz]; decide) | (simp only [size_put, hz]; decide)))
    clear tr
    replace e0 := k16.ev e0 (by decide)
    replace e2 := k16.ev e2 (by decide)
    replace e3 := k16.ev e3 (by decide)
    replace e5 := k16.ev e5 (by decide)
    replace hz := k16.size.trans hz
    replace hd := k16.defers.trans hd
    replace kk0 := kk0.trans (k16.mono (ys := [4, 5, 6, 7]) (by decide))
    have e4 := f4
    clear f4
    have hnew : ((List.range N).map fun i => img x.rows (p.rows.getD i 0)) = PthenF N ((L.take (k + 1)).map RA.pr) := by rw [List.take_add_one, hx, List.map_append, hpr2]; exact (then_more _ x.pr N (by rw [← hpr2]; exact hpl2)).symm
    have hlen2 : ((List.range N).map fun i => img x.rows (p.rows.getD i 0)).length = N := by simp
    rw [hnew] at y hlen2
    have hgr : RA.good ⟨((N : Nat) : Int), some ⟨g, 0, none⟩, N, PthenF N ((L.take (k + 1)).map RA.pr)⟩ w14 := ⟨lt64_of h64 (PthenF_lt (fun q hq => by obtain ⟨a, ha, rfl⟩ := List.mem_map.1 hq; exact hlt2 a (List.mem_of_mem_take ha))), by have := y.reads; rw [List.length_map] at this; exact this⟩
    refine ⟨⟨k + 1, ⟨((N : Nat) : Int), some ⟨g, 0, none⟩, N, PthenF N ((L.take (k + 1)).map RA.pr)⟩, ⟨by omega, by omega, rfl, hlen2, rfl⟩, kk0, e4, x2, x3, hgr, hB⟩, ?_⟩
    rw [e4, e4s]; simp [intOf]; omega
  · rw [decide_eq_false (by omega)] at e20
    refine wp_cond_false e20 ?_
    refine wp_exit ?_
    refine exit_here1 (id := 0) ?_
    obtain rfl : n = k := by omega
    refine wp_seq ?_
    refine seq_startL (l := [0, 1]) (by kernel_rfl) ?_
    refine seq_valD 67 (v := (.agg #[.int .i64 ((N : Nat) : Int), .slice p.A N p.cap])) rfl rfl rfl (run_ldR rfl e3 (x3.cell 0) (x3.cell 1)) ?_
    refine seq_skipD rfl rfl rfl (run_stR rfl ((ev_ne (by decide)).trans e2) (ev_same (by first | (rw [hz]; decide) | (simp only [size_put, hz]; decide))) x2) ?_
    have y2 : RowT ((w11.setCell ⟨b2, 0, none⟩ (.int .i64 ((N : Nat) : Int))).setCell ⟨b2, 1, none⟩ (.slice p.A N p.cap)) b2 26 [.int .i64 ((N : Nat) : Int), .slice p.A N p.cap] := (x2.set_ 0 _).set_ 1 _
    replace x3 := (x3.far (p := ⟨b2, 0, none⟩) nx2_3.symm (.int .i64 ((N : Nat) : Int))).far (p := ⟨b2, 1, none⟩) nx2_3.symm (.slice p.A N p.cap)
    replace hpg := good_box hpg x2 (.int .i64 ((N : Nat) : Int)) (.slice p.A N p.cap)
    replace hB := (hB.setCell (p := ⟨b2, 0, none⟩) hge2 (.int .i64 ((N : Nat) : Int))).setCell (p := ⟨b2, 1, none⟩) hge2 (.slice p.A N p.cap)
    have x2 := y2
    clear y2
    generalize ((w11.setCell ⟨b2, 0, none⟩ (.int .i64 ((N : Nat) : Int))).setCell ⟨b2, 1, none⟩ (.slice p.A N p.cap)) = w17 at x2 x3 hpg hB ⊢
    replace hS := hB.size
    refine seq_nil ?_
    refine seq_out ((KeepM.refl 8 [] a12).put (by decide)) fun a18 k18 tr => ?_
    clear tr
    replace e0 := k18.ev e0 (by decide)
    replace e2 := k18.ev e2 (by decide)
    replace e3 := k18.ev e3 (by decide)
    replace e4 := k18.ev e4 (by decide)
    replace hz := k18.size.trans hz
    replace hd := k18.defers.trans hd
    refine wp_ret ?_
    rw [show L.take n = L by rw [← hn]; exact List.take_length] at hpr2
    exact post_cell rfl hd e2 x2 ⟨p, by rw [hpn2, hpl2], Lib.hid (by rw [← hpr2, ← hpn2]; rfl), Lib.hid hpg, hB⟩
set_option maxRecDepth 100000 in
theorem rThen_bad (L : List RA) (gl n : Nat) (w0 : World) (hn : L.length = n) (hlen : n < 1000) (hL : RowT w0 gl 26 (L.flatMap RA.cells)) (hg : ∀ a ∈ L, a.good w0) (hal : Palike (L.map RA.pr) = false) :
    Calls Tryd.prog 40 #[.slice (some ⟨gl, 0, none⟩) n n] w0 (RetR w0 PR.zero) := by
  refine calls_of_wp Tryd.func40 rfl ?_
  obtain ⟨hz, e0⟩ := start_act1 68 ((.slice (some ⟨gl, 0, none⟩) n n)) (by decide)
  have hd : ({ tmps := #[(.slice (some ⟨gl, 0, none⟩) n n)] ++ Array.replicate (68 - 1) undef, defers := [] } : Act).defers = [] := rfl
  rw [show Tryd.f40.ntmps - (#[(.slice (some ⟨gl, 0, none⟩) n n)] : Array Value).size = 68 - 1 from rfl]
  generalize ({ tmps := #[(.slice (some ⟨gl, 0, none⟩) n n)] ++ Array.replicate (68 - 1) undef, defers := [] } : Act) = a0 at hz e0 hd ⊢
  have hB : Below w0.heap.size w0 w0 := Below.refl _ _
  have hS := hB.size
  refine wp_seq ?_
  refine seq_startL (l := [0]) (by kernel_rfl) ?_
  refine seq_valD 2 rfl rfl rfl (run_allocR rfl rfl) ?_
  have x2 := RowT.new w0 26 [.int .i64 0, .slice none 0 0]
  replace hB := hB.al (o := .cells ([.int .i64 0, .slice none 0 0] : List Value).toArray 26)
  change wpOps _ _ _ _ _ (w0.alloc (.cells ([.int .i64 0, .slice none 0 0] : List Value).toArray 26))
  generalize (w0.alloc (.cells ([.int .i64 0, .slice none 0 0] : List Value).toArray 26)) = w1 at x2 hB ⊢
  generalize hbq2 : w0.heap.size = b2 at x2 ⊢
  have hge2 : w0.heap.size ≤ b2 := by rw [← hbq2]; exact hS
  clear hbq2
  have hS := hB.size
  refine seq_nil ?_
  refine seq_out ((KeepM.refl 8 [2] a0).put (by decide)) fun a2 k2 tr => ?_
  have f2 := tr 2 (.pointer (some ⟨b2, 0, none⟩)) (ev_same (by first | (rw [hz]; decide) | (simp only [size_put, hz]; decide)))
  clear tr
  replace e0 := k2.ev e0 (by decide)
  replace hz := k2.size.trans hz
  replace hd := k2.defers.trans hd
  have e2 := f2
  clear f2
  refine wp_seq ?_
  refine wp_seq ?_
  refine seq_startL (l := [0, 1, 2]) (by kernel_rfl) ?_
  refine seq_move 8 (v := (.slice (some ⟨gl, 0, none⟩) n n)) rfl rfl rfl rfl e0 ?_
  refine seq_callD 9 rfl rfl rfl en_alike rfl (args_one (ev_same (by first | (rw [hz]; decide) | (simp only [size_put, hz]; decide)))) ((hal ▸ ralike_c L gl n w1 hn hlen (hL.below hB hL.lt) (fun a ha => (hg a ha).on hB)).mono ?_)
  rintro e w3 ⟨rfl, hb3⟩
  refine ⟨_, rfl, ?_⟩
  replace x2 := x2.below hb3 x2.lt
  replace hB := Below.next hB hb3
  replace hS := hB.size
  refine seq_valD 10 (v := (.bool true)) rfl rfl rfl (run_not rfl (ev_same (by first | (rw [hz]; decide) | (simp only [size_put, hz]; decide)))) ?_
  refine seq_nil ?_
  refine seq_out ((((KeepM.refl 8 [] a2).put (by decide)).put (by decide)).put (by decide)) fun a4 k4 tr => ?_
  have f10 := tr 10 (.bool true) (ev_same (by first | (rw [hz]; decide) | (simp only [size_put, hz]; decide)))
  clear tr
  replace e0 := k4.ev e0 (by decide)
  replace e2 := k4.ev e2 (by decide)
  replace hz := k4.size.trans hz
  replace hd := k4.defers.trans hd
  have e10 := f10
  clear f10
  refine wp_cond_true e10 ?_
  refine wp_seq ?_
  refine seq_startL (l := [0, 1]) (by kernel_rfl) ?_
  refine seq_valD 11 (v := (.agg #[.int .i64 0, .slice none 0 0])) rfl rfl rfl (run_rel0 rfl) ?_
  refine seq_skipD rfl rfl rfl (run_stR rfl ((ev_ne (by decide)).trans e2) (ev_same (by first | (rw [hz]; decide) | (simp only [size_put, hz]; decide))) x2) ?_
  have y2 : RowT ((w3.setCell ⟨b2, 0, none⟩ (.int .i64 0)).setCell ⟨b2, 1, none⟩ (.slice none 0 0)) b2 26 [.int .i64 0, .slice none 0 0] := (x2.set_ 0 _).set_ 1 _
  replace hB := (hB.setCell (p := ⟨b2, 0, none⟩) hge2 (.int .i64 0)).setCell (p := ⟨b2, 1, none⟩) hge2 (.slice none 0 0)
  have x2 := y2
  clear y2
  generalize ((w3.setCell ⟨b2, 0, none⟩ (.int .i64 0)).setCell ⟨b2, 1, none⟩ (.slice none 0 0)) = w5 at x2 hB ⊢
  replace hS := hB.size
  refine seq_nil ?_
  refine seq_out ((KeepM.refl 8 [] a4).put (by decide)) fun a6 k6 tr => ?_
  clear tr
  replace e0 := k6.ev e0 (by decide)
  replace e2 := k6.ev e2 (by decide)
  replace hz := k6.size.trans hz
  replace hd := k6.defers.trans hd
  refine wp_ret ?_
  exact post_cell rfl hd e2 x2 (fin_Z hB)
theorem en_rThen : Enters Tryd.prog 40 := enters_of Tryd.func40 (by kernel_rfl) rfl
theorem C_rThen : CallLR 40 Pthen := fun L g w hT hlen hL hg => by
  cases hal : Palike (L.map RA.pr) with
  | false => unfold Pthen; rw [if_neg (by rw [hal]; simp)]; exact rThen_bad L g _ w rfl hlen hL hg hal
  | true =>
    cases hL0 : L with
    | nil => rw [hL0] at hal; cases hal
    | cons a0 M =>
      obtain ⟨h1, h2, h3⟩ := alike_all hL0 hal
      have hlt2 : ∀ a ∈ L, ∀ v ∈ a.rows, v < 2 ^ a0.rows.length := fun a ha => by
        have hal' := hal
        rw [hL0, List.map_cons] at hal'
        exact (alike_lt hal' a.pr (by rw [hL0] at ha; simpa using List.mem_map_of_mem (f := RA.pr) ha)).2
      have := rThen_ok L M a0 g _ a0.rows.length w rfl hlen hT hL hg hal hL0 rfl h3 hlt2 h2
      rw [← hL0]
      unfold Pthen
      rw [if_pos hal]
      have e2 : (L.map RA.pr).headD PR.zero = a0.pr := by rw [hL0]; rfl
      rw [e2, show a0.pr.n = ((a0.rows.length : Nat) : Int) from h1]
      exact this
end Go.Proofs.YtigdecmfieaacaaDoor
