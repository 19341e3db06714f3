/-
  The document's answers for layer 2: Line.
-/
import Derived.Test.YtbcfggdifljacaaDoorLexA
import Derived.Test.YtbcfggdifljacaaDoorGenC
namespace Go.Proofs.YtbcfggdifljacaaDoor
open Go Go.RowKit

/-- Line and column behind the first i bytes. -/
def lcAt (l : List UInt8) (i : Nat) : Nat × Nat := (l.take i).foldl (fun p c => if (((c.toNat : Nat) : Int) == 10) = true then (p.1 + 1, 1) else (p.1, p.2 + 1)) (1, 1)
theorem lcAt_succ (l : List UInt8) (i : Nat) (c : UInt8) (h : l[i]? = some c) : lcAt l (i + 1) = if (((c.toNat : Nat) : Int) == 10) = true then ((lcAt l i).1 + 1, 1) else ((lcAt l i).1, (lcAt l i).2 + 1) := by
  unfold lcAt
  rw [List.take_add_one, h]
  simp [List.foldl_append]
theorem lcAt_le (l : List UInt8) (i : Nat) : (lcAt l i).1 ≤ i + 1 ∧ (lcAt l i).2 ≤ i + 1 := by
  induction i with
  | zero => simp [lcAt]
  | succ i ih =>
    cases h : l[i]? with
    | none =>
      have e : lcAt l (i + 1) = lcAt l i := by
        unfold lcAt; rw [List.take_add_one, h]; simp
      rw [e]; omega
    | some c =>
      rw [lcAt_succ l i c h]
      split
      · simp; omega
      · simp; omega
/-- A place, as near as the text has it. -/
def atIn (l : List UInt8) (at_ : Int) : Nat := (min (max 0 at_) ((l.length : Nat) : Int)).toNat
set_option maxRecDepth 100000 in
set_option maxHeartbeats 4000000 in
theorem ref_Line (l : List UInt8) (at_ : Int) (w0 : World) (hlen : l.length ≤ 1000000) : Calls Tryd.prog 16 #[Str l, .int .i64 at_] w0 (Ret w0 (.tuple #[.int .i64 (((lcAt l (atIn l at_)).1 : Nat) : Int), .int .i64 (((lcAt l (atIn l at_)).2 : Nat) : Int)])) := by
  refine calls_of_wp Tryd.func16 rfl ?_
  obtain ⟨hz, e0, e1⟩ := start_act2 29 ((Str l)) ((.int .i64 at_)) (by decide)
  have hd : ({ tmps := #[(Str l), (.int .i64 at_)] ++ Array.replicate (29 - 2) undef, defers := [] } : Act).defers = [] := rfl
  rw [show Tryd.f16.ntmps - (#[(Str l), (.int .i64 at_)] : Array Value).size = 29 - 2 from rfl]
  generalize ({ tmps := #[(Str l), (.int .i64 at_)] ++ Array.replicate (29 - 2) undef, defers := [] } : Act) = a0 at hz e0 e1 hd ⊢
  have hB : Below w0.heap.size w0 w0 := Below.refl _ _
  have hS := hB.size
  refine wp_seq ?_
  refine seq_startL (l := [0, 1]) (by kernel_rfl) ?_
  refine seq_assign 4 (v := (.int .i64 0)) rfl rfl rfl rfl rfl ?_
  refine seq_assign 5 (v := (.int .i64 0)) rfl rfl rfl rfl rfl ?_
  refine seq_nil ?_
  refine seq_out (((KeepM.refl 9 [4, 5] a0).put (by decide)).put (by decide)) fun a1 k1 tr => ?_
  have f4 := tr 4 (.int .i64 0) ((ev_ne (by decide)).trans (ev_same (by first | (rw [hz]; decide) | (simp only [size_put, hz]; decide))))
  have f5 := tr 5 (.int .i64 0) (ev_same (by first | (rw [hz]; decide) | (simp only [size_put, hz]; decide)))
  clear tr
  replace e0 := k1.ev e0 (by decide)
  replace e1 := k1.ev e1 (by decide)
  replace hz := k1.size.trans hz
  replace hd := k1.defers.trans hd
  have e4 := f4
  clear f4
  have e5 := f5
  clear f5
  refine wp_seq ?_
  refine seq_startL (l := [0, 1, 2, 3, 4, 5]) (by kernel_rfl) ?_
  refine seq_move 9 (v := (.int .i64 at_)) rfl rfl rfl rfl e1 ?_
  refine seq_valD 10 (v := (.int .i64 (max 0 at_))) rfl rfl rfl (run_maxI rfl rfl (ev_same (by first | (rw [hz]; decide) | (simp only [size_put, hz]; decide)))) ?_
  refine seq_move 11 (v := (Str l)) rfl rfl rfl rfl ((ev_ne (by decide)).trans ((ev_ne (by decide)).trans e0)) ?_
  refine seq_valD 12 (v := (.int .i64 ((l.length : Nat) : Int))) rfl rfl rfl (run_lenS rfl (ev_same (by first | (rw [hz]; decide) | (simp only [size_put, hz]; decide)))) ?_
  refine seq_valD 13 (v := (.int .i64 (min (max 0 at_) ((l.length : Nat) : Int)))) rfl rfl rfl (run_minI rfl ((ev_ne (by decide)).trans ((ev_ne (by decide)).trans (ev_same (by first | (rw [hz]; decide) | (simp only [size_put, hz]; decide))))) (ev_same (by first | (rw [hz]; decide) | (simp only [size_put, hz]; decide)))) ?_
  refine seq_assign 1 (v := (.int .i64 (min (max 0 at_) ((l.length : Nat) : Int)))) rfl rfl rfl rfl (ev_same (by first | (rw [hz]; decide) | (simp only [size_put, hz]; decide))) ?_
  refine seq_nil ?_
  refine seq_out (((((((KeepM.refl 9 [1] a1).put (by decide)).put (by decide)).put (by decide)).put (by decide)).put (by decide)).put (by decide)) fun a2 k2 tr => ?_
  have f1 := tr 1 (.int .i64 (min (max 0 at_) ((l.length : Nat) : Int))) (ev_same (by first | (rw [hz]; decide) | (simp only [size_put, hz]; decide)))
  clear tr
  replace e0 := k2.ev e0 (by decide)
  replace e4 := k2.ev e4 (by decide)
  replace e5 := k2.ev e5 (by decide)
  replace hz := k2.size.trans hz
  replace hd := k2.defers.trans hd
  have e1 := f1
  clear f1
  obtain ⟨A, hA⟩ : ∃ A : Nat, min (max 0 at_) ((l.length : Nat) : Int) = ((A : Nat) : Int) := ⟨(min (max 0 at_) ((l.length : Nat) : Int)).toNat, by omega⟩
  rw [hA] at e1
  have hAl : A ≤ l.length := by omega
  refine wp_seq ?_
  refine seq_startL (l := [0, 1]) (by kernel_rfl) ?_
  refine seq_assign 6 (v := (.int .i64 1)) rfl rfl rfl rfl rfl ?_
  refine seq_assign 7 (v := (.int .i64 1)) rfl rfl rfl rfl rfl ?_
  refine seq_nil ?_
  refine seq_out (((KeepM.refl 9 [6, 7] a2).put (by decide)).put (by decide)) fun a3 k3 tr => ?_
  have f6 := tr 6 (.int .i64 1) ((ev_ne (by decide)).trans (ev_same (by first | (rw [hz]; decide) | (simp only [size_put, hz]; decide))))
  have f7 := tr 7 (.int .i64 1) (ev_same (by first | (rw [hz]; decide) | (simp only [size_put, hz]; decide)))
  clear tr
  replace e0 := k3.ev e0 (by decide)
  replace e4 := k3.ev e4 (by decide)
  replace e5 := k3.ev e5 (by decide)
  replace e1 := k3.ev e1 (by decide)
  replace hz := k3.size.trans hz
  replace hd := k3.defers.trans hd
  have e6 := f6
  clear f6
  have e7 := f7
  clear f7
  refine wp_seq ?_
  refine wp_seq ?_
  refine seq_startL (l := [0]) (by kernel_rfl) ?_
  refine seq_assign 8 (v := (.int .i64 0)) rfl rfl rfl rfl rfl ?_
  refine seq_nil ?_
  refine seq_out ((KeepM.refl 9 [8] a3).put (by decide)) fun a4 k4 tr => ?_
  have f8 := tr 8 (.int .i64 0) (ev_same (by first | (rw [hz]; decide) | (simp only [size_put, hz]; decide)))
  clear tr
  replace e0 := k4.ev e0 (by decide)
  replace e4 := k4.ev e4 (by decide)
  replace e5 := k4.ev e5 (by decide)
  replace e1 := k4.ev e1 (by decide)
  replace e6 := k4.ev e6 (by decide)
  replace e7 := k4.ev e7 (by decide)
  replace hz := k4.size.trans hz
  replace hd := k4.defers.trans hd
  have e8 := f8
  clear f8
  refine wp_block ?_
  refine wp_loop (fun aq wq => ∃ (i : Nat), (i ≤ A) ∧ KeepM 9 [6, 7, 8] a4 aq ∧ aq.eval (.tmp 6) = (.int .i64 (((lcAt l i).1 : Nat) : Int)) ∧ aq.eval (.tmp 7) = (.int .i64 (((lcAt l i).2 : Nat) : Int)) ∧ aq.eval (.tmp 8) = (.int .i64 ((i : Nat) : Int)) ∧ Below w0.heap.size w0 wq) (fun aq _ => A - (intOf (aq.eval (.tmp 8))).toNat) ⟨0, Nat.zero_le _, KeepM.refl _ _ _, e6, e7, e8, hB⟩ ?_
  rintro a5 w5 ⟨i, hk0, kk0, g6, g7, g8, qB⟩
  replace e0 := kk0.ev e0 (by decide)
  replace e4 := kk0.ev e4 (by decide)
  replace e5 := kk0.ev e5 (by decide)
  replace e1 := kk0.ev e1 (by decide)
  replace hz := kk0.size.trans hz
  replace hd := kk0.defers.trans hd
  clear e6 e7 e8  hB hS
  have e6 := g6
  have e7 := g7
  have e8 := g8
  have hB := qB
  have hS := hB.size
  clear  qB
  have e8s := e8
  obtain ⟨hl1, hl2⟩ := lcAt_le l i
  refine wp_seq ?_
  refine wp_seq ?_
  refine seq_startL (l := [0, 1, 2]) (by kernel_rfl) ?_
  refine seq_move 14 (v := (.int .i64 ((i : Nat) : Int))) rfl rfl rfl rfl e8 ?_
  refine seq_move 15 (v := (.int .i64 ((A : Nat) : Int))) rfl rfl rfl rfl ((ev_ne (by decide)).trans e1) ?_
  refine seq_valD 16 (v := (.bool (decide (((i : Nat) : Int) < ((A : Nat) : Int))))) rfl rfl rfl (run_ltI rfl ((ev_ne (by decide)).trans (ev_same (by first | (rw [hz]; decide) | (simp only [size_put, hz]; decide)))) (ev_same (by first | (rw [hz]; decide) | (simp only [size_put, hz]; decide)))) ?_
  refine seq_nil ?_
  refine seq_out ((((KeepM.refl 9 [] a5).put (by decide)).put (by decide)).put (by decide)) fun a6 k6 tr => ?_
  have f16 := tr 16 (.bool (decide (((i : Nat) : Int) < ((A : Nat) : Int)))) (ev_same (by first | (rw [hz]; decide) | (simp only [size_put, hz]; decide)))
  clear tr
  replace e0 := k6.ev e0 (by decide)
  replace e4 := k6.ev e4 (by decide)
  replace e5 := k6.ev e5 (by decide)
  replace e1 := k6.ev e1 (by decide)
  replace e6 := k6.ev e6 (by decide)
  replace e7 := k6.ev e7 (by decide)
  replace e8 := k6.ev e8 (by decide)
  replace hz := k6.size.trans hz
  replace hd := k6.defers.trans hd
  replace kk0 := kk0.trans (k6.mono (ys := [6, 7, 8]) (by decide))
  have e16 := f16
  clear f16
  by_cases hlti : i < A
  · rw [decide_eq_true (by omega)] at e16
    refine wp_cond_true e16 ?_
    refine wp_skip ?_
    refine wp_seq ?_
    refine wp_block ?_
    obtain ⟨c, hc⟩ : ∃ c, l[i]? = some c := ⟨_, List.getElem?_eq_getElem (by omega)⟩
    refine wp_seq ?_
    refine seq_startL (l := [0, 1, 2]) (by kernel_rfl) ?_
    refine seq_move 19 (v := (.int .i64 (((lcAt l i).2 : Nat) : Int))) rfl rfl rfl rfl e7 ?_
    refine seq_valD 20 (v := (.int .i64 (((lcAt l i).2 + 1 : Nat) : Int))) rfl rfl rfl (run_incI rfl (ev_same (by first | (rw [hz]; decide) | (simp only [size_put, hz]; decide))) rfl (by omega)) ?_
    refine seq_assign 7 (v := (.int .i64 (((lcAt l i).2 + 1 : Nat) : Int))) rfl rfl rfl rfl (ev_same (by first | (rw [hz]; decide) | (simp only [size_put, hz]; decide))) ?_
    refine seq_nil ?_
    refine seq_out ((((KeepM.refl 9 [7] a6).put (by decide)).put (by decide)).put (by decide)) fun a7 k7 tr => ?_
    have f7 := tr 7 (.int .i64 (((lcAt l i).2 + 1 : Nat) : Int)) (ev_same (by first | (rw [hz]; decide) | (simp only [size_put, hz]; decide)))
    clear tr
    replace e0 := k7.ev e0 (by decide)
    replace e4 := k7.ev e4 (by decide)
    replace e5 := k7.ev e5 (by decide)
    replace e1 := k7.ev e1 (by decide)
    replace e6 := k7.ev e6 (by decide)
    replace e8 := k7.ev e8 (by decide)
    replace hz := k7.size.trans hz
    replace hd := k7.defers.trans hd
    replace kk0 := kk0.trans (k7.mono (ys := [6, 7, 8]) (by decide))
    have e7 := f7
    clear f7
    refine wp_seq ?_
    cases hc7_3 : ((((c.toNat : Nat) : Int) == 10) : Bool) with
    | true =>
      have hlast : lastOk (regOps Tryd.f16 7) 4 = true := by kernel_rfl
      refine region_ws (n := 4) [some (Str l), some (.int .i64 ((i : Nat) : Int)), some (.int .u8 ((c.toNat : Nat) : Int)), some (.bool true)] 4 w5 w5 (by rw [hz]; kernel_rfl) (by kernel_rfl) (by kernel_rfl) (by kernel_rfl) ?_ fun L a8 w8 hL st => ?_
      · refine ⟨⟨⟨⟨trivial, ?_⟩, ?_⟩, ?_⟩, ?_⟩
        · intro oo aa ww LL hho hLL haft st; obtain rfl := Option.some.inj hho; exact payW_move st hlast hLL (by decide) (want_none rfl) rfl (st.outV (by kernel_rfl) e0) rfl
        · intro oo aa ww LL hho hLL haft st; obtain rfl := Option.some.inj hho; exact payW_move st hlast hLL (by decide) (want_none rfl) rfl (st.outV (by kernel_rfl) e8) rfl
        · intro oo aa ww LL hho hLL haft st; obtain rfl := Option.some.inj hho; exact payW st hlast hLL (by decide) (want_none rfl) (run_idxS (k := i) rfl (st.argV (j := 0) (aft_of haft (by kernel_rfl)) rfl rfl) (st.argV (j := 1) (aft_of haft (by kernel_rfl)) rfl rfl) hc) rfl
        · intro oo aa ww LL hho hLL haft st; obtain rfl := Option.some.inj hho; exact payW st hlast hLL (by decide) (want_none rfl) ((run_eq8 rfl (st.argV (j := 2) (aft_of haft (by kernel_rfl)) rfl rfl) rfl).trans (okB (c := true) hc7_3)) rfl
      clear hlast
      rw [st.end1 (Nat.le_of_eq (by kernel_rfl))]
      have k8 : KeepM 9 [] a7 a8 := st.keepM (by kernel_rfl)
      have e24 : a8.eval (.tmp 24) = (.bool true) := st.argV (j := 3) (hL 3 (by omega)) rfl rfl
      clear st hL L
      replace e0 := k8.ev e0 (by decide)
      replace e4 := k8.ev e4 (by decide)
      replace e5 := k8.ev e5 (by decide)
      replace e1 := k8.ev e1 (by decide)
      replace e6 := k8.ev e6 (by decide)
      replace e8 := k8.ev e8 (by decide)
      replace e7 := k8.ev e7 (by decide)
      replace hz := k8.size.trans hz
      replace hd := k8.defers.trans hd
      replace kk0 := kk0.trans (k8.mono (ys := [6, 7, 8]) (by decide))
      refine wp_cond_true e24 ?_
      refine seq_startL (l := [0, 1, 2, 3]) (by kernel_rfl) ?_
      refine seq_move 25 (v := (.int .i64 (((lcAt l i).1 : Nat) : Int))) rfl rfl rfl rfl e6 ?_
      refine seq_valD 26 (v := (.int .i64 (((lcAt l i).1 + 1 : Nat) : Int))) rfl rfl rfl (run_incI rfl (ev_same (by first | (rw [hz]; decide) | (simp only [size_put, hz]; decide))) rfl (by omega)) ?_
      refine seq_assign 6 (v := (.int .i64 (((lcAt l i).1 + 1 : Nat) : Int))) rfl rfl rfl rfl (ev_same (by first | (rw [hz]; decide) | (simp only [size_put, hz]; decide))) ?_
      refine seq_assign 7 (v := (.int .i64 1)) rfl rfl rfl rfl rfl ?_
      refine seq_nil ?_
      refine seq_out (((((KeepM.refl 9 [6, 7] a8).put (by decide)).put (by decide)).put (by decide)).put (by decide)) fun a9 k9 tr => ?_
      have f6 := tr 6 (.int .i64 (((lcAt l i).1 + 1 : Nat) : Int)) ((ev_ne (by decide)).trans (ev_same (by first | (rw [hz]; decide) | (simp only [size_put, hz]; decide))))
      have f7 := tr 7 (.int .i64 1) (ev_same (by first | (rw [hz]; decide) | (simp only [size_put, hz]; decide)))
      clear tr
      replace e0 := k9.ev e0 (by decide)
      replace e4 := k9.ev e4 (by decide)
      replace e5 := k9.ev e5 (by decide)
      replace e1 := k9.ev e1 (by decide)
      replace e8 := k9.ev e8 (by decide)
      replace hz := k9.size.trans hz
      replace hd := k9.defers.trans hd
      replace kk0 := kk0.trans (k9.mono (ys := [6, 7, 8]) (by decide))
      have e6 := f6
      clear f6
      have e7 := f7
      clear f7
      have hst := lcAt_succ l i c hc
      rw [show (((c.toNat : Nat) : Int) == 10) = true from hc7_3] at hst
      have h1 := congrArg Prod.fst hst
      have h2 := congrArg Prod.snd hst
      simp at h1 h2
      refine seq_startL (l := [0, 1, 2]) (by kernel_rfl) ?_
      refine seq_move 17 (v := (.int .i64 ((i : Nat) : Int))) rfl rfl rfl rfl e8 ?_
      refine seq_valD 18 (v := (.int .i64 ((i + 1 : Nat) : Int))) rfl rfl rfl (run_incI rfl (ev_same (by first | (rw [hz]; decide) | (simp only [size_put, hz]; decide))) rfl (by omega)) ?_
      refine seq_assign 8 (v := (.int .i64 ((i + 1 : Nat) : Int))) rfl rfl rfl rfl (ev_same (by first | (rw [hz]; decide) | (simp only [size_put, hz]; decide))) ?_
      refine seq_nil ?_
      refine seq_out ((((KeepM.refl 9 [8] a9).put (by decide)).put (by decide)).put (by decide)) fun a10 k10 tr => ?_
      have f8 := tr 8 (.int .i64 ((i + 1 : Nat) : Int)) (ev_same (by first | (rw [hz]; decide) | (simp only [size_put, hz]; decide)))
      clear tr
      replace e0 := k10.ev e0 (by decide)
      replace e4 := k10.ev e4 (by decide)
      replace e5 := k10.ev e5 (by decide)
      replace e1 := k10.ev e1 (by decide)
      replace e6 := k10.ev e6 (by decide)
      replace e7 := k10.ev e7 (by decide)
      replace hz := k10.size.trans hz
      replace hd := k10.defers.trans hd
      replace kk0 := kk0.trans (k10.mono (ys := [6, 7, 8]) (by decide))
      have e8 := f8
      clear f8
      refine ⟨⟨i + 1, by omega, kk0, by rw [h1]; exact e6, by rw [h2]; exact e7, e8, hB⟩, ?_⟩
      rw [e8, e8s]; simp [intOf]; omega
    | false =>
      have hlast : lastOk (regOps Tryd.f16 7) 4 = true := by kernel_rfl
      refine region_ws (n := 4) [some (Str l), some (.int .i64 ((i : Nat) : Int)), some (.int .u8 ((c.toNat : Nat) : Int)), some (.bool false)] 4 w5 w5 (by rw [hz]; kernel_rfl) (by kernel_rfl) (by kernel_rfl) (by kernel_rfl) ?_ fun L a11 w11 hL st => ?_
      · refine ⟨⟨⟨⟨trivial, ?_⟩, ?_⟩, ?_⟩, ?_⟩
        · intro oo aa ww LL hho hLL haft st; obtain rfl := Option.some.inj hho; exact payW_move st hlast hLL (by decide) (want_none rfl) rfl (st.outV (by kernel_rfl) e0) rfl
        · intro oo aa ww LL hho hLL haft st; obtain rfl := Option.some.inj hho; exact payW_move st hlast hLL (by decide) (want_none rfl) rfl (st.outV (by kernel_rfl) e8) rfl
        · intro oo aa ww LL hho hLL haft st; obtain rfl := Option.some.inj hho; exact payW st hlast hLL (by decide) (want_none rfl) (run_idxS (k := i) rfl (st.argV (j := 0) (aft_of haft (by kernel_rfl)) rfl rfl) (st.argV (j := 1) (aft_of haft (by kernel_rfl)) rfl rfl) hc) rfl
        · intro oo aa ww LL hho hLL haft st; obtain rfl := Option.some.inj hho; exact payW st hlast hLL (by decide) (want_none rfl) ((run_eq8 rfl (st.argV (j := 2) (aft_of haft (by kernel_rfl)) rfl rfl) rfl).trans (okB (c := false) hc7_3)) rfl
      clear hlast
      rw [st.end1 (Nat.le_of_eq (by kernel_rfl))]
      have k11 : KeepM 9 [] a7 a11 := st.keepM (by kernel_rfl)
      have e24 : a11.eval (.tmp 24) = (.bool false) := st.argV (j := 3) (hL 3 (by omega)) rfl rfl
      clear st hL L
      replace e0 := k11.ev e0 (by decide)
      replace e4 := k11.ev e4 (by decide)
      replace e5 := k11.ev e5 (by decide)
      replace e1 := k11.ev e1 (by decide)
      replace e6 := k11.ev e6 (by decide)
      replace e8 := k11.ev e8 (by decide)
      replace e7 := k11.ev e7 (by decide)
      replace hz := k11.size.trans hz
      replace hd := k11.defers.trans hd
      replace kk0 := kk0.trans (k11.mono (ys := [6, 7, 8]) (by decide))
      refine wp_cond_false e24 ?_
      refine wp_skip ?_
      have hst := lcAt_succ l i c hc
      rw [show (((c.toNat : Nat) : Int) == 10) = false from hc7_3] at hst
      have h1 := congrArg Prod.fst hst
      have h2 := congrArg Prod.snd hst
      simp at h1 h2
      refine seq_startL (l := [0, 1, 2]) (by kernel_rfl) ?_
      refine seq_move 17 (v := (.int .i64 ((i : Nat) : Int))) rfl rfl rfl rfl e8 ?_
      refine seq_valD 18 (v := (.int .i64 ((i + 1 : Nat) : Int))) rfl rfl rfl (run_incI rfl (ev_same (by first | (rw [hz]; decide) | (simp only [size_put, hz]; decide))) rfl (by omega)) ?_
      refine seq_assign 8 (v := (.int .i64 ((i + 1 : Nat) : Int))) rfl rfl rfl rfl (ev_same (by first | (rw [hz]; decide) | (simp only [size_put, hz]; decide))) ?_
      refine seq_nil ?_
      refine seq_out ((((KeepM.refl 9 [8] a11).put (by decide)).put (by decide)).put (by decide)) fun a12 k12 tr => ?_
      have f8 := tr 8 (.int .i64 ((i + 1 : Nat) : Int)) (ev_same (by first | (rw [hz]; decide) | (simp only [size_put, hz]; decide)))
      clear tr
      replace e0 := k12.ev e0 (by decide)
      replace e4 := k12.ev e4 (by decide)
      replace e5 := k12.ev e5 (by decide)
      replace e1 := k12.ev e1 (by decide)
      replace e6 := k12.ev e6 (by decide)
      replace e7 := k12.ev e7 (by decide)
      replace hz := k12.size.trans hz
      replace hd := k12.defers.trans hd
      replace kk0 := kk0.trans (k12.mono (ys := [6, 7, 8]) (by decide))
      have e8 := f8
      clear f8
      refine ⟨⟨i + 1, by omega, kk0, by rw [h1]; exact e6, by rw [h2]; exact e7, e8, hB⟩, ?_⟩
      rw [e8, e8s]; simp [intOf]; omega
  · rw [decide_eq_false (by omega)] at e16
    refine wp_cond_false e16 ?_
    refine wp_exit ?_
    refine exit_here1 (id := 0) ?_
    obtain rfl : A = i := by omega
    refine wp_seq ?_
    refine seq_startL (l := [0, 1, 2, 3]) (by kernel_rfl) ?_
    refine seq_move 27 (v := (.int .i64 (((lcAt l A).1 : Nat) : Int))) rfl rfl rfl rfl e6 ?_
    refine seq_move 28 (v := (.int .i64 (((lcAt l A).2 : Nat) : Int))) rfl rfl rfl rfl ((ev_ne (by decide)).trans e7) ?_
    refine seq_assign 4 (v := (.int .i64 (((lcAt l A).1 : Nat) : Int))) rfl rfl rfl rfl ((ev_ne (by decide)).trans (ev_same (by first | (rw [hz]; decide) | (simp only [size_put, hz]; decide)))) ?_
    refine seq_assign 5 (v := (.int .i64 (((lcAt l A).2 : Nat) : Int))) rfl rfl rfl rfl ((ev_ne (by decide)).trans (ev_same (by first | (rw [hz]; decide) | (simp only [size_put, hz]; decide)))) ?_
    refine seq_nil ?_
    refine seq_out (((((KeepM.refl 9 [4, 5] a6).put (by decide)).put (by decide)).put (by decide)).put (by decide)) fun a13 k13 tr => ?_
    have f4 := tr 4 (.int .i64 (((lcAt l A).1 : Nat) : Int)) ((ev_ne (by decide)).trans (ev_same (by first | (rw [hz]; decide) | (simp only [size_put, hz]; decide))))
    have f5 := tr 5 (.int .i64 (((lcAt l A).2 : Nat) : Int)) (ev_same (by first | (rw [hz]; decide) | (simp only [size_put, hz]; decide)))
    clear tr
    replace e0 := k13.ev e0 (by decide)
    replace e1 := k13.ev e1 (by decide)
    replace e6 := k13.ev e6 (by decide)
    replace e7 := k13.ev e7 (by decide)
    replace e8 := k13.ev e8 (by decide)
    replace hz := k13.size.trans hz
    replace hd := k13.defers.trans hd
    have e4 := f4
    clear f4
    have e5 := f5
    clear f5
    refine wp_ret ?_
    rw [show A = atIn l at_ by unfold atIn; rw [hA]; rfl] at e4 e5
    exact post_two rfl hd e4 e5 ⟨rfl, hB⟩
end Go.Proofs.YtbcfggdifljacaaDoor
