/-
  RelPlus, region by region: the loops over the list and over the pairs.
-/
import Derived.Test.YtigdecmfieaacaaDoorPlusR
namespace Go.Proofs.YtigdecmfieaacaaDoor
open Go Go.RowKit

/-- The variables' slots lie as they lay, but for some. -/
structure KeepL (xs : List Nat) (a0 a : Act) : Prop where
  defers : a.defers = a0.defers
  size : a.tmps.size = a0.tmps.size
  var : ∀ s, s < 15 → xs.contains s = false → a.tmps[s]? = a0.tmps[s]?
theorem KeepL.refl (xs : List Nat) (a : Act) : KeepL xs a a := ⟨rfl, rfl, fun _ _ _ => rfl⟩
theorem KeepL.put {xs : List Nat} {a0 a : Act} {d : Tmp} {v : Value} (h : KeepL xs a0 a) (hd : (decide (15 ≤ d) || xs.contains d) = true) : KeepL xs a0 (a.put (some d) v) :=
  ⟨by rw [defers_put]; exact h.defers, by rw [size_put]; exact h.size, fun s hs hx => by
    rw [← h.var s hs hx]
    have hne : d ≠ s := by
      rintro rfl
      rcases Bool.or_eq_true_iff.1 hd with h1 | h1
      · exact absurd (show (15 : Nat) ≤ d from of_decide_eq_true h1) (Nat.not_le.2 hs)
      · rw [hx] at h1; cases h1
    show (a.tmps.setIfInBounds d v)[s]? = _
    rw [Array.getElem?_setIfInBounds, if_neg hne]⟩
theorem KeepL.trans {xs : List Nat} {a b c : Act} (h : KeepL xs a b) (k : KeepL xs b c) : KeepL xs a c := ⟨k.defers.trans h.defers, k.size.trans h.size, fun s hs hx => (k.var s hs hx).trans (h.var s hs hx)⟩
theorem KeepV.toL {x : Nat} {a b : Act} {xs : List Nat} (h : KeepV x a b) (hx : (decide (15 ≤ x) || xs.contains x) = true) : KeepL xs a b := ⟨h.defers, h.size, fun s hs hc => h.var s hs (fun e => by
  subst e
  rcases Bool.or_eq_true_iff.1 hx with h1 | h1
  · exact absurd (of_decide_eq_true h1) (Nat.not_le.2 hs)
  · rw [hc] at h1; cases h1)⟩
theorem KeepL.mono {xs ys : List Nat} {a b : Act} (h : KeepL xs a b) (hx : ∀ s, ys.contains s = false → xs.contains s = false) : KeepL ys a b := ⟨h.defers, h.size, fun s hs hc => h.var s hs (hx s hc)⟩
theorem ev_tmps {a : Act} {s : Tmp} {v : Value} (h : a.tmps[s]? = some v) : a.eval (.tmp s) = v := by
  show a.tmps.getD s undef = v
  rw [Array.getD_eq_getD_getElem?, h]; rfl
theorem KeepL.ev {xs : List Nat} {a0 a : Act} (h : KeepL xs a0 a) {s : Nat} {v : Value} (hv : a0.eval (.tmp s) = v) (hs : (decide (s < 15) && !xs.contains s) = true) : a.eval (.tmp s) = v := by
  rw [Bool.and_eq_true, Bool.not_eq_true'] at hs
  rw [← hv]
  show a.tmps.getD s undef = a0.tmps.getD s undef
  rw [Array.getD_eq_getD_getElem?, Array.getD_eq_getD_getElem?, h.var s (of_decide_eq_true hs.1) hs.2]
theorem args_one {a : Act} {x : Operand} {v : Value} (h : a.eval x = v) : (#[x] : Array Operand).map a.eval = #[v] := by simp [h]
theorem add0 (g k : Nat) : (⟨g, 0, none⟩ : Addr).add k = ⟨g, k, none⟩ := by unfold Addr.add; split <;> simp_all
section
variable {P : Program} {ops : Array Oper} {Q : Exit → Act → World → Prop} {a : Act} {w : World} {i : Nat} {o : Oper}
theorem ev_same {d : Tmp} {v : Value} (h : d < a.tmps.size) : (a.put (some d) v).eval (.tmp d) = v := by rw [ev_put, if_pos rfl, if_pos h]
theorem ev_ne {d s : Tmp} {v : Value} (h : s ≠ d) : (a.put (some d) v).eval (.tmp s) = a.eval (.tmp s) := by rw [ev_put, if_neg h]
theorem seq_startL {id : Nat} {l : List Nat} (hn : List.range ops.size = l) (h : wpOps P ops Q l a w) : (Code.region id ops false).wp P Q a w := by
  subst hn; exact wp_region h
theorem seq_valD (d : Tmp) {l : List Nat} {v : Value} {w' : World} (ho : ops[i]? = some o) (hg : o.guard = none) (hd : o.dst = some d) (hrun : (execOp a.eval o).run P w = .ok (.value v) w') (h : wpOps P ops Q l (a.put (some d) v) w') : wpOps P ops Q (i :: l) a w :=
  seq_val ho hg hrun (by rw [hd]; exact h)
theorem seq_skipD {l : List Nat} {w' : World} (ho : ops[i]? = some o) (hg : o.guard = none) (hd : o.dst = none) (hrun : (execOp a.eval o).run P w = .ok .skip w') (h : wpOps P ops Q l a w') : wpOps P ops Q (i :: l) a w :=
  seq_skip ho hg hrun (by rw [hd]; exact h)
theorem seq_callD (d : Tmp) {l : List Nat} {f : FuncId} {xs : Array Operand} {ts : Array TypeId} {args : Array Value} (ho : ops[i]? = some o) (hg : o.guard = none) (hd : o.dst = some d) (he : Enters P f) (hop : o.op = .call { callee := .value (.func f), args := xs, argTypes := ts }) (hargs : xs.map a.eval = args)
    (hc : Calls P f args w fun e w' => ∃ v, e = .returned v ∧ wpOps P ops Q l (a.put (some d) v) w') : wpOps P ops Q (i :: l) a w :=
  seq_call ho hg he hop hargs (by rw [hd]; exact hc)
theorem seq_move (d : Tmp) {l : List Nat} {x : Operand} {v : Value} (ho : ops[i]? = some o) (hg : o.guard = none) (hd : o.dst = some d) (hop : o.op = .move x) (hx : a.eval x = v) (h : wpOps P ops Q l (a.put (some d) v) w) : wpOps P ops Q (i :: l) a w :=
  seq_valD d ho hg hd ((run_move hop).trans (by rw [hx])) h
theorem seq_assign (d : Tmp) {l : List Nat} {x : Operand} {v : Value} (ho : ops[i]? = some o) (hg : o.guard = none) (hd : o.dst = some d) (hop : o.op = .assign x) (hx : a.eval x = v) (h : wpOps P ops Q l (a.put (some d) v) w) : wpOps P ops Q (i :: l) a w :=
  seq_valD d ho hg hd ((run_assign hop).trans (by rw [hx])) h
end

theorem en_Sort : Enters Tryd.prog 23 := enters_of Tryd.func23 (by kernel_rfl) rfl
theorem en_Pairs : Enters Tryd.prog 32 := enters_of Tryd.func32 (by kernel_rfl) rfl
theorem pairs_c {a : RA} (w : World) (hok : a.pr.ok = true) (hT : Tab w) (hg : a.good w) : Calls Tryd.prog 32 #[a.val] w (RetQ w fun v w' => ∃ A c, v = .slice A (pairsR a.rows).length c ∧ Reads w' w'.heap.size 2 A (pairsR a.rows).length (prs (pairsR a.rows))) := by
  obtain ⟨hn, _, _⟩ := (PR.ok_iff a.pr).1 hok
  have hn' : a.n = a.rows.length := hn
  have hok' : okR a.rows.length a.rows = true := by rw [← hn']; exact hok
  have := pairs_ok a.rows a.A a.cap w hT hg.1 hg.2 hok'
  unfold RA.val
  rw [hn']
  exact this
set_option maxRecDepth 100000 in
theorem r0 {Q : Exit → Act → World → Prop} {a0 : Act} {w0 : World} {r o : RA} (hsz : a0.tmps.size = 193) (h0 : a0.eval (.tmp 0) = r.val) (h1 : a0.eval (.tmp 1) = o.val)
    (hK : ∀ a, KeepL [2, 3, 4] a0 a → a.eval (.tmp 2) = .pointer (some ⟨w0.heap.size, 0, none⟩) → a.eval (.tmp 3) = .pointer (some ⟨w0.heap.size + 1, 0, none⟩) → Q .normal a ((w0.alloc (.cells r.cells.toArray 26)).alloc (.cells o.cells.toArray 26))) : (Code.region 0 (regOps Tryd.f7 0) false).wp Tryd.prog Q a0 w0 := by
  refine seq_startL (l := [0, 1, 2]) (by kernel_rfl) ?_
  refine seq_valD 2 rfl rfl rfl (run_boxR rfl h0) ?_
  refine seq_valD 3 rfl rfl rfl (run_boxR rfl ((ev_ne (by decide)).trans h1)) ?_
  refine seq_assign 4 (v := (.bool false)) rfl rfl rfl rfl rfl ?_
  refine seq_nil ?_
  exact hK _ ((((KeepL.refl [2, 3, 4] _).put (by decide)).put (by decide)).put (by decide)) ((ev_ne (by decide)).trans ((ev_ne (by decide)).trans (ev_same (by first | (rw [hsz]; decide) | (simp only [size_put, hsz]; decide))))) (((ev_ne (by decide)).trans (ev_same (by first | (rw [hsz]; decide) | (simp only [size_put, hsz]; decide)))).trans (by rw [World.size_alloc]))
set_option maxRecDepth 100000 in
theorem r1 {Q : Exit → Act → World → Prop} {a0 : Act} {w0 : World}  (hsz : a0.tmps.size = 193) (hT : Tab w0)
    (hK : ∀ a w, KeepL [] a0 a → a.eval (.tmp 16) = .bool false → Below w0.heap.size w0 w → Q .normal a w) : (Code.region 1 (regOps Tryd.f7 1) false).wp Tryd.prog Q a0 w0 := by
  refine seq_startL (l := [0, 1]) (by kernel_rfl) ?_
  refine seq_callD 15 rfl rfl rfl en_lives rfl (by simp) ((lives_yes w0 hT).mono ?_)
  rintro e w ⟨rfl, hb⟩
  refine ⟨_, rfl, ?_⟩
  refine seq_valD 16 rfl rfl rfl (run_not rfl (ev_same (by first | (rw [hsz]; decide) | (simp only [size_put, hsz]; decide)))) ?_
  refine seq_nil ?_
  exact hK _ _ (((KeepL.refl [] _).put (by decide)).put (by decide)) (ev_same (by first | (rw [hsz]; decide) | (simp only [size_put, hsz]; decide))) hb
set_option maxRecDepth 100000 in
theorem r3 {Q : Exit → Act → World → Prop} {a0 : Act} {w0 : World} {b2 : Nat} {r : RA} {t : Bool} (hsz : a0.tmps.size = 193) (hT : Tab w0) (x2 : BoxAt a0 w0 2 b2 r) (ht : (chk r.pr.n r.pr.rows != 0) = t)
    (hK : ∀ a w, KeepL [] a0 a → a.eval (.tmp 19) = .bool t → Below w0.heap.size w0 w → Q .normal a w) : (Code.region 3 (regOps Tryd.f7 3) false).wp Tryd.prog Q a0 w0 := by
  refine seq_startL (l := [0, 1, 2]) (by kernel_rfl) ?_
  refine seq_valD 17 rfl rfl rfl (run_loadR rfl (ev_tmps x2.1) x2.2.1) ?_
  refine seq_callD 18 rfl rfl rfl en_Check rfl (args_one (ev_same (by first | (rw [hsz]; decide) | (simp only [size_put, hsz]; decide)))) ((C_Check r w0 hT x2.2.2.1 x2.2.2.2).mono ?_)
  rintro e w ⟨rfl, hb⟩
  refine ⟨_, rfl, ?_⟩
  refine seq_valD 19 rfl rfl rfl ((run_neE rfl (ev_same (by first | (rw [hsz]; decide) | (simp only [size_put, hsz]; decide))) rfl).trans (okB (c := t) ht)) ?_
  refine seq_nil ?_
  exact hK _ _ ((((KeepL.refl [] _).put (by decide)).put (by decide)).put (by decide)) (ev_same (by first | (rw [hsz]; decide) | (simp only [size_put, hsz]; decide))) hb
set_option maxRecDepth 100000 in
theorem r11 {Q : Exit → Act → World → Prop} {a0 : Act} {w0 : World} {b2 : Nat} {r : RA} {l : List Int} {b : Bool} (hsz : a0.tmps.size = 193) (hT : Tab w0) (x2 : BoxAt a0 w0 2 b2 r) (hs : Psort r.pr = (l, b))
    (hK : ∀ a w A c, KeepL [7, 8] a0 a → a.eval (.tmp 7) = .slice A l.length c → a.eval (.tmp 8) = .bool b → Reads w w.heap.size 1 A l.length (l.map I) → Below w0.heap.size w0 w → Q .normal a w) : (Code.region 11 (regOps Tryd.f7 11) false).wp Tryd.prog Q a0 w0 := by
  refine seq_startL (l := [0, 1, 2, 3, 4, 5, 6]) (by kernel_rfl) ?_
  refine seq_valD 87 rfl rfl rfl (run_loadR rfl (ev_tmps x2.1) x2.2.1) ?_
  refine seq_callD 88 rfl rfl rfl en_Sort rfl (args_one (ev_same (by first | (rw [hsz]; decide) | (simp only [size_put, hsz]; decide)))) ((sort_c (a := r) w0 hs hT x2.2.2.1).mono ?_)
  rintro e w ⟨A, c, rfl, hrd, hb⟩
  refine ⟨_, rfl, ?_⟩
  refine seq_move 86 rfl rfl rfl rfl (ev_same (by first | (rw [hsz]; decide) | (simp only [size_put, hsz]; decide))) ?_
  refine seq_valD 89 rfl rfl rfl (run_ext0 rfl (ev_same (by first | (rw [hsz]; decide) | (simp only [size_put, hsz]; decide)))) ?_
  refine seq_valD 90 rfl rfl rfl (run_ext1 rfl ((ev_ne (by decide)).trans (ev_same (by first | (rw [hsz]; decide) | (simp only [size_put, hsz]; decide))))) ?_
  refine seq_assign 7 rfl rfl rfl rfl ((ev_ne (by decide)).trans (ev_same (by first | (rw [hsz]; decide) | (simp only [size_put, hsz]; decide)))) ?_
  refine seq_assign 8 rfl rfl rfl rfl ((ev_ne (by decide)).trans (ev_same (by first | (rw [hsz]; decide) | (simp only [size_put, hsz]; decide)))) ?_
  refine seq_nil ?_
  exact hK _ _ A c ((((((((KeepL.refl [7, 8] _).put (by decide)).put (by decide)).put (by decide)).put (by decide)).put (by decide)).put (by decide)).put (by decide)) ((ev_ne (by decide)).trans (ev_same (by first | (rw [hsz]; decide) | (simp only [size_put, hsz]; decide)))) (ev_same (by first | (rw [hsz]; decide) | (simp only [size_put, hsz]; decide))) hrd.out hb
set_option maxRecDepth 100000 in
theorem r15 {Q : Exit → Act → World → Prop} {a0 : Act} {w0 : World} {b : Bool} (hsz : a0.tmps.size = 193) (h8 : a0.eval (.tmp 8) = .bool b)
    (hK : ∀ a, KeepL [] a0 a → a.eval (.tmp 110) = .bool (!b) → Q .normal a w0) : (Code.region 15 (regOps Tryd.f7 15) false).wp Tryd.prog Q a0 w0 := by
  refine seq_startL (l := [0, 1]) (by kernel_rfl) ?_
  refine seq_move 109 rfl rfl rfl rfl h8 ?_
  refine seq_valD 110 rfl rfl rfl (run_not rfl (ev_same (by first | (rw [hsz]; decide) | (simp only [size_put, hsz]; decide)))) ?_
  refine seq_nil ?_
  exact hK _ (((KeepL.refl [] _).put (by decide)).put (by decide)) (ev_same (by first | (rw [hsz]; decide) | (simp only [size_put, hsz]; decide)))
set_option maxRecDepth 100000 in
theorem r16 {Q : Exit → Act → World → Prop} {a0 : Act} {w0 : World} {A : Option Addr} {n c : Nat} (hsz : a0.tmps.size = 193) (h7 : a0.eval (.tmp 7) = .slice A n c) (hn : n = 0)
    (hK : ∀ a, KeepL [4] a0 a → a.eval (.tmp 4) = .bool true → Q .normal a w0) : (Code.region 16 (regOps Tryd.f7 16) false).wp Tryd.prog Q a0 w0 := by
  refine seq_startL (l := [0, 1, 2, 3]) (by kernel_rfl) ?_
  refine seq_move 111 rfl rfl rfl rfl h7 ?_
  refine seq_valD 112 rfl rfl rfl (run_lenI rfl (ev_same (by first | (rw [hsz]; decide) | (simp only [size_put, hsz]; decide)))) ?_
  refine seq_valD 113 rfl rfl rfl ((run_eqI rfl (ev_same (by first | (rw [hsz]; decide) | (simp only [size_put, hsz]; decide))) rfl).trans (okB (c := true) (by rw [hn]; rfl))) ?_
  refine seq_assign 4 rfl rfl rfl rfl (ev_same (by first | (rw [hsz]; decide) | (simp only [size_put, hsz]; decide))) ?_
  refine seq_nil ?_
  exact hK _ (((((KeepL.refl [4] _).put (by decide)).put (by decide)).put (by decide)).put (by decide)) (ev_same (by first | (rw [hsz]; decide) | (simp only [size_put, hsz]; decide)))
set_option maxRecDepth 100000 in
theorem r17 {Q : Exit → Act → World → Prop} {a0 : Act} {w0 : World} {b2 N : Nat} (hsz : a0.tmps.size = 193) (h2 : a0.eval (.tmp 2) = .pointer (some ⟨b2, 0, none⟩)) (hN : w0.cell? ⟨b2, 0, none⟩ = some (.int .i64 (N : Nat))) (hN64 : N ≤ 64)
    (hK : ∀ a, KeepL [10] a0 a → a.eval (.tmp 10) = .slice (some ⟨w0.heap.size, 0, none⟩) N N → Q .normal a (w0.alloc (.cells (madeCells #[.int .i64 0] N) 3))) : (Code.region 17 (regOps Tryd.f7 17) false).wp Tryd.prog Q a0 w0 := by
  refine seq_startL (l := [0, 1, 2, 3]) (by kernel_rfl) ?_
  refine seq_valD 114 rfl rfl rfl (run_field0 rfl h2) ?_
  refine seq_valD 115 rfl rfl rfl (run_loadI (u := (N : Nat)) rfl rfl (ev_same (by first | (rw [hsz]; decide) | (simp only [size_put, hsz]; decide))) hN) ?_
  refine seq_valD 116 rfl rfl rfl (run_makeI rfl (ev_same (by first | (rw [hsz]; decide) | (simp only [size_put, hsz]; decide))) (ev_same (by first | (rw [hsz]; decide) | (simp only [size_put, hsz]; decide))) hN64) ?_
  refine seq_assign 10 rfl rfl rfl rfl (ev_same (by first | (rw [hsz]; decide) | (simp only [size_put, hsz]; decide))) ?_
  refine seq_nil ?_
  exact hK _ (((((KeepL.refl [10] _).put (by decide)).put (by decide)).put (by decide)).put (by decide)) (ev_same (by first | (rw [hsz]; decide) | (simp only [size_put, hsz]; decide)))
set_option maxRecDepth 100000 in
theorem r18 {Q : Exit → Act → World → Prop} {a0 : Act} {w0 : World}  (hsz : a0.tmps.size = 193) 
    (hK : ∀ a, KeepL [11] a0 a → a.eval (.tmp 11) = .int .u64 (0 : Nat) → Q .normal a w0) : (Code.region 18 (regOps Tryd.f7 18) false).wp Tryd.prog Q a0 w0 := by
  refine seq_startL (l := [0]) (by kernel_rfl) ?_
  refine seq_assign 11 (v := (.int .u64 (0 : Nat))) rfl rfl rfl rfl rfl ?_
  refine seq_nil ?_
  exact hK _ ((KeepL.refl [11] _).put (by decide)) (ev_same (by first | (rw [hsz]; decide) | (simp only [size_put, hsz]; decide)))
set_option maxRecDepth 100000 in
theorem r19 {Q : Exit → Act → World → Prop} {a0 : Act} {w0 : World}  (hsz : a0.tmps.size = 193) 
    (hK : ∀ a, KeepL [12] a0 a → a.eval (.tmp 12) = .int .i64 (0 : Nat) → Q .normal a w0) : (Code.region 19 (regOps Tryd.f7 19) false).wp Tryd.prog Q a0 w0 := by
  refine seq_startL (l := [0]) (by kernel_rfl) ?_
  refine seq_assign 12 (v := (.int .i64 (0 : Nat))) rfl rfl rfl rfl rfl ?_
  refine seq_nil ?_
  exact hK _ ((KeepL.refl [12] _).put (by decide)) (ev_same (by first | (rw [hsz]; decide) | (simp only [size_put, hsz]; decide)))
set_option maxRecDepth 100000 in
theorem r27 {Q : Exit → Act → World → Prop} {a0 : Act} {w0 : World}  (hsz : a0.tmps.size = 193) 
    (hK : ∀ a, KeepL [14] a0 a → a.eval (.tmp 14) = .int .i64 (0 : Nat) → Q .normal a w0) : (Code.region 27 (regOps Tryd.f7 27) false).wp Tryd.prog Q a0 w0 := by
  refine seq_startL (l := [0]) (by kernel_rfl) ?_
  refine seq_assign 14 (v := (.int .i64 (0 : Nat))) rfl rfl rfl rfl rfl ?_
  refine seq_nil ?_
  exact hK _ ((KeepL.refl [14] _).put (by decide)) (ev_same (by first | (rw [hsz]; decide) | (simp only [size_put, hsz]; decide)))
set_option maxRecDepth 100000 in
theorem r20 {Q : Exit → Act → World → Prop} {a0 : Act} {w0 : World} {A : Option Addr} {n c k : Nat} (hsz : a0.tmps.size = 193) (hl : a0.eval (.tmp 7) = .slice A n c) (hi : a0.eval (.tmp 12) = .int .i64 (k : Nat))
    (hK : ∀ a, KeepL [] a0 a → a.eval (.tmp 120) = .bool (decide ((k : Int) < (n : Nat))) → Q .normal a w0) : (Code.region 20 (regOps Tryd.f7 20) false).wp Tryd.prog Q a0 w0 := by
  refine seq_startL (l := [0, 1, 2, 3]) (by kernel_rfl) ?_
  refine seq_move 117 rfl rfl rfl rfl hi ?_
  refine seq_move 118 rfl rfl rfl rfl ((ev_ne (by decide)).trans hl) ?_
  refine seq_valD 119 rfl rfl rfl (run_lenI rfl (ev_same (by first | (rw [hsz]; decide) | (simp only [size_put, hsz]; decide)))) ?_
  refine seq_valD 120 rfl rfl rfl (run_ltI rfl ((ev_ne (by decide)).trans ((ev_ne (by decide)).trans (ev_same (by first | (rw [hsz]; decide) | (simp only [size_put, hsz]; decide))))) (ev_same (by first | (rw [hsz]; decide) | (simp only [size_put, hsz]; decide)))) ?_
  refine seq_nil ?_
  exact hK _ (((((KeepL.refl [] _).put (by decide)).put (by decide)).put (by decide)).put (by decide)) (ev_same (by first | (rw [hsz]; decide) | (simp only [size_put, hsz]; decide)))
set_option maxRecDepth 100000 in
theorem r28 {Q : Exit → Act → World → Prop} {a0 : Act} {w0 : World} {A : Option Addr} {n c k : Nat} (hsz : a0.tmps.size = 193) (hl : a0.eval (.tmp 13) = .slice A n c) (hi : a0.eval (.tmp 14) = .int .i64 (k : Nat))
    (hK : ∀ a, KeepL [] a0 a → a.eval (.tmp 168) = .bool (decide ((k : Int) < (n : Nat))) → Q .normal a w0) : (Code.region 28 (regOps Tryd.f7 28) false).wp Tryd.prog Q a0 w0 := by
  refine seq_startL (l := [0, 1, 2, 3]) (by kernel_rfl) ?_
  refine seq_move 165 rfl rfl rfl rfl hi ?_
  refine seq_move 166 rfl rfl rfl rfl ((ev_ne (by decide)).trans hl) ?_
  refine seq_valD 167 rfl rfl rfl (run_lenP rfl (ev_same (by first | (rw [hsz]; decide) | (simp only [size_put, hsz]; decide)))) ?_
  refine seq_valD 168 rfl rfl rfl (run_ltI rfl ((ev_ne (by decide)).trans ((ev_ne (by decide)).trans (ev_same (by first | (rw [hsz]; decide) | (simp only [size_put, hsz]; decide))))) (ev_same (by first | (rw [hsz]; decide) | (simp only [size_put, hsz]; decide)))) ?_
  refine seq_nil ?_
  exact hK _ (((((KeepL.refl [] _).put (by decide)).put (by decide)).put (by decide)).put (by decide)) (ev_same (by first | (rw [hsz]; decide) | (simp only [size_put, hsz]; decide)))
set_option maxRecDepth 100000 in
theorem r21 {Q : Exit → Act → World → Prop} {a0 : Act} {w0 : World} {k : Nat} (hsz : a0.tmps.size = 193) (hi : a0.eval (.tmp 12) = .int .i64 (k : Nat)) (hk : k < 9223372036854775807)
    (hK : ∀ a, KeepL [12] a0 a → a.eval (.tmp 12) = .int .i64 ((k + 1 : Nat) : Int) → Q .normal a w0) : (Code.region 21 (regOps Tryd.f7 21) false).wp Tryd.prog Q a0 w0 := by
  refine seq_startL (l := [0, 1, 2]) (by kernel_rfl) ?_
  refine seq_move 121 rfl rfl rfl rfl hi ?_
  refine seq_valD 122 rfl rfl rfl (run_incI rfl (ev_same (by first | (rw [hsz]; decide) | (simp only [size_put, hsz]; decide))) rfl hk) ?_
  refine seq_assign 12 rfl rfl rfl rfl (ev_same (by first | (rw [hsz]; decide) | (simp only [size_put, hsz]; decide))) ?_
  refine seq_nil ?_
  exact hK _ ((((KeepL.refl [12] _).put (by decide)).put (by decide)).put (by decide)) (ev_same (by first | (rw [hsz]; decide) | (simp only [size_put, hsz]; decide)))
set_option maxRecDepth 100000 in
theorem r29 {Q : Exit → Act → World → Prop} {a0 : Act} {w0 : World} {k : Nat} (hsz : a0.tmps.size = 193) (hi : a0.eval (.tmp 14) = .int .i64 (k : Nat)) (hk : k < 9223372036854775807)
    (hK : ∀ a, KeepL [14] a0 a → a.eval (.tmp 14) = .int .i64 ((k + 1 : Nat) : Int) → Q .normal a w0) : (Code.region 29 (regOps Tryd.f7 29) false).wp Tryd.prog Q a0 w0 := by
  refine seq_startL (l := [0, 1, 2]) (by kernel_rfl) ?_
  refine seq_move 169 rfl rfl rfl rfl hi ?_
  refine seq_valD 170 rfl rfl rfl (run_incI rfl (ev_same (by first | (rw [hsz]; decide) | (simp only [size_put, hsz]; decide))) rfl hk) ?_
  refine seq_assign 14 rfl rfl rfl rfl (ev_same (by first | (rw [hsz]; decide) | (simp only [size_put, hsz]; decide))) ?_
  refine seq_nil ?_
  exact hK _ ((((KeepL.refl [14] _).put (by decide)).put (by decide)).put (by decide)) (ev_same (by first | (rw [hsz]; decide) | (simp only [size_put, hsz]; decide)))
set_option maxRecDepth 100000 in
theorem r24 {Q : Exit → Act → World → Prop} {a0 : Act} {w0 : World} {ad : Addr} {n c k x m : Nat} (hsz : a0.tmps.size = 193) (h7 : a0.eval (.tmp 7) = .slice (some ad) n c) (h11 : a0.eval (.tmp 11) = .int .u64 (m : Nat)) (h12 : a0.eval (.tmp 12) = .int .i64 (k : Nat)) (hk : k < n) (hc : w0.cell? (ad.add k) = some (.int .i64 (x : Nat))) (hx : x < 64) (hm : m < 18446744073709551616)
    (hK : ∀ a, KeepL [11] a0 a → a.eval (.tmp 11) = .int .u64 ((m ||| 2 ^ x : Nat) : Int) → Q .normal a w0) : (Code.region 24 (regOps Tryd.f7 24) false).wp Tryd.prog Q a0 w0 := by
  refine seq_startL (l := [0, 1, 2, 3, 4, 5, 6, 7, 8]) (by kernel_rfl) ?_
  refine seq_move 148 rfl rfl rfl rfl h11 ?_
  refine seq_move 149 rfl rfl rfl rfl ((ev_ne (by decide)).trans h7) ?_
  refine seq_move 150 rfl rfl rfl rfl ((ev_ne (by decide)).trans ((ev_ne (by decide)).trans h12)) ?_
  refine seq_valD 151 rfl rfl rfl (run_ix1 rfl ((ev_ne (by decide)).trans (ev_same (by first | (rw [hsz]; decide) | (simp only [size_put, hsz]; decide)))) (ev_same (by first | (rw [hsz]; decide) | (simp only [size_put, hsz]; decide))) hk) ?_
  refine seq_valD 152 rfl rfl rfl (run_loadI (u := (x : Nat)) rfl rfl (ev_same (by first | (rw [hsz]; decide) | (simp only [size_put, hsz]; decide))) hc) ?_
  refine seq_valD 153 rfl rfl rfl (run_cvU rfl (ev_same (by first | (rw [hsz]; decide) | (simp only [size_put, hsz]; decide))) hx) ?_
  refine seq_valD 154 rfl rfl rfl (run_shl1 rfl rfl (ev_same (by first | (rw [hsz]; decide) | (simp only [size_put, hsz]; decide))) hx) ?_
  refine seq_valD 155 rfl rfl rfl (run_orU rfl ((ev_ne (by decide)).trans ((ev_ne (by decide)).trans ((ev_ne (by decide)).trans ((ev_ne (by decide)).trans ((ev_ne (by decide)).trans ((ev_ne (by decide)).trans (ev_same (by first | (rw [hsz]; decide) | (simp only [size_put, hsz]; decide))))))))) (ev_same (by first | (rw [hsz]; decide) | (simp only [size_put, hsz]; decide))) hm (pow_lt_64 x hx)) ?_
  refine seq_assign 11 rfl rfl rfl rfl (ev_same (by first | (rw [hsz]; decide) | (simp only [size_put, hsz]; decide))) ?_
  refine seq_nil ?_
  exact hK _ ((((((((((KeepL.refl [11] _).put (by decide)).put (by decide)).put (by decide)).put (by decide)).put (by decide)).put (by decide)).put (by decide)).put (by decide)).put (by decide)) (ev_same (by first | (rw [hsz]; decide) | (simp only [size_put, hsz]; decide)))
set_option maxRecDepth 100000 in
theorem r25 {Q : Exit → Act → World → Prop} {a0 : Act} {w0 : World} {ad : Addr} {n c k x g N : Nat} {v : Value} (hsz : a0.tmps.size = 193) (h7 : a0.eval (.tmp 7) = .slice (some ad) n c) (h10 : a0.eval (.tmp 10) = .slice (some ⟨g, 0, none⟩) N N) (h12 : a0.eval (.tmp 12) = .int .i64 (k : Nat)) (hk : k < n) (hc : w0.cell? (ad.add k) = some (.int .i64 (x : Nat))) (hx : x < N) (hg : w0.cell? ⟨g, x, none⟩ = some v) (hf : w0.frozen? ⟨g, x, none⟩ = false)
    (hK : ∀ a, KeepL [] a0 a → Q .normal a (w0.setCell ⟨g, x, none⟩ (.int .i64 (k : Nat)))) : (Code.region 25 (regOps Tryd.f7 25) false).wp Tryd.prog Q a0 w0 := by
  refine seq_startL (l := [0, 1, 2, 3, 4, 5, 6, 7]) (by kernel_rfl) ?_
  refine seq_move 156 rfl rfl rfl rfl h10 ?_
  refine seq_move 157 rfl rfl rfl rfl ((ev_ne (by decide)).trans h7) ?_
  refine seq_move 158 rfl rfl rfl rfl ((ev_ne (by decide)).trans ((ev_ne (by decide)).trans h12)) ?_
  refine seq_valD 159 rfl rfl rfl (run_ix1 rfl ((ev_ne (by decide)).trans (ev_same (by first | (rw [hsz]; decide) | (simp only [size_put, hsz]; decide)))) (ev_same (by first | (rw [hsz]; decide) | (simp only [size_put, hsz]; decide))) hk) ?_
  refine seq_valD 160 rfl rfl rfl (run_loadI (u := (x : Nat)) rfl rfl (ev_same (by first | (rw [hsz]; decide) | (simp only [size_put, hsz]; decide))) hc) ?_
  refine seq_move 161 rfl rfl rfl rfl ((ev_ne (by decide)).trans ((ev_ne (by decide)).trans ((ev_ne (by decide)).trans ((ev_ne (by decide)).trans ((ev_ne (by decide)).trans h12))))) ?_
  refine seq_valD 162 rfl rfl rfl (run_ix1 rfl ((ev_ne (by decide)).trans ((ev_ne (by decide)).trans ((ev_ne (by decide)).trans ((ev_ne (by decide)).trans ((ev_ne (by decide)).trans (ev_same (by first | (rw [hsz]; decide) | (simp only [size_put, hsz]; decide)))))))) ((ev_ne (by decide)).trans (ev_same (by first | (rw [hsz]; decide) | (simp only [size_put, hsz]; decide)))) hx) ?_
  refine seq_skipD rfl rfl rfl (run_storeI rfl (ev_same (by first | (rw [hsz]; decide) | (simp only [size_put, hsz]; decide))) ((ev_ne (by decide)).trans (ev_same (by first | (rw [hsz]; decide) | (simp only [size_put, hsz]; decide)))) (by rw [add0]; exact hg) (by rw [add0]; exact hf)) ?_
  refine seq_nil ?_
  rw [add0]
  exact hK _ ((((((((KeepL.refl [] _).put (by decide)).put (by decide)).put (by decide)).put (by decide)).put (by decide)).put (by decide)).put (by decide))
set_option maxRecDepth 100000 in
theorem r26 {Q : Exit → Act → World → Prop} {a0 : Act} {w0 : World} {b2 : Nat} {r : RA} (hsz : a0.tmps.size = 193) (hT : Tab w0) (x2 : BoxAt a0 w0 2 b2 r) (hok : r.pr.ok = true)
    (hK : ∀ a w A c, KeepL [13] a0 a → a.eval (.tmp 13) = .slice A (pairsR r.rows).length c → Reads w w.heap.size 2 A (pairsR r.rows).length (prs (pairsR r.rows)) → Below w0.heap.size w0 w → Q .normal a w) : (Code.region 26 (regOps Tryd.f7 26) false).wp Tryd.prog Q a0 w0 := by
  refine seq_startL (l := [0, 1, 2]) (by kernel_rfl) ?_
  refine seq_valD 163 rfl rfl rfl (run_loadR rfl (ev_tmps x2.1) x2.2.1) ?_
  refine seq_callD 164 rfl rfl rfl en_Pairs rfl (args_one (ev_same (by first | (rw [hsz]; decide) | (simp only [size_put, hsz]; decide)))) ((pairs_c (a := r) w0 hok hT x2.2.2.1).mono ?_)
  rintro e w ⟨v, rfl, ⟨A, c, rfl, hrd⟩, hb⟩
  refine ⟨_, rfl, ?_⟩
  refine seq_assign 13 rfl rfl rfl rfl (ev_same (by first | (rw [hsz]; decide) | (simp only [size_put, hsz]; decide))) ?_
  refine seq_nil ?_
  exact hK _ _ A c ((((KeepL.refl [13] _).put (by decide)).put (by decide)).put (by decide)) (ev_same (by first | (rw [hsz]; decide) | (simp only [size_put, hsz]; decide))) hrd hb
set_option maxRecDepth 100000 in
theorem r32 {Q : Exit → Act → World → Prop} {a0 : Act} {w0 : World} {A : Option Addr} {n c b2 N : Nat} (hsz : a0.tmps.size = 193) (h7 : a0.eval (.tmp 7) = .slice A n c) (h2 : a0.eval (.tmp 2) = .pointer (some ⟨b2, 0, none⟩)) (hN : w0.cell? ⟨b2, 0, none⟩ = some (.int .i64 (N : Nat))) (hn : n = N)
    (hK : ∀ a, KeepL [4] a0 a → a.eval (.tmp 4) = .bool true → Q .normal a w0) : (Code.region 32 (regOps Tryd.f7 32) false).wp Tryd.prog Q a0 w0 := by
  refine seq_startL (l := [0, 1, 2, 3, 4, 5]) (by kernel_rfl) ?_
  refine seq_move 188 rfl rfl rfl rfl h7 ?_
  refine seq_valD 189 rfl rfl rfl (run_lenI rfl (ev_same (by first | (rw [hsz]; decide) | (simp only [size_put, hsz]; decide)))) ?_
  refine seq_valD 190 rfl rfl rfl (run_field0 rfl ((ev_ne (by decide)).trans ((ev_ne (by decide)).trans h2))) ?_
  refine seq_valD 191 rfl rfl rfl (run_loadI (u := (N : Nat)) rfl rfl (ev_same (by first | (rw [hsz]; decide) | (simp only [size_put, hsz]; decide))) hN) ?_
  refine seq_valD 192 rfl rfl rfl ((run_eqI rfl ((ev_ne (by decide)).trans ((ev_ne (by decide)).trans (ev_same (by first | (rw [hsz]; decide) | (simp only [size_put, hsz]; decide))))) (ev_same (by first | (rw [hsz]; decide) | (simp only [size_put, hsz]; decide)))).trans (okB (c := true) (by rw [hn]; simp))) ?_
  refine seq_assign 4 rfl rfl rfl rfl (ev_same (by first | (rw [hsz]; decide) | (simp only [size_put, hsz]; decide))) ?_
  refine seq_nil ?_
  exact hK _ (((((((KeepL.refl [4] _).put (by decide)).put (by decide)).put (by decide)).put (by decide)).put (by decide)).put (by decide)) (ev_same (by first | (rw [hsz]; decide) | (simp only [size_put, hsz]; decide)))
set_option maxRecDepth 100000 in
set_option maxHeartbeats 4000000 in
theorem r22 {Q : Exit → Act → World → Prop} {a0 : Act} {w0 : World} {ad : Addr} {n c k x m b2 N : Nat} (hsz : a0.tmps.size = 193) (h2 : a0.eval (.tmp 2) = .pointer (some ⟨b2, 0, none⟩)) (h7 : a0.eval (.tmp 7) = .slice (some ad) n c) (h11 : a0.eval (.tmp 11) = .int .u64 (m : Nat)) (h12 : a0.eval (.tmp 12) = .int .i64 (k : Nat)) (hk : k < n) (hc : w0.cell? (ad.add k) = some (.int .i64 (x : Nat))) (hN : w0.cell? ⟨b2, 0, none⟩ = some (.int .i64 (N : Nat))) (hx : x < N) (hx64 : x < 64) (hbit : (((m / 2 ^ x % 2 : Nat) : Int) == 1) = false)
    (hK : ∀ a, KeepL [] a0 a → a.eval (.tmp 147) = .bool false → Q .normal a w0.drew) : (Code.region 22 (regOps Tryd.f7 22) true).wp Tryd.prog Q a0 w0 := by
  refine region_v (n := 25) [some (.slice (some ad) n c), some (.int .i64 (k : Nat)), some (.pointer (some (ad.add k))), some (.int .i64 (x : Nat)), some (.bool false), some (.bool false), some (.slice (some ad) n c), some (.int .i64 (k : Nat)), some (.pointer (some (ad.add k))), some (.int .i64 (x : Nat)), some (.pointer (some ⟨b2, 0, none⟩)), some (.int .i64 (N : Nat)), some (.bool false), some (.bool false), some (.bool false), some (.int .u64 (m : Nat)), some (.slice (some ad) n c), some (.int .i64 (k : Nat)), some (.pointer (some (ad.add k))), some (.int .i64 (x : Nat)), some (.int .u64 (x : Nat)), some (.int .u64 ((m / 2 ^ x : Nat) : Int)), some (.int .u64 ((m / 2 ^ x % 2 : Nat) : Int)), some (.bool false), some (.bool false)] w0 (by kernel_rfl) (by rw [hsz]; kernel_rfl) (by kernel_rfl) (by kernel_rfl) (by kernel_rfl) (by kernel_rfl) ?steps ?fin
  case steps =>
    refine ⟨⟨⟨⟨⟨⟨⟨⟨⟨⟨⟨⟨⟨⟨⟨⟨⟨⟨⟨⟨⟨⟨⟨⟨⟨trivial, ?s0⟩, ?s1⟩, ?s2⟩, ?s3⟩, ?s4⟩, ?s5⟩, ?s6⟩, ?s7⟩, ?s8⟩, ?s9⟩, ?s10⟩, ?s11⟩, ?s12⟩, ?s13⟩, ?s14⟩, ?s15⟩, ?s16⟩, ?s17⟩, ?s18⟩, ?s19⟩, ?s20⟩, ?s21⟩, ?s22⟩, ?s23⟩, ?s24⟩
    case s0 =>
      intro o a w L ho hL haft st
      obtain rfl := Option.some.inj ho
      exact payV_move st (want_none rfl) rfl (st.outV (by kernel_rfl) h7) rfl
    case s1 =>
      intro o a w L ho hL haft st
      obtain rfl := Option.some.inj ho
      exact payV_move st (want_none rfl) rfl (st.outV (by kernel_rfl) h12) rfl
    case s2 =>
      intro o a w L ho hL haft st
      obtain rfl := Option.some.inj ho
      exact payV st (want_none rfl) (run_ix1 rfl (st.argV (j := 0) (aft_of haft (by kernel_rfl)) rfl rfl) (st.argV (j := 1) (aft_of haft (by kernel_rfl)) rfl rfl) hk) rfl
    case s3 =>
      intro o a w L ho hL haft st
      obtain rfl := Option.some.inj ho
      exact payV st (want_none rfl) (run_loadI (u := (x : Nat)) rfl rfl (st.argV (j := 2) (aft_of haft (by kernel_rfl)) rfl rfl) (by rw [st.g]; exact hc)) rfl
    case s4 =>
      intro o a w L ho hL haft st
      obtain rfl := Option.some.inj ho
      exact payV st (want_none rfl) ((run_ltI rfl (st.argV (j := 3) (aft_of haft (by kernel_rfl)) rfl rfl) rfl).trans (okB (decide_eq_false (by omega)))) rfl
    case s5 =>
      intro o a w L ho hL haft st
      obtain rfl := Option.some.inj ho
      exact payV_move st (want_none rfl) rfl (st.argV (j := 4) (aft_of haft (by kernel_rfl)) rfl rfl) rfl
    case s6 =>
      intro o a w L ho hL haft st
      obtain rfl := Option.some.inj ho
      exact payV_move st (st.wantV haft rfl (by kernel_rfl) rfl) rfl (st.outV (by kernel_rfl) h7) rfl
    case s7 =>
      intro o a w L ho hL haft st
      obtain rfl := Option.some.inj ho
      exact payV_move st (st.wantV haft rfl (by kernel_rfl) rfl) rfl (st.outV (by kernel_rfl) h12) rfl
    case s8 =>
      intro o a w L ho hL haft st
      obtain rfl := Option.some.inj ho
      exact payV st (st.wantV haft rfl (by kernel_rfl) rfl) (run_ix1 rfl (st.argV (j := 6) (aft_of haft (by kernel_rfl)) rfl rfl) (st.argV (j := 7) (aft_of haft (by kernel_rfl)) rfl rfl) hk) rfl
    case s9 =>
      intro o a w L ho hL haft st
      obtain rfl := Option.some.inj ho
      exact payV st (st.wantV haft rfl (by kernel_rfl) rfl) (run_loadI (u := (x : Nat)) rfl rfl (st.argV (j := 8) (aft_of haft (by kernel_rfl)) rfl rfl) (by rw [st.g]; exact hc)) rfl
    case s10 =>
      intro o a w L ho hL haft st
      obtain rfl := Option.some.inj ho
      exact payV st (st.wantV haft rfl (by kernel_rfl) rfl) (run_field0 rfl (st.outV (by kernel_rfl) h2)) rfl
    case s11 =>
      intro o a w L ho hL haft st
      obtain rfl := Option.some.inj ho
      exact payV st (st.wantV haft rfl (by kernel_rfl) rfl) (run_loadI (u := (N : Nat)) rfl rfl (st.argV (j := 10) (aft_of haft (by kernel_rfl)) rfl rfl) (by rw [st.g]; exact hN)) rfl
    case s12 =>
      intro o a w L ho hL haft st
      obtain rfl := Option.some.inj ho
      exact payV st (st.wantV haft rfl (by kernel_rfl) rfl) ((run_geI rfl (st.argV (j := 9) (aft_of haft (by kernel_rfl)) rfl rfl) (st.argV (j := 11) (aft_of haft (by kernel_rfl)) rfl rfl)).trans (okB (decide_eq_false (by omega)))) rfl
    case s13 =>
      intro o a w L ho hL haft st
      obtain rfl := Option.some.inj ho
      exact payV_pick st (want_none rfl) rfl (st.argV (j := 5) (aft_of haft (by kernel_rfl)) rfl rfl) (st.argV (j := 12) (aft_of haft (by kernel_rfl)) rfl rfl) rfl
    case s14 =>
      intro o a w L ho hL haft st
      obtain rfl := Option.some.inj ho
      exact payV_move st (want_none rfl) rfl (st.argV (j := 13) (aft_of haft (by kernel_rfl)) rfl rfl) rfl
    case s15 =>
      intro o a w L ho hL haft st
      obtain rfl := Option.some.inj ho
      exact payV_move st (st.wantV haft rfl (by kernel_rfl) rfl) rfl (st.outV (by kernel_rfl) h11) rfl
    case s16 =>
      intro o a w L ho hL haft st
      obtain rfl := Option.some.inj ho
      exact payV_move st (st.wantV haft rfl (by kernel_rfl) rfl) rfl (st.outV (by kernel_rfl) h7) rfl
    case s17 =>
      intro o a w L ho hL haft st
      obtain rfl := Option.some.inj ho
      exact payV_move st (st.wantV haft rfl (by kernel_rfl) rfl) rfl (st.outV (by kernel_rfl) h12) rfl
    case s18 =>
      intro o a w L ho hL haft st
      obtain rfl := Option.some.inj ho
      exact payV st (st.wantV haft rfl (by kernel_rfl) rfl) (run_ix1 rfl (st.argV (j := 16) (aft_of haft (by kernel_rfl)) rfl rfl) (st.argV (j := 17) (aft_of haft (by kernel_rfl)) rfl rfl) hk) rfl
    case s19 =>
      intro o a w L ho hL haft st
      obtain rfl := Option.some.inj ho
      exact payV st (st.wantV haft rfl (by kernel_rfl) rfl) (run_loadI (u := (x : Nat)) rfl rfl (st.argV (j := 18) (aft_of haft (by kernel_rfl)) rfl rfl) (by rw [st.g]; exact hc)) rfl
    case s20 =>
      intro o a w L ho hL haft st
      obtain rfl := Option.some.inj ho
      exact payV st (st.wantV haft rfl (by kernel_rfl) rfl) (run_cvU rfl (st.argV (j := 19) (aft_of haft (by kernel_rfl)) rfl rfl) hx64) rfl
    case s21 =>
      intro o a w L ho hL haft st
      obtain rfl := Option.some.inj ho
      exact payV st (st.wantV haft rfl (by kernel_rfl) rfl) (run_shr rfl (st.argV (j := 15) (aft_of haft (by kernel_rfl)) rfl rfl) (st.argV (j := 20) (aft_of haft (by kernel_rfl)) rfl rfl) hx64) rfl
    case s22 =>
      intro o a w L ho hL haft st
      obtain rfl := Option.some.inj ho
      exact payV st (st.wantV haft rfl (by kernel_rfl) rfl) (run_rem2 rfl (st.argV (j := 21) (aft_of haft (by kernel_rfl)) rfl rfl) rfl) rfl
    case s23 =>
      intro o a w L ho hL haft st
      obtain rfl := Option.some.inj ho
      exact payV st (st.wantV haft rfl (by kernel_rfl) rfl) ((run_eqU rfl (st.argV (j := 22) (aft_of haft (by kernel_rfl)) rfl rfl) rfl).trans (okB hbit)) rfl
    case s24 =>
      intro o a w L ho hL haft st
      obtain rfl := Option.some.inj ho
      exact payV_pick st (want_none rfl) rfl (st.argV (j := 14) (aft_of haft (by kernel_rfl)) rfl rfl) (st.argV (j := 23) (aft_of haft (by kernel_rfl)) rfl rfl) rfl
  case fin =>
    intro L a w hL st
    have hw : w = w0.drew := st.g
    subst hw
    exact hK a ((st.keepV (x := 99) (by kernel_rfl)).toL (by decide)) (st.argV (j := 24) (hL 24 (by omega)) rfl rfl)
set_option maxRecDepth 100000 in
set_option maxHeartbeats 4000000 in
theorem r30 {Q : Exit → Act → World → Prop} {a0 : Act} {w0 : World} {ad : Addr} {n c k x y px py g N : Nat} (hsz : a0.tmps.size = 193) (h10 : a0.eval (.tmp 10) = .slice (some ⟨g, 0, none⟩) N N) (h13 : a0.eval (.tmp 13) = .slice (some ad) n c) (h14 : a0.eval (.tmp 14) = .int .i64 (k : Nat)) (hk : k < n) (hcx : w0.cell? (ad.add (k * 2)) = some (.int .i64 (x : Nat))) (hcy : w0.cell? ((ad.add (k * 2)).add 1) = some (.int .i64 (y : Nat))) (hx : x < N) (hy : y < N) (hpx : w0.cell? ((⟨g, 0, none⟩ : Addr).add x) = some (.int .i64 (px : Nat))) (hpy : w0.cell? ((⟨g, 0, none⟩ : Addr).add y) = some (.int .i64 (py : Nat))) (hlt : px < py)
    (hK : ∀ a, KeepL [] a0 a → a.eval (.tmp 187) = .bool false → Q .normal a w0.drew) : (Code.region 30 (regOps Tryd.f7 30) true).wp Tryd.prog Q a0 w0 := by
  refine region_v (n := 17) [some (.slice (some ⟨g, 0, none⟩) N N), some (.slice (some ad) n c), some (.int .i64 (k : Nat)), some (.pointer (some (ad.add (k * 2)))), some (.pointer (some (ad.add (k * 2)))), some (.int .i64 (x : Nat)), some (.pointer (some ((⟨g, 0, none⟩ : Addr).add x))), some (.int .i64 (px : Nat)), some (.slice (some ⟨g, 0, none⟩) N N), some (.slice (some ad) n c), some (.int .i64 (k : Nat)), some (.pointer (some (ad.add (k * 2)))), some (.pointer (some ((ad.add (k * 2)).add 1))), some (.int .i64 (y : Nat)), some (.pointer (some ((⟨g, 0, none⟩ : Addr).add y))), some (.int .i64 (py : Nat)), some (.bool false)] w0 (by kernel_rfl) (by rw [hsz]; kernel_rfl) (by kernel_rfl) (by kernel_rfl) (by kernel_rfl) (by kernel_rfl) ?steps ?fin
  case steps =>
    refine ⟨⟨⟨⟨⟨⟨⟨⟨⟨⟨⟨⟨⟨⟨⟨⟨⟨trivial, ?s0⟩, ?s1⟩, ?s2⟩, ?s3⟩, ?s4⟩, ?s5⟩, ?s6⟩, ?s7⟩, ?s8⟩, ?s9⟩, ?s10⟩, ?s11⟩, ?s12⟩, ?s13⟩, ?s14⟩, ?s15⟩, ?s16⟩
    case s0 =>
      intro o a w L ho hL haft st
      obtain rfl := Option.some.inj ho
      exact payV_move st (want_none rfl) rfl (st.outV (by kernel_rfl) h10) rfl
    case s1 =>
      intro o a w L ho hL haft st
      obtain rfl := Option.some.inj ho
      exact payV_move st (want_none rfl) rfl (st.outV (by kernel_rfl) h13) rfl
    case s2 =>
      intro o a w L ho hL haft st
      obtain rfl := Option.some.inj ho
      exact payV_move st (want_none rfl) rfl (st.outV (by kernel_rfl) h14) rfl
    case s3 =>
      intro o a w L ho hL haft st
      obtain rfl := Option.some.inj ho
      exact payV st (want_none rfl) (run_ix2 rfl (st.argV (j := 1) (aft_of haft (by kernel_rfl)) rfl rfl) (st.argV (j := 2) (aft_of haft (by kernel_rfl)) rfl rfl) hk) rfl
    case s4 =>
      intro o a w L ho hL haft st
      obtain rfl := Option.some.inj ho
      exact payV st (want_none rfl) (run_ixa0 rfl (st.argV (j := 3) (aft_of haft (by kernel_rfl)) rfl rfl) rfl) rfl
    case s5 =>
      intro o a w L ho hL haft st
      obtain rfl := Option.some.inj ho
      exact payV st (want_none rfl) (run_loadI (u := (x : Nat)) rfl rfl (st.argV (j := 4) (aft_of haft (by kernel_rfl)) rfl rfl) (by rw [st.g]; exact hcx)) rfl
    case s6 =>
      intro o a w L ho hL haft st
      obtain rfl := Option.some.inj ho
      exact payV st (want_none rfl) (run_ix1 rfl (st.argV (j := 0) (aft_of haft (by kernel_rfl)) rfl rfl) (st.argV (j := 5) (aft_of haft (by kernel_rfl)) rfl rfl) hx) rfl
    case s7 =>
      intro o a w L ho hL haft st
      obtain rfl := Option.some.inj ho
      exact payV st (want_none rfl) (run_loadI (u := (px : Nat)) rfl rfl (st.argV (j := 6) (aft_of haft (by kernel_rfl)) rfl rfl) (by rw [st.g]; exact hpx)) rfl
    case s8 =>
      intro o a w L ho hL haft st
      obtain rfl := Option.some.inj ho
      exact payV_move st (want_none rfl) rfl (st.outV (by kernel_rfl) h10) rfl
    case s9 =>
      intro o a w L ho hL haft st
      obtain rfl := Option.some.inj ho
      exact payV_move st (want_none rfl) rfl (st.outV (by kernel_rfl) h13) rfl
    case s10 =>
      intro o a w L ho hL haft st
      obtain rfl := Option.some.inj ho
      exact payV_move st (want_none rfl) rfl (st.outV (by kernel_rfl) h14) rfl
    case s11 =>
      intro o a w L ho hL haft st
      obtain rfl := Option.some.inj ho
      exact payV st (want_none rfl) (run_ix2 rfl (st.argV (j := 9) (aft_of haft (by kernel_rfl)) rfl rfl) (st.argV (j := 10) (aft_of haft (by kernel_rfl)) rfl rfl) hk) rfl
    case s12 =>
      intro o a w L ho hL haft st
      obtain rfl := Option.some.inj ho
      exact payV st (want_none rfl) (run_ixa1 rfl (st.argV (j := 11) (aft_of haft (by kernel_rfl)) rfl rfl) rfl) rfl
    case s13 =>
      intro o a w L ho hL haft st
      obtain rfl := Option.some.inj ho
      exact payV st (want_none rfl) (run_loadI (u := (y : Nat)) rfl rfl (st.argV (j := 12) (aft_of haft (by kernel_rfl)) rfl rfl) (by rw [st.g]; exact hcy)) rfl
    case s14 =>
      intro o a w L ho hL haft st
      obtain rfl := Option.some.inj ho
      exact payV st (want_none rfl) (run_ix1 rfl (st.argV (j := 8) (aft_of haft (by kernel_rfl)) rfl rfl) (st.argV (j := 13) (aft_of haft (by kernel_rfl)) rfl rfl) hy) rfl
    case s15 =>
      intro o a w L ho hL haft st
      obtain rfl := Option.some.inj ho
      exact payV st (want_none rfl) (run_loadI (u := (py : Nat)) rfl rfl (st.argV (j := 14) (aft_of haft (by kernel_rfl)) rfl rfl) (by rw [st.g]; exact hpy)) rfl
    case s16 =>
      intro o a w L ho hL haft st
      obtain rfl := Option.some.inj ho
      exact payV st (want_none rfl) ((run_geI rfl (st.argV (j := 7) (aft_of haft (by kernel_rfl)) rfl rfl) (st.argV (j := 15) (aft_of haft (by kernel_rfl)) rfl rfl)).trans (okB (decide_eq_false (by omega)))) rfl
  case fin =>
    intro L a w hL st
    have hw : w = w0.drew := st.g
    subst hw
    exact hK a ((st.keepV (x := 99) (by kernel_rfl)).toL (by decide)) (st.argV (j := 16) (hL 16 (by omega)) rfl rfl)
end Go.Proofs.YtigdecmfieaacaaDoor
