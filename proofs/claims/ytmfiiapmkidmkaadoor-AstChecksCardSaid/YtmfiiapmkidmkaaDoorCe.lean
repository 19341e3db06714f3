/-
  From a contract to a card: that arguments read as they did behind a call that leaves all old memory alone.
-/
import Derived.Test.YtmfiiapmkidmkaaDoorCards
import Derived.Test.YtmfiiapmkidmkaaDoorTie
import Derived.Test.YtmfiiapmkidmkaaDoorTreeY
import Derived.WalkKit
import Derived.ProofKit
import Derived.OpenShut
import Derived.ChangeSlices
import Derived.WideKeyArgs
import Derived.Lib.SmallJoins
import Derived.Deep.DeepHandedRow
import Derived.Lib.LaidTab
import Derived.LaidSub
namespace Go.Proofs.YtmfiiapmkidmkaaDoor
open Go Go.ChangeShapes Go.WideShapes Go.ChangeAt Go.RowKit Go.Joins

theorem ownGodebug : ownKnob Tryd.prog.godebug = none := by kernel_rfl
theorem laidOut : laidOutB Tryd.prog = true := by kernel_rfl
section
variable {H : Type} {enc : TypeId × Value → H}
/-- What was read reads so still, behind a call that leaves all that lay there alone. -/
theorem trodAll_stays {W W' : World} {sp : Nat → Bool} : ∀ {ts : List TypeId} {vs : List Value} {ds : List (DataW H)} {ps : List MemPlace}, (ts.all fun t => Tryd.prog.readableRec t && decide (t < Tryd.prog.types.size)) = true →
    DataW.TrodAll enc Tryd.prog W 0 (fun _ => true) true ts vs ds ps → (∀ p ∈ ps, W.sameAt W' p) → (∀ p ∈ ps, sp p.block = true) → DataW.TrodAll enc Tryd.prog W' 0 sp true ts vs ds ps := by
  intro ts
  induction ts with
  | nil =>
    intro vs ds ps _ h _ _
    cases vs with
    | nil => cases ds with
      | nil => exact h
      | cons _ _ => exact h.elim
    | cons _ _ => cases ds <;> exact h.elim
  | cons t ts ih =>
    intro vs ds ps hr h hsame hs
    rw [List.all_cons, Bool.and_eq_true, Bool.and_eq_true, decide_eq_true_iff] at hr
    obtain ⟨v, vs', d, ds', p, p', rfl, rfl, rfl, h0, hr'⟩ := trodAll_cons h
    exact trodAll_cons_mk (WideElems.Trod_stays laidOut hr.1.1 hr.1.2 h0 (fun q hq => hsame q (List.mem_append_left _ hq)) (fun q hq => hs q (List.mem_append_left _ hq)))
      (ih hr.2 hr' (fun q hq => hsame q (List.mem_append_right _ hq)) (fun q hq => hs q (List.mem_append_right _ hq)))
theorem same_of_below {W W' : World} {p : MemPlace} (hb : Below W.heap.size W W') (hp : p.block < W.heap.size) : W.sameAt W' p := by
  cases p with
  | cell b off => exact hb.cell (p := ⟨b, off, none⟩) hp
  | map b => exact hb.block b hp
set_option maxRecDepth 100000 in
/-- A law's post: it returned true, and left all that lay there alone. -/
theorem law_post {f : Func} {s : ChangeSpec} {W W' : World} {args : Array Value} {ds gs : List (DataW H)} {before : List MemPlace} (hs : s.vars = [])
    (hr : (f.params.toList.all fun t => Tryd.prog.readableRec t && decide (t < Tryd.prog.types.size)) = true) (hres : f.resultTypes = #[4])
    (hfn : s.fn H ds = { results := [.lit (.bool true)], args := ds })
    (hW : DataW.Whole enc Tryd.prog f.params.toList s.vars false W args.toList ds gs before) (hb : Below W.heap.size W W') :
    s.post enc Tryd.prog f false true false false W args (.bool true) W' := by
  have hlt : ∀ p ∈ before, p.block < W.heap.size := fun p hp => hW.lt p hp
  have hold : ∀ p ∈ before, (fun b => decide (b < W.heap.size)) p.block = true := fun p hp => by simpa using hlt p hp
  have hW' := hW
  obtain ⟨pa, pv, hA, hV, hps, hz, hn⟩ := hW'
  rw [hs] at hV
  obtain ⟨rfl, rfl⟩ := trodVars_none hV
  rw [List.append_nil] at hps
  subst hps
  have hfn' : s.fn H (ds ++ []) = { results := [.lit (.bool true)], args := ds } := by rw [List.append_nil]; exact hfn
  have hargs : ∀ sp : Nat → Bool, (∀ p ∈ before, sp p.block = true) → DataW.TrodAll enc Tryd.prog W' 0 sp true f.params.toList args.toList (s.fn H (ds ++ [])).args before := fun sp hsp => by
    rw [hfn']; exact trodAll_stays hr hA (fun p hp => same_of_below hb (hlt p hp)) hsp
  have hresT : ∀ (b : Nat) (sp : Nat → Bool) (hd : Bool), DataW.TrodAll enc Tryd.prog W' b sp hd f.resultTypes.toList ((Value.bool true).resultList f.resultTypes.size) (s.fn H (ds ++ [])).results [] := fun b sp hd => by
    rw [hfn', hres]; exact trodAll_cons_mk (shut_bool Tryd.underlying4 _) trodAll_mk0
  have hvars : ∀ sp : Nat → Bool, (∀ p ∈ before, sp p.block = true) → DataW.TrodVars enc Tryd.prog W' sp s.vars (s.fn H (ds ++ [])).vars [] := fun sp _ => by
    rw [hfn', hs]; rfl
  refine ⟨ds, [], before, [], before, [], hW, hresT _ _ _, hargs _ hold, hvars _ hold, World.keptBut_mono (fun p hp => ⟨hp, Or.inr (Or.inl hp)⟩) (hb.frame (· ∈ before)), fun _ => ?_⟩
  refine ⟨?_, _, _, ([] ++ before) ++ [], ⟨[] ++ before, [], trodAll_append (hargs _ (fun _ _ => rfl)) (hresT _ _ _), hvars _ (fun _ _ => rfl), rfl, ?_, ?_⟩, ?_⟩
  · exact ok_one hres rfl (okWide_bool_mk Tryd.underlying4 _)
  · intro b off hp
    have hin : MemPlace.cell b off ∈ before := by simpa using hp
    rw [hb.frozen (hlt _ hin)]
    exact hz b off hin
  · intro ha; cases ha
  · intro p hp _; simpa using hp
end
def layCells (cs : Array Value) : Obj → Obj
  | .cells _ t frozen => .cells cs t frozen
  | o => o
open Go Go.ChangeShapes Go.WideShapes Go.ChangeAt Go.RowKit Go.Joins
theorem list_gets {α : Type} {n : Nat} {p : Nat → α → Prop} (h : ∀ i, i < n → ∃ x, p i x) : ∃ l : List α, l.length = n ∧ ∀ (i : Nat) (x : α), l[i]? = some x → p i x := by
  induction n with
  | zero => exact ⟨[], rfl, by simp⟩
  | succ n ih =>
    obtain ⟨l, hl, hp⟩ := ih (fun i hi => h i (by omega))
    obtain ⟨x, hx⟩ := h n (by omega)
    refine ⟨l ++ [x], by simp [hl], fun i y hy => ?_⟩
    rcases Nat.lt_or_ge i l.length with hi | hi
    · exact hp i y (by rwa [List.getElem?_append_left hi] at hy)
    · rw [List.getElem?_append_right hi] at hy
      have : i = n := by
        have := (List.getElem?_eq_some_iff.1 hy).1
        simp at this; omega
      subst this
      rw [hl, Nat.sub_self] at hy
      obtain rfl : x = y := by simpa using hy
      exact hx
/-- A list is its pieces. -/
theorem chunks {s : Nat} : ∀ (n : Nat) (cs : List Value), cs.length = n * s → cs = (List.range n).flatMap fun i => (cs.drop (i * s)).take s := by
  intro n
  induction n with
  | zero => intro cs h; rw [Nat.zero_mul] at h; rw [List.eq_nil_of_length_eq_zero h]; rfl
  | succ n ih =>
    intro cs h
    rw [List.range_succ, List.flatMap_append, List.flatMap_singleton]
    have h1 := ih (cs.take (n * s)) (by rw [List.length_take, h, Nat.succ_mul]; omega)
    have h2 : (List.range n).flatMap (fun i => (cs.drop (i * s)).take s) = (List.range n).flatMap (fun i => ((cs.take (n * s)).drop (i * s)).take s) := by
      rw [List.flatMap_def, List.flatMap_def]
      congr 1
      apply List.map_congr_left
      intro i hi
      rw [List.mem_range] at hi
      have h3 : (i + 1) * s ≤ n * s := Nat.mul_le_mul_right s hi
      rw [Nat.succ_mul] at h3
      rw [List.drop_take, List.take_take]
      congr 1
      omega
    rw [h2, ← h1]
    have h4 : (cs.drop (n * s)).take s = cs.drop (n * s) := List.take_of_length_le (by rw [List.length_drop, h, Nat.succ_mul]; omega)
    rw [h4, List.take_append_drop]
def datE (k : Nat) : DataW Unit := .agg [.lit (.bool (exN (k : Int))), .lit (.bool (exR (k : Int))), .lit (.int .i64 (if k = 0 then 0 else kidsI (k : Int)))]
def datS (k : Nat) : DataW Unit := .agg [.lit (.bool (ptNm (k : Int))), .lit (.bool (ptLc (k : Int))), .lit (.bool (ptOr (k : Int))), .lit (.int .i64 (ptEx (k : Int))), .lit (.bool (ptTh (k : Int))), .lit (.bool (ptEl (k : Int)))]
theorem laidE : (Rows.laid_cantilever_ast_exprShapes : DataW Unit) = .agg ((List.range 17).map datE) := by kernel_rfl
theorem laidS : (Rows.laid_cantilever_ast_stmtShapes : DataW Unit) = .agg ((List.range 12).map datS) := by kernel_rfl
theorem cellsB : Tryd.prog.cellsOf 4 = 1 := by kernel_rfl
theorem cellsI : Tryd.prog.cellsOf 3 = 1 := by kernel_rfl
theorem cellsXE : Tryd.prog.cellsOf 87 = 3 := by kernel_rfl
theorem cellsXS : Tryd.prog.cellsOf 92 = 6 := by kernel_rfl
theorem gE : Tryd.prog.globalNamed "cantilever/ast.exprShapes" = some 0 := by kernel_rfl
theorem gS : Tryd.prog.globalNamed "cantilever/ast.stmtShapes" = some 1 := by kernel_rfl
theorem gET : (Tryd.prog.globals[0]?).map (·.type) = some 88 := by kernel_rfl
theorem gST : (Tryd.prog.globals[1]?).map (·.type) = some 93 := by kernel_rfl
section
variable {enc : TypeId × Value → Unit} {W : World} {sp : Nat → Bool} {held : Bool} {base : Nat}
set_option maxRecDepth 100000 in
theorem cells_shapeE {fuel : Nat} {cs : List Value} {y : DataW Unit × List MemPlace} {k : Nat} (h : DataW.trod enc Tryd.prog W base sp held fuel 87 cs = some y) (hy : y.1 = datE k) : cs = [.bool (exN (k : Int)), .bool (exR (k : Int)), .int .i64 (if k = 0 then 0 else kidsI (k : Int))] := by
  obtain ⟨xs, m, _, rfl, hl, hlen, hf⟩ := DataW.trod_struct Tryd.underlying87 h
  have g0 := hf 0 _ rfl
  have g1 := hf 1 _ rfl
  have g2 := hf 2 _ rfl
  have hlen : xs.length = 3 := hlen
  rw [cellsXE] at hl
  match xs, hlen, g0, g1, g2, hy with
  | [x0, x1, x2], _, g0, g1, g2, hy =>
    obtain ⟨b0, q0, rfl⟩ := DataW.trod_bool Tryd.underlying4 g0
    obtain ⟨b1, q1, rfl⟩ := DataW.trod_bool Tryd.underlying4 g1
    obtain ⟨b2, q2, rfl, _⟩ := DataW.trod_int Tryd.underlying3 g2
    match cs, hl, q0, q1, q2 with
    | [c0, c1, c2], _, q0, q1, q2 =>
      have e0 : c0 = .bool b0 := by simpa [cellsB] using q0
      have e1 : c1 = .bool b1 := by simpa [cellsB] using q1
      have e2 : c2 = .int .i64 b2 := by simpa [cellsI] using q2
      unfold datE at hy
      simp only [List.map_cons, List.map_nil, DataW.agg.injEq, List.cons.injEq, DataW.lit.injEq, Lit.bool.injEq, Lit.int.injEq, true_and, and_true] at hy
      rw [e0, e1, e2, hy.1, hy.2.1, hy.2.2]
set_option maxRecDepth 100000 in
theorem cells_shapeS {fuel : Nat} {cs : List Value} {y : DataW Unit × List MemPlace} {k : Nat} (h : DataW.trod enc Tryd.prog W base sp held fuel 92 cs = some y) (hy : y.1 = datS k) : cs = [.bool (ptNm (k : Int)), .bool (ptLc (k : Int)), .bool (ptOr (k : Int)), .int .i64 (ptEx (k : Int)), .bool (ptTh (k : Int)), .bool (ptEl (k : Int))] := by
  obtain ⟨xs, m, _, rfl, hl, hlen, hf⟩ := DataW.trod_struct Tryd.underlying92 h
  have g0 := hf 0 _ rfl
  have g1 := hf 1 _ rfl
  have g2 := hf 2 _ rfl
  have g3 := hf 3 _ rfl
  have g4 := hf 4 _ rfl
  have g5 := hf 5 _ rfl
  have hlen : xs.length = 6 := hlen
  rw [cellsXS] at hl
  match xs, hlen, g0, g1, g2, g3, g4, g5, hy with
  | [x0, x1, x2, x3, x4, x5], _, g0, g1, g2, g3, g4, g5, hy =>
    obtain ⟨b0, q0, rfl⟩ := DataW.trod_bool Tryd.underlying4 g0
    obtain ⟨b1, q1, rfl⟩ := DataW.trod_bool Tryd.underlying4 g1
    obtain ⟨b2, q2, rfl⟩ := DataW.trod_bool Tryd.underlying4 g2
    obtain ⟨b3, q3, rfl, _⟩ := DataW.trod_int Tryd.underlying3 g3
    obtain ⟨b4, q4, rfl⟩ := DataW.trod_bool Tryd.underlying4 g4
    obtain ⟨b5, q5, rfl⟩ := DataW.trod_bool Tryd.underlying4 g5
    match cs, hl, q0, q1, q2, q3, q4, q5 with
    | [c0, c1, c2, c3, c4, c5], _, q0, q1, q2, q3, q4, q5 =>
      have e0 : c0 = .bool b0 := by simpa [cellsB] using q0
      have e1 : c1 = .bool b1 := by simpa [cellsB] using q1
      have e2 : c2 = .bool b2 := by simpa [cellsB] using q2
      have e3 : c3 = .int .i64 b3 := by simpa [cellsI] using q3
      have e4 : c4 = .bool b4 := by simpa [cellsB] using q4
      have e5 : c5 = .bool b5 := by simpa [cellsB] using q5
      unfold datS at hy
      simp only [List.map_cons, List.map_nil, DataW.agg.injEq, List.cons.injEq, DataW.lit.injEq, Lit.bool.injEq, Lit.int.injEq, true_and, and_true] at hy
      rw [e0, e1, e2, e3, e4, e5, hy.1, hy.2.1, hy.2.2.1, hy.2.2.2.1, hy.2.2.2.2.1, hy.2.2.2.2.2]
end
theorem var_cells {W : World} {name : String} {g : Nat} {cs : List Value} (hg : Tryd.prog.globalNamed name = some g) (hv : W.var? Tryd.prog name = some cs.toArray) : CellsAt W ⟨g, 0, none⟩ cs := by
  intro j v hj
  have h := World.var?_cell hg hv j
  rw [Addr.add_mid, Nat.zero_add, h]
  simpa using hj
set_option maxRecDepth 100000 in
theorem tab_of {W : World} {l : List (String × DataW Unit)} (h : laidMetH Tryd.prog l W) (hl : (l.filter fun x => x.2.handleName?.isNone) = [("cantilever/ast.exprShapes", Rows.laid_cantilever_ast_exprShapes), ("cantilever/ast.stmtShapes", Rows.laid_cantilever_ast_stmtShapes)]) : TabOk W := by
  have h1 := (laidMetH_iff.1 h).1
  rw [hl] at h1
  obtain ⟨ps, ⟨g1, t1, cs1, f1, p1, q1, hg1, ht1, hv1, hd1, ⟨g2, t2, cs2, f2, p2, q2, hg2, ht2, hv2, hd2, _, _⟩, _⟩, _⟩ := h1
  obtain rfl := Option.some.inj (gE.symm.trans hg1)
  obtain rfl := Option.some.inj (gET.symm.trans ht1)
  obtain rfl := Option.some.inj (gS.symm.trans hg2)
  obtain rfl := Option.some.inj (gST.symm.trans ht2)
  refine ⟨?_, ?_⟩
  · obtain ⟨xs, m, _, hx, hcl, hxl, hel⟩ := DataW.trod_array Tryd.underlying88 hd1
    rw [laidE] at hx
    have hxs : xs.map (·.1) = (List.range 17).map datE := by
      have := congrArg Prod.fst hx
      simp only [DataW.agg.injEq] at this
      exact this.symm
    have e : cs1.toList = tabE := by
      rw [chunks (s := 3) 17 cs1.toList (hcl.trans (by kernel_rfl))]
      unfold tabE
      rw [List.flatMap_def, List.flatMap_def]
      congr 1
      apply List.map_congr_left
      intro i hi
      rw [List.mem_range] at hi
      have h2 := hel i hi
      rw [cellsXE, List.getElem?_eq_getElem (by omega)] at h2
      refine cells_shapeE (k := i) h2 ?_
      have h3 : (xs.map (·.1))[i]? = some (datE i) := by rw [hxs, List.getElem?_map, List.getElem?_range hi]; rfl
      rw [List.getElem?_map, List.getElem?_eq_getElem (by omega)] at h3
      exact Option.some.inj h3
    rw [← e]
    exact var_cells gE (by simpa using hv1)
  · obtain ⟨xs, m, _, hx, hcl, hxl, hel⟩ := DataW.trod_array Tryd.underlying93 hd2
    rw [laidS] at hx
    have hxs : xs.map (·.1) = (List.range 12).map datS := by
      have := congrArg Prod.fst hx
      simp only [DataW.agg.injEq] at this
      exact this.symm
    have e : cs2.toList = tabS := by
      rw [chunks (s := 6) 12 cs2.toList (hcl.trans (by kernel_rfl))]
      unfold tabS
      rw [List.flatMap_def, List.flatMap_def]
      congr 1
      apply List.map_congr_left
      intro i hi
      rw [List.mem_range] at hi
      have h2 := hel i hi
      rw [cellsXS, List.getElem?_eq_getElem (by omega)] at h2
      refine cells_shapeS (k := i) h2 ?_
      have h3 : (xs.map (·.1))[i]? = some (datS i) := by rw [hxs, List.getElem?_map, List.getElem?_range hi]; rfl
      rw [List.getElem?_map, List.getElem?_eq_getElem (by omega)] at h3
      exact Option.some.inj h3
    rw [← e]
    exact var_cells gS (by simpa using hv2)
/-- A world for the witnesses: the listed variables hold what their texts lay. -/
noncomputable def laidWorld (os : Os) (vals : Array Value) : World :=
  let w0 := World.holding Tryd.prog os ⟨#[], vals, []⟩
  { w0 with heap := (w0.heap.modify 0 (layCells tabE.toArray)).modify 1 (layCells tabS.toArray) }
end Go.Proofs.YtmfiiapmkidmkaaDoor
