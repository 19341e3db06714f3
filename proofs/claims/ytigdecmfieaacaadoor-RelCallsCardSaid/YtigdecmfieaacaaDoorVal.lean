/-
  Regions whose operations leave plain values, in any order; and regions in sequence, step by step, on a frame that is not written out.
-/
import Derived.Test.YtigdecmfieaacaaDoorEng2
import Derived.Test.YtigdecmfieaacaaDoorMarks
namespace Go.Proofs.YtigdecmfieaacaaDoor
open Go Go.RowKit

/-- The operations of a region of a function. -/
def findReg (id : Nat) : Code → Option (Array Oper)
  | .region i ops _ => if i = id then some ops else none
  | .seq x y => match findReg id x with
    | some o => some o
    | none => findReg id y
  | .cond _ x y => match findReg id x with
    | some o => some o
    | none => findReg id y
  | .block _ c => findReg id c
  | .loop c => findReg id c
  | _ => none
def regOps (f : Func) (id : Nat) : Array Oper := (f.body.bind (findReg id)).getD #[]

def TV (vs : List (Option Value)) (i : Nat) (ρ : Nat → Value) (_ : World) : Prop := match vs.getD i none with
  | some v => ρ i = v
  | none => True
def okV (ops : Array Oper) (vs : List (Option Value)) : Bool := (List.range ops.size).all fun i => match vs.getD i none with
  | some _ => (slotOf ops i).isSome
  | none => true
theorem tv_deps {ops : Array Oper} {vs : List (Option Value)} (h : okV ops vs = true) (hl : vs.length = ops.size) : Deps ops (TV vs) (fun _ => []) := by
  constructor
  · intro i ρ ρ' w h1 _ hT
    unfold TV at hT ⊢
    cases hs : vs.getD i none with
    | none => trivial
    | some v =>
      rw [hs] at hT
      have hi : i < ops.size := by
        rcases Nat.lt_or_ge i ops.size with h' | h'
        · exact h'
        · rw [List.getD_eq_getElem?_getD, List.getElem?_eq_none (by omega)] at hs; cases hs
      have k := List.all_eq_true.1 h i (by simpa using hi)
      rw [hs] at k
      rcases h1 with h1 | h1
      · show ρ' i = v
        rw [← h1]; exact hT
      · rw [h1] at k; cases k
  · intro i o _ j hj; cases hj

section
variable {P : Program} {ops : Array Oper} {Q : Exit → Act → World → Prop} {vs : List (Option Value)} {G : World → Prop} {a0 : Act} {w0 : World} {L : Nat → Bool} {i : Nat} {o : Oper} {a : Act} {w : World}
theorem TV.self {v : Value} {ρ : Nat → Value} (hv : vs.getD i none = some v) : TV vs i (fun j => if j = i then v else ρ j) w := by
  unfold TV; rw [hv]; simp
theorem TV.none {ρ : Nat → Value} (hv : vs.getD i none = Option.none) : TV vs i ρ w := by
  unfold TV; rw [hv]; trivial
theorem St.argV {j : Nat} {d : Tmp} {v : Value} (st : St ops (TV vs) G a0 L a w) (hl : L j = true) (hs : slotOf ops j = some d) (hv : vs.getD j none = some v) : a.eval (.tmp d) = v := by
  have := st.t j hl
  unfold TV at this
  rw [hv] at this
  rw [eval_slot hs]; exact this
/-- A slot that no operation of the region fills. -/
theorem St.sameG {T : Nat → (Nat → Value) → World → Prop} {s : Tmp} (st : St ops T G a0 L a w) (hs : ((List.range ops.size).all fun j => slotOf ops j != some s) = true) : a.eval (.tmp s) = a0.eval (.tmp s) := by
  have h := st.outer s (fun j hj => by
    rcases Nat.lt_or_ge j ops.size with h | h
    · have := List.all_eq_true.1 hs j (by simpa using h)
      rw [hj] at this; simp at this
    · unfold slotOf at hj; rw [Array.getElem?_eq_none h] at hj; cases hj)
  show a.tmps.getD s undef = a0.tmps.getD s undef
  rw [Array.getD_eq_getD_getElem?, Array.getD_eq_getD_getElem?, h]
theorem St.outV {T : Nat → (Nat → Value) → World → Prop} {s : Tmp} {v : Value} (st : St ops T G a0 L a w) (hs : ((List.range ops.size).all fun j => slotOf ops j != some s) = true) (hv : a0.eval (.tmp s) = v) : a.eval (.tmp s) = v := (st.sameG hs).trans hv
theorem payV {v : Value} (st : St ops (TV vs) G a0 L a w) (hw : Region.wanted o (yielded ops a.tmps) = true) (hrun : (execOp a.eval o).run P w = .ok (.value v) w) (hv : vs.getD i none = some v) : Owes P ops Q (TV vs) G L i o a w :=
  Owes.pure hw hrun (TV.self hv) st.g
theorem payV_move {x : Operand} {v : Value} (st : St ops (TV vs) G a0 L a w) (hw : Region.wanted o (yielded ops a.tmps) = true) (hop : o.op = .move x) (hx : a.eval x = v) (hv : vs.getD i none = some v) : Owes P ops Q (TV vs) G L i o a w :=
  payV st hw ((run_move hop).trans (by rw [hx])) hv
theorem payV_pick {c x y : Operand} {b : Bool} {v : Value} (st : St ops (TV vs) G a0 L a w) (hw : Region.wanted o (yielded ops a.tmps) = true) (hop : o.op = .pick c x y) (hc : a.eval c = .bool b) (hx : (if b then a.eval x else a.eval y) = v) (hv : vs.getD i none = some v) : Owes P ops Q (TV vs) G L i o a w :=
  payV st hw ((run_pick hop hc).trans (by rw [hx])) hv
theorem St.wantV {g : Nat} {b : Bool} (st : St ops (TV vs) G a0 L a w) (haft : ∀ e ∈ o.after, L e.on = true) (hg : o.guard = some (g, b)) (hl : (o.after.any fun e => e.on == g) = true) (hv : vs.getD g none = some (.bool b)) : Region.wanted o (yielded ops a.tmps) = true := by
  have := st.t g (aft_of haft hl)
  unfold TV at this
  rw [hv] at this
  exact want_of hg this
theorem St.skipV {g : Nat} {b : Bool} (st : St ops (TV vs) G a0 L a w) (haft : ∀ e ∈ o.after, L e.on = true) (hg : o.guard = some (g, b)) (hl : (o.after.any fun e => e.on == g) = true) (hv : vs.getD g none = some (.bool (!b))) (hi : vs.getD i none = none) : Owes P ops Q (TV vs) G L i o a w := by
  have := st.t g (aft_of haft hl)
  unfold TV at this
  rw [hv] at this
  exact Owes.skipped (want_not hg this) (TV.none hi) st.g
theorem region_v {id n : Nat} (vs : List (Option Value)) (w0 : World) (hm : P.follows .mixedOrders = true) (hwf : wfR ops a0.tmps.size = true) (hb : bindsAll ops = true) (hd : okV ops vs = true) (hl : vs.length = ops.size) (hn : ops.size = n)
    (steps : AllS n fun i => ∀ (o : Oper) (a : Act) (w : World) (L : Nat → Bool), ops[i]? = some o → L i = false → (∀ e ∈ o.after, L e.on = true) → St ops (TV vs) (fun w => w = w0.drew) a0 L a w → Owes P ops Q (TV vs) (fun w => w = w0.drew) L i o a w)
    (fin : ∀ L a w, (∀ i, i < n → L i = true) → St ops (TV vs) (fun w => w = w0.drew) a0 L a w → Q .normal a w) : (Code.region id ops true).wp P Q a0 w0 :=
  region_steps (G := fun w => w = w0.drew) hm hwf hb (tv_deps hd hl) rfl hn steps fin

/-! #### one after another -/
theorem ev_put {d : Tmp} {s : Tmp} {v : Value} : (a.put (some d) v).eval (.tmp s) = if s = d then (if d < a.tmps.size then v else undef) else a.eval (.tmp s) := by
  show (a.tmps.setIfInBounds d v).getD s undef = _
  rw [Array.getD_eq_getD_getElem?, Array.getElem?_setIfInBounds]
  by_cases h : s = d
  · subst h
    simp only [if_true]
    split <;> rfl
  · rw [if_neg (fun e => h e.symm), if_neg h]
    show _ = a.tmps.getD s undef
    rw [Array.getD_eq_getD_getElem?]
theorem size_put {d : Option Tmp} {v : Value} : (a.put d v).tmps.size = a.tmps.size := by cases d <;> simp [Act.put]
theorem defers_put {d : Option Tmp} {v : Value} : (a.put d v).defers = a.defers := by cases d <;> rfl
theorem seq_start {id n : Nat} (hn : ops.size = n) (h : wpOps P ops Q (List.range n) a w) : (Code.region id ops false).wp P Q a w := by
  subst hn; exact wp_region h
theorem seq_val {l : List Nat} {v : Value} {w' : World} (ho : ops[i]? = some o) (hg : o.guard = none) (hrun : (execOp a.eval o).run P w = .ok (.value v) w') (h : wpOps P ops Q l (a.put o.dst v) w') : wpOps P ops Q (i :: l) a w := by
  rw [wpOps_cons]
  unfold wpOp
  rw [ho]
  show if Region.wanted o (yielded ops a.tmps) = true then _ else _
  rw [if_pos (want_none hg)]
  left
  unfold Oper.wp
  rw [hrun]
  exact h
theorem seq_skip {l : List Nat} {w' : World} (ho : ops[i]? = some o) (hg : o.guard = none) (hrun : (execOp a.eval o).run P w = .ok .skip w') (h : wpOps P ops Q l (a.put o.dst undef) w') : wpOps P ops Q (i :: l) a w := by
  rw [wpOps_cons]
  unfold wpOp
  rw [ho]
  show if Region.wanted o (yielded ops a.tmps) = true then _ else _
  rw [if_pos (want_none hg)]
  left
  unfold Oper.wp
  rw [hrun]
  exact h
theorem seq_call {l : List Nat} {f : FuncId} {xs : Array Operand} {ts : Array TypeId} {args : Array Value} (ho : ops[i]? = some o) (hg : o.guard = none) (he : Enters P f) (hop : o.op = .call { callee := .value (.func f), args := xs, argTypes := ts }) (hargs : xs.map a.eval = args)
    (hc : Calls P f args w fun e w' => ∃ v, e = .returned v ∧ wpOps P ops Q l (a.put o.dst v) w') : wpOps P ops Q (i :: l) a w := by
  subst hargs
  rw [wpOps_cons]
  unfold wpOp
  rw [ho]
  show if Region.wanted o (yielded ops a.tmps) = true then _ else _
  rw [if_pos (want_none hg)]
  left
  unfold Oper.wp
  rw [run_call_fn he hop]
  refine hc.mono ?_
  rintro e w' ⟨v, rfl, h⟩
  exact h
theorem seq_nil (h : Q .normal a w) : wpOps P ops Q [] a w := h
end
end Go.Proofs.YtigdecmfieaacaaDoor
