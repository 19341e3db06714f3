/-
  Regions that draw their order: how single operations are paid. No program is named here.
-/
import Derived.Test.YtigdecmfieaacaaDoorEng
import Derived.Shelf.Abstract
namespace Go.Proofs.YtigdecmfieaacaaDoor
open Go Go.RowKit

section
variable {P : Program} {ops : Array Oper} {Q : Exit → Act → World → Prop} {T : Nat → (Nat → Value) → World → Prop} {G : World → Prop} {L : Nat → Bool} {i : Nat} {o : Oper} {a : Act} {w : World}

theorem Owes.value {v : Value} {w' : World} (hw : Region.wanted o (yielded ops a.tmps) = true) (hrun : (execOp a.eval o).run P w = .ok (.value v) w') (hT : T i (fun j => if j = i then v else vat ops a j) w') (hG : G w')
    (hst : ∀ j, j ≠ i → L j = true → T j (vat ops a) w → T j (vat ops a) w') : Owes P ops Q T G L i o a w := fun K hK => by
  rw [if_pos hw]
  unfold Oper.wp
  rw [hrun]
  exact hK v w' hT hG hst
theorem Owes.pure {v : Value} (hw : Region.wanted o (yielded ops a.tmps) = true) (hrun : (execOp a.eval o).run P w = .ok (.value v) w) (hT : T i (fun j => if j = i then v else vat ops a j) w) (hG : G w) : Owes P ops Q T G L i o a w :=
  Owes.value hw hrun hT hG (fun _ _ _ h => h)
theorem Owes.unit {w' : World} (hw : Region.wanted o (yielded ops a.tmps) = true) (hrun : (execOp a.eval o).run P w = .ok .skip w') (hT : T i (fun j => if j = i then undef else vat ops a j) w') (hG : G w')
    (hst : ∀ j, j ≠ i → L j = true → T j (vat ops a) w → T j (vat ops a) w') : Owes P ops Q T G L i o a w := fun K hK => by
  rw [if_pos hw]
  unfold Oper.wp
  rw [hrun]
  exact hK undef w' hT hG hst
theorem Owes.skipped (hw : Region.wanted o (yielded ops a.tmps) = false) (hT : T i (fun j => if j = i then undef else vat ops a j) w) (hG : G w) : Owes P ops Q T G L i o a w := fun K hK => by
  rw [if_neg (by rw [hw]; decide)]
  exact hK undef w hT hG (fun _ _ _ h => h)
theorem Owes.call {f : FuncId} {args : Array Value} (hw : Region.wanted o (yielded ops a.tmps) = true) (hrun : (execOp a.eval o).run P w = .ok (.enter f args) w)
    (hc : Calls P f args w fun e w' => ∃ v, e = .returned v ∧ T i (fun j => if j = i then v else vat ops a j) w' ∧ G w' ∧ ∀ j, j ≠ i → L j = true → T j (vat ops a) w → T j (vat ops a) w') : Owes P ops Q T G L i o a w := fun K hK => by
  rw [if_pos hw]
  unfold Oper.wp
  rw [hrun]
  refine hc.mono ?_
  rintro e w' ⟨v, rfl, h1, h2, h3⟩
  exact hK v w' h1 h2 h3
/-- A call of a function by its number: the machine enters it. -/
theorem run_call_fn {f : FuncId} {xs : Array Operand} {ts : Array TypeId} (he : Enters P f) (hop : o.op = .call { callee := .value (.func f), args := xs, argTypes := ts }) : (execOp a.eval o).run P w = .ok (.enter f (xs.map a.eval)) w := by
  have h1 := he (xs.map a.eval) w
  unfold execOp
  rw [hop]
  simp only [resolve, Act.eval, Deferred.ofValue, Sem.run_bind, Sem.run_pure, Result.andThen, invoke, Array.append_empty, Array.empty_append]
  simpa using h1
theorem eval_slot {j : Nat} {d : Tmp} (h : slotOf ops j = some d) : a.eval (.tmp d) = vat ops a j := by unfold vat; rw [h]; rfl
theorem want_none (h : o.guard = none) : Region.wanted o (yielded ops a.tmps) = true := by unfold Region.wanted; rw [h]
theorem yielded_of {g : Nat} {b : Bool} (h : vat ops a g = .bool b) : yielded ops a.tmps g = some b := by
  unfold yielded
  unfold vat slotOf at h
  cases hs : (ops[g]?).bind (·.dst) with
  | none => rw [hs] at h; cases h
  | some d =>
    rw [hs] at h
    simp only [Array.getD_eq_getD_getElem?] at h
    rw [Option.bind_some]
    cases ht : a.tmps[d]? with
    | none => rw [ht] at h; cases h
    | some v => rw [ht] at h; obtain rfl : v = .bool b := h; rfl
theorem want_of {g : Nat} {b : Bool} (h : o.guard = some (g, b)) (hv : vat ops a g = .bool b) : Region.wanted o (yielded ops a.tmps) = true := by
  unfold Region.wanted; rw [h]; simp [yielded_of hv]
theorem want_not {g : Nat} {b : Bool} (h : o.guard = some (g, b)) (hv : vat ops a g = .bool (!b)) : Region.wanted o (yielded ops a.tmps) = false := by
  unfold Region.wanted; rw [h]; simp [yielded_of hv]
theorem aft_of {j : Nat} (haft : ∀ e ∈ o.after, L e.on = true) (h : (o.after.any fun e => e.on == j) = true) : L j = true := by
  obtain ⟨k, hk, he⟩ := Array.any_eq_true.1 h
  have := haft _ (Array.getElem_mem hk)
  rwa [show (o.after[k]).on = j by simpa using he] at this
theorem run_move {x : Operand} (hop : o.op = .move x) : (execOp a.eval o).run P w = .ok (.value (a.eval x)) w := by unfold execOp; rw [hop]; rfl
theorem run_assign {x : Operand} (hop : o.op = .assign x) : (execOp a.eval o).run P w = .ok (.value (a.eval x)) w := by unfold execOp; rw [hop]; rfl
theorem run_pick {c x y : Operand} {b : Bool} (hop : o.op = .pick c x y) (hc : a.eval c = .bool b) : (execOp a.eval o).run P w = .ok (.value (if b then a.eval x else a.eval y)) w := by
  unfold execOp; rw [hop]; simp only [hc]; rfl
end
/-- p holds of all numbers below n: one by one. -/
def AllS : Nat → (Nat → Prop) → Prop
  | 0, _ => True
  | n + 1, p => AllS n p ∧ p n
theorem AllS.at : ∀ {n : Nat} {p : Nat → Prop}, AllS n p → ∀ i, i < n → p i
  | n + 1, p, h, i, hi => by
    by_cases e : i = n
    · subst e; exact h.2
    · exact h.1.at i (by omega)
theorem wpOps_inv {P : Program} {ops : Array Oper} {Q : Exit → Act → World → Prop} {T : Nat → (Nat → Value) → World → Prop} {G : World → Prop} {a0 : Act} {D : Nat → List Nat} (hwf : wfR ops a0.tmps.size = true) (hD : Deps ops T D)
    (step : ∀ (i : Nat) (o : Oper) (a : Act) (w : World) (L : Nat → Bool), ops[i]? = some o → L i = false → (∀ e ∈ o.after, L e.on = true) → St ops T G a0 L a w → Owes P ops Q T G L i o a w)
    (fin : ∀ L a w, (∀ i, i < ops.size → L i = true) → St ops T G a0 L a w → Q .normal a w) :
    ∀ (m k : Nat) (a : Act) (w : World), k + m = ops.size → St ops T G a0 (fun i => decide (i < k)) a w → wpOps P ops Q (List.range' k m) a w := by
  intro m
  induction m with
  | zero =>
    intro k a w hk st
    exact fin _ a w (fun i hi => by simpa using (by omega : i < k)) st
  | succ m ih =>
    intro k a w hk st
    have hlt : k < ops.size := by omega
    have ho : ops[k]? = some ops[k] := Array.getElem?_eq_getElem hlt
    have haft : ∀ e ∈ (ops[k]).after, decide (e.on < k) = true := fun e he => by simpa using (wf_at hwf ho).1 e he
    have hL : decide (k < k) = false := by simp
    rw [List.range'_succ, wpOps_cons]
    have key := step k _ a w (fun i => decide (i < k)) ho hL haft st (wpOps P ops Q (List.range' (k + 1) m)) (fun v w' h1 h2 h3 => by
      have st' := st.next hwf hD ho hL haft h1 h2 h3
      refine ih (k + 1) _ _ (by omega) ?_
      rw [show (fun j => decide (j < k + 1)) = fun j => decide (j = k) || decide (j < k) from funext fun j => by
        by_cases h : j = k
        · simp [h]
        · by_cases h' : j < k
          · simp [h']; omega
          · simp [h, h']; omega]
      exact st')
    unfold wpOp
    rw [ho]
    show if Region.wanted ops[k] (yielded ops a.tmps) = true then _ else _
    split
    · rename_i hw; rw [if_pos hw] at key; exact .inl key
    · rename_i hw; rw [if_neg hw] at key; exact key
theorem region_steps_seq {P : Program} {ops : Array Oper} {Q : Exit → Act → World → Prop} {T : Nat → (Nat → Value) → World → Prop} {G : World → Prop} {a0 : Act} {id n : Nat} {w0 : World} {D : Nat → List Nat}
    (hwf : wfR ops a0.tmps.size = true) (hD : Deps ops T D) (hG : G w0) (hn : ops.size = n)
    (steps : AllS n fun i => ∀ (o : Oper) (a : Act) (w : World) (L : Nat → Bool), ops[i]? = some o → L i = false → (∀ e ∈ o.after, L e.on = true) → St ops T G a0 L a w → Owes P ops Q T G L i o a w)
    (fin : ∀ L a w, (∀ i, i < n → L i = true) → St ops T G a0 L a w → Q .normal a w) : (Code.region id ops false).wp P Q a0 w0 := by
  subst hn
  refine wp_region ?_
  rw [List.range_eq_range']
  refine wpOps_inv hwf hD (fun i o a w L ho => steps.at i (Array.getElem?_eq_some_iff.1 ho).1 o a w L ho) fin ops.size 0 a0 w0 (by omega) ⟨hG, rfl, rfl, fun _ _ => rfl, fun i o _ h => ?_, fun i h => ?_, fun i h => ?_⟩
  · simp at h
  · simp at h
  · simp at h
theorem region_steps {P : Program} {ops : Array Oper} {Q : Exit → Act → World → Prop} {T : Nat → (Nat → Value) → World → Prop} {G : World → Prop} {a0 : Act} {id n : Nat} {w0 : World} {D : Nat → List Nat}
    (hm : P.follows .mixedOrders = true) (hwf : wfR ops a0.tmps.size = true) (hb : bindsAll ops = true) (hD : Deps ops T D) (hG : G w0.drew) (hn : ops.size = n)
    (steps : AllS n fun i => ∀ (o : Oper) (a : Act) (w : World) (L : Nat → Bool), ops[i]? = some o → L i = false → (∀ e ∈ o.after, L e.on = true) → St ops T G a0 L a w → Owes P ops Q T G L i o a w)
    (fin : ∀ L a w, (∀ i, i < n → L i = true) → St ops T G a0 L a w → Q .normal a w) : (Code.region id ops true).wp P Q a0 w0 := by
  subst hn
  exact region_all hm hwf hb hD hG (fun i o a w L ho => steps.at i (Array.getElem?_eq_some_iff.1 ho).1 o a w L ho) fin
end Go.Proofs.YtigdecmfieaacaaDoor
