/-
 Regions in any order, frames that are not written out, control: no layer is named here.
-/
import Derived.Test.YtmfiiapmkidmkaaDoorProg
import Derived.Test.YtmfiiapmkidmkaaDoorMarks
import Derived.Orders
import Derived.Calls
import Derived.Below
import Derived.WalkKit
import Derived.Shelf.Abstract
import Derived.LoopN
namespace Go.Proofs.YtmfiiapmkidmkaaDoor
open Go Go.RowKit

/-- The slot that operation i fills. -/
def slotOf (ops : Array Oper) (i : Nat) : Option Tmp := (ops[i]?).bind (·.dst)
/-- What lies in it. -/
def vat (ops : Array Oper) (a : Act) (i : Nat) : Value := match slotOf ops i with
 | some d => a.tmps.getD d undef
 | none => undef
/-- Operations wait for earlier ones alone; each fills a slot of its own that is there. -/
def wfR (ops : Array Oper) (n : Nat) : Bool := (List.range ops.size).all fun i => match ops[i]? with
 | some o => (o.after.all fun e => decide (e.on < i)) && (match o.dst with
  | some d => decide (d < n) && (List.range i).all (fun j => slotOf ops j != some d)
  | none => true)
 | none => false
section
variable {P : Program} {ops : Array Oper} {Q : Exit → Act → World → Prop}

theorem wf_at {n i : Nat} {o : Oper} (h : wfR ops n = true) (ho : ops[i]? = some o) : (∀ e ∈ o.after, e.on < i) ∧ ∀ d, o.dst = some d → d < n ∧ ∀ j, j < i → slotOf ops j ≠ some d := by
 have hi : i < ops.size := (Array.getElem?_eq_some_iff.1 ho).1
 have := List.all_eq_true.1 h i (by simpa using hi)
 rw [ho] at this
 simp only [Bool.and_eq_true, Array.all_eq_true] at this
 obtain ⟨h1, h2⟩ := this
 constructor
 ·intro e he
  obtain ⟨k, hk, rfl⟩ := Array.getElem_of_mem he
  simpa using h1 k hk
 ·intro d hd
  rw [hd] at h2
  simp only [Bool.and_eq_true, decide_eq_true_eq] at h2
  refine ⟨h2.1, fun j hj e => ?_⟩
  have := List.all_eq_true.1 h2.2 j (by simpa using hj)
  rw [e] at this
  simp at this
theorem slot_inj {n i j : Nat} {d : Tmp} (h : wfR ops n = true) (hi : slotOf ops i = some d) (hj : slotOf ops j = some d) : i = j := by
 unfold slotOf at hi hj
 obtain ⟨oi, h1, h2⟩ := Option.bind_eq_some_iff.1 hi
 obtain ⟨oj, h3, h4⟩ := Option.bind_eq_some_iff.1 hj
 rcases Nat.lt_trichotomy i j with hlt | e | hlt
 ·exact absurd hi (((wf_at h h3).2 d h4).2 i hlt)
 ·exact e
 ·exact absurd hj (((wf_at h h1).2 d h2).2 j hlt)

/-- Where the region stands: the operations of L are done. -/
structure St (ops : Array Oper) (T : Nat → (Nat → Value) → World → Prop) (G : World → Prop) (a0 : Act) (L : Nat → Bool) (a : Act) (w : World) : Prop where
 g : G w
 defers : a.defers = a0.defers
 size : a.tmps.size = a0.tmps.size
 outer : ∀ s, (∀ i, slotOf ops i ≠ some s) → a.tmps[s]? = a0.tmps[s]?
 down : ∀ i o, ops[i]? = some o → L i = true → ∀ e ∈ o.after, L e.on = true
 inn : ∀ i, L i = true → i < ops.size
 t : ∀ i, L i = true → T i (vat ops a) w

/-- What operation i owes. -/
def Owes (P : Program) (ops : Array Oper) (Q : Exit → Act → World → Prop) (T : Nat → (Nat → Value) → World → Prop) (G : World → Prop) (L : Nat → Bool) (i : Nat) (o : Oper) (a : Act) (w : World) : Prop :=
 ∀ K : Act → World → Prop, (∀ v w', T i (fun j => if j = i then v else vat ops a j) w' → G w' → (∀ j, j ≠ i → L j = true → T j (vat ops a) w → T j (vat ops a) w') → K (a.put o.dst v) w') →
  if Region.wanted o (yielded ops a.tmps) = true then o.wp P a w K Q else K (a.put o.dst undef) w

theorem vat_put {n i j : Nat} {o : Oper} {a : Act} {v : Value} (h : wfR ops n = true) (hn : a.tmps.size = n) (ho : ops[i]? = some o) (hd : o.dst ≠ none) (hv : j = i) : vat ops (a.put o.dst v) j = v := by
 subst hv
 obtain ⟨d, hd⟩ := Option.ne_none_iff_exists'.1 hd
 have hlt := ((wf_at h ho).2 d hd).1
 unfold vat slotOf
 rw [ho, Option.bind_some, hd]
 simp [Act.put, hn, hlt]
theorem vat_put_far {n i j : Nat} {o : Oper} {a : Act} {v : Value} (h : wfR ops n = true) (ho : ops[i]? = some o) (hv : j ≠ i) : vat ops (a.put o.dst v) j = vat ops a j := by
 unfold vat
 cases hs : slotOf ops j with
 | none => rfl
 | some d =>
  cases hd : o.dst with
  | none => rfl
  | some d' =>
   have hne : d' ≠ d := by
    rintro rfl
    exact hv (slot_inj h hs (show slotOf ops i = some d' by unfold slotOf; rw [ho, Option.bind_some, hd]))
   simp [Act.put, hne]
theorem vat_put_none {j : Nat} {o : Oper} {a : Act} {v : Value} (hd : o.dst = none) : vat ops (a.put o.dst v) j = vat ops a j := by rw [hd]; rfl

variable {T : Nat → (Nat → Value) → World → Prop} {G : World → Prop} {a0 : Act}
/-- D i: the operations whose slots T i looks at, besides i's own. -/
structure Deps (ops : Array Oper) (T : Nat → (Nat → Value) → World → Prop) (D : Nat → List Nat) : Prop where
 dep : ∀ i ρ ρ' w, (ρ i = ρ' i ∨ slotOf ops i = none) → (∀ j ∈ D i, ρ j = ρ' j) → T i ρ w → T i ρ' w
 aft : ∀ i o, ops[i]? = some o → ∀ j ∈ D i, ∃ e ∈ o.after, e.on = j
theorem St.next {D : Nat → List Nat} {L : Nat → Bool} {i : Nat} {o : Oper} {a : Act} {w w' : World} {v : Value} (hwf : wfR ops a0.tmps.size = true) (hD : Deps ops T D) (st : St ops T G a0 L a w) (ho : ops[i]? = some o) (hL : L i = false)
  (haft : ∀ e ∈ o.after, L e.on = true) (hT : T i (fun j => if j = i then v else vat ops a j) w') (hG : G w') (hst : ∀ j, j ≠ i → L j = true → T j (vat ops a) w → T j (vat ops a) w') :
  St ops T G a0 (fun j => decide (j = i) || L j) (a.put o.dst v) w' where
 g := hG
 defers := by rw [← st.defers]; cases o.dst <;> rfl
 size := by rw [← st.size]; cases o.dst <;> simp [Act.put]
 outer := fun s hs => by
  rw [← st.outer s hs]
  cases hd : o.dst with
  | none => rfl
  | some d =>
   have hne : d ≠ s := by
    rintro rfl
    exact hs i (by unfold slotOf; rw [ho, Option.bind_some, hd])
   simp [Act.put, hne]
 down := fun k o' hk hlk e he => by
  rw [Bool.or_eq_true, decide_eq_true_iff] at hlk ⊢
  rcases hlk with rfl | hlk
  ·have : o' = o := Option.some.inj (hk.symm.trans ho)
   subst this
   exact .inr (haft e he)
  ·exact .inr (st.down k o' hk hlk e he)
 inn := fun k hk => by
  rw [Bool.or_eq_true, decide_eq_true_iff] at hk
  rcases hk with rfl | hk
  ·exact (Array.getElem?_eq_some_iff.1 ho).1
  ·exact st.inn k hk
 t := fun k hk => by
  rw [Bool.or_eq_true, decide_eq_true_iff] at hk
  by_cases e : k = i
  ·subst e
   refine hD.dep k _ _ w' ?_ ?_ hT
   ·by_cases hd : o.dst = none
    ·right; unfold slotOf; rw [ho, Option.bind_some, hd]
    ·left; rw [vat_put hwf st.size ho hd rfl]; simp
   ·intro j hj
    obtain ⟨e, he, rfl⟩ := hD.aft k o ho j hj
    have hlt := (wf_at hwf ho).1 e he
    have hne : e.on ≠ k := by omega
    rw [vat_put_far hwf ho hne, if_neg hne]
  ·have hk' : L k = true := by rcases hk with h | h; exact absurd h e; exact h
   refine hD.dep k _ _ w' (.inl (vat_put_far hwf ho e).symm) ?_ (hst k e hk' (st.t k hk'))
   intro j hj
   have hkl := st.inn k hk'
   obtain ⟨ok, hok⟩ : ∃ ok, ops[k]? = some ok := ⟨ops[k], Array.getElem?_eq_getElem hkl⟩
   obtain ⟨ed, hed, rfl⟩ := hD.aft k ok hok j hj
   have hlj := st.down k ok hok hk' ed hed
   have hne : ed.on ≠ i := fun e' => by rw [e', hL] at hlj; cases hlj
   exact (vat_put_far hwf ho hne).symm

theorem setB_get {listed : Array Bool} {i j : Nat} (hi : i < listed.size) : (listed.setIfInBounds i true).getD j false = (decide (j = i) || listed.getD j false) := by
 by_cases h : j = i
 ·subst h; simp [hi]
 ·have h' : ¬ i = j := fun e => h e.symm
  simp [h, h']
theorem count_set (l : List Bool) (i : Nat) (h : l[i]? = some false) : ((l.set i true).filter fun b => !b).length + 1 = (l.filter fun b => !b).length := by
 induction l generalizing i with
 | nil => simp at h
 | cons b l ih =>
  cases i with
  | zero =>
   have : b = false := by simpa using h
   subst this
   simp
  | succ i =>
   have := ih i (by simpa using h)
   rw [List.set_cons_succ]
   cases b
   ·simpa using this
   ·simpa using this
/-- How many are left. -/
def leftN (listed : Array Bool) : Nat := (listed.toList.filter fun b => !b).length
theorem leftN_set {listed : Array Bool} {i : Nat} (hi : i < listed.size) (hf : listed.getD i false = false) : leftN (listed.setIfInBounds i true) + 1 = leftN listed := by
 unfold leftN
 rw [show (listed.setIfInBounds i true).toList = listed.toList.set i true from by simp]
 exact count_set _ _ (by
  have : listed[i] = false := by simpa [hi] using hf
  simp [hi, this])
theorem left_zero {listed : Array Bool} (h : leftN listed = 0) {i : Nat} (hi : i < listed.size) : listed.getD i false = true := by
 unfold leftN at h
 have h' := List.length_eq_zero_iff.1 h
 rw [List.filter_eq_nil_iff] at h'
 have := h' listed[i] (by simp)
 simpa [hi] using this
/-- Nothing may come up: all is done. -/
theorem ready_nil {n : Nat} {listed : Array Bool} (hwf : wfR ops n = true) (hs : listed.size = ops.size) (h : Region.ready .any ops listed = []) : ∀ i, i < ops.size → listed.getD i false = true := by
 intro i
 induction i using Nat.strongRecOn with
 | _ i ih =>
  intro hi
  cases hl : listed.getD i false with
  | true => rfl
  | false =>
   exfalso
   have hmem : i ∈ Region.ready .any ops listed := by
    unfold Region.ready
    rw [List.mem_filter]
    refine ⟨by simpa using hi, ?_⟩
    have hlt : i < listed.size := by omega
    have hl2 : listed.getD i true = false := by
     simp [hlt] at hl ⊢; exact hl
    have ho : ops[i]? = some ops[i] := Array.getElem?_eq_getElem hi
    rw [hl2, ho]
    simp only [Bool.not_false, Bool.true_and, Option.map_some, Option.getD_some]
    rw [Array.all_eq_true']
    intro e he
    have := (wf_at hwf ho).1 e he
    rw [ih e.on this (by omega)]
    simp
   rw [h] at hmem
   cases hmem
theorem wpAny_inv {D : Nat → List Nat} (hwf : wfR ops a0.tmps.size = true) (hD : Deps ops T D)
  (hnb : ∀ (i : Nat) (o : Oper), ops[i]? = some o → ∀ e ∈ o.after, Region.binds .any e = true)
  (step : ∀ (i : Nat) (o : Oper) (a : Act) (w : World) (L : Nat → Bool), ops[i]? = some o → L i = false → (∀ e ∈ o.after, L e.on = true) → St ops T G a0 L a w → Owes P ops Q T G L i o a w)
  (fin : ∀ L a w, (∀ i, i < ops.size → L i = true) → St ops T G a0 L a w → Q .normal a w) :
  ∀ (fuel : Nat) (listed : Array Bool) (a : Act) (w : World), listed.size = ops.size → leftN listed ≤ fuel → St ops T G a0 (fun i => listed.getD i false) a w → wpAny P .any ops Q fuel listed a w := by
 intro fuel
 induction fuel with
 | zero =>
  intro listed a w hs hl st
  have hall : ∀ i, i < ops.size → listed.getD i false = true := fun i hi => left_zero (by omega) (by omega)
  refine ⟨?_, fin _ a w hall st⟩
  unfold Region.ready
  rw [List.filter_eq_nil_iff]
  intro i hi
  have hi' : i < ops.size := by simpa using hi
  have h1 := hall i hi'
  have hlt : i < listed.size := by omega
  have : listed.getD i true = true := by simp [hlt] at h1 ⊢; exact h1
  rw [this]; simp
 | succ fuel ih =>
  intro listed a w hs hl st
  refine ⟨fun h => fin _ a w (ready_nil hwf hs h) st, fun i hi => ?_⟩
  unfold Region.ready at hi
  rw [List.mem_filter] at hi
  have hi' : i < ops.size := by simpa using hi.1
  have ho : ops[i]? = some ops[i] := Array.getElem?_eq_getElem hi'
  have hlt : i < listed.size := by omega
  rw [ho] at hi
  simp only [Option.map_some, Option.getD_some, Bool.and_eq_true, Bool.not_eq_true'] at hi
  have hf : listed.getD i false = false := by
   have := hi.2.1
   simp [hlt] at this ⊢; exact this
  have haft : ∀ e ∈ (ops[i]).after, listed.getD e.on false = true := fun e he => by
   have := (Array.all_eq_true'.1 hi.2.2) e he
   rw [hnb i _ ho e he] at this
   simpa using this
  have key := step i _ a w (fun i => listed.getD i false) ho hf haft st (wpAny P .any ops Q fuel (listed.setIfInBounds i true)) (fun v w' h1 h2 h3 => by
   have st' := st.next hwf hD ho hf haft h1 h2 h3
   refine ih _ _ _ (by simp [hs]) (by have := leftN_set hlt hf; omega) ?_
   rw [show (fun j => (listed.setIfInBounds i true).getD j false) = fun j => decide (j = i) || listed.getD j false from funext fun j => setB_get hlt]
   exact st')
  unfold wpOp
  rw [ho]
  show if Region.wanted ops[i] (yielded ops a.tmps) = true then _ else _
  split
  ·rename_i hw; rw [if_pos hw] at key; exact .inl key
  ·rename_i hw; rw [if_neg hw] at key; exact key
/-- No edge holds in one mode alone. -/
def bindsAll (ops : Array Oper) : Bool := ops.all fun o => o.after.all fun e => Region.binds .any e
theorem region_all {id : Nat} {w0 : World} {D : Nat → List Nat} (hm : P.follows .mixedOrders = true) (hwf : wfR ops a0.tmps.size = true) (hb : bindsAll ops = true) (hD : Deps ops T D) (hG : G w0.drew)
  (step : ∀ (i : Nat) (o : Oper) (a : Act) (w : World) (L : Nat → Bool), ops[i]? = some o → L i = false → (∀ e ∈ o.after, L e.on = true) → St ops T G a0 L a w → Owes P ops Q T G L i o a w)
  (fin : ∀ L a w, (∀ i, i < ops.size → L i = true) → St ops T G a0 L a w → Q .normal a w) : (Code.region id ops true).wp P Q a0 w0 := by
 refine wp_region_any hm ?_
 have hb' : ∀ (i : Nat) (o : Oper), ops[i]? = some o → ∀ e ∈ o.after, Region.binds .any e = true := fun i o ho e he => by
  have h1 := (Array.all_eq_true'.1 hb) o (Array.mem_of_getElem? ho)
  exact (Array.all_eq_true'.1 h1) e he
 have hz : ∀ i, (Array.replicate ops.size false).getD i false = false := fun i => by
  rw [Array.getD_eq_getD_getElem?]
  cases h : (Array.replicate ops.size false)[i]? with
  | none => rfl
  | some b =>
   obtain ⟨h1, h2⟩ := Array.getElem?_eq_some_iff.1 h
   simpa using h2.symm
 refine wpAny_inv hwf hD hb' step fin ops.size _ a0 _ (by simp) ?_ ⟨hG, rfl, rfl, fun _ _ => rfl, fun i o _ h => ?_, fun i h => ?_, fun i h => ?_⟩
 ·unfold leftN
  exact Nat.le_trans (List.length_filter_le _ _) (by simp)
 ·rw [hz] at h; cases h
 ·rw [hz] at h; cases h
 ·rw [hz] at h; cases h
end
section
variable {P : Program} {ops : Array Oper} {Q : Exit → Act → World → Prop} {T : Nat → (Nat → Value) → World → Prop} {G : World → Prop} {L : Nat → Bool} {i : Nat} {o : Oper} {a : Act} {w : World}

theorem Owes.value {v : Value} {w' : World} (hw : Region.wanted o (yielded ops a.tmps) = true) (hrun : (execOp a.eval o).run P w = .ok (.value v) w') (hT : T i (fun j => if j = i then v else vat ops a j) w') (hG : G w')
  (hst : ∀ j, j ≠ i → L j = true → T j (vat ops a) w → T j (vat ops a) w') : Owes P ops Q T G L i o a w := fun K hK => by
 rw [if_pos hw]
 unfold Oper.wp
 rw [hrun]
 exact hK v w' hT hG hst
theorem Owes.pure {v : Value} (hw : Region.wanted o (yielded ops a.tmps) = true) (hrun : (execOp a.eval o).run P w = .ok (.value v) w) (hT : T i (fun j => if j = i then v else vat ops a j) w) (hG : G w) : Owes P ops Q T G L i o a w :=
 Owes.value hw hrun hT hG (fun _ _ _ h => h)
theorem Owes.unit {w' : World} (hw : Region.wanted o (yielded ops a.tmps) = true) (hrun : (execOp a.eval o).run P w = .ok .skip w') (hT : T i (fun j => if j = i then undef else vat ops a j) w') (hG : G w')
  (hst : ∀ j, j ≠ i → L j = true → T j (vat ops a) w → T j (vat ops a) w') : Owes P ops Q T G L i o a w := fun K hK => by
 rw [if_pos hw]
 unfold Oper.wp
 rw [hrun]
 exact hK undef w' hT hG hst
theorem Owes.skipped (hw : Region.wanted o (yielded ops a.tmps) = false) (hT : T i (fun j => if j = i then undef else vat ops a j) w) (hG : G w) : Owes P ops Q T G L i o a w := fun K hK => by
 rw [if_neg (by rw [hw]; decide)]
 exact hK undef w hT hG (fun _ _ _ h => h)
theorem Owes.call {f : FuncId} {args : Array Value} (hw : Region.wanted o (yielded ops a.tmps) = true) (hrun : (execOp a.eval o).run P w = .ok (.enter f args) w)
  (hc : Calls P f args w fun e w' => ∃ v, e = .returned v ∧ T i (fun j => if j = i then v else vat ops a j) w' ∧ G w' ∧ ∀ j, j ≠ i → L j = true → T j (vat ops a) w → T j (vat ops a) w') : Owes P ops Q T G L i o a w := fun K hK => by
 rw [if_pos hw]
 unfold Oper.wp
 rw [hrun]
 refine hc.mono ?_
 rintro e w' ⟨v, rfl, h1, h2, h3⟩
 exact hK v w' h1 h2 h3
/-- A call of a function by its number: the machine enters it. -/
theorem run_call_fn {f : FuncId} {xs : Array Operand} {ts : Array TypeId} (he : Enters P f) (hop : o.op = .call { callee := .value (.func f), args := xs, argTypes := ts }) : (execOp a.eval o).run P w = .ok (.enter f (xs.map a.eval)) w := by
 have h1 := he (xs.map a.eval) w
 unfold execOp
 rw [hop]
 simp only [resolve, Act.eval, Deferred.ofValue, Sem.run_bind, Sem.run_pure, Result.andThen, invoke, Array.append_empty, Array.empty_append]
 simpa using h1
theorem eval_slot {j : Nat} {d : Tmp} (h : slotOf ops j = some d) : a.eval (.tmp d) = vat ops a j := by unfold vat; rw [h]; rfl
theorem want_none (h : o.guard = none) : Region.wanted o (yielded ops a.tmps) = true := by unfold Region.wanted; rw [h]
theorem yielded_of {g : Nat} {b : Bool} (h : vat ops a g = .bool b) : yielded ops a.tmps g = some b := by
 unfold yielded
 unfold vat slotOf at h
 cases hs : (ops[g]?).bind (·.dst) with
 | none => rw [hs] at h; cases h
 | some d =>
  rw [hs] at h
  simp only [Array.getD_eq_getD_getElem?] at h
  rw [Option.bind_some]
  cases ht : a.tmps[d]? with
  | none => rw [ht] at h; cases h
  | some v => rw [ht] at h; obtain rfl : v = .bool b := h; rfl
theorem want_of {g : Nat} {b : Bool} (h : o.guard = some (g, b)) (hv : vat ops a g = .bool b) : Region.wanted o (yielded ops a.tmps) = true := by
 unfold Region.wanted; rw [h]; simp [yielded_of hv]
theorem want_not {g : Nat} {b : Bool} (h : o.guard = some (g, b)) (hv : vat ops a g = .bool (!b)) : Region.wanted o (yielded ops a.tmps) = false := by
 unfold Region.wanted; rw [h]; simp [yielded_of hv]
theorem aft_of {j : Nat} (haft : ∀ e ∈ o.after, L e.on = true) (h : (o.after.any fun e => e.on == j) = true) : L j = true := by
 obtain ⟨k, hk, he⟩ := Array.any_eq_true.1 h
 have := haft _ (Array.getElem_mem hk)
 rwa [show (o.after[k]).on = j by simpa using he] at this
theorem run_move {x : Operand} (hop : o.op = .move x) : (execOp a.eval o).run P w = .ok (.value (a.eval x)) w := by unfold execOp; rw [hop]; rfl
theorem run_assign {x : Operand} (hop : o.op = .assign x) : (execOp a.eval o).run P w = .ok (.value (a.eval x)) w := by unfold execOp; rw [hop]; rfl
theorem run_pick {c x y : Operand} {b : Bool} (hop : o.op = .pick c x y) (hc : a.eval c = .bool b) : (execOp a.eval o).run P w = .ok (.value (if b then a.eval x else a.eval y)) w := by
 unfold execOp; rw [hop]; simp only [hc]; rfl
end
/-- p holds of all numbers below n: one by one. -/
def AllS : Nat → (Nat → Prop) → Prop
 | 0, _ => True
 | n + 1, p => AllS n p ∧ p n
theorem AllS.at : ∀ {n : Nat} {p : Nat → Prop}, AllS n p → ∀ i, i < n → p i
 | n + 1, p, h, i, hi => by
  by_cases e : i = n
  ·subst e; exact h.2
  ·exact h.1.at i (by omega)
theorem wpOps_inv {P : Program} {ops : Array Oper} {Q : Exit → Act → World → Prop} {T : Nat → (Nat → Value) → World → Prop} {G : World → Prop} {a0 : Act} {D : Nat → List Nat} (hwf : wfR ops a0.tmps.size = true) (hD : Deps ops T D)
  (step : ∀ (i : Nat) (o : Oper) (a : Act) (w : World) (L : Nat → Bool), ops[i]? = some o → L i = false → (∀ e ∈ o.after, L e.on = true) → St ops T G a0 L a w → Owes P ops Q T G L i o a w)
  (fin : ∀ L a w, (∀ i, i < ops.size → L i = true) → St ops T G a0 L a w → Q .normal a w) :
  ∀ (m k : Nat) (a : Act) (w : World), k + m = ops.size → St ops T G a0 (fun i => decide (i < k)) a w → wpOps P ops Q (List.range' k m) a w := by
 intro m
 induction m with
 | zero =>
  intro k a w hk st
  exact fin _ a w (fun i hi => by simpa using (by omega : i < k)) st
 | succ m ih =>
  intro k a w hk st
  have hlt : k < ops.size := by omega
  have ho : ops[k]? = some ops[k] := Array.getElem?_eq_getElem hlt
  have haft : ∀ e ∈ (ops[k]).after, decide (e.on < k) = true := fun e he => by simpa using (wf_at hwf ho).1 e he
  have hL : decide (k < k) = false := by simp
  rw [List.range'_succ, wpOps_cons]
  have key := step k _ a w (fun i => decide (i < k)) ho hL haft st (wpOps P ops Q (List.range' (k + 1) m)) (fun v w' h1 h2 h3 => by
   have st' := st.next hwf hD ho hL haft h1 h2 h3
   refine ih (k + 1) _ _ (by omega) ?_
   rw [show (fun j => decide (j < k + 1)) = fun j => decide (j = k) || decide (j < k) from funext fun j => by
    by_cases h : j = k
    ·simp [h]
    ·by_cases h' : j < k
     ·simp [h']; omega
     ·simp [h, h']; omega]
   exact st')
  unfold wpOp
  rw [ho]
  show if Region.wanted ops[k] (yielded ops a.tmps) = true then _ else _
  split
  ·rename_i hw; rw [if_pos hw] at key; exact .inl key
  ·rename_i hw; rw [if_neg hw] at key; exact key
theorem region_steps_seq {P : Program} {ops : Array Oper} {Q : Exit → Act → World → Prop} {T : Nat → (Nat → Value) → World → Prop} {G : World → Prop} {a0 : Act} {id n : Nat} {w0 : World} {D : Nat → List Nat}
  (hwf : wfR ops a0.tmps.size = true) (hD : Deps ops T D) (hG : G w0) (hn : ops.size = n)
  (steps : AllS n fun i => ∀ (o : Oper) (a : Act) (w : World) (L : Nat → Bool), ops[i]? = some o → L i = false → (∀ e ∈ o.after, L e.on = true) → St ops T G a0 L a w → Owes P ops Q T G L i o a w)
  (fin : ∀ L a w, (∀ i, i < n → L i = true) → St ops T G a0 L a w → Q .normal a w) : (Code.region id ops false).wp P Q a0 w0 := by
 subst hn
 refine wp_region ?_
 rw [List.range_eq_range']
 refine wpOps_inv hwf hD (fun i o a w L ho => steps.at i (Array.getElem?_eq_some_iff.1 ho).1 o a w L ho) fin ops.size 0 a0 w0 (by omega) ⟨hG, rfl, rfl, fun _ _ => rfl, fun i o _ h => ?_, fun i h => ?_, fun i h => ?_⟩
 ·simp at h
 ·simp at h
 ·simp at h
theorem region_steps {P : Program} {ops : Array Oper} {Q : Exit → Act → World → Prop} {T : Nat → (Nat → Value) → World → Prop} {G : World → Prop} {a0 : Act} {id n : Nat} {w0 : World} {D : Nat → List Nat}
  (hm : P.follows .mixedOrders = true) (hwf : wfR ops a0.tmps.size = true) (hb : bindsAll ops = true) (hD : Deps ops T D) (hG : G w0.drew) (hn : ops.size = n)
  (steps : AllS n fun i => ∀ (o : Oper) (a : Act) (w : World) (L : Nat → Bool), ops[i]? = some o → L i = false → (∀ e ∈ o.after, L e.on = true) → St ops T G a0 L a w → Owes P ops Q T G L i o a w)
  (fin : ∀ L a w, (∀ i, i < n → L i = true) → St ops T G a0 L a w → Q .normal a w) : (Code.region id ops true).wp P Q a0 w0 := by
 subst hn
 exact region_all hm hwf hb hD hG (fun i o a w L ho => steps.at i (Array.getElem?_eq_some_iff.1 ho).1 o a w L ho) fin
/-- The operations of a region of a function. -/
def findReg (id : Nat) : Code → Option (Array Oper)
 | .region i ops _ => if i = id then some ops else none
 | .seq x y => match findReg id x with
  | some o => some o
  | none => findReg id y
 | .cond _ x y => match findReg id x with
  | some o => some o
  | none => findReg id y
 | .block _ c => findReg id c
 | .loop c => findReg id c
 | _ => none
def regOps (f : Func) (id : Nat) : Array Oper := (f.body.bind (findReg id)).getD #[]

def TV (vs : List (Option Value)) (i : Nat) (ρ : Nat → Value) (_ : World) : Prop := match vs.getD i none with
 | some v => ρ i = v
 | none => True
def okV (ops : Array Oper) (vs : List (Option Value)) : Bool := (List.range ops.size).all fun i => match vs.getD i none with
 | some _ => (slotOf ops i).isSome
 | none => true
theorem tv_deps {ops : Array Oper} {vs : List (Option Value)} (h : okV ops vs = true) (hl : vs.length = ops.size) : Deps ops (TV vs) (fun _ => []) := by
 constructor
 ·intro i ρ ρ' w h1 _ hT
  unfold TV at hT ⊢
  cases hs : vs.getD i none with
  | none => trivial
  | some v =>
   rw [hs] at hT
   have hi : i < ops.size := by
    rcases Nat.lt_or_ge i ops.size with h' | h'
    ·exact h'
    ·rw [List.getD_eq_getElem?_getD, List.getElem?_eq_none (by omega)] at hs; cases hs
   have k := List.all_eq_true.1 h i (by simpa using hi)
   rw [hs] at k
   rcases h1 with h1 | h1
   ·show ρ' i = v
    rw [← h1]; exact hT
   ·rw [h1] at k; cases k
 ·intro i o _ j hj; cases hj

section
variable {P : Program} {ops : Array Oper} {Q : Exit → Act → World → Prop} {vs : List (Option Value)} {G : World → Prop} {a0 : Act} {w0 : World} {L : Nat → Bool} {i : Nat} {o : Oper} {a : Act} {w : World}
theorem TV.self {v : Value} {ρ : Nat → Value} (hv : vs.getD i none = some v) : TV vs i (fun j => if j = i then v else ρ j) w := by
 unfold TV; rw [hv]; simp
theorem TV.none {ρ : Nat → Value} (hv : vs.getD i none = Option.none) : TV vs i ρ w := by
 unfold TV; rw [hv]; trivial
theorem St.argV {j : Nat} {d : Tmp} {v : Value} (st : St ops (TV vs) G a0 L a w) (hl : L j = true) (hs : slotOf ops j = some d) (hv : vs.getD j none = some v) : a.eval (.tmp d) = v := by
 have := st.t j hl
 unfold TV at this
 rw [hv] at this
 rw [eval_slot hs]; exact this
/-- A slot that no operation of the region fills. -/
theorem St.sameG {T : Nat → (Nat → Value) → World → Prop} {s : Tmp} (st : St ops T G a0 L a w) (hs : ((List.range ops.size).all fun j => slotOf ops j != some s) = true) : a.eval (.tmp s) = a0.eval (.tmp s) := by
 have h := st.outer s (fun j hj => by
  rcases Nat.lt_or_ge j ops.size with h | h
  ·have := List.all_eq_true.1 hs j (by simpa using h)
   rw [hj] at this; simp at this
  ·unfold slotOf at hj; rw [Array.getElem?_eq_none h] at hj; cases hj)
 show a.tmps.getD s undef = a0.tmps.getD s undef
 rw [Array.getD_eq_getD_getElem?, Array.getD_eq_getD_getElem?, h]
theorem St.outV {T : Nat → (Nat → Value) → World → Prop} {s : Tmp} {v : Value} (st : St ops T G a0 L a w) (hs : ((List.range ops.size).all fun j => slotOf ops j != some s) = true) (hv : a0.eval (.tmp s) = v) : a.eval (.tmp s) = v := (st.sameG hs).trans hv
theorem payV {v : Value} (st : St ops (TV vs) G a0 L a w) (hw : Region.wanted o (yielded ops a.tmps) = true) (hrun : (execOp a.eval o).run P w = .ok (.value v) w) (hv : vs.getD i none = some v) : Owes P ops Q (TV vs) G L i o a w :=
 Owes.pure hw hrun (TV.self hv) st.g
theorem payV_move {x : Operand} {v : Value} (st : St ops (TV vs) G a0 L a w) (hw : Region.wanted o (yielded ops a.tmps) = true) (hop : o.op = .move x) (hx : a.eval x = v) (hv : vs.getD i none = some v) : Owes P ops Q (TV vs) G L i o a w :=
 payV st hw ((run_move hop).trans (by rw [hx])) hv
theorem payV_pick {c x y : Operand} {b : Bool} {v : Value} (st : St ops (TV vs) G a0 L a w) (hw : Region.wanted o (yielded ops a.tmps) = true) (hop : o.op = .pick c x y) (hc : a.eval c = .bool b) (hx : (if b then a.eval x else a.eval y) = v) (hv : vs.getD i none = some v) : Owes P ops Q (TV vs) G L i o a w :=
 payV st hw ((run_pick hop hc).trans (by rw [hx])) hv
theorem St.wantV {g : Nat} {b : Bool} (st : St ops (TV vs) G a0 L a w) (haft : ∀ e ∈ o.after, L e.on = true) (hg : o.guard = some (g, b)) (hl : (o.after.any fun e => e.on == g) = true) (hv : vs.getD g none = some (.bool b)) : Region.wanted o (yielded ops a.tmps) = true := by
 have := st.t g (aft_of haft hl)
 unfold TV at this
 rw [hv] at this
 exact want_of hg this
theorem St.skipV {g : Nat} {b : Bool} (st : St ops (TV vs) G a0 L a w) (haft : ∀ e ∈ o.after, L e.on = true) (hg : o.guard = some (g, b)) (hl : (o.after.any fun e => e.on == g) = true) (hv : vs.getD g none = some (.bool (!b))) (hi : vs.getD i none = none) : Owes P ops Q (TV vs) G L i o a w := by
 have := st.t g (aft_of haft hl)
 unfold TV at this
 rw [hv] at this
 exact Owes.skipped (want_not hg this) (TV.none hi) st.g
theorem region_v {id n : Nat} (vs : List (Option Value)) (w0 : World) (hm : P.follows .mixedOrders = true) (hwf : wfR ops a0.tmps.size = true) (hb : bindsAll ops = true) (hd : okV ops vs = true) (hl : vs.length = ops.size) (hn : ops.size = n)
  (steps : AllS n fun i => ∀ (o : Oper) (a : Act) (w : World) (L : Nat → Bool), ops[i]? = some o → L i = false → (∀ e ∈ o.after, L e.on = true) → St ops (TV vs) (fun w => w = w0.drew) a0 L a w → Owes P ops Q (TV vs) (fun w => w = w0.drew) L i o a w)
  (fin : ∀ L a w, (∀ i, i < n → L i = true) → St ops (TV vs) (fun w => w = w0.drew) a0 L a w → Q .normal a w) : (Code.region id ops true).wp P Q a0 w0 :=
 region_steps (G := fun w => w = w0.drew) hm hwf hb (tv_deps hd hl) rfl hn steps fin

/-! #### one after another -/
theorem ev_put {d : Tmp} {s : Tmp} {v : Value} : (a.put (some d) v).eval (.tmp s) = if s = d then (if d < a.tmps.size then v else undef) else a.eval (.tmp s) := by
 show (a.tmps.setIfInBounds d v).getD s undef = _
 rw [Array.getD_eq_getD_getElem?, Array.getElem?_setIfInBounds]
 by_cases h : s = d
 ·subst h
  simp only [if_true]
  split <;> rfl
 ·rw [if_neg (fun e => h e.symm), if_neg h]
  show _ = a.tmps.getD s undef
  rw [Array.getD_eq_getD_getElem?]
theorem size_put {d : Option Tmp} {v : Value} : (a.put d v).tmps.size = a.tmps.size := by cases d <;> simp [Act.put]
theorem defers_put {d : Option Tmp} {v : Value} : (a.put d v).defers = a.defers := by cases d <;> rfl
theorem seq_start {id n : Nat} (hn : ops.size = n) (h : wpOps P ops Q (List.range n) a w) : (Code.region id ops false).wp P Q a w := by
 subst hn; exact wp_region h
theorem seq_val {l : List Nat} {v : Value} {w' : World} (ho : ops[i]? = some o) (hg : o.guard = none) (hrun : (execOp a.eval o).run P w = .ok (.value v) w') (h : wpOps P ops Q l (a.put o.dst v) w') : wpOps P ops Q (i :: l) a w := by
 rw [wpOps_cons]
 unfold wpOp
 rw [ho]
 show if Region.wanted o (yielded ops a.tmps) = true then _ else _
 rw [if_pos (want_none hg)]
 left
 unfold Oper.wp
 rw [hrun]
 exact h
theorem seq_skip {l : List Nat} {w' : World} (ho : ops[i]? = some o) (hg : o.guard = none) (hrun : (execOp a.eval o).run P w = .ok .skip w') (h : wpOps P ops Q l (a.put o.dst undef) w') : wpOps P ops Q (i :: l) a w := by
 rw [wpOps_cons]
 unfold wpOp
 rw [ho]
 show if Region.wanted o (yielded ops a.tmps) = true then _ else _
 rw [if_pos (want_none hg)]
 left
 unfold Oper.wp
 rw [hrun]
 exact h
theorem seq_call {l : List Nat} {f : FuncId} {xs : Array Operand} {ts : Array TypeId} {args : Array Value} (ho : ops[i]? = some o) (hg : o.guard = none) (he : Enters P f) (hop : o.op = .call { callee := .value (.func f), args := xs, argTypes := ts }) (hargs : xs.map a.eval = args)
  (hc : Calls P f args w fun e w' => ∃ v, e = .returned v ∧ wpOps P ops Q l (a.put o.dst v) w') : wpOps P ops Q (i :: l) a w := by
 subst hargs
 rw [wpOps_cons]
 unfold wpOp
 rw [ho]
 show if Region.wanted o (yielded ops a.tmps) = true then _ else _
 rw [if_pos (want_none hg)]
 left
 unfold Oper.wp
 rw [run_call_fn he hop]
 refine hc.mono ?_
 rintro e w' ⟨v, rfl, h⟩
 exact h
theorem seq_nil (h : Q .normal a w) : wpOps P ops Q [] a w := h
end
section
variable {P : Program} {ops : Array Oper} {Q : Exit → Act → World → Prop}
/-- Where the region stands: the operations of L are done. -/
structure StW (ops : Array Oper) (T : Nat → (Nat → Value) → World → Prop) (G : (Nat → Bool) → World → Prop) (a0 : Act) (L : Nat → Bool) (a : Act) (w : World) : Prop where
 g : G L w
 defers : a.defers = a0.defers
 size : a.tmps.size = a0.tmps.size
 outer : ∀ s, (∀ i, slotOf ops i ≠ some s) → a.tmps[s]? = a0.tmps[s]?
 down : ∀ i o, ops[i]? = some o → L i = true → ∀ e ∈ o.after, L e.on = true
 inn : ∀ i, L i = true → i < ops.size
 t : ∀ i, L i = true → T i (vat ops a) w

/-- What operation i owes. -/
def OwesW (P : Program) (ops : Array Oper) (Q : Exit → Act → World → Prop) (T : Nat → (Nat → Value) → World → Prop) (G : (Nat → Bool) → World → Prop) (L : Nat → Bool) (i : Nat) (o : Oper) (a : Act) (w : World) : Prop :=
 ∀ K : Act → World → Prop, (∀ v w', T i (fun j => if j = i then v else vat ops a j) w' → G (fun j => decide (j = i) || L j) w' → (∀ j, j ≠ i → L j = true → T j (vat ops a) w → T j (vat ops a) w') → K (a.put o.dst v) w') →
  if Region.wanted o (yielded ops a.tmps) = true then o.wp P a w K Q else K (a.put o.dst undef) w

variable {T : Nat → (Nat → Value) → World → Prop} {G : (Nat → Bool) → World → Prop} {a0 : Act}
theorem StW.next {D : Nat → List Nat} {L : Nat → Bool} {i : Nat} {o : Oper} {a : Act} {w w' : World} {v : Value} (hwf : wfR ops a0.tmps.size = true) (hD : Deps ops T D) (st : StW ops T G a0 L a w) (ho : ops[i]? = some o) (hL : L i = false)
  (haft : ∀ e ∈ o.after, L e.on = true) (hT : T i (fun j => if j = i then v else vat ops a j) w') (hG : G (fun j => decide (j = i) || L j) w') (hst : ∀ j, j ≠ i → L j = true → T j (vat ops a) w → T j (vat ops a) w') :
  StW ops T G a0 (fun j => decide (j = i) || L j) (a.put o.dst v) w' where
 g := hG
 defers := by rw [← st.defers]; cases o.dst <;> rfl
 size := by rw [← st.size]; cases o.dst <;> simp [Act.put]
 outer := fun s hs => by
  rw [← st.outer s hs]
  cases hd : o.dst with
  | none => rfl
  | some d =>
   have hne : d ≠ s := by
    rintro rfl
    exact hs i (by unfold slotOf; rw [ho, Option.bind_some, hd])
   simp [Act.put, hne]
 down := fun k o' hk hlk e he => by
  rw [Bool.or_eq_true, decide_eq_true_iff] at hlk ⊢
  rcases hlk with rfl | hlk
  ·have : o' = o := Option.some.inj (hk.symm.trans ho)
   subst this
   exact .inr (haft e he)
  ·exact .inr (st.down k o' hk hlk e he)
 inn := fun k hk => by
  rw [Bool.or_eq_true, decide_eq_true_iff] at hk
  rcases hk with rfl | hk
  ·exact (Array.getElem?_eq_some_iff.1 ho).1
  ·exact st.inn k hk
 t := fun k hk => by
  rw [Bool.or_eq_true, decide_eq_true_iff] at hk
  by_cases e : k = i
  ·subst e
   refine hD.dep k _ _ w' ?_ ?_ hT
   ·by_cases hd : o.dst = none
    ·right; unfold slotOf; rw [ho, Option.bind_some, hd]
    ·left; rw [vat_put hwf st.size ho hd rfl]; simp
   ·intro j hj
    obtain ⟨e, he, rfl⟩ := hD.aft k o ho j hj
    have hlt := (wf_at hwf ho).1 e he
    have hne : e.on ≠ k := by omega
    rw [vat_put_far hwf ho hne, if_neg hne]
  ·have hk' : L k = true := by rcases hk with h | h; exact absurd h e; exact h
   refine hD.dep k _ _ w' (.inl (vat_put_far hwf ho e).symm) ?_ (hst k e hk' (st.t k hk'))
   intro j hj
   have hkl := st.inn k hk'
   obtain ⟨ok, hok⟩ : ∃ ok, ops[k]? = some ok := ⟨ops[k], Array.getElem?_eq_getElem hkl⟩
   obtain ⟨ed, hed, rfl⟩ := hD.aft k ok hok j hj
   have hlj := st.down k ok hok hk' ed hed
   have hne : ed.on ≠ i := fun e' => by rw [e', hL] at hlj; cases hlj
   exact (vat_put_far hwf ho hne).symm

theorem wpAny_invW {D : Nat → List Nat} (hwf : wfR ops a0.tmps.size = true) (hD : Deps ops T D)
  (hnb : ∀ (i : Nat) (o : Oper), ops[i]? = some o → ∀ e ∈ o.after, Region.binds .any e = true)
  (step : ∀ (i : Nat) (o : Oper) (a : Act) (w : World) (L : Nat → Bool), ops[i]? = some o → L i = false → (∀ e ∈ o.after, L e.on = true) → StW ops T G a0 L a w → OwesW P ops Q T G L i o a w)
  (fin : ∀ L a w, (∀ i, i < ops.size → L i = true) → StW ops T G a0 L a w → Q .normal a w) :
  ∀ (fuel : Nat) (listed : Array Bool) (a : Act) (w : World), listed.size = ops.size → leftN listed ≤ fuel → StW ops T G a0 (fun i => listed.getD i false) a w → wpAny P .any ops Q fuel listed a w := by
 intro fuel
 induction fuel with
 | zero =>
  intro listed a w hs hl st
  have hall : ∀ i, i < ops.size → listed.getD i false = true := fun i hi => left_zero (by omega) (by omega)
  refine ⟨?_, fin _ a w hall st⟩
  unfold Region.ready
  rw [List.filter_eq_nil_iff]
  intro i hi
  have hi' : i < ops.size := by simpa using hi
  have h1 := hall i hi'
  have hlt : i < listed.size := by omega
  have : listed.getD i true = true := by simp [hlt] at h1 ⊢; exact h1
  rw [this]; simp
 | succ fuel ih =>
  intro listed a w hs hl st
  refine ⟨fun h => fin _ a w (ready_nil hwf hs h) st, fun i hi => ?_⟩
  unfold Region.ready at hi
  rw [List.mem_filter] at hi
  have hi' : i < ops.size := by simpa using hi.1
  have ho : ops[i]? = some ops[i] := Array.getElem?_eq_getElem hi'
  have hlt : i < listed.size := by omega
  rw [ho] at hi
  simp only [Option.map_some, Option.getD_some, Bool.and_eq_true, Bool.not_eq_true'] at hi
  have hf : listed.getD i false = false := by
   have := hi.2.1
   simp [hlt] at this ⊢; exact this
  have haft : ∀ e ∈ (ops[i]).after, listed.getD e.on false = true := fun e he => by
   have := (Array.all_eq_true'.1 hi.2.2) e he
   rw [hnb i _ ho e he] at this
   simpa using this
  have key := step i _ a w (fun i => listed.getD i false) ho hf haft st (wpAny P .any ops Q fuel (listed.setIfInBounds i true)) (fun v w' h1 h2 h3 => by
   have st' := st.next hwf hD ho hf haft h1 h2 h3
   refine ih _ _ _ (by simp [hs]) (by have := leftN_set hlt hf; omega) ?_
   rw [show (fun j => (listed.setIfInBounds i true).getD j false) = fun j => decide (j = i) || listed.getD j false from funext fun j => setB_get hlt]
   exact st')
  unfold wpOp
  rw [ho]
  show if Region.wanted ops[i] (yielded ops a.tmps) = true then _ else _
  split
  ·rename_i hw; rw [if_pos hw] at key; exact .inl key
  ·rename_i hw; rw [if_neg hw] at key; exact key
theorem region_allW {id : Nat} {w0 : World} {D : Nat → List Nat} (hm : P.follows .mixedOrders = true) (hwf : wfR ops a0.tmps.size = true) (hb : bindsAll ops = true) (hD : Deps ops T D) (hG : G (fun _ => false) w0.drew)
  (step : ∀ (i : Nat) (o : Oper) (a : Act) (w : World) (L : Nat → Bool), ops[i]? = some o → L i = false → (∀ e ∈ o.after, L e.on = true) → StW ops T G a0 L a w → OwesW P ops Q T G L i o a w)
  (fin : ∀ L a w, (∀ i, i < ops.size → L i = true) → StW ops T G a0 L a w → Q .normal a w) : (Code.region id ops true).wp P Q a0 w0 := by
 refine wp_region_any hm ?_
 have hb' : ∀ (i : Nat) (o : Oper), ops[i]? = some o → ∀ e ∈ o.after, Region.binds .any e = true := fun i o ho e he => by
  have h1 := (Array.all_eq_true'.1 hb) o (Array.mem_of_getElem? ho)
  exact (Array.all_eq_true'.1 h1) e he
 have hz : ∀ i, (Array.replicate ops.size false).getD i false = false := fun i => by
  rw [Array.getD_eq_getD_getElem?]
  cases h : (Array.replicate ops.size false)[i]? with
  | none => rfl
  | some b =>
   obtain ⟨h1, h2⟩ := Array.getElem?_eq_some_iff.1 h
   simpa using h2.symm
 refine wpAny_invW hwf hD hb' step fin ops.size _ a0 _ (by simp) ?_ ⟨by rw [show (fun i => (Array.replicate ops.size false).getD i false) = fun _ => false from funext hz]; exact hG, rfl, rfl, fun _ _ => rfl, fun i o _ h => ?_, fun i h => ?_, fun i h => ?_⟩
 ·unfold leftN
  exact Nat.le_trans (List.length_filter_le _ _) (by simp)
 ·rw [hz] at h; cases h
 ·rw [hz] at h; cases h
 ·rw [hz] at h; cases h
end
theorem wpOps_invW {P : Program} {ops : Array Oper} {Q : Exit → Act → World → Prop} {T : Nat → (Nat → Value) → World → Prop} {G : (Nat → Bool) → World → Prop} {a0 : Act} {D : Nat → List Nat} (hwf : wfR ops a0.tmps.size = true) (hD : Deps ops T D)
  (step : ∀ (i : Nat) (o : Oper) (a : Act) (w : World) (L : Nat → Bool), ops[i]? = some o → L i = false → (∀ e ∈ o.after, L e.on = true) → StW ops T G a0 L a w → OwesW P ops Q T G L i o a w)
  (fin : ∀ L a w, (∀ i, i < ops.size → L i = true) → StW ops T G a0 L a w → Q .normal a w) :
  ∀ (m k : Nat) (a : Act) (w : World), k + m = ops.size → StW ops T G a0 (fun i => decide (i < k)) a w → wpOps P ops Q (List.range' k m) a w := by
 intro m
 induction m with
 | zero =>
  intro k a w hk st
  exact fin _ a w (fun i hi => by simpa using (by omega : i < k)) st
 | succ m ih =>
  intro k a w hk st
  have hlt : k < ops.size := by omega
  have ho : ops[k]? = some ops[k] := Array.getElem?_eq_getElem hlt
  have haft : ∀ e ∈ (ops[k]).after, decide (e.on < k) = true := fun e he => by simpa using (wf_at hwf ho).1 e he
  have hL : decide (k < k) = false := by simp
  rw [List.range'_succ, wpOps_cons]
  have key := step k _ a w (fun i => decide (i < k)) ho hL haft st (wpOps P ops Q (List.range' (k + 1) m)) (fun v w' h1 h2 h3 => by
   have st' := st.next hwf hD ho hL haft h1 h2 h3
   refine ih (k + 1) _ _ (by omega) ?_
   rw [show (fun j => decide (j < k + 1)) = fun j => decide (j = k) || decide (j < k) from funext fun j => by
    by_cases h : j = k
    ·simp [h]
    ·by_cases h' : j < k
     ·simp [h']; omega
     ·simp [h, h']; omega]
   exact st')
  unfold wpOp
  rw [ho]
  show if Region.wanted ops[k] (yielded ops a.tmps) = true then _ else _
  split
  ·rename_i hw; rw [if_pos hw] at key; exact .inl key
  ·rename_i hw; rw [if_neg hw] at key; exact key
theorem region_seqW {P : Program} {ops : Array Oper} {Q : Exit → Act → World → Prop} {T : Nat → (Nat → Value) → World → Prop} {G : (Nat → Bool) → World → Prop} {a0 : Act} {id n : Nat} {w0 : World} {D : Nat → List Nat}
  (hwf : wfR ops a0.tmps.size = true) (hD : Deps ops T D) (hG : G (fun _ => false) w0) (hn : ops.size = n)
  (steps : AllS n fun i => ∀ (o : Oper) (a : Act) (w : World) (L : Nat → Bool), ops[i]? = some o → L i = false → (∀ e ∈ o.after, L e.on = true) → StW ops T G a0 L a w → OwesW P ops Q T G L i o a w)
  (fin : ∀ L a w, (∀ i, i < n → L i = true) → StW ops T G a0 L a w → Q .normal a w) : (Code.region id ops false).wp P Q a0 w0 := by
 subst hn
 refine wp_region ?_
 rw [List.range_eq_range']
 refine wpOps_invW hwf hD (fun i o a w L ho => steps.at i (Array.getElem?_eq_some_iff.1 ho).1 o a w L ho) fin ops.size 0 a0 w0 (by omega) ⟨by rw [show (fun i => decide (i < 0)) = fun _ => false from funext fun i => by simp]; exact hG, rfl, rfl, fun _ _ => rfl, fun i o _ h => ?_, fun i h => ?_, fun i h => ?_⟩
 ·simp at h
 ·simp at h
 ·simp at h
theorem region_stepsW {P : Program} {ops : Array Oper} {Q : Exit → Act → World → Prop} {T : Nat → (Nat → Value) → World → Prop} {G : (Nat → Bool) → World → Prop} {a0 : Act} {id n : Nat} {w0 : World} {D : Nat → List Nat}
  (hm : P.follows .mixedOrders = true) (hwf : wfR ops a0.tmps.size = true) (hb : bindsAll ops = true) (hD : Deps ops T D) (hG : G (fun _ => false) w0.drew) (hn : ops.size = n)
  (steps : AllS n fun i => ∀ (o : Oper) (a : Act) (w : World) (L : Nat → Bool), ops[i]? = some o → L i = false → (∀ e ∈ o.after, L e.on = true) → StW ops T G a0 L a w → OwesW P ops Q T G L i o a w)
  (fin : ∀ L a w, (∀ i, i < n → L i = true) → StW ops T G a0 L a w → Q .normal a w) : (Code.region id ops true).wp P Q a0 w0 := by
 subst hn
 exact region_allW hm hwf hb hD hG (fun i o a w L ho => steps.at i (Array.getElem?_eq_some_iff.1 ho).1 o a w L ho) fin
theorem ev_tmps {a : Act} {s : Tmp} {v : Value} (h : a.tmps[s]? = some v) : a.eval (.tmp s) = v := by
 show a.tmps.getD s undef = v
 rw [Array.getD_eq_getD_getElem?, h]; rfl
theorem args_one {a : Act} {x : Operand} {v : Value} (h : a.eval x = v) : (#[x] : Array Operand).map a.eval = #[v] := by simp [h]
theorem add0 (g k : Nat) : (⟨g, 0, none⟩ : Addr).add k = ⟨g, k, none⟩ := by unfold Addr.add; split <;> simp_all
section
variable {P : Program} {ops : Array Oper} {Q : Exit → Act → World → Prop} {a : Act} {w : World} {i : Nat} {o : Oper}
theorem ev_same {d : Tmp} {v : Value} (h : d < a.tmps.size) : (a.put (some d) v).eval (.tmp d) = v := by rw [ev_put, if_pos rfl, if_pos h]
theorem ev_ne {d s : Tmp} {v : Value} (h : s ≠ d) : (a.put (some d) v).eval (.tmp s) = a.eval (.tmp s) := by rw [ev_put, if_neg h]
theorem seq_startL {id : Nat} {l : List Nat} (hn : List.range ops.size = l) (h : wpOps P ops Q l a w) : (Code.region id ops false).wp P Q a w := by
 subst hn; exact wp_region h
theorem seq_valD (d : Tmp) {l : List Nat} {v : Value} {w' : World} (ho : ops[i]? = some o) (hg : o.guard = none) (hd : o.dst = some d) (hrun : (execOp a.eval o).run P w = .ok (.value v) w') (h : wpOps P ops Q l (a.put (some d) v) w') : wpOps P ops Q (i :: l) a w :=
 seq_val ho hg hrun (by rw [hd]; exact h)
theorem seq_skipD {l : List Nat} {w' : World} (ho : ops[i]? = some o) (hg : o.guard = none) (hd : o.dst = none) (hrun : (execOp a.eval o).run P w = .ok .skip w') (h : wpOps P ops Q l a w') : wpOps P ops Q (i :: l) a w :=
 seq_skip ho hg hrun (by rw [hd]; exact h)
theorem seq_callD (d : Tmp) {l : List Nat} {f : FuncId} {xs : Array Operand} {ts : Array TypeId} {args : Array Value} (ho : ops[i]? = some o) (hg : o.guard = none) (hd : o.dst = some d) (he : Enters P f) (hop : o.op = .call { callee := .value (.func f), args := xs, argTypes := ts }) (hargs : xs.map a.eval = args)
  (hc : Calls P f args w fun e w' => ∃ v, e = .returned v ∧ wpOps P ops Q l (a.put (some d) v) w') : wpOps P ops Q (i :: l) a w :=
 seq_call ho hg he hop hargs (by rw [hd]; exact hc)
theorem seq_move (d : Tmp) {l : List Nat} {x : Operand} {v : Value} (ho : ops[i]? = some o) (hg : o.guard = none) (hd : o.dst = some d) (hop : o.op = .move x) (hx : a.eval x = v) (h : wpOps P ops Q l (a.put (some d) v) w) : wpOps P ops Q (i :: l) a w :=
 seq_valD d ho hg hd ((run_move hop).trans (by rw [hx])) h
theorem seq_assign (d : Tmp) {l : List Nat} {x : Operand} {v : Value} (ho : ops[i]? = some o) (hg : o.guard = none) (hd : o.dst = some d) (hop : o.op = .assign x) (hx : a.eval x = v) (h : wpOps P ops Q l (a.put (some d) v) w) : wpOps P ops Q (i :: l) a w :=
 seq_valD d ho hg hd ((run_assign hop).trans (by rw [hx])) h
end

/-- The world before, and behind, operation s. -/
def GS (s : Nat) (W1 W2 : World) (L : Nat → Bool) (w : World) : Prop := w = if L s = true then W2 else W1
/-- Operation s, if it is there, waits for all ahead of it. -/
def lastOk (ops : Array Oper) (s : Nat) : Bool := match ops[s]? with
 | none => true
 | some o => (List.range s).all fun i => o.after.any fun e => e.on == i
section
variable {P : Program} {ops : Array Oper} {Q : Exit → Act → World → Prop} {vs : List (Option Value)} {a0 : Act} {W1 W2 : World} {L : Nat → Bool} {i s : Nat} {o : Oper} {a : Act} {w : World}
theorem StW.first (st : StW ops (TV vs) (GS s W1 W2) a0 L a w) (h : lastOk ops s = true) (hL : L i = false) (hi : i ≤ s) : L s = false := by
 cases e : L s with
 | false => rfl
 | true =>
  have hlt := st.inn s e
  have ho : ops[s]? = some ops[s] := Array.getElem?_eq_getElem hlt
  rcases Nat.lt_or_ge i s with h' | h'
  ·unfold lastOk at h
   rw [ho] at h
   have := List.all_eq_true.1 h i (by simpa using h')
   obtain ⟨k, hk, he⟩ := Array.any_eq_true.1 this
   have := st.down s _ ho e _ (Array.getElem_mem hk)
   rw [show ((ops[s]).after[k]).on = i by simpa using he, hL] at this
   cases this
  ·have : i = s := by omega
   rw [this, e] at hL; cases hL
theorem StW.at1 (st : StW ops (TV vs) (GS s W1 W2) a0 L a w) (h : lastOk ops s = true) (hL : L i = false) (hi : i ≤ s) : w = W1 := by
 have g := st.g
 unfold GS at g
 rw [st.first h hL hi] at g
 simpa using g
theorem StW.argV {j : Nat} {d : Tmp} {v : Value} (st : StW ops (TV vs) (GS s W1 W2) a0 L a w) (hl : L j = true) (hs : slotOf ops j = some d) (hv : vs.getD j none = some v) : a.eval (.tmp d) = v := by
 have := st.t j hl
 unfold TV at this
 rw [hv] at this
 rw [eval_slot hs]; exact this
theorem StW.sameG {T : Nat → (Nat → Value) → World → Prop} {G : (Nat → Bool) → World → Prop} {s : Tmp} (st : StW ops T G a0 L a w) (hs : ((List.range ops.size).all fun j => slotOf ops j != some s) = true) : a.tmps[s]? = a0.tmps[s]? :=
 st.outer s (fun j hj => by
  rcases Nat.lt_or_ge j ops.size with h | h
  ·have := List.all_eq_true.1 hs j (by simpa using h)
   rw [hj] at this; simp at this
  ·unfold slotOf at hj; rw [Array.getElem?_eq_none h] at hj; cases hj)
theorem StW.outV {T : Nat → (Nat → Value) → World → Prop} {G : (Nat → Bool) → World → Prop} {s : Tmp} {v : Value} (st : StW ops T G a0 L a w) (hs : ((List.range ops.size).all fun j => slotOf ops j != some s) = true) (hv : a0.eval (.tmp s) = v) : a.eval (.tmp s) = v := by
 rw [← hv]
 show a.tmps.getD s undef = a0.tmps.getD s undef
 rw [Array.getD_eq_getD_getElem?, Array.getD_eq_getD_getElem?, st.sameG hs]
theorem StW.wantV {g : Nat} {b : Bool} (st : StW ops (TV vs) (GS s W1 W2) a0 L a w) (haft : ∀ e ∈ o.after, L e.on = true) (hg : o.guard = some (g, b)) (hl : (o.after.any fun e => e.on == g) = true) (hv : vs.getD g none = some (.bool b)) : Region.wanted o (yielded ops a.tmps) = true := by
 have := st.t g (aft_of haft hl)
 unfold TV at this
 rw [hv] at this
 exact want_of hg this
theorem payW {v : Value} (st : StW ops (TV vs) (GS s W1 W2) a0 L a w) (h : lastOk ops s = true) (hL : L i = false) (hi : i < s) (hw : Region.wanted o (yielded ops a.tmps) = true) (hrun : (execOp a.eval o).run P W1 = .ok (.value v) W1) (hv : vs.getD i none = some v) : OwesW P ops Q (TV vs) (GS s W1 W2) L i o a w := fun K hK => by
 have hf := st.first h hL (Nat.le_of_lt hi)
 obtain rfl : w = W1 := st.at1 h hL (Nat.le_of_lt hi)
 rw [if_pos hw]
 unfold Oper.wp
 rw [hrun]
 refine hK v w (TV.self hv) ?_ (fun _ _ _ h => h)
 unfold GS
 have : s ≠ i := by omega
 simp [hf, this]
theorem StW.skipV {g : Nat} {b : Bool} (st : StW ops (TV vs) (GS s W1 W2) a0 L a w) (h : lastOk ops s = true) (hL : L i = false) (hi : i < s) (haft : ∀ e ∈ o.after, L e.on = true) (hg : o.guard = some (g, b)) (hl : (o.after.any fun e => e.on == g) = true) (hv : vs.getD g none = some (.bool (!b))) (hn : vs.getD i none = none) : OwesW P ops Q (TV vs) (GS s W1 W2) L i o a w := fun K hK => by
 have := st.t g (aft_of haft hl)
 unfold TV at this
 rw [hv] at this
 have hf := st.first h hL (Nat.le_of_lt hi)
 obtain rfl : w = W1 := st.at1 h hL (Nat.le_of_lt hi)
 rw [if_neg (by rw [want_not hg this]; decide)]
 refine hK undef w (TV.none hn) ?_ (fun _ _ _ h => h)
 unfold GS
 have : s ≠ i := by omega
 simp [hf, this]
theorem want_undef {g : Nat} {b : Bool} (h : o.guard = some (g, b)) (hv : vat ops a g = undef) : Region.wanted o (yielded ops a.tmps) = false := by
 have e : yielded ops a.tmps g = none := by
  unfold yielded
  unfold vat slotOf at hv
  cases hs : (ops[g]?).bind (·.dst) with
  | none => rfl
  | some d =>
   rw [hs] at hv
   simp only [Array.getD_eq_getD_getElem?] at hv
   rw [Option.bind_some]
   cases ht : a.tmps[d]? with
   | none => rfl
   | some v => rw [ht] at hv; obtain rfl : v = undef := hv; rfl
 unfold Region.wanted; rw [h]; simp [e]
theorem StW.skipW {g : Nat} {b : Bool} {u : Value} (st : StW ops (TV vs) (GS s W1 W2) a0 L a w) (h : lastOk ops s = true) (hL : L i = false) (hi : i < s) (haft : ∀ e ∈ o.after, L e.on = true) (hg : o.guard = some (g, b)) (hl : (o.after.any fun e => e.on == g) = true) (hv : vs.getD g none = some u) (hu : u = .bool (!b) ∨ u = undef) (hn : vs.getD i none = some undef) : OwesW P ops Q (TV vs) (GS s W1 W2) L i o a w := fun K hK => by
 have := st.t g (aft_of haft hl)
 unfold TV at this
 rw [hv] at this
 have hf := st.first h hL (Nat.le_of_lt hi)
 obtain rfl : w = W1 := st.at1 h hL (Nat.le_of_lt hi)
 have hw : Region.wanted o (yielded ops a.tmps) = false := by
  rcases hu with rfl | rfl
  ·exact want_not hg this
  ·exact want_undef hg this
 rw [if_neg (by rw [hw]; decide)]
 refine hK undef w (TV.self hn) ?_ (fun _ _ _ h => h)
 unfold GS
 have : s ≠ i := by omega
 simp [hf, this]
theorem payW_move {x : Operand} {v : Value} (st : StW ops (TV vs) (GS s W1 W2) a0 L a w) (h : lastOk ops s = true) (hL : L i = false) (hi : i < s) (hw : Region.wanted o (yielded ops a.tmps) = true) (hop : o.op = .move x) (hx : a.eval x = v) (hv : vs.getD i none = some v) : OwesW P ops Q (TV vs) (GS s W1 W2) L i o a w :=
 payW st h hL hi hw ((run_move hop).trans (by rw [hx])) hv
theorem run_assignV {x : Operand} {v : Value} (hop : o.op = .assign x) (hx : a.eval x = v) : (execOp a.eval o).run P w = .ok (.value v) w := (run_assign hop).trans (by rw [hx])
theorem payW_pick {c x y : Operand} {b : Bool} {v : Value} (st : StW ops (TV vs) (GS s W1 W2) a0 L a w) (h : lastOk ops s = true) (hL : L i = false) (hi : i < s) (hw : Region.wanted o (yielded ops a.tmps) = true) (hop : o.op = .pick c x y) (hc : a.eval c = .bool b) (hx : (if b then a.eval x else a.eval y) = v) (hv : vs.getD i none = some v) : OwesW P ops Q (TV vs) (GS s W1 W2) L i o a w :=
 payW st h hL hi hw ((run_pick hop hc).trans (by rw [hx])) hv
theorem storeW (st : StW ops (TV vs) (GS i W1 W2) a0 L a w) (h : lastOk ops i = true) (hL : L i = false) (hw : Region.wanted o (yielded ops a.tmps) = true) (hrun : (execOp a.eval o).run P W1 = .ok .skip W2) (hv : vs.getD i none = none) : OwesW P ops Q (TV vs) (GS i W1 W2) L i o a w := fun K hK => by
 obtain rfl : w = W1 := st.at1 h hL (Nat.le_refl _)
 rw [if_pos hw]
 unfold Oper.wp
 rw [hrun]
 refine hK undef W2 (TV.none hv) ?_ (fun _ _ _ h => h)
 unfold GS
 simp
theorem region_w {id n : Nat} (vs : List (Option Value)) (s : Nat) (w0 W2 : World) (hm : P.follows .mixedOrders = true) (hwf : wfR ops a0.tmps.size = true) (hb : bindsAll ops = true) (hd : okV ops vs = true) (hl : vs.length = ops.size) (hn : ops.size = n)
  (steps : AllS n fun i => ∀ (o : Oper) (a : Act) (w : World) (L : Nat → Bool), ops[i]? = some o → L i = false → (∀ e ∈ o.after, L e.on = true) → StW ops (TV vs) (GS s w0.drew W2) a0 L a w → OwesW P ops Q (TV vs) (GS s w0.drew W2) L i o a w)
  (fin : ∀ L a w, (∀ i, i < n → L i = true) → StW ops (TV vs) (GS s w0.drew W2) a0 L a w → Q .normal a w) : (Code.region id ops true).wp P Q a0 w0 :=
 region_stepsW (G := GS s w0.drew W2) hm hwf hb (tv_deps hd hl) (by unfold GS; simp) hn steps fin
theorem region_ws {id n : Nat} (vs : List (Option Value)) (s : Nat) (w0 W2 : World) (hwf : wfR ops a0.tmps.size = true) (hd : okV ops vs = true) (hl : vs.length = ops.size) (hn : ops.size = n)
  (steps : AllS n fun i => ∀ (o : Oper) (a : Act) (w : World) (L : Nat → Bool), ops[i]? = some o → L i = false → (∀ e ∈ o.after, L e.on = true) → StW ops (TV vs) (GS s w0 W2) a0 L a w → OwesW P ops Q (TV vs) (GS s w0 W2) L i o a w)
  (fin : ∀ L a w, (∀ i, i < n → L i = true) → StW ops (TV vs) (GS s w0 W2) a0 L a w → Q .normal a w) : (Code.region id ops false).wp P Q a0 w0 :=
 region_seqW (G := GS s w0 W2) hwf (tv_deps hd hl) (by unfold GS; simp) hn steps fin
theorem StW.end2 {n : Nat} (st : StW ops (TV vs) (GS s W1 W2) a0 L a w) (hL : ∀ i, i < n → L i = true) (hs : s < n) : w = W2 := by
 have g := st.g
 unfold GS at g
 rwa [hL s hs, if_pos rfl] at g
theorem StW.end1 (st : StW ops (TV vs) (GS s W1 W2) a0 L a w) (hs : ops.size ≤ s) : w = W1 := by
 have g := st.g
 unfold GS at g
 have : L s = false := by
  cases e : L s with
  | false => rfl
  | true => exact absurd (st.inn s e) (by omega)
 rw [this] at g
 simpa using g
/-- The slots below m lie as they lay. -/
structure KeepM (m : Nat) (xs : List Nat) (a0 a : Act) : Prop where
 defers : a.defers = a0.defers
 size : a.tmps.size = a0.tmps.size
 var : ∀ s, s < m → xs.contains s = false → a.tmps[s]? = a0.tmps[s]?
theorem KeepM.refl (m : Nat) (xs : List Nat) (a : Act) : KeepM m xs a a := ⟨rfl, rfl, fun _ _ _ => rfl⟩
theorem KeepM.put {m : Nat} {xs : List Nat} {a0 a : Act} {d : Tmp} {v : Value} (h : KeepM m xs a0 a) (hd : (decide (m ≤ d) || xs.contains d) = true) : KeepM m xs a0 (a.put (some d) v) :=
 ⟨by rw [defers_put]; exact h.defers, by rw [size_put]; exact h.size, fun s hs hx => by
  rw [← h.var s hs hx]
  have hne : d ≠ s := by
   rintro rfl
   rcases Bool.or_eq_true_iff.1 hd with h1 | h1
   ·exact absurd (show m ≤ d from of_decide_eq_true h1) (Nat.not_le.2 hs)
   ·rw [hx] at h1; cases h1
  show (a.tmps.setIfInBounds d v)[s]? = _
  rw [Array.getElem?_setIfInBounds, if_neg hne]⟩
theorem KeepM.trans {m : Nat} {xs : List Nat} {a b c : Act} (h : KeepM m xs a b) (k : KeepM m xs b c) : KeepM m xs a c := ⟨k.defers.trans h.defers, k.size.trans h.size, fun s hs hx => (k.var s hs hx).trans (h.var s hs hx)⟩
theorem contains_sub {xs ys : List Nat} (h : xs.all ys.contains = true) (s : Nat) (hs : ys.contains s = false) : xs.contains s = false := by
 cases e : xs.contains s with
 | false => rfl
 | true =>
  have := List.all_eq_true.1 h s (by simpa using e)
  rw [hs] at this; cases this
theorem KeepM.mono {m : Nat} {xs ys : List Nat} {a b : Act} (h : KeepM m xs a b) (hx : xs.all ys.contains = true) : KeepM m ys a b := ⟨h.defers, h.size, fun s hs hc => h.var s hs (contains_sub hx s hc)⟩
theorem KeepM.ev {m : Nat} {xs : List Nat} {a0 a : Act} (h : KeepM m xs a0 a) {s : Nat} {v : Value} (hv : a0.eval (.tmp s) = v) (hs : (decide (s < m) && !xs.contains s) = true) : a.eval (.tmp s) = v := by
 rw [Bool.and_eq_true, Bool.not_eq_true'] at hs
 rw [← hv]
 show a.tmps.getD s undef = a0.tmps.getD s undef
 rw [Array.getD_eq_getD_getElem?, Array.getD_eq_getD_getElem?, h.var s (of_decide_eq_true hs.1) hs.2]
def keepM (m : Nat) (ops : Array Oper) (xs : List Nat) : Bool := (List.range ops.size).all fun j => match slotOf ops j with
 | some d => decide (m ≤ d) || xs.contains d
 | none => true
theorem keepM_of {m : Nat} {xs : List Nat} (h : keepM m ops xs = true) {s : Nat} (hs : s < m) (hx : xs.contains s = false) : ∀ j, slotOf ops j ≠ some s := fun j hj => by
 rcases Nat.lt_or_ge j ops.size with hl | hl
 ·have := List.all_eq_true.1 h j (by simpa using hl)
  rw [hj] at this
  rcases Bool.or_eq_true_iff.1 this with h1 | h1
  ·exact absurd (show m ≤ s from of_decide_eq_true h1) (Nat.not_le.2 hs)
  ·rw [hx] at h1; cases h1
 ·unfold slotOf at hj; rw [Array.getElem?_eq_none hl] at hj; cases hj
theorem StW.keepM {T : Nat → (Nat → Value) → World → Prop} {G : (Nat → Bool) → World → Prop} {m : Nat} {xs : List Nat} (st : StW ops T G a0 L a w) (h : Proofs.YtmfiiapmkidmkaaDoor.keepM m ops xs = true) : KeepM m xs a0 a :=
 ⟨st.defers, st.size, fun s hs hx => st.outer s (keepM_of h hs hx)⟩
theorem St.keepM {T : Nat → (Nat → Value) → World → Prop} {G : World → Prop} {m : Nat} {xs : List Nat} (st : St ops T G a0 L a w) (h : Proofs.YtmfiiapmkidmkaaDoor.keepM m ops xs = true) : KeepM m xs a0 a :=
 ⟨st.defers, st.size, fun s hs hx => st.outer s (keepM_of h hs hx)⟩
end
theorem okB {b c : Bool} {w : World} (h : b = c) : (Result.ok (Next.value (.bool b)) w : Result Next) = .ok (.value (.bool c)) w := by rw [h]
theorem get_of {a : Act} {s : Tmp} {v : Value} (h : a.eval (.tmp s) = v) (hu : v ≠ undef) : a.tmps[s]? = some v := by
 have h' : a.tmps.getD s undef = v := h
 rw [Array.getD_eq_getD_getElem?] at h'
 cases e : a.tmps[s]? with
 | none => rw [e] at h'; exact absurd h'.symm hu
 | some u => rw [e] at h'; rw [← h']; rfl
theorem get_of_eval {a : Act} {s : Tmp} {p : Option Addr} (h : a.eval (.tmp s) = .pointer p) : a.tmps[s]? = some (.pointer p) := get_of h (by intro e; cases e)
theorem get_of_bool {a : Act} {s : Tmp} {p : Bool} (h : a.eval (.tmp s) = .bool p) : a.tmps[s]? = some (.bool p) := get_of h (by intro e; cases e)
theorem get_of_slice {a : Act} {s : Tmp} {A : Option Addr} {n c : Nat} (h : a.eval (.tmp s) = .slice A n c) : a.tmps[s]? = some (.slice A n c) := by
 have h' : a.tmps.getD s undef = .slice A n c := h
 rw [Array.getD_eq_getD_getElem?] at h'
 cases e : a.tmps[s]? with
 | none => rw [e] at h'; cases h'
 | some v => rw [e] at h'; obtain rfl : v = .slice A n c := h'; rfl
theorem get_of_int {a : Act} {s : Tmp} {k : IntKind} {n : Int} (h : a.eval (.tmp s) = .int k n) : a.tmps[s]? = some (.int k n) := by
 have h' : a.tmps.getD s undef = .int k n := h
 rw [Array.getD_eq_getD_getElem?] at h'
 cases e : a.tmps[s]? with
 | none => rw [e] at h'; cases h'
 | some v => rw [e] at h'; obtain rfl : v = .int k n := h'; rfl
theorem post_slot {fn : Func} {R : Ending → World → Prop} {a : Act} {w : World} {k : Tmp} {v : Value} (hf : fn.results = #[.tmp k]) (hd : a.defers = []) (hv : a.tmps[k]? = some v) (h : R (.returned v) w) : bodyPost Tryd.prog fn R .ret a w :=
 bodyPost_ret (v := v) (by simp [results, hf, go_sem, hv]) hd h
theorem seq_out {m : Nat} {xs : List Nat} {Q : Exit → Act → World → Prop} {a0 a : Act} {w : World} (k : KeepM m xs a0 a) (h : ∀ a', KeepM m xs a0 a' → (∀ s v, a.eval (.tmp s) = v → a'.eval (.tmp s) = v) → Q .normal a' w) : Q .normal a w := h a k (fun _ _ h => h)
theorem start_act1 (n : Nat) (x : Value) (hn : 1 ≤ n) : ({ tmps := #[x] ++ Array.replicate (n - 1) undef, defers := [] } : Act).tmps.size = n ∧ ({ tmps := #[x] ++ Array.replicate (n - 1) undef, defers := [] } : Act).eval (.tmp 0) = x := by
 refine ⟨by simp; omega, ?_⟩
 show Array.getD _ 0 undef = x
 simp [Array.getD_eq_getD_getElem?, Array.getElem?_append]
theorem start_act2 (n : Nat) (x y : Value) (hn : 2 ≤ n) : ({ tmps := #[x, y] ++ Array.replicate (n - 2) undef, defers := [] } : Act).tmps.size = n ∧ ({ tmps := #[x, y] ++ Array.replicate (n - 2) undef, defers := [] } : Act).eval (.tmp 0) = x ∧ ({ tmps := #[x, y] ++ Array.replicate (n - 2) undef, defers := [] } : Act).eval (.tmp 1) = y := by
 refine ⟨by simp; omega, ?_, ?_⟩
 ·show Array.getD _ 0 undef = x
  simp [Array.getD_eq_getD_getElem?, Array.getElem?_append]
 ·show Array.getD _ 1 undef = y
  simp [Array.getD_eq_getD_getElem?, Array.getElem?_append]
theorem start_act3 (n : Nat) (x y z : Value) (hn : 3 ≤ n) : ({ tmps := #[x, y, z] ++ Array.replicate (n - 3) undef, defers := [] } : Act).tmps.size = n ∧ ({ tmps := #[x, y, z] ++ Array.replicate (n - 3) undef, defers := [] } : Act).eval (.tmp 0) = x ∧ ({ tmps := #[x, y, z] ++ Array.replicate (n - 3) undef, defers := [] } : Act).eval (.tmp 1) = y ∧ ({ tmps := #[x, y, z] ++ Array.replicate (n - 3) undef, defers := [] } : Act).eval (.tmp 2) = z := by
 refine ⟨by simp; omega, ?_, ?_, ?_⟩
 ·show Array.getD _ 0 undef = x
  simp [Array.getD_eq_getD_getElem?, Array.getElem?_append]
 ·show Array.getD _ 1 undef = y
  simp [Array.getD_eq_getD_getElem?, Array.getElem?_append]
 ·show Array.getD _ 2 undef = z
  simp [Array.getD_eq_getD_getElem?, Array.getElem?_append]
theorem exit_here1 {id : Nat} {X I : Act → World → Prop} {Q : Exit → Act → World → Prop} {a : Act} {w : World} (h : Q .normal a w) : Exit.then X (Exit.then I (Exit.inBlock id Q)) (.exit id) a w := by
 show (if id = id then Q .normal a w else Q (.exit id) a w)
 rw [if_pos rfl]; exact h
theorem post_two {fn : Func} {R : Ending → World → Prop} {a : Act} {w : World} {s t : Tmp} {u v : Value} (hf : fn.results = #[.tmp s, .tmp t]) (hd : a.defers = []) (h1 : a.eval (.tmp s) = u) (h2 : a.eval (.tmp t) = v) (h : R (.returned (.tuple #[u, v])) w) : bodyPost Tryd.prog fn R .ret a w :=
 bodyPost_ret (v := .tuple #[u, v]) (by
  have h1' : a.tmps.getD s undef = u := h1
  have h2' : a.tmps.getD t undef = v := h2
  rw [← h1', ← h2']; exact results_tmp2 hf _ _ _) hd h
theorem exit_out {X I : Act → World → Prop} {Q : Exit → Act → World → Prop} {a : Act} {w : World} (h : Q .normal a w) : Exit.inBlock 3 (Exit.then X (Exit.then I (Exit.inBlock 2 Q))) (.exit 2) a w := by
 simp only [Exit.inBlock, Exit.then]
 exact h
theorem args_two {a : Act} {x y : Operand} {u v : Value} (h : a.eval x = u) (k : a.eval y = v) : (#[x, y] : Array Operand).map a.eval = #[u, v] := by simp [h, k]
theorem _root_.Go.RowKit.Below.al {B : Nat} {w W : World} (h : Below B w W) (hB : B ≤ w.heap.size := by exact Nat.le_refl _) {o : Obj} : Below B w (W.alloc o) := h.alloc (Nat.le_trans hB h.size) o
theorem _root_.Go.RowKit.Below.next {B : Nat} {w W W' : World} (h : Below B w W) (hb : Below W.heap.size W W') (hB : B ≤ w.heap.size := by exact Nat.le_refl _) : Below B w W' := h.trans (hb.mono (Nat.le_trans hB h.size))
end Go.Proofs.YtmfiiapmkidmkaaDoor
