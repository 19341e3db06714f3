/-
  Regions that draw their order, whatever the order: each operation is shown once, from what the operations ahead of it have left. No program is named here.
-/
import Derived.Orders
import Derived.Calls
import Derived.Below
import Derived.WalkKit
namespace Go.Proofs.YtigdecmfieaacaaDoor
open Go Go.RowKit

/-- The slot that operation i fills. -/
def slotOf (ops : Array Oper) (i : Nat) : Option Tmp := (ops[i]?).bind (·.dst)
/-- What lies in it. -/
def vat (ops : Array Oper) (a : Act) (i : Nat) : Value := match slotOf ops i with
  | some d => a.tmps.getD d undef
  | none => undef
/-- Operations wait for earlier ones alone; each fills a slot of its own that is there. -/
def wfR (ops : Array Oper) (n : Nat) : Bool := (List.range ops.size).all fun i => match ops[i]? with
  | some o => (o.after.all fun e => decide (e.on < i)) && (match o.dst with
    | some d => decide (d < n) && (List.range i).all (fun j => slotOf ops j != some d)
    | none => true)
  | none => false
section
variable {P : Program} {ops : Array Oper} {Q : Exit → Act → World → Prop}

theorem wf_at {n i : Nat} {o : Oper} (h : wfR ops n = true) (ho : ops[i]? = some o) : (∀ e ∈ o.after, e.on < i) ∧ ∀ d, o.dst = some d → d < n ∧ ∀ j, j < i → slotOf ops j ≠ some d := by
  have hi : i < ops.size := (Array.getElem?_eq_some_iff.1 ho).1
  have := List.all_eq_true.1 h i (by simpa using hi)
  rw [ho] at this
  simp only [Bool.and_eq_true, Array.all_eq_true] at this
  obtain ⟨h1, h2⟩ := this
  constructor
  · intro e he
    obtain ⟨k, hk, rfl⟩ := Array.getElem_of_mem he
    simpa using h1 k hk
  · intro d hd
    rw [hd] at h2
    simp only [Bool.and_eq_true, decide_eq_true_eq] at h2
    refine ⟨h2.1, fun j hj e => ?_⟩
    have := List.all_eq_true.1 h2.2 j (by simpa using hj)
    rw [e] at this
    simp at this
theorem slot_inj {n i j : Nat} {d : Tmp} (h : wfR ops n = true) (hi : slotOf ops i = some d) (hj : slotOf ops j = some d) : i = j := by
  unfold slotOf at hi hj
  obtain ⟨oi, h1, h2⟩ := Option.bind_eq_some_iff.1 hi
  obtain ⟨oj, h3, h4⟩ := Option.bind_eq_some_iff.1 hj
  rcases Nat.lt_trichotomy i j with hlt | e | hlt
  · exact absurd hi (((wf_at h h3).2 d h4).2 i hlt)
  · exact e
  · exact absurd hj (((wf_at h h1).2 d h2).2 j hlt)

/-- Where the region stands: the operations of L are done. -/
structure St (ops : Array Oper) (T : Nat → (Nat → Value) → World → Prop) (G : World → Prop) (a0 : Act) (L : Nat → Bool) (a : Act) (w : World) : Prop where
  g : G w
  defers : a.defers = a0.defers
  size : a.tmps.size = a0.tmps.size
  outer : ∀ s, (∀ i, slotOf ops i ≠ some s) → a.tmps[s]? = a0.tmps[s]?
  down : ∀ i o, ops[i]? = some o → L i = true → ∀ e ∈ o.after, L e.on = true
  inn : ∀ i, L i = true → i < ops.size
  t : ∀ i, L i = true → T i (vat ops a) w

/-- What operation i owes. -/
def Owes (P : Program) (ops : Array Oper) (Q : Exit → Act → World → Prop) (T : Nat → (Nat → Value) → World → Prop) (G : World → Prop) (L : Nat → Bool) (i : Nat) (o : Oper) (a : Act) (w : World) : Prop :=
  ∀ K : Act → World → Prop, (∀ v w', T i (fun j => if j = i then v else vat ops a j) w' → G w' → (∀ j, j ≠ i → L j = true → T j (vat ops a) w → T j (vat ops a) w') → K (a.put o.dst v) w') →
    if Region.wanted o (yielded ops a.tmps) = true then o.wp P a w K Q else K (a.put o.dst undef) w

theorem vat_put {n i j : Nat} {o : Oper} {a : Act} {v : Value} (h : wfR ops n = true) (hn : a.tmps.size = n) (ho : ops[i]? = some o) (hd : o.dst ≠ none) (hv : j = i) : vat ops (a.put o.dst v) j = v := by
  subst hv
  obtain ⟨d, hd⟩ := Option.ne_none_iff_exists'.1 hd
  have hlt := ((wf_at h ho).2 d hd).1
  unfold vat slotOf
  rw [ho, Option.bind_some, hd]
  simp [Act.put, hn, hlt]
theorem vat_put_far {n i j : Nat} {o : Oper} {a : Act} {v : Value} (h : wfR ops n = true) (ho : ops[i]? = some o) (hv : j ≠ i) : vat ops (a.put o.dst v) j = vat ops a j := by
  unfold vat
  cases hs : slotOf ops j with
  | none => rfl
  | some d =>
    cases hd : o.dst with
    | none => rfl
    | some d' =>
      have hne : d' ≠ d := by
        rintro rfl
        exact hv (slot_inj h hs (show slotOf ops i = some d' by unfold slotOf; rw [ho, Option.bind_some, hd]))
      simp [Act.put, hne]
theorem vat_put_none {j : Nat} {o : Oper} {a : Act} {v : Value} (hd : o.dst = none) : vat ops (a.put o.dst v) j = vat ops a j := by rw [hd]; rfl

variable {T : Nat → (Nat → Value) → World → Prop} {G : World → Prop} {a0 : Act}
/-- D i: the operations whose slots T i looks at, besides i's own. -/
structure Deps (ops : Array Oper) (T : Nat → (Nat → Value) → World → Prop) (D : Nat → List Nat) : Prop where
  dep : ∀ i ρ ρ' w, (ρ i = ρ' i ∨ slotOf ops i = none) → (∀ j ∈ D i, ρ j = ρ' j) → T i ρ w → T i ρ' w
  aft : ∀ i o, ops[i]? = some o → ∀ j ∈ D i, ∃ e ∈ o.after, e.on = j
theorem St.next {D : Nat → List Nat} {L : Nat → Bool} {i : Nat} {o : Oper} {a : Act} {w w' : World} {v : Value} (hwf : wfR ops a0.tmps.size = true) (hD : Deps ops T D) (st : St ops T G a0 L a w) (ho : ops[i]? = some o) (hL : L i = false)
    (haft : ∀ e ∈ o.after, L e.on = true) (hT : T i (fun j => if j = i then v else vat ops a j) w') (hG : G w') (hst : ∀ j, j ≠ i → L j = true → T j (vat ops a) w → T j (vat ops a) w') :
    St ops T G a0 (fun j => decide (j = i) || L j) (a.put o.dst v) w' where
  g := hG
  defers := by rw [← st.defers]; cases o.dst <;> rfl
  size := by rw [← st.size]; cases o.dst <;> simp [Act.put]
  outer := fun s hs => by
    rw [← st.outer s hs]
    cases hd : o.dst with
    | none => rfl
    | some d =>
      have hne : d ≠ s := by
        rintro rfl
        exact hs i (by unfold slotOf; rw [ho, Option.bind_some, hd])
      simp [Act.put, hne]
  down := fun k o' hk hlk e he => by
    rw [Bool.or_eq_true, decide_eq_true_iff] at hlk ⊢
    rcases hlk with rfl | hlk
    · have : o' = o := Option.some.inj (hk.symm.trans ho)
      subst this
      exact .inr (haft e he)
    · exact .inr (st.down k o' hk hlk e he)
  inn := fun k hk => by
    rw [Bool.or_eq_true, decide_eq_true_iff] at hk
    rcases hk with rfl | hk
    · exact (Array.getElem?_eq_some_iff.1 ho).1
    · exact st.inn k hk
  t := fun k hk => by
    rw [Bool.or_eq_true, decide_eq_true_iff] at hk
    by_cases e : k = i
    · subst e
      refine hD.dep k _ _ w' ?_ ?_ hT
      · by_cases hd : o.dst = none
        · right; unfold slotOf; rw [ho, Option.bind_some, hd]
        · left; rw [vat_put hwf st.size ho hd rfl]; simp
      · intro j hj
        obtain ⟨e, he, rfl⟩ := hD.aft k o ho j hj
        have hlt := (wf_at hwf ho).1 e he
        have hne : e.on ≠ k := by omega
        rw [vat_put_far hwf ho hne, if_neg hne]
    · have hk' : L k = true := by rcases hk with h | h; exact absurd h e; exact h
      refine hD.dep k _ _ w' (.inl (vat_put_far hwf ho e).symm) ?_ (hst k e hk' (st.t k hk'))
      intro j hj
      have hkl := st.inn k hk'
      obtain ⟨ok, hok⟩ : ∃ ok, ops[k]? = some ok := ⟨ops[k], Array.getElem?_eq_getElem hkl⟩
      obtain ⟨ed, hed, rfl⟩ := hD.aft k ok hok j hj
      have hlj := st.down k ok hok hk' ed hed
      have hne : ed.on ≠ i := fun e' => by rw [e', hL] at hlj; cases hlj
      exact (vat_put_far hwf ho hne).symm

theorem setB_get {listed : Array Bool} {i j : Nat} (hi : i < listed.size) : (listed.setIfInBounds i true).getD j false = (decide (j = i) || listed.getD j false) := by
  by_cases h : j = i
  · subst h; simp [hi]
  · have h' : ¬ i = j := fun e => h e.symm
    simp [h, h']
theorem count_set (l : List Bool) (i : Nat) (h : l[i]? = some false) : ((l.set i true).filter fun b => !b).length + 1 = (l.filter fun b => !b).length := by
  induction l generalizing i with
  | nil => simp at h
  | cons b l ih =>
    cases i with
    | zero =>
      have : b = false := by simpa using h
      subst this
      simp
    | succ i =>
      have := ih i (by simpa using h)
      rw [List.set_cons_succ]
      cases b
      · simpa using this
      · simpa using this
/-- How many are left. -/
def leftN (listed : Array Bool) : Nat := (listed.toList.filter fun b => !b).length
theorem leftN_set {listed : Array Bool} {i : Nat} (hi : i < listed.size) (hf : listed.getD i false = false) : leftN (listed.setIfInBounds i true) + 1 = leftN listed := by
  unfold leftN
  rw [show (listed.setIfInBounds i true).toList = listed.toList.set i true from by simp]
  exact count_set _ _ (by
    have : listed[i] = false := by simpa [hi] using hf
    simp [hi, this])
theorem left_zero {listed : Array Bool} (h : leftN listed = 0) {i : Nat} (hi : i < listed.size) : listed.getD i false = true := by
  unfold leftN at h
  have h' := List.length_eq_zero_iff.1 h
  rw [List.filter_eq_nil_iff] at h'
  have := h' listed[i] (by simp)
  simpa [hi] using this
/-- Nothing may come up: all is done. -/
theorem ready_nil {n : Nat} {listed : Array Bool} (hwf : wfR ops n = true) (hs : listed.size = ops.size) (h : Region.ready .any ops listed = []) : ∀ i, i < ops.size → listed.getD i false = true := by
  intro i
  induction i using Nat.strongRecOn with
  | _ i ih =>
    intro hi
    cases hl : listed.getD i false with
    | true => rfl
    | false =>
      exfalso
      have hmem : i ∈ Region.ready .any ops listed := by
        unfold Region.ready
        rw [List.mem_filter]
        refine ⟨by simpa using hi, ?_⟩
        have hlt : i < listed.size := by omega
        have hl2 : listed.getD i true = false := by
          simp [hlt] at hl ⊢; exact hl
        have ho : ops[i]? = some ops[i] := Array.getElem?_eq_getElem hi
        rw [hl2, ho]
        simp only [Bool.not_false, Bool.true_and, Option.map_some, Option.getD_some]
        rw [Array.all_eq_true']
        intro e he
        have := (wf_at hwf ho).1 e he
        rw [ih e.on this (by omega)]
        simp
      rw [h] at hmem
      cases hmem
theorem wpAny_inv {D : Nat → List Nat} (hwf : wfR ops a0.tmps.size = true) (hD : Deps ops T D)
    (hnb : ∀ (i : Nat) (o : Oper), ops[i]? = some o → ∀ e ∈ o.after, Region.binds .any e = true)
    (step : ∀ (i : Nat) (o : Oper) (a : Act) (w : World) (L : Nat → Bool), ops[i]? = some o → L i = false → (∀ e ∈ o.after, L e.on = true) → St ops T G a0 L a w → Owes P ops Q T G L i o a w)
    (fin : ∀ L a w, (∀ i, i < ops.size → L i = true) → St ops T G a0 L a w → Q .normal a w) :
    ∀ (fuel : Nat) (listed : Array Bool) (a : Act) (w : World), listed.size = ops.size → leftN listed ≤ fuel → St ops T G a0 (fun i => listed.getD i false) a w → wpAny P .any ops Q fuel listed a w := by
  intro fuel
  induction fuel with
  | zero =>
    intro listed a w hs hl st
    have hall : ∀ i, i < ops.size → listed.getD i false = true := fun i hi => left_zero (by omega) (by omega)
    refine ⟨?_, fin _ a w hall st⟩
    unfold Region.ready
    rw [List.filter_eq_nil_iff]
    intro i hi
    have hi' : i < ops.size := by simpa using hi
    have h1 := hall i hi'
    have hlt : i < listed.size := by omega
    have : listed.getD i true = true := by simp [hlt] at h1 ⊢; exact h1
    rw [this]; simp
  | succ fuel ih =>
    intro listed a w hs hl st
    refine ⟨fun h => fin _ a w (ready_nil hwf hs h) st, fun i hi => ?_⟩
    unfold Region.ready at hi
    rw [List.mem_filter] at hi
    have hi' : i < ops.size := by simpa using hi.1
    have ho : ops[i]? = some ops[i] := Array.getElem?_eq_getElem hi'
    have hlt : i < listed.size := by omega
    rw [ho] at hi
    simp only [Option.map_some, Option.getD_some, Bool.and_eq_true, Bool.not_eq_true'] at hi
    have hf : listed.getD i false = false := by
      have := hi.2.1
      simp [hlt] at this ⊢; exact this
    have haft : ∀ e ∈ (ops[i]).after, listed.getD e.on false = true := fun e he => by
      have := (Array.all_eq_true'.1 hi.2.2) e he
      rw [hnb i _ ho e he] at this
      simpa using this
    have key := step i _ a w (fun i => listed.getD i false) ho hf haft st (wpAny P .any ops Q fuel (listed.setIfInBounds i true)) (fun v w' h1 h2 h3 => by
      have st' := st.next hwf hD ho hf haft h1 h2 h3
      refine ih _ _ _ (by simp [hs]) (by have := leftN_set hlt hf; omega) ?_
      rw [show (fun j => (listed.setIfInBounds i true).getD j false) = fun j => decide (j = i) || listed.getD j false from funext fun j => setB_get hlt]
      exact st')
    unfold wpOp
    rw [ho]
    show if Region.wanted ops[i] (yielded ops a.tmps) = true then _ else _
    split
    · rename_i hw; rw [if_pos hw] at key; exact .inl key
    · rename_i hw; rw [if_neg hw] at key; exact key
/-- No edge holds in one mode alone. -/
def bindsAll (ops : Array Oper) : Bool := ops.all fun o => o.after.all fun e => Region.binds .any e
theorem region_all {id : Nat} {w0 : World} {D : Nat → List Nat} (hm : P.follows .mixedOrders = true) (hwf : wfR ops a0.tmps.size = true) (hb : bindsAll ops = true) (hD : Deps ops T D) (hG : G w0.drew)
    (step : ∀ (i : Nat) (o : Oper) (a : Act) (w : World) (L : Nat → Bool), ops[i]? = some o → L i = false → (∀ e ∈ o.after, L e.on = true) → St ops T G a0 L a w → Owes P ops Q T G L i o a w)
    (fin : ∀ L a w, (∀ i, i < ops.size → L i = true) → St ops T G a0 L a w → Q .normal a w) : (Code.region id ops true).wp P Q a0 w0 := by
  refine wp_region_any hm ?_
  have hb' : ∀ (i : Nat) (o : Oper), ops[i]? = some o → ∀ e ∈ o.after, Region.binds .any e = true := fun i o ho e he => by
    have h1 := (Array.all_eq_true'.1 hb) o (Array.mem_of_getElem? ho)
    exact (Array.all_eq_true'.1 h1) e he
  have hz : ∀ i, (Array.replicate ops.size false).getD i false = false := fun i => by
    rw [Array.getD_eq_getD_getElem?]
    cases h : (Array.replicate ops.size false)[i]? with
    | none => rfl
    | some b =>
      obtain ⟨h1, h2⟩ := Array.getElem?_eq_some_iff.1 h
      simpa using h2.symm
  refine wpAny_inv hwf hD hb' step fin ops.size _ a0 _ (by simp) ?_ ⟨hG, rfl, rfl, fun _ _ => rfl, fun i o _ h => ?_, fun i h => ?_, fun i h => ?_⟩
  · unfold leftN
    exact Nat.le_trans (List.length_filter_le _ _) (by simp)
  · rw [hz] at h; cases h
  · rw [hz] at h; cases h
  · rw [hz] at h; cases h
end
end Go.Proofs.YtigdecmfieaacaaDoor
