/-
  Regions in any order with one store; single operations over relations, rows and lists.
-/
import Derived.Test.YtigdecmfieaacaaDoorVal
import Derived.Test.YtigdecmfieaacaaDoorPlusV
namespace Go.Proofs.YtigdecmfieaacaaDoor
open Go Go.RowKit

section
variable {P : Program} {ops : Array Oper} {Q : Exit → Act → World → Prop}
/-- Where the region stands: the operations of L are done. -/
structure StW (ops : Array Oper) (T : Nat → (Nat → Value) → World → Prop) (G : (Nat → Bool) → World → Prop) (a0 : Act) (L : Nat → Bool) (a : Act) (w : World) : Prop where
  g : G L w
  defers : a.defers = a0.defers
  size : a.tmps.size = a0.tmps.size
  outer : ∀ s, (∀ i, slotOf ops i ≠ some s) → a.tmps[s]? = a0.tmps[s]?
  down : ∀ i o, ops[i]? = some o → L i = true → ∀ e ∈ o.after, L e.on = true
  inn : ∀ i, L i = true → i < ops.size
  t : ∀ i, L i = true → T i (vat ops a) w

/-- What operation i owes. -/
def OwesW (P : Program) (ops : Array Oper) (Q : Exit → Act → World → Prop) (T : Nat → (Nat → Value) → World → Prop) (G : (Nat → Bool) → World → Prop) (L : Nat → Bool) (i : Nat) (o : Oper) (a : Act) (w : World) : Prop :=
  ∀ K : Act → World → Prop, (∀ v w', T i (fun j => if j = i then v else vat ops a j) w' → G (fun j => decide (j = i) || L j) w' → (∀ j, j ≠ i → L j = true → T j (vat ops a) w → T j (vat ops a) w') → K (a.put o.dst v) w') →
    if Region.wanted o (yielded ops a.tmps) = true then o.wp P a w K Q else K (a.put o.dst undef) w

variable {T : Nat → (Nat → Value) → World → Prop} {G : (Nat → Bool) → World → Prop} {a0 : Act}
theorem StW.next {D : Nat → List Nat} {L : Nat → Bool} {i : Nat} {o : Oper} {a : Act} {w w' : World} {v : Value} (hwf : wfR ops a0.tmps.size = true) (hD : Deps ops T D) (st : StW ops T G a0 L a w) (ho : ops[i]? = some o) (hL : L i = false)
    (haft : ∀ e ∈ o.after, L e.on = true) (hT : T i (fun j => if j = i then v else vat ops a j) w') (hG : G (fun j => decide (j = i) || L j) w') (hst : ∀ j, j ≠ i → L j = true → T j (vat ops a) w → T j (vat ops a) w') :
    StW ops T G a0 (fun j => decide (j = i) || L j) (a.put o.dst v) w' where
  g := hG
  defers := by rw [← st.defers]; cases o.dst <;> rfl
  size := by rw [← st.size]; cases o.dst <;> simp [Act.put]
  outer := fun s hs => by
    rw [← st.outer s hs]
    cases hd : o.dst with
    | none => rfl
    | some d =>
      have hne : d ≠ s := by
        rintro rfl
        exact hs i (by unfold slotOf; rw [ho, Option.bind_some, hd])
      simp [Act.put, hne]
  down := fun k o' hk hlk e he => by
    rw [Bool.or_eq_true, decide_eq_true_iff] at hlk ⊢
    rcases hlk with rfl | hlk
    · have : o' = o := Option.some.inj (hk.symm.trans ho)
      subst this
      exact .inr (haft e he)
    · exact .inr (st.down k o' hk hlk e he)
  inn := fun k hk => by
    rw [Bool.or_eq_true, decide_eq_true_iff] at hk
    rcases hk with rfl | hk
    · exact (Array.getElem?_eq_some_iff.1 ho).1
    · exact st.inn k hk
  t := fun k hk => by
    rw [Bool.or_eq_true, decide_eq_true_iff] at hk
    by_cases e : k = i
    · subst e
      refine hD.dep k _ _ w' ?_ ?_ hT
      · by_cases hd : o.dst = none
        · right; unfold slotOf; rw [ho, Option.bind_some, hd]
        · left; rw [vat_put hwf st.size ho hd rfl]; simp
      · intro j hj
        obtain ⟨e, he, rfl⟩ := hD.aft k o ho j hj
        have hlt := (wf_at hwf ho).1 e he
        have hne : e.on ≠ k := by omega
        rw [vat_put_far hwf ho hne, if_neg hne]
    · have hk' : L k = true := by rcases hk with h | h; exact absurd h e; exact h
      refine hD.dep k _ _ w' (.inl (vat_put_far hwf ho e).symm) ?_ (hst k e hk' (st.t k hk'))
      intro j hj
      have hkl := st.inn k hk'
      obtain ⟨ok, hok⟩ : ∃ ok, ops[k]? = some ok := ⟨ops[k], Array.getElem?_eq_getElem hkl⟩
      obtain ⟨ed, hed, rfl⟩ := hD.aft k ok hok j hj
      have hlj := st.down k ok hok hk' ed hed
      have hne : ed.on ≠ i := fun e' => by rw [e', hL] at hlj; cases hlj
      exact (vat_put_far hwf ho hne).symm

theorem wpAny_invW {D : Nat → List Nat} (hwf : wfR ops a0.tmps.size = true) (hD : Deps ops T D)
    (hnb : ∀ (i : Nat) (o : Oper), ops[i]? = some o → ∀ e ∈ o.after, Region.binds .any e = true)
    (step : ∀ (i : Nat) (o : Oper) (a : Act) (w : World) (L : Nat → Bool), ops[i]? = some o → L i = false → (∀ e ∈ o.after, L e.on = true) → StW ops T G a0 L a w → OwesW P ops Q T G L i o a w)
    (fin : ∀ L a w, (∀ i, i < ops.size → L i = true) → StW ops T G a0 L a w → Q .normal a w) :
    ∀ (fuel : Nat) (listed : Array Bool) (a : Act) (w : World), listed.size = ops.size → leftN listed ≤ fuel → StW ops T G a0 (fun i => listed.getD i false) a w → wpAny P .any ops Q fuel listed a w := by
  intro fuel
  induction fuel with
  | zero =>
    intro listed a w hs hl st
    have hall : ∀ i, i < ops.size → listed.getD i false = true := fun i hi => left_zero (by omega) (by omega)
    refine ⟨?_, fin _ a w hall st⟩
    unfold Region.ready
    rw [List.filter_eq_nil_iff]
    intro i hi
    have hi' : i < ops.size := by simpa using hi
    have h1 := hall i hi'
    have hlt : i < listed.size := by omega
    have : listed.getD i true = true := by simp [hlt] at h1 ⊢; exact h1
    rw [this]; simp
  | succ fuel ih =>
    intro listed a w hs hl st
    refine ⟨fun h => fin _ a w (ready_nil hwf hs h) st, fun i hi => ?_⟩
    unfold Region.ready at hi
    rw [List.mem_filter] at hi
    have hi' : i < ops.size := by simpa using hi.1
    have ho : ops[i]? = some ops[i] := Array.getElem?_eq_getElem hi'
    have hlt : i < listed.size := by omega
    rw [ho] at hi
    simp only [Option.map_some, Option.getD_some, Bool.and_eq_true, Bool.not_eq_true'] at hi
    have hf : listed.getD i false = false := by
      have := hi.2.1
      simp [hlt] at this ⊢; exact this
    have haft : ∀ e ∈ (ops[i]).after, listed.getD e.on false = true := fun e he => by
      have := (Array.all_eq_true'.1 hi.2.2) e he
      rw [hnb i _ ho e he] at this
      simpa using this
    have key := step i _ a w (fun i => listed.getD i false) ho hf haft st (wpAny P .any ops Q fuel (listed.setIfInBounds i true)) (fun v w' h1 h2 h3 => by
      have st' := st.next hwf hD ho hf haft h1 h2 h3
      refine ih _ _ _ (by simp [hs]) (by have := leftN_set hlt hf; omega) ?_
      rw [show (fun j => (listed.setIfInBounds i true).getD j false) = fun j => decide (j = i) || listed.getD j false from funext fun j => setB_get hlt]
      exact st')
    unfold wpOp
    rw [ho]
    show if Region.wanted ops[i] (yielded ops a.tmps) = true then _ else _
    split
    · rename_i hw; rw [if_pos hw] at key; exact .inl key
    · rename_i hw; rw [if_neg hw] at key; exact key
theorem region_allW {id : Nat} {w0 : World} {D : Nat → List Nat} (hm : P.follows .mixedOrders = true) (hwf : wfR ops a0.tmps.size = true) (hb : bindsAll ops = true) (hD : Deps ops T D) (hG : G (fun _ => false) w0.drew)
    (step : ∀ (i : Nat) (o : Oper) (a : Act) (w : World) (L : Nat → Bool), ops[i]? = some o → L i = false → (∀ e ∈ o.after, L e.on = true) → StW ops T G a0 L a w → OwesW P ops Q T G L i o a w)
    (fin : ∀ L a w, (∀ i, i < ops.size → L i = true) → StW ops T G a0 L a w → Q .normal a w) : (Code.region id ops true).wp P Q a0 w0 := by
  refine wp_region_any hm ?_
  have hb' : ∀ (i : Nat) (o : Oper), ops[i]? = some o → ∀ e ∈ o.after, Region.binds .any e = true := fun i o ho e he => by
    have h1 := (Array.all_eq_true'.1 hb) o (Array.mem_of_getElem? ho)
    exact (Array.all_eq_true'.1 h1) e he
  have hz : ∀ i, (Array.replicate ops.size false).getD i false = false := fun i => by
    rw [Array.getD_eq_getD_getElem?]
    cases h : (Array.replicate ops.size false)[i]? with
    | none => rfl
    | some b =>
      obtain ⟨h1, h2⟩ := Array.getElem?_eq_some_iff.1 h
      simpa using h2.symm
  refine wpAny_invW hwf hD hb' step fin ops.size _ a0 _ (by simp) ?_ ⟨by rw [show (fun i => (Array.replicate ops.size false).getD i false) = fun _ => false from funext hz]; exact hG, rfl, rfl, fun _ _ => rfl, fun i o _ h => ?_, fun i h => ?_, fun i h => ?_⟩
  · unfold leftN
    exact Nat.le_trans (List.length_filter_le _ _) (by simp)
  · rw [hz] at h; cases h
  · rw [hz] at h; cases h
  · rw [hz] at h; cases h
end
theorem wpOps_invW {P : Program} {ops : Array Oper} {Q : Exit → Act → World → Prop} {T : Nat → (Nat → Value) → World → Prop} {G : (Nat → Bool) → World → Prop} {a0 : Act} {D : Nat → List Nat} (hwf : wfR ops a0.tmps.size = true) (hD : Deps ops T D)
    (step : ∀ (i : Nat) (o : Oper) (a : Act) (w : World) (L : Nat → Bool), ops[i]? = some o → L i = false → (∀ e ∈ o.after, L e.on = true) → StW ops T G a0 L a w → OwesW P ops Q T G L i o a w)
    (fin : ∀ L a w, (∀ i, i < ops.size → L i = true) → StW ops T G a0 L a w → Q .normal a w) :
    ∀ (m k : Nat) (a : Act) (w : World), k + m = ops.size → StW ops T G a0 (fun i => decide (i < k)) a w → wpOps P ops Q (List.range' k m) a w := by
  intro m
  induction m with
  | zero =>
    intro k a w hk st
    exact fin _ a w (fun i hi => by simpa using (by omega : i < k)) st
  | succ m ih =>
    intro k a w hk st
    have hlt : k < ops.size := by omega
    have ho : ops[k]? = some ops[k] := Array.getElem?_eq_getElem hlt
    have haft : ∀ e ∈ (ops[k]).after, decide (e.on < k) = true := fun e he => by simpa using (wf_at hwf ho).1 e he
    have hL : decide (k < k) = false := by simp
    rw [List.range'_succ, wpOps_cons]
    have key := step k _ a w (fun i => decide (i < k)) ho hL haft st (wpOps P ops Q (List.range' (k + 1) m)) (fun v w' h1 h2 h3 => by
      have st' := st.next hwf hD ho hL haft h1 h2 h3
      refine ih (k + 1) _ _ (by omega) ?_
      rw [show (fun j => decide (j < k + 1)) = fun j => decide (j = k) || decide (j < k) from funext fun j => by
        by_cases h : j = k
        · simp [h]
        · by_cases h' : j < k
          · simp [h']; omega
          · simp [h, h']; omega]
      exact st')
    unfold wpOp
    rw [ho]
    show if Region.wanted ops[k] (yielded ops a.tmps) = true then _ else _
    split
    · rename_i hw; rw [if_pos hw] at key; exact .inl key
    · rename_i hw; rw [if_neg hw] at key; exact key
theorem region_seqW {P : Program} {ops : Array Oper} {Q : Exit → Act → World → Prop} {T : Nat → (Nat → Value) → World → Prop} {G : (Nat → Bool) → World → Prop} {a0 : Act} {id n : Nat} {w0 : World} {D : Nat → List Nat}
    (hwf : wfR ops a0.tmps.size = true) (hD : Deps ops T D) (hG : G (fun _ => false) w0) (hn : ops.size = n)
    (steps : AllS n fun i => ∀ (o : Oper) (a : Act) (w : World) (L : Nat → Bool), ops[i]? = some o → L i = false → (∀ e ∈ o.after, L e.on = true) → StW ops T G a0 L a w → OwesW P ops Q T G L i o a w)
    (fin : ∀ L a w, (∀ i, i < n → L i = true) → StW ops T G a0 L a w → Q .normal a w) : (Code.region id ops false).wp P Q a0 w0 := by
  subst hn
  refine wp_region ?_
  rw [List.range_eq_range']
  refine wpOps_invW hwf hD (fun i o a w L ho => steps.at i (Array.getElem?_eq_some_iff.1 ho).1 o a w L ho) fin ops.size 0 a0 w0 (by omega) ⟨by rw [show (fun i => decide (i < 0)) = fun _ => false from funext fun i => by simp]; exact hG, rfl, rfl, fun _ _ => rfl, fun i o _ h => ?_, fun i h => ?_, fun i h => ?_⟩
  · simp at h
  · simp at h
  · simp at h
theorem region_stepsW {P : Program} {ops : Array Oper} {Q : Exit → Act → World → Prop} {T : Nat → (Nat → Value) → World → Prop} {G : (Nat → Bool) → World → Prop} {a0 : Act} {id n : Nat} {w0 : World} {D : Nat → List Nat}
    (hm : P.follows .mixedOrders = true) (hwf : wfR ops a0.tmps.size = true) (hb : bindsAll ops = true) (hD : Deps ops T D) (hG : G (fun _ => false) w0.drew) (hn : ops.size = n)
    (steps : AllS n fun i => ∀ (o : Oper) (a : Act) (w : World) (L : Nat → Bool), ops[i]? = some o → L i = false → (∀ e ∈ o.after, L e.on = true) → StW ops T G a0 L a w → OwesW P ops Q T G L i o a w)
    (fin : ∀ L a w, (∀ i, i < n → L i = true) → StW ops T G a0 L a w → Q .normal a w) : (Code.region id ops true).wp P Q a0 w0 := by
  subst hn
  exact region_allW hm hwf hb hD hG (fun i o a w L ho => steps.at i (Array.getElem?_eq_some_iff.1 ho).1 o a w L ho) fin
end Go.Proofs.YtigdecmfieaacaaDoor
namespace Go.Proofs.YtigdecmfieaacaaDoor
open Go Go.RowKit

/-- The world before, and behind, operation s. -/
def GS (s : Nat) (W1 W2 : World) (L : Nat → Bool) (w : World) : Prop := w = if L s = true then W2 else W1
/-- Operation s, if it is there, waits for all ahead of it. -/
def lastOk (ops : Array Oper) (s : Nat) : Bool := match ops[s]? with
  | none => true
  | some o => (List.range s).all fun i => o.after.any fun e => e.on == i
section
variable {P : Program} {ops : Array Oper} {Q : Exit → Act → World → Prop} {vs : List (Option Value)} {a0 : Act} {W1 W2 : World} {L : Nat → Bool} {i s : Nat} {o : Oper} {a : Act} {w : World}
theorem StW.first (st : StW ops (TV vs) (GS s W1 W2) a0 L a w) (h : lastOk ops s = true) (hL : L i = false) (hi : i ≤ s) : L s = false := by
  cases e : L s with
  | false => rfl
  | true =>
    have hlt := st.inn s e
    have ho : ops[s]? = some ops[s] := Array.getElem?_eq_getElem hlt
    rcases Nat.lt_or_ge i s with h' | h'
    · unfold lastOk at h
      rw [ho] at h
      have := List.all_eq_true.1 h i (by simpa using h')
      obtain ⟨k, hk, he⟩ := Array.any_eq_true.1 this
      have := st.down s _ ho e _ (Array.getElem_mem hk)
      rw [show ((ops[s]).after[k]).on = i by simpa using he, hL] at this
      cases this
    · have : i = s := by omega
      rw [this, e] at hL; cases hL
theorem StW.at1 (st : StW ops (TV vs) (GS s W1 W2) a0 L a w) (h : lastOk ops s = true) (hL : L i = false) (hi : i ≤ s) : w = W1 := by
  have g := st.g
  unfold GS at g
  rw [st.first h hL hi] at g
  simpa using g
theorem StW.argV {j : Nat} {d : Tmp} {v : Value} (st : StW ops (TV vs) (GS s W1 W2) a0 L a w) (hl : L j = true) (hs : slotOf ops j = some d) (hv : vs.getD j none = some v) : a.eval (.tmp d) = v := by
  have := st.t j hl
  unfold TV at this
  rw [hv] at this
  rw [eval_slot hs]; exact this
theorem StW.sameG {T : Nat → (Nat → Value) → World → Prop} {G : (Nat → Bool) → World → Prop} {s : Tmp} (st : StW ops T G a0 L a w) (hs : ((List.range ops.size).all fun j => slotOf ops j != some s) = true) : a.tmps[s]? = a0.tmps[s]? :=
  st.outer s (fun j hj => by
    rcases Nat.lt_or_ge j ops.size with h | h
    · have := List.all_eq_true.1 hs j (by simpa using h)
      rw [hj] at this; simp at this
    · unfold slotOf at hj; rw [Array.getElem?_eq_none h] at hj; cases hj)
theorem StW.outV {T : Nat → (Nat → Value) → World → Prop} {G : (Nat → Bool) → World → Prop} {s : Tmp} {v : Value} (st : StW ops T G a0 L a w) (hs : ((List.range ops.size).all fun j => slotOf ops j != some s) = true) (hv : a0.eval (.tmp s) = v) : a.eval (.tmp s) = v := by
  rw [← hv]
  show a.tmps.getD s undef = a0.tmps.getD s undef
  rw [Array.getD_eq_getD_getElem?, Array.getD_eq_getD_getElem?, st.sameG hs]
theorem StW.wantV {g : Nat} {b : Bool} (st : StW ops (TV vs) (GS s W1 W2) a0 L a w) (haft : ∀ e ∈ o.after, L e.on = true) (hg : o.guard = some (g, b)) (hl : (o.after.any fun e => e.on == g) = true) (hv : vs.getD g none = some (.bool b)) : Region.wanted o (yielded ops a.tmps) = true := by
  have := st.t g (aft_of haft hl)
  unfold TV at this
  rw [hv] at this
  exact want_of hg this
theorem payW {v : Value} (st : StW ops (TV vs) (GS s W1 W2) a0 L a w) (h : lastOk ops s = true) (hL : L i = false) (hi : i < s) (hw : Region.wanted o (yielded ops a.tmps) = true) (hrun : (execOp a.eval o).run P W1 = .ok (.value v) W1) (hv : vs.getD i none = some v) : OwesW P ops Q (TV vs) (GS s W1 W2) L i o a w := fun K hK => by
  have hf := st.first h hL (Nat.le_of_lt hi)
  obtain rfl : w = W1 := st.at1 h hL (Nat.le_of_lt hi)
  rw [if_pos hw]
  unfold Oper.wp
  rw [hrun]
  refine hK v w (TV.self hv) ?_ (fun _ _ _ h => h)
  unfold GS
  have : s ≠ i := by omega
  simp [hf, this]
theorem StW.skipV {g : Nat} {b : Bool} (st : StW ops (TV vs) (GS s W1 W2) a0 L a w) (h : lastOk ops s = true) (hL : L i = false) (hi : i < s) (haft : ∀ e ∈ o.after, L e.on = true) (hg : o.guard = some (g, b)) (hl : (o.after.any fun e => e.on == g) = true) (hv : vs.getD g none = some (.bool (!b))) (hn : vs.getD i none = none) : OwesW P ops Q (TV vs) (GS s W1 W2) L i o a w := fun K hK => by
  have := st.t g (aft_of haft hl)
  unfold TV at this
  rw [hv] at this
  have hf := st.first h hL (Nat.le_of_lt hi)
  obtain rfl : w = W1 := st.at1 h hL (Nat.le_of_lt hi)
  rw [if_neg (by rw [want_not hg this]; decide)]
  refine hK undef w (TV.none hn) ?_ (fun _ _ _ h => h)
  unfold GS
  have : s ≠ i := by omega
  simp [hf, this]
theorem payW_move {x : Operand} {v : Value} (st : StW ops (TV vs) (GS s W1 W2) a0 L a w) (h : lastOk ops s = true) (hL : L i = false) (hi : i < s) (hw : Region.wanted o (yielded ops a.tmps) = true) (hop : o.op = .move x) (hx : a.eval x = v) (hv : vs.getD i none = some v) : OwesW P ops Q (TV vs) (GS s W1 W2) L i o a w :=
  payW st h hL hi hw ((run_move hop).trans (by rw [hx])) hv
theorem payW_pick {c x y : Operand} {b : Bool} {v : Value} (st : StW ops (TV vs) (GS s W1 W2) a0 L a w) (h : lastOk ops s = true) (hL : L i = false) (hi : i < s) (hw : Region.wanted o (yielded ops a.tmps) = true) (hop : o.op = .pick c x y) (hc : a.eval c = .bool b) (hx : (if b then a.eval x else a.eval y) = v) (hv : vs.getD i none = some v) : OwesW P ops Q (TV vs) (GS s W1 W2) L i o a w :=
  payW st h hL hi hw ((run_pick hop hc).trans (by rw [hx])) hv
theorem storeW (st : StW ops (TV vs) (GS i W1 W2) a0 L a w) (h : lastOk ops i = true) (hL : L i = false) (hw : Region.wanted o (yielded ops a.tmps) = true) (hrun : (execOp a.eval o).run P W1 = .ok .skip W2) (hv : vs.getD i none = none) : OwesW P ops Q (TV vs) (GS i W1 W2) L i o a w := fun K hK => by
  obtain rfl : w = W1 := st.at1 h hL (Nat.le_refl _)
  rw [if_pos hw]
  unfold Oper.wp
  rw [hrun]
  refine hK undef W2 (TV.none hv) ?_ (fun _ _ _ h => h)
  unfold GS
  simp
theorem region_w {id n : Nat} (vs : List (Option Value)) (s : Nat) (w0 W2 : World) (hm : P.follows .mixedOrders = true) (hwf : wfR ops a0.tmps.size = true) (hb : bindsAll ops = true) (hd : okV ops vs = true) (hl : vs.length = ops.size) (hn : ops.size = n)
    (steps : AllS n fun i => ∀ (o : Oper) (a : Act) (w : World) (L : Nat → Bool), ops[i]? = some o → L i = false → (∀ e ∈ o.after, L e.on = true) → StW ops (TV vs) (GS s w0.drew W2) a0 L a w → OwesW P ops Q (TV vs) (GS s w0.drew W2) L i o a w)
    (fin : ∀ L a w, (∀ i, i < n → L i = true) → StW ops (TV vs) (GS s w0.drew W2) a0 L a w → Q .normal a w) : (Code.region id ops true).wp P Q a0 w0 :=
  region_stepsW (G := GS s w0.drew W2) hm hwf hb (tv_deps hd hl) (by unfold GS; simp) hn steps fin
theorem region_ws {id n : Nat} (vs : List (Option Value)) (s : Nat) (w0 W2 : World) (hwf : wfR ops a0.tmps.size = true) (hd : okV ops vs = true) (hl : vs.length = ops.size) (hn : ops.size = n)
    (steps : AllS n fun i => ∀ (o : Oper) (a : Act) (w : World) (L : Nat → Bool), ops[i]? = some o → L i = false → (∀ e ∈ o.after, L e.on = true) → StW ops (TV vs) (GS s w0 W2) a0 L a w → OwesW P ops Q (TV vs) (GS s w0 W2) L i o a w)
    (fin : ∀ L a w, (∀ i, i < n → L i = true) → StW ops (TV vs) (GS s w0 W2) a0 L a w → Q .normal a w) : (Code.region id ops false).wp P Q a0 w0 :=
  region_seqW (G := GS s w0 W2) hwf (tv_deps hd hl) (by unfold GS; simp) hn steps fin
theorem StW.end2 {n : Nat} (st : StW ops (TV vs) (GS s W1 W2) a0 L a w) (hL : ∀ i, i < n → L i = true) (hs : s < n) : w = W2 := by
  have g := st.g
  unfold GS at g
  rwa [hL s hs, if_pos rfl] at g
theorem StW.end1 (st : StW ops (TV vs) (GS s W1 W2) a0 L a w) (hs : ops.size ≤ s) : w = W1 := by
  have g := st.g
  unfold GS at g
  have : L s = false := by
    cases e : L s with
    | false => rfl
    | true => exact absurd (st.inn s e) (by omega)
  rw [this] at g
  simpa using g
/-- The slots below m lie as they lay. -/
structure KeepM (m : Nat) (xs : List Nat) (a0 a : Act) : Prop where
  defers : a.defers = a0.defers
  size : a.tmps.size = a0.tmps.size
  var : ∀ s, s < m → xs.contains s = false → a.tmps[s]? = a0.tmps[s]?
theorem KeepM.refl (m : Nat) (xs : List Nat) (a : Act) : KeepM m xs a a := ⟨rfl, rfl, fun _ _ _ => rfl⟩
theorem KeepM.put {m : Nat} {xs : List Nat} {a0 a : Act} {d : Tmp} {v : Value} (h : KeepM m xs a0 a) (hd : (decide (m ≤ d) || xs.contains d) = true) : KeepM m xs a0 (a.put (some d) v) :=
  ⟨by rw [defers_put]; exact h.defers, by rw [size_put]; exact h.size, fun s hs hx => by
    rw [← h.var s hs hx]
    have hne : d ≠ s := by
      rintro rfl
      rcases Bool.or_eq_true_iff.1 hd with h1 | h1
      · exact absurd (show m ≤ d from of_decide_eq_true h1) (Nat.not_le.2 hs)
      · rw [hx] at h1; cases h1
    show (a.tmps.setIfInBounds d v)[s]? = _
    rw [Array.getElem?_setIfInBounds, if_neg hne]⟩
theorem KeepM.trans {m : Nat} {xs : List Nat} {a b c : Act} (h : KeepM m xs a b) (k : KeepM m xs b c) : KeepM m xs a c := ⟨k.defers.trans h.defers, k.size.trans h.size, fun s hs hx => (k.var s hs hx).trans (h.var s hs hx)⟩
theorem contains_sub {xs ys : List Nat} (h : xs.all ys.contains = true) (s : Nat) (hs : ys.contains s = false) : xs.contains s = false := by
  cases e : xs.contains s with
  | false => rfl
  | true =>
    have := List.all_eq_true.1 h s (by simpa using e)
    rw [hs] at this; cases this
theorem KeepM.mono {m : Nat} {xs ys : List Nat} {a b : Act} (h : KeepM m xs a b) (hx : xs.all ys.contains = true) : KeepM m ys a b := ⟨h.defers, h.size, fun s hs hc => h.var s hs (contains_sub hx s hc)⟩
theorem KeepM.ev {m : Nat} {xs : List Nat} {a0 a : Act} (h : KeepM m xs a0 a) {s : Nat} {v : Value} (hv : a0.eval (.tmp s) = v) (hs : (decide (s < m) && !xs.contains s) = true) : a.eval (.tmp s) = v := by
  rw [Bool.and_eq_true, Bool.not_eq_true'] at hs
  rw [← hv]
  show a.tmps.getD s undef = a0.tmps.getD s undef
  rw [Array.getD_eq_getD_getElem?, Array.getD_eq_getD_getElem?, h.var s (of_decide_eq_true hs.1) hs.2]
def keepM (m : Nat) (ops : Array Oper) (xs : List Nat) : Bool := (List.range ops.size).all fun j => match slotOf ops j with
  | some d => decide (m ≤ d) || xs.contains d
  | none => true
theorem keepM_of {m : Nat} {xs : List Nat} (h : keepM m ops xs = true) {s : Nat} (hs : s < m) (hx : xs.contains s = false) : ∀ j, slotOf ops j ≠ some s := fun j hj => by
  rcases Nat.lt_or_ge j ops.size with hl | hl
  · have := List.all_eq_true.1 h j (by simpa using hl)
    rw [hj] at this
    rcases Bool.or_eq_true_iff.1 this with h1 | h1
    · exact absurd (show m ≤ s from of_decide_eq_true h1) (Nat.not_le.2 hs)
    · rw [hx] at h1; cases h1
  · unfold slotOf at hj; rw [Array.getElem?_eq_none hl] at hj; cases hj
theorem StW.keepM {T : Nat → (Nat → Value) → World → Prop} {G : (Nat → Bool) → World → Prop} {m : Nat} {xs : List Nat} (st : StW ops T G a0 L a w) (h : Proofs.YtigdecmfieaacaaDoor.keepM m ops xs = true) : KeepM m xs a0 a :=
  ⟨st.defers, st.size, fun s hs hx => st.outer s (keepM_of h hs hx)⟩
theorem St.keepM {T : Nat → (Nat → Value) → World → Prop} {G : World → Prop} {m : Nat} {xs : List Nat} (st : St ops T G a0 L a w) (h : Proofs.YtigdecmfieaacaaDoor.keepM m ops xs = true) : KeepM m xs a0 a :=
  ⟨st.defers, st.size, fun s hs hx => st.outer s (keepM_of h hs hx)⟩
end
end Go.Proofs.YtigdecmfieaacaaDoor
namespace Go.Proofs.YtigdecmfieaacaaDoor
open Go Go.RowKit

section
variable {o : Oper} {ρ : Operand → Value} {w : World}
theorem run_fp0 {x : Operand} {p : Addr} (hop : o.op = .fieldAddr 26 x 0) (hx : ρ x = .pointer (some p)) : (execOp ρ o).run Tryd.prog w = .ok (.value (.pointer (some p))) w := by
  simp [execOp, hop, hx, go_sem]
theorem run_fp1 {x : Operand} {b f : Nat} (hop : o.op = .fieldAddr 26 x 1) (hx : ρ x = .pointer (some ⟨b, f, none⟩)) : (execOp ρ o).run Tryd.prog w = .ok (.value (.pointer (some ⟨b, f + 1, none⟩))) w := by
  simp [execOp, hop, hx, go_sem]
theorem run_ldI {x : Operand} {p : Addr} {v : Value} (hop : o.op = .load 3 x) (hx : ρ x = .pointer (some p)) (hr : w.cell? p = some v) : (execOp ρ o).run Tryd.prog w = .ok (.value v) w := by
  simp [execOp, hop, hx, go_sem, hr]
theorem run_ldU {x : Operand} {p : Addr} {v : Value} (hop : o.op = .load 37 x) (hx : ρ x = .pointer (some p)) (hr : w.cell? p = some v) : (execOp ρ o).run Tryd.prog w = .ok (.value v) w := by
  simp [execOp, hop, hx, go_sem, hr]
theorem run_ldS {x : Operand} {p : Addr} {v : Value} (hop : o.op = .load 24 x) (hx : ρ x = .pointer (some p)) (hr : w.cell? p = some v) : (execOp ρ o).run Tryd.prog w = .ok (.value v) w := by
  simp [execOp, hop, hx, go_sem, hr]
theorem run_ldR {x : Operand} {b f : Nat} {u v : Value} (hop : o.op = .load 26 x) (hx : ρ x = .pointer (some ⟨b, f, none⟩)) (h0 : w.cell? ⟨b, f, none⟩ = some u) (h1 : w.cell? ⟨b, f + 1, none⟩ = some v) : (execOp ρ o).run Tryd.prog w = .ok (.value (.agg #[u, v])) w := by
  simp [execOp, hop, hx, go_sem, h0, h1]
theorem run_ixU {x y : Operand} {ad : Addr} {n c k : Nat} (hop : o.op = .indexAddr 24 x y) (hx : ρ x = .slice (some ad) n c) (hy : ρ y = .int .i64 (k : Nat)) (hk : k < n) : (execOp ρ o).run Tryd.prog w = .ok (.value (.pointer (some (ad.add k)))) w := by
  simp [execOp, hop, hx, hy, go_sem, hk]
theorem run_ixR {x y : Operand} {g n c k : Nat} (hop : o.op = .indexAddr 55 x y) (hx : ρ x = .slice (some ⟨g, 0, none⟩) n c) (hy : ρ y = .int .i64 (k : Nat)) (hk : k < n) : (execOp ρ o).run Tryd.prog w = .ok (.value (.pointer (some ⟨g, k * 2, none⟩))) w := by
  simp [execOp, hop, hx, hy, go_sem, hk]
theorem run_andU {x y : Operand} {i j : Nat} {t : TypeId} (hop : o.op = .binOp .and 37 x y t) (hx : ρ x = .int .u64 (i : Nat)) (hy : ρ y = .int .u64 (j : Nat)) (hi : i < 18446744073709551616) (hj : j < 18446744073709551616) : (execOp ρ o).run Tryd.prog w = .ok (.value (.int .u64 ((i &&& j : Nat) : Int))) w := by
  simp [execOp, hop, hx, hy, go_sem, u64_and_nat i j hi hj]
theorem run_andNotU {x y : Operand} {i j : Nat} {t : TypeId} (hop : o.op = .binOp .andNot 37 x y t) (hx : ρ x = .int .u64 (i : Nat)) (hy : ρ y = .int .u64 (j : Nat)) (hi : i < 18446744073709551616) (hj : j < 18446744073709551616) : (execOp ρ o).run Tryd.prog w = .ok (.value (.int .u64 ((i &&& (18446744073709551615 - j) : Nat) : Int))) w := by
  simp [execOp, hop, hx, hy, go_sem, u64_andNot_nat i j hi hj]
theorem run_neI {x y : Operand} {i j : Int} {t : TypeId} (hop : o.op = .binOp .neq 3 x y t) (hx : ρ x = .int .i64 i) (hy : ρ y = .int .i64 j) : (execOp ρ o).run Tryd.prog w = .ok (.value (.bool (i != j))) w := by
  simp [execOp, hop, hx, hy, go_sem]
theorem run_gtI {x y : Operand} {i j : Int} {t : TypeId} (hop : o.op = .binOp .gtr 3 x y t) (hx : ρ x = .int .i64 i) (hy : ρ y = .int .i64 j) : (execOp ρ o).run Tryd.prog w = .ok (.value (.bool (decide (j < i)))) w := by
  simp [execOp, hop, hx, hy, go_sem]
theorem run_lenR {x : Operand} {A : Option Addr} {n c : Nat} (hop : o.op = .call { callee := .builtin .len, args := #[x], argTypes := #[55] }) (hx : ρ x = .slice A n c) : (execOp ρ o).run Tryd.prog w = .ok (.value (.int .i64 (n : Nat))) w := by
  simp [execOp, hop, hx, go_sem]
theorem run_lenU {x : Operand} {A : Option Addr} {n c : Nat} (hop : o.op = .call { callee := .builtin .len, args := #[x], argTypes := #[24] }) (hx : ρ x = .slice A n c) : (execOp ρ o).run Tryd.prog w = .ok (.value (.int .i64 (n : Nat))) w := by
  simp [execOp, hop, hx, go_sem]
theorem run_stU {x y : Operand} {p : Addr} {u : Int} {v : Value} (hop : o.op = .store 37 x y) (hx : ρ x = .pointer (some p)) (hy : ρ y = .int .u64 u) (hc : w.cell? p = some v) (hf : w.frozen? p = false) : (execOp ρ o).run Tryd.prog w = .ok .skip (w.setCell p (.int .u64 u)) := by
  simp [execOp, hop, hx, hy, go_sem, hc, hf]
theorem run_stR {x y : Operand} {b l c : Nat} {n : Int} {A : Option Addr} {u v : Value} (hop : o.op = .store 26 x y) (hx : ρ x = .pointer (some ⟨b, 0, none⟩)) (hy : ρ y = .agg #[.int .i64 n, .slice A l c]) (hr : RowT w b 26 [u, v]) :
    (execOp ρ o).run Tryd.prog w = .ok .skip ((w.setCell ⟨b, 0, none⟩ (.int .i64 n)).setCell ⟨b, 1, none⟩ (.slice A l c)) := by
  obtain ⟨h0, h1, h2, h3⟩ := hr.two
  simp [execOp, hop, hx, hy, go_sem, h0, h1, h2, h3]
end
theorem run_boxC {o : Oper} {ρ : Operand → Value} {w : World} {x : Operand} {n : Int} {A : Option Addr} {l c : Nat} (hop : o.op = .box 26 x) (hx : ρ x = .agg #[.int .i64 n, .slice A l c]) : (execOp ρ o).run Tryd.prog w = .ok (.value (.pointer (some ⟨w.heap.size, 0, none⟩))) (w.alloc (.cells ([.int .i64 n, .slice A l c] : List Value).toArray 26)) := by
  simp [execOp, hop, hx, go_sem]
/-- What is done of a row for each thing. -/
def midF (f : Nat → Nat) (k i : Nat) : Nat := if i < k then f i else 0
theorem midF_zero (f : Nat → Nat) (N : Nat) : (List.range N).map (midF f 0) = List.replicate N 0 := by
  apply List.ext_getElem <;> simp [midF]
theorem midF_full (f : Nat → Nat) (N : Nat) : (List.range N).map (midF f N) = (List.range N).map f :=
  List.map_congr_left fun i hi => by unfold midF; rw [if_pos (by simpa using hi)]
theorem midF_succ (f : Nat → Nat) (k i : Nat) : midF f (k + 1) i = if i = k then f k else midF f k i := by
  unfold midF
  by_cases e : i = k
  · subst e; simp
  · by_cases h : i < k
    · simp [h, e]; omega
    · simp [h, e]; omega
theorem fin_R {w w' : World} {g N : Nat} {rows : List Nat} (hr : RowT w' g 37 (rows.map U)) (hN : rows.length = N) (hu : ∀ x ∈ rows, x < 18446744073709551616) (hB : Below w.heap.size w w') : RetR w ⟨N, rows⟩ (.returned (.agg #[.int .i64 ((N : Nat) : Int), .slice (some ⟨g, 0, none⟩) N N])) w' := by
  obtain ⟨a, h1, h2, h3⟩ := GR.row hN.symm hu hr
  rw [h1]
  exact ⟨a, rfl, Lib.hid h2, Lib.hid h3, hB⟩
theorem fin_Z {w w' : World} (hB : Below w.heap.size w w') : RetR w PR.zero (.returned (.agg #[.int .i64 0, .slice none 0 0])) w' :=
  ⟨⟨0, none, 0, []⟩, rfl, Lib.hid rfl, Lib.hid ⟨by simp, Reads.none_⟩, hB⟩
theorem RowT.keep {w : World} {b g i : Nat} {t e : TypeId} {cs ds : List Value} (h : RowT w b t cs) (hg : RowT w g e ds) (hte : t ≠ e) (v : Value) : RowT (w.setCell ⟨g, i, none⟩ v) b t cs :=
  h.far (p := ⟨g, i, none⟩) (h.alone hte hg) v
theorem RowT.addc {w : World} {g k : Nat} {t : TypeId} {cs : List Value} {v : Value} (h : RowT w g t cs) (hv : cs[k]? = some v) : w.cell? ((⟨g, 0, none⟩ : Addr).add k) = some v := by rw [add0, h.cell k]; exact hv
theorem RowT.addf {w : World} {g k : Nat} {t : TypeId} {cs : List Value} (h : RowT w g t cs) : w.frozen? ((⟨g, 0, none⟩ : Addr).add k) = false := by rw [add0]; exact h.frozen k
theorem post_cell {fn : Func} {R : Ending → World → Prop} {a : Act} {w : World} {k : Tmp} {b : Nat} {v0 v1 : Value} (hf : fn.results = #[.cell k 26]) (hd : a.defers = []) (hp : a.eval (.tmp k) = .pointer (some ⟨b, 0, none⟩)) (hrow : RowT w b 26 [v0, v1]) (h : R (.returned (.agg #[v0, v1])) w) : bodyPost Tryd.prog fn R .ret a w := by
  have hp' := get_of_eval hp
  have h0 : w.cell? ⟨b, 0, none⟩ = some v0 := hrow.cell 0
  have h1 : w.cell? ⟨b, 1, none⟩ = some v1 := hrow.cell 1
  exact bodyPost_ret (v := .agg #[v0, v1]) (by simp [results, hf, go_sem, hp', h0, h1]) hd h
theorem seq_out {m : Nat} {xs : List Nat} {Q : Exit → Act → World → Prop} {a0 a : Act} {w : World} (k : KeepM m xs a0 a) (h : ∀ a', KeepM m xs a0 a' → (∀ s v, a.eval (.tmp s) = v → a'.eval (.tmp s) = v) → Q .normal a' w) : Q .normal a w := h a k (fun _ _ h => h)
theorem start_act1 (n : Nat) (x : Value) (hn : 1 ≤ n) : ({ tmps := #[x] ++ Array.replicate (n - 1) undef, defers := [] } : Act).tmps.size = n ∧ ({ tmps := #[x] ++ Array.replicate (n - 1) undef, defers := [] } : Act).eval (.tmp 0) = x := by
  refine ⟨by simp; omega, ?_⟩
  show Array.getD _ 0 undef = x
  simp [Array.getD_eq_getD_getElem?, Array.getElem?_append]
theorem start_act2 (n : Nat) (x y : Value) (hn : 2 ≤ n) : ({ tmps := #[x, y] ++ Array.replicate (n - 2) undef, defers := [] } : Act).tmps.size = n ∧ ({ tmps := #[x, y] ++ Array.replicate (n - 2) undef, defers := [] } : Act).eval (.tmp 0) = x ∧ ({ tmps := #[x, y] ++ Array.replicate (n - 2) undef, defers := [] } : Act).eval (.tmp 1) = y := by
  refine ⟨by simp; omega, ?_, ?_⟩
  · show Array.getD _ 0 undef = x
    simp [Array.getD_eq_getD_getElem?, Array.getElem?_append]
  · show Array.getD _ 1 undef = y
    simp [Array.getD_eq_getD_getElem?, Array.getElem?_append]
theorem start_act3 (n : Nat) (x y z : Value) (hn : 3 ≤ n) : ({ tmps := #[x, y, z] ++ Array.replicate (n - 3) undef, defers := [] } : Act).tmps.size = n ∧ ({ tmps := #[x, y, z] ++ Array.replicate (n - 3) undef, defers := [] } : Act).eval (.tmp 0) = x ∧ ({ tmps := #[x, y, z] ++ Array.replicate (n - 3) undef, defers := [] } : Act).eval (.tmp 1) = y ∧ ({ tmps := #[x, y, z] ++ Array.replicate (n - 3) undef, defers := [] } : Act).eval (.tmp 2) = z := by
  refine ⟨by simp; omega, ?_, ?_, ?_⟩
  · show Array.getD _ 0 undef = x
    simp [Array.getD_eq_getD_getElem?, Array.getElem?_append]
  · show Array.getD _ 1 undef = y
    simp [Array.getD_eq_getD_getElem?, Array.getElem?_append]
  · show Array.getD _ 2 undef = z
    simp [Array.getD_eq_getD_getElem?, Array.getElem?_append]
theorem exit_here1 {id : Nat} {X I : Act → World → Prop} {Q : Exit → Act → World → Prop} {a : Act} {w : World} (h : Q .normal a w) : Exit.then X (Exit.then I (Exit.inBlock id Q)) (.exit id) a w := by
  show (if id = id then Q .normal a w else Q (.exit id) a w)
  rw [if_pos rfl]; exact h
/-- The rows of one more thing done. -/
theorem row_set {w : World} {g N k v : Nat} {F F' : Nat → Nat} (h : RowT w g 37 (((List.range N).map F).map U)) (hF : ∀ i, F' i = if i = k then v else F i) : RowT (w.setCell ⟨g, k, none⟩ (.int .u64 (v : Nat))) g 37 (((List.range N).map F').map U) := by
  have e := h.set_ k (U v)
  rw [← List.map_set, range_set] at e
  rw [show (List.range N).map F' = (List.range N).map fun i => if i = k then v else F i from List.map_congr_left fun j _ => hF j]
  exact e
theorem row_get {N k : Nat} {F : Nat → Nat} (h : k < N) : (((List.range N).map F).map U)[k]? = some (.int .u64 (F k : Nat)) := by simp [h, U]
theorem row_ge {w w' : World} {p : Addr} {v : Value} {B : Nat} (h : Below B w w') (hg : B ≤ p.block) : Below B w (w'.setCell p v) := h.setCell hg v
/-- A row of a relation in memory. -/
theorem good_row {a : RA} {w : World} (hg : a.good w) {k : Nat} (hk : k < a.rows.length) : ∃ ad, a.A = some ad ∧ ad.block < w.heap.size ∧ w.cell? (ad.add k) = some (.int .u64 (a.rows.getD k 0 : Nat)) ∧ a.rows.getD k 0 < 18446744073709551616 := by
  obtain ⟨ad, h1, h2, h3⟩ := hg.2.2 (by omega)
  have hx : a.rows[k]? = some a.rows[k] := List.getElem?_eq_getElem hk
  have hd : a.rows.getD k 0 = a.rows[k] := by rw [List.getD_eq_getElem?_getD, hx]; rfl
  refine ⟨ad, h1, h2, ?_, ?_⟩
  · rw [h3 k (U a.rows[k]) (by simp [hk]), hd]
  · rw [hd]; exact hg.1 _ (List.getElem_mem hk)
end Go.Proofs.YtigdecmfieaacaaDoor
