/-
  Regions whose order is drawn, by what is known of slots (Knows): each operation leaves its value whatever came before it.
-/
import Derived.Test.YtmfiiapmkidmkaaDoorMaps
import Derived.Test.YtmfiiapmkidmkaaDoorGenF
namespace Go.Proofs.YtmfiiapmkidmkaaDoor
open Go Go.RowKit

def keyFree (ops : Array Oper) (k : Nat) : Bool := (List.range ops.size).all fun j => slotOf ops j != some k
/-- What is known when operation o is ready. -/
def envAt (ops : Array Oper) (vs : List (Option Value)) (env : List (Nat × Value)) (o : Oper) : List (Nat × Value) :=
  (o.after.toList.filterMap fun e => match slotOf ops e.on, vs.getD e.on none with
    | some d, some v => some (d, v)
    | _, _ => none) ++ env.filter fun p => keyFree ops p.1
theorem look_append {k : Nat} : ∀ (A B : List (Nat × Value)), look k (A ++ B) = match look k A with | some v => some v | none => look k B := by
  intro A
  induction A with
  | nil => intro B; rfl
  | cons p A ih =>
    intro B
    show (bif Nat.beq k p.1 then some p.2 else look k (A ++ B)) = match (bif Nat.beq k p.1 then some p.2 else look k A) with | some v => some v | none => look k B
    cases Nat.beq k p.1 with
    | true => rfl
    | false => exact ih B
theorem look_mem {k : Nat} {v : Value} : ∀ {A : List (Nat × Value)}, look k A = some v → (k, v) ∈ A := by
  intro A
  induction A with
  | nil => intro h; cases h
  | cons p A ih =>
    intro h
    unfold look at h
    cases hb : Nat.beq k p.1 with
    | true =>
      rw [hb] at h
      obtain rfl := Nat.eq_of_beq_eq_true hb
      obtain rfl := Option.some.inj h
      exact List.mem_cons_self
    | false => rw [hb] at h; exact List.mem_cons_of_mem _ (ih h)
theorem look_filter {k : Nat} {v : Value} {q : Nat → Bool} : ∀ {A : List (Nat × Value)}, look k (A.filter fun p => q p.1) = some v → q k = true ∧ look k A = some v := by
  intro A
  induction A with
  | nil => intro h; cases h
  | cons p A ih =>
    intro h
    rw [List.filter_cons] at h
    cases hb : Nat.beq k p.1 with
    | true =>
      have e := Nat.eq_of_beq_eq_true hb
      split at h
      · rename_i hq
        unfold look at h; rw [hb] at h
        refine ⟨by rw [e]; exact hq, ?_⟩
        unfold look; rw [hb]; exact h
      · rename_i hq
        have := (ih h).1
        rw [e] at this
        exact absurd this hq
    | false =>
      have h2 : look k (p :: A) = look k A := by
        show (bif Nat.beq k p.1 then some p.2 else look k A) = _
        rw [hb]; rfl
      rw [h2]
      split at h
      · unfold look at h; rw [hb] at h; exact ih h
      · exact ih h
section
variable {P : Program} {ops : Array Oper} {Q : Exit → Act → World → Prop} {vs : List (Option Value)} {G : World → Prop} {a0 a : Act} {L : Nat → Bool} {i n : Nat} {o : Oper} {w w0 : World} {env : List (Nat × Value)}
theorem keyFree_of {k : Nat} (h : keyFree ops k = true) (j : Nat) : slotOf ops j ≠ some k := by
  intro e
  rcases Nat.lt_or_ge j ops.size with hj | hj
  · have := List.all_eq_true.1 h j (by simpa using hj)
    rw [e] at this; simp at this
  · unfold slotOf at e; rw [Array.getElem?_eq_none hj] at e; cases e
theorem St.slotV {j : Nat} {d : Tmp} {v : Value} (st : St ops (TV vs) G a0 L a w) (hl : L j = true) (hs : slotOf ops j = some d) (hv : vs.getD j none = some v) : a.eval (.tmp d) = v := st.argV hl hs hv
theorem St.free {k : Nat} {v : Value} (hK : Knows a0 n env) (st : St ops (TV vs) G a0 L a w) (hk : keyFree ops k = true) (hv : look k env = some v) : a.eval (.tmp k) = v := by
  rw [← hK.val k v hv]
  show a.tmps.getD k undef = a0.tmps.getD k undef
  rw [Array.getD_eq_getD_getElem?, Array.getD_eq_getD_getElem?, st.outer k (keyFree_of hk)]
theorem St.knows (hK : Knows a0 n env) (st : St ops (TV vs) G a0 L a w) (haft : ∀ e ∈ o.after, L e.on = true) : Knows a n (envAt ops vs env o) := by
  refine ⟨st.size.trans hK.size, st.defers.trans hK.defers, fun k v h => ?_⟩
  unfold envAt at h
  rw [look_append] at h
  split at h
  · rename_i u hu
    obtain rfl := Option.some.inj h
    have hm := look_mem hu
    rw [List.mem_filterMap] at hm
    obtain ⟨e, he, hx⟩ := hm
    cases hs : slotOf ops e.on with
    | none => rw [hs] at hx; cases hx
    | some d =>
      cases hv : vs.getD e.on none with
      | none => rw [hs, hv] at hx; cases hx
      | some u' =>
        rw [hs, hv] at hx
        simp only [Option.some.injEq, Prod.mk.injEq] at hx
        obtain ⟨rfl, rfl⟩ := hx
        exact st.slotV (haft e (by simpa using he)) hs hv
  · obtain ⟨h1, h2⟩ := look_filter h
    exact st.free hK h1 h2
def chkD (ops : Array Oper) (vs : List (Option Value)) (env : List (Nat × Value)) (i : Nat) : Bool := match ops[i]? with
  | none => false
  | some o => (match guardE ops (envAt ops vs env o) o with | some b => b | none => false) && covE (envAt ops vs env o) o
def chkDN (ops : Array Oper) (vs : List (Option Value)) (env : List (Nat × Value)) (i : Nat) : Bool := match ops[i]? with
  | none => false
  | some o => match guardE ops (envAt ops vs env o) o with | some b => !b | none => false
/-- What operation i leaves, whatever came before it. -/
inductive Pay (P : Program) (ops : Array Oper) (vs : List (Option Value)) (env : List (Nat × Value)) (F : World → Prop) (i : Nat) : Prop
  | val (v : Value) (hv : vs.getD i none = some v) (hc : chkD ops vs env i = true) (hr : ∀ w, F w → (execOp (evE (envAt ops vs env (opAt ops i))) (opAt ops i)).run P w = .ok (.value v) w)
  | call (f : FuncId) (args : Array Value) (v : Value) (hv : vs.getD i none = some v) (hc : chkD ops vs env i = true) (he : ∀ w, (execOp (evE (envAt ops vs env (opAt ops i))) (opAt ops i)).run P w = .ok (.enter f args) w) (hcall : ∀ w, F w → Calls P f args w (Ret w v))
  | skip (hv : vs.getD i none = some undef) (hc : chkDN ops vs env i = true)
theorem Pay.owes {F : World → Prop} (hK : Knows a0 n env) (hF : Calm F) (hp : Pay P ops vs env F i) (ho : ops[i]? = some o) (haft : ∀ e ∈ o.after, L e.on = true) (st : St ops (TV vs) F a0 L a w) : Owes P ops Q (TV vs) F L i o a w := by
  have hk := st.knows hK haft
  have h0 : opAt ops i = o := by unfold opAt; rw [ho]; rfl
  have parts : chkD ops vs env i = true → guardE ops (envAt ops vs env o) o = some true ∧ covE (envAt ops vs env o) o = true := by
    intro h
    unfold chkD at h
    rw [ho] at h
    simp only [Bool.and_eq_true] at h
    refine ⟨?_, h.2⟩
    cases hg : guardE ops (envAt ops vs env o) o with
    | none => rw [hg] at h; cases h.1
    | some b => rw [hg] at h; exact congrArg some h.1
  cases hp with
  | val v hv hc hr =>
    obtain ⟨h1, h2⟩ := parts hc
    have := hr w st.g
    rw [h0] at this
    exact Owes.pure (wanted_of hk h1) (by rw [hk.exec h2]; exact this) (TV.self hv) st.g
  | call f args v hv hc he hcall =>
    obtain ⟨h1, h2⟩ := parts hc
    have := he w
    rw [h0] at this
    refine Owes.call (wanted_of hk h1) (by rw [hk.exec h2]; exact this) ((hcall w st.g).mono ?_)
    rintro e w' ⟨rfl, hb⟩
    exact ⟨v, rfl, TV.self hv, hF w w' hb st.g, fun _ _ _ h => h⟩
  | skip hv hc =>
    unfold chkDN at hc
    rw [ho] at hc
    simp only at hc
    have hg : guardE ops (envAt ops vs env o) o = some false := by
      cases hg : guardE ops (envAt ops vs env o) o with
      | none => rw [hg] at hc; cases hc
      | some b => rw [hg] at hc; cases b <;> simp_all
    exact Owes.skipped (wanted_of hk hg) (TV.self hv) st.g
def lookR (ops : Array Oper) (vs : List (Option Value)) (env : List (Nat × Value)) (k : Nat) : Option Value := match (List.range ops.size).find? fun j => match slotOf ops j with | some d => Nat.beq d k | none => false with
  | some j => vs.getD j none
  | none => look k env
def dchk (ops : Array Oper) (vs : List (Option Value)) (n m : Nat) : Bool := wfR ops n && bindsAll ops && okV ops vs && Nat.beq vs.length ops.size && Nat.beq ops.size m
theorem region_any {id : Nat} {F : World → Prop} (hK : Knows a n env) (vs : List (Option Value)) (m : Nat) (hF : Calm F) (h0 : F w) (hm : P.follows .mixedOrders = true) (hd : dchk ops vs n m = true) (pays : AllS m fun i => Pay P ops vs env F i) (env' : List (Nat × Value)) (hs : (env'.map fun p => lookR ops vs env p.1) = env'.map fun p => some p.2)
    (h : ∀ a' w', Knows a' n env' → F w' → Q .normal a' w') : (Code.region id ops true).wp P Q a w := by
  unfold dchk at hd
  simp only [Bool.and_eq_true] at hd
  obtain ⟨⟨⟨⟨h1, h2⟩, h3⟩, h4⟩, h5⟩ := hd
  have h4' := Nat.eq_of_beq_eq_true h4
  have h5' := Nat.eq_of_beq_eq_true h5
  refine region_steps (G := F) hm (by rw [hK.size]; exact h1) h2 (tv_deps h3 h4') (hF w w.drew (Below.refl _ _).drew h0) h5' ?_ ?_
  · have key : ∀ (m : Nat) (p q : Nat → Prop), (∀ i, p i → q i) → AllS m p → AllS m q := by
      intro m
      induction m with
      | zero => intro p q _ _; trivial
      | succ m ih => intro p q hpq hp; exact ⟨ih p q hpq hp.1, hpq m hp.2⟩
    exact key m _ _ (fun i hp o a' w' L ho _ haft st => Pay.owes hK hF hp ho haft st) pays
  · intro L a' w' hL st
    refine h a' w' ⟨st.size.trans hK.size, st.defers.trans hK.defers, fun k v hk => ?_⟩ st.g
    have hmem := look_mem hk
    have hl : lookR ops vs env k = some v := by
      obtain ⟨j, hj, hje⟩ := List.getElem_of_mem hmem
      have := congrArg (fun l => l[j]?) hs
      simp only [List.getElem?_map, List.getElem?_eq_getElem hj, Option.map_some, hje] at this
      exact Option.some.inj this
    unfold lookR at hl
    split at hl
    · rename_i j hj
      have h1 := List.find?_some hj
      have h2 := List.mem_of_find?_eq_some hj
      have hlt : j < ops.size := by simpa using h2
      cases hs2 : slotOf ops j with
      | none => rw [hs2] at h1; cases h1
      | some d =>
        rw [hs2] at h1
        have : d = k := Nat.eq_of_beq_eq_true h1
        subst this
        exact st.slotV (hL j (by omega)) hs2 hl
    · rename_i hj
      refine st.free hK ?_ hl
      unfold keyFree
      rw [List.all_eq_true]
      intro j hj2
      rw [List.find?_eq_none] at hj
      have := hj j hj2
      cases hs2 : slotOf ops j with
      | none => rfl
      | some d =>
        rw [hs2] at this
        have hne : d ≠ k := by
          rintro rfl
          exact this (Nat.beq_refl d)
        simpa using hne
end
end Go.Proofs.YtmfiiapmkidmkaaDoor
