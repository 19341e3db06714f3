/-
 Regions whose order is drawn, and which lay blocks of their own and store into them.
-/
import Derived.Test.YtmfiiapmkidmkaaDoorDrawn
namespace Go.Proofs.YtmfiiapmkidmkaaDoor
open Go Go.RowKit

def OwesI (P : Program) (ops : Array Oper) (Q : Exit → Act → World → Prop) (Inv : (Nat → Bool) → Act → World → Prop) (L : Nat → Bool) (i : Nat) (o : Oper) (a : Act) (w : World) : Prop :=
 ∀ K : Act → World → Prop, (∀ v w', Inv (fun j => decide (j = i) || L j) (a.put o.dst v) w' → K (a.put o.dst v) w') →
  if Region.wanted o (yielded ops a.tmps) = true then o.wp P a w K Q else K (a.put o.dst undef) w
section
variable {P : Program} {ops : Array Oper} {Q : Exit → Act → World → Prop} {Inv : (Nat → Bool) → Act → World → Prop} {a0 : Act}
theorem wpAny_invI {n : Nat} (hwf : wfR ops n = true)
  (hnb : ∀ (i : Nat) (o : Oper), ops[i]? = some o → ∀ e ∈ o.after, Region.binds .any e = true)
  (step : ∀ (i : Nat) (o : Oper) (a : Act) (w : World) (L : Nat → Bool), ops[i]? = some o → L i = false → (∀ e ∈ o.after, L e.on = true) → Inv L a w → OwesI P ops Q Inv L i o a w)
  (fin : ∀ L a w, (∀ i, i < ops.size → L i = true) → Inv L a w → Q .normal a w) :
  ∀ (fuel : Nat) (listed : Array Bool) (a : Act) (w : World), listed.size = ops.size → leftN listed ≤ fuel → Inv (fun i => listed.getD i false) a w → wpAny P .any ops Q fuel listed a w := by
 intro fuel
 induction fuel with
 | zero =>
  intro listed a w hs hl st
  have hall : ∀ i, i < ops.size → listed.getD i false = true := fun i hi => left_zero (by omega) (by omega)
  refine ⟨?_, fin _ a w hall st⟩
  unfold Region.ready
  rw [List.filter_eq_nil_iff]
  intro i hi
  have hi' : i < ops.size := by simpa using hi
  have h1 := hall i hi'
  have hlt : i < listed.size := by omega
  have : listed.getD i true = true := by simp [hlt] at h1 ⊢; exact h1
  rw [this]; simp
 | succ fuel ih =>
  intro listed a w hs hl st
  refine ⟨fun h => fin _ a w (ready_nil hwf hs h) st, fun i hi => ?_⟩
  unfold Region.ready at hi
  rw [List.mem_filter] at hi
  have hi' : i < ops.size := by simpa using hi.1
  have ho : ops[i]? = some ops[i] := Array.getElem?_eq_getElem hi'
  have hlt : i < listed.size := by omega
  rw [ho] at hi
  simp only [Option.map_some, Option.getD_some, Bool.and_eq_true, Bool.not_eq_true'] at hi
  have hf : listed.getD i false = false := by
   have := hi.2.1
   simp [hlt] at this ⊢; exact this
  have haft : ∀ e ∈ (ops[i]).after, listed.getD e.on false = true := fun e he => by
   have := (Array.all_eq_true'.1 hi.2.2) e he
   rw [hnb i _ ho e he] at this
   simpa using this
  have key := step i _ a w (fun i => listed.getD i false) ho hf haft st (wpAny P .any ops Q fuel (listed.setIfInBounds i true)) (fun v w' h1 => by
   refine ih _ _ _ (by simp [hs]) (by have := leftN_set hlt hf; omega) ?_
   rw [show (fun j => (listed.setIfInBounds i true).getD j false) = fun j => decide (j = i) || listed.getD j false from funext fun j => setB_get hlt]
   exact h1)
  unfold wpOp
  rw [ho]
  show if Region.wanted ops[i] (yielded ops a.tmps) = true then _ else _
  split
  ·rename_i hw; rw [if_pos hw] at key; exact .inl key
  ·rename_i hw; rw [if_neg hw] at key; exact key
theorem region_inv_any {n : Nat} {w0 : World} (hwf : wfR ops n = true) (hb : bindsAll ops = true) (h0 : Inv (fun _ => false) a0 w0.drew)
  (step : ∀ (i : Nat) (o : Oper) (a : Act) (w : World) (L : Nat → Bool), ops[i]? = some o → L i = false → (∀ e ∈ o.after, L e.on = true) → Inv L a w → OwesI P ops Q Inv L i o a w)
  (fin : ∀ L a w, (∀ i, i < ops.size → L i = true) → Inv L a w → Q .normal a w) : wpAny P .any ops Q ops.size (Array.replicate ops.size false) a0 w0.drew := by
 have hb' : ∀ (i : Nat) (o : Oper), ops[i]? = some o → ∀ e ∈ o.after, Region.binds .any e = true := fun i o ho e he => by
  have h1 := (Array.all_eq_true'.1 hb) o (Array.mem_of_getElem? ho)
  exact (Array.all_eq_true'.1 h1) e he
 refine wpAny_invI hwf hb' step fin ops.size _ a0 _ (by simp) ?_ ?_
 ·unfold leftN
  exact Nat.le_trans (List.length_filter_le _ _) (by simp)
 ·have hz : (fun i => (Array.replicate ops.size false).getD i false) = fun _ => false := funext fun i => by
   rw [Array.getD_eq_getD_getElem?]
   cases h : (Array.replicate ops.size false)[i]? with
   | none => rfl
   | some b =>
    obtain ⟨h1, h2⟩ := Array.getElem?_eq_some_iff.1 h
    simpa using h2.symm
  rw [hz]; exact h0
/-- Without the edges that bind in one of the two orders only. -/
def strip1 (o : Oper) : Oper := { o with after := (o.after.toList.filter (Region.binds .any)).toArray }
def stripR (ops : Array Oper) : Array Oper := (ops.toList.map strip1).toArray
theorem strip_get (ops : Array Oper) (i : Nat) : (stripR ops)[i]? = (ops[i]?).map strip1 := by
 unfold stripR
 rw [List.getElem?_toArray, List.getElem?_map, Array.getElem?_toList]
theorem strip_size (ops : Array Oper) : (stripR ops).size = ops.size := by unfold stripR; simp
theorem strip_ready (ops : Array Oper) (listed : Array Bool) : Region.ready .any (stripR ops) listed = Region.ready .any ops listed := by
 unfold Region.ready
 rw [strip_size]
 congr 1
 funext i
 rw [strip_get]
 cases ops[i]? with
 | none => rfl
 | some o =>
  simp only [Option.map_some, Option.getD_some]
  congr 1
  unfold strip1
  rw [Bool.eq_iff_iff, Array.all_eq_true', Array.all_eq_true']
  constructor
  ·intro h e he
   cases hb : Region.binds .any e with
   | false => rfl
   | true =>
    have := h e (by simp [hb]; exact he)
    rw [hb] at this; exact this
  ·intro h e he
   exact h e (by simp at he; exact he.1)
theorem strip_yielded (ops : Array Oper) (tm : Array Value) : yielded (stripR ops) tm = yielded ops tm := by
 funext j
 unfold yielded
 rw [strip_get]
 cases ops[j]? <;> rfl
theorem strip_wpOp (ops : Array Oper) (i : Nat) (K : Act → World → Prop) (a : Act) (w : World) : wpOp P (stripR ops) Q i K a w = wpOp P ops Q i K a w := by
 unfold wpOp
 rw [strip_get, strip_yielded]
 cases ops[i]? <;> rfl
theorem strip_wpAny (ops : Array Oper) : ∀ (fuel : Nat) (listed : Array Bool), wpAny P .any (stripR ops) Q fuel listed = wpAny P .any ops Q fuel listed := by
 intro fuel
 induction fuel with
 | zero => intro listed; funext a w; unfold wpAny; rw [strip_ready]
 | succ fuel ih =>
  intro listed
  funext a w
  unfold wpAny
  rw [strip_ready]
  simp only [strip_wpOp, ih]
end
/-- What an operation leaves: a value; nothing, for it is left out; a block (with these cells); other cells in the block of operation j. -/
inductive Kd where
 | val (v : Value)
 | skip
 | lay (t : TypeId) (cs : List Value)
 | put (j : Nat) (cs : List Value)
def kdV (β : Nat → Nat) (i : Nat) : Kd → Option Value
 | .val v => some v
 | .skip => some undef
 | .lay _ _ => some (.pointer (some ⟨β i, 0, none⟩))
 | .put _ _ => none
def vsK (ks : List Kd) (β : Nat → Nat) : List (Option Value) := ks.zipIdx.map fun p => kdV β p.2 p.1
/-- The cells of operation i's block, when the operations L are done. -/
def cellsK (ks : List Kd) (L : Nat → Bool) (i : Nat) (cs : List Value) : List Value :=
 match (ks.zipIdx.find? fun p => match p.1 with | .put j _ => Nat.beq j i && L p.2 | _ => false) with
 | some (.put _ cs', _) => cs'
 | _ => cs
def itK (ks : List Kd) (β : Nat → Nat) (L : Nat → Bool) (p : Kd × Nat) : Option It := match p.1 with
 | .lay t cs => if L p.2 = true then some (.row (β p.2) t (cellsK ks L p.2 cs)) else none
 | _ => none
def itsK (ks : List Kd) (β : Nat → Nat) (L : Nat → Bool) : List It := ks.zipIdx.filterMap (itK ks β L)
theorem Mem.perm {w0 w : World} {its its' : List It} (h : Mem w0 w its) (hp : its.Perm its') : Mem w0 w its' := by
 refine ⟨h.below, fun it hi => h.each it (hp.mem_iff.2 hi), ?_⟩
 have h2 : its.Pairwise fun x y => x.blk = none ∨ y.blk = none ∨ x.blk ≠ y.blk := h.apart.imp fun h => h.elim .inl fun h => .inr (.inr h)
 have h3 := hp.pairwise h2 (fun {x y} h => h.elim (fun h => .inr (.inl h)) fun h => h.elim .inl fun h => .inr (.inr (Ne.symm h)))
 refine h3.imp fun {x y} h => ?_
 rcases h with h | h | h
 ·exact .inl h
 ·cases hx : x.blk with
  | none => exact .inl rfl
  | some k => exact .inr (by rw [h]; simp)
 ·exact .inr h
theorem fm_congr {α β : Type} {f g : α → Option β} : ∀ {l : List α}, (∀ x ∈ l, f x = g x) → l.filterMap f = l.filterMap g := by
 intro l
 induction l with
 | nil => intro _; rfl
 | cons a l ih =>
  intro h
  have h1 := h a List.mem_cons_self
  have h2 := ih fun x hx => h x (List.mem_cons_of_mem _ hx)
  cases ha : f a with
  | none => rw [List.filterMap_cons_none ha, List.filterMap_cons_none (by rw [← h1]; exact ha), h2]
  | some c => rw [List.filterMap_cons_some ha, List.filterMap_cons_some (by rw [← h1]; exact ha), h2]
/-- One more thing in the list, wherever it stands. -/
theorem filterMap_one {α β : Type} {f g : α → Option β} {b : β} : ∀ {l : List α} {i : Nat} {x : α}, l[i]? = some x → f x = none → g x = some b → (∀ (j : Nat) (y : α), j ≠ i → l[j]? = some y → f y = g y) → (b :: l.filterMap f).Perm (l.filterMap g) := by
 intro l
 induction l with
 | nil => intro i x h; simp at h
 | cons a l ih =>
  intro i x h hf hg he
  cases i with
  | zero =>
   obtain rfl := Option.some.inj h
   rw [List.filterMap_cons_none hf, List.filterMap_cons_some hg]
   have : l.filterMap f = l.filterMap g := by
    apply fm_congr
    intro y hy
    obtain ⟨j, hj, rfl⟩ := List.getElem_of_mem hy
    exact he (j + 1) _ (by omega) (by rw [List.getElem?_cons_succ, List.getElem?_eq_getElem hj])
   rw [this]
  | succ i =>
   have h1 := he 0 a (by omega) rfl
   have hrec := ih (i := i) (by simpa using h) hf hg (fun j y hj hy => he (j + 1) y (by omega) (by simpa using hy))
   cases ha : f a with
   | none => rw [List.filterMap_cons_none ha, List.filterMap_cons_none (by rw [← h1]; exact ha)]; exact hrec
   | some c =>
    rw [List.filterMap_cons_some ha, List.filterMap_cons_some (by rw [← h1]; exact ha)]
    exact (List.Perm.swap c b _).trans (hrec.cons c)
/-- One thing in the list turns. -/
theorem filterMap_turn {α β : Type} {f g : α → Option β} {b c : β} : ∀ {l : List α} {i : Nat} {x : α}, l[i]? = some x → f x = some b → g x = some c → (∀ (j : Nat) (y : α), j ≠ i → l[j]? = some y → f y = g y) → ∃ q, (l.filterMap f)[q]? = some b ∧ l.filterMap g = (l.filterMap f).set q c := by
 intro l
 induction l with
 | nil => intro i x h; simp at h
 | cons a l ih =>
  intro i x h hf hg he
  cases i with
  | zero =>
   obtain rfl := Option.some.inj h
   have : l.filterMap f = l.filterMap g := by
    apply fm_congr
    intro y hy
    obtain ⟨j, hj, rfl⟩ := List.getElem_of_mem hy
    exact he (j + 1) _ (by omega) (by rw [List.getElem?_cons_succ, List.getElem?_eq_getElem hj])
   refine ⟨0, by rw [List.filterMap_cons_some hf]; rfl, ?_⟩
   rw [List.filterMap_cons_some hf, List.filterMap_cons_some hg, this]; rfl
  | succ i =>
   have h1 := he 0 a (by omega) rfl
   obtain ⟨q, h2, h3⟩ := ih (i := i) (by simpa using h) hf hg (fun j y hj hy => he (j + 1) y (by omega) (by simpa using hy))
   cases ha : f a with
   | none => rw [List.filterMap_cons_none ha, List.filterMap_cons_none (by rw [← h1]; exact ha)]; exact ⟨q, h2, h3⟩
   | some d =>
    rw [List.filterMap_cons_some ha, List.filterMap_cons_some (by rw [← h1]; exact ha)]
    exact ⟨q + 1, by simpa using h2, by rw [h3]; rfl⟩
/-- Whoever writes slot k comes behind operation i. -/
def keyYet (ops : Array Oper) (i k : Nat) : Bool := (List.range ops.size).all fun j => slotOf ops j != some k || (match ops[j]? with
 | some o => o.after.any fun e => Nat.beq e.on i
 | none => false)
/-- What is known when operation i is ready. -/
def envM (ops : Array Oper) (vs : List (Option Value)) (env : List (Nat × Value)) (i : Nat) (o : Oper) : List (Nat × Value) :=
 (o.after.toList.filterMap fun e => match slotOf ops e.on, vs.getD e.on none with
  | some d, some v => some (d, v)
  | _, _ => none) ++ env.filter fun p => keyYet ops i p.1
def chkM (ops : Array Oper) (vs : List (Option Value)) (env : List (Nat × Value)) (i : Nat) : Bool := match ops[i]? with
 | none => false
 | some o => (match guardE ops (envM ops vs env i o) o with | some b => b | none => false) && covE (envM ops vs env i o) o
def chkMN (ops : Array Oper) (vs : List (Option Value)) (env : List (Nat × Value)) (i : Nat) : Bool := match ops[i]? with
 | none => false
 | some o => match guardE ops (envM ops vs env i o) o with | some b => !b | none => false
/-- What operation i owes, whatever came before it. -/
inductive PayM (P : Program) (ops : Array Oper) (ks : List Kd) (env : List (Nat × Value)) (F : World → Prop) (i : Nat) : Prop
 | val (v : Value) (hk : ks[i]? = some (.val v)) (hc : ∀ β, chkM ops (vsK ks β) env i = true) (hr : ∀ β w, F w → (execOp (evE (envM ops (vsK ks β) env i (opAt ops i))) (opAt ops i)).run P w = .ok (.value v) w)
 | call (f : FuncId) (args : Array Value) (v : Value) (hk : ks[i]? = some (.val v)) (hc : ∀ β, chkM ops (vsK ks β) env i = true) (he : ∀ β w, (execOp (evE (envM ops (vsK ks β) env i (opAt ops i))) (opAt ops i)).run P w = .ok (.enter f args) w) (hcall : ∀ w, F w → Calls P f args w (Ret w v))
 | skip (hk : ks[i]? = some .skip) (hc : ∀ β, chkMN ops (vsK ks β) env i = true)
 | lay (t : TypeId) (cs : List Value) (hk : ks[i]? = some (.lay t cs)) (hc : ∀ β, chkM ops (vsK ks β) env i = true) (hr : ∀ β w, (execOp (evE (envM ops (vsK ks β) env i (opAt ops i))) (opAt ops i)).run P w = .ok (.value (.pointer (some ⟨w.heap.size, 0, none⟩))) (w.alloc (.cells cs.toArray t)))
 | put (j : Nat) (tt : TypeId) (cs cs' : List Value) (t : TypeId) (x y : Operand) (v : Value) (hk : ks[i]? = some (.put j cs')) (hj : ks[j]? = some (.lay tt cs)) (hc : ∀ β, chkM ops (vsK ks β) env i = true)
   (hop : (opAt ops i).op = .store t x y) (hx : ∀ β, evE (envM ops (vsK ks β) env i (opAt ops i)) x = .pointer (some ⟨β j, 0, none⟩)) (hy : ∀ β, evE (envM ops (vsK ks β) env i (opAt ops i)) y = v)
   (hin : ((opAt ops i).after.any fun e => Nat.beq e.on j) = true) (hs : storeV P t 0 cs v = some cs') (hone : (ks.zipIdx.all fun p => match p.1 with | .put q _ => !Nat.beq q j || Nat.beq p.2 i | _ => true) = true)
def putsOk (ops : Array Oper) (ks : List Kd) : Bool := ks.zipIdx.all fun p => match p.1 with
 | .put j _ => match ops[p.2]? with
  | some o => o.after.any fun e => Nat.beq e.on j
  | none => false
 | _ => true
theorem zip_get {ks : List Kd} {i : Nat} {k : Kd} (h : ks[i]? = some k) : ks.zipIdx[i]? = some (k, i) := by
 rw [List.getElem?_zipIdx, h]; simp
theorem zip_mem {ks : List Kd} {p : Kd × Nat} (h : p ∈ ks.zipIdx) : ks[p.2]? = some p.1 := by
 obtain ⟨j, hj, rfl⟩ := List.getElem_of_mem h
 simp at hj ⊢
theorem vsK_get (ks : List Kd) (β : Nat → Nat) (j : Nat) : (vsK ks β).getD j none = (ks[j]?).bind (kdV β j) := by
 unfold vsK
 rw [List.getD_eq_getElem?_getD, List.getElem?_map, List.getElem?_zipIdx]
 cases ks[j]? <;> simp
structure InvM (ops : Array Oper) (ks : List Kd) (n : Nat) (a0 : Act) (w0 : World) (its : List It) (β : Nat → Nat) (L : Nat → Bool) (a : Act) (w : World) : Prop where
 size : a.tmps.size = n
 defers : a.defers = []
 outer : ∀ s, (∀ i, slotOf ops i = some s → L i = false) → a.tmps[s]? = a0.tmps[s]?
 vals : ∀ j v, L j = true → slotOf ops j ≠ none → (vsK ks β).getD j none = some v → vat ops a j = v
 mem : Mem w0 w (itsK ks β L ++ its)
 down : ∀ i o, ops[i]? = some o → L i = true → ∀ e ∈ o.after, L e.on = true
section
variable {P : Program} {ops : Array Oper} {Q : Exit → Act → World → Prop} {ks : List Kd} {n : Nat} {a0 a : Act} {w0 w : World} {its : List It} {β : Nat → Nat} {L : Nat → Bool} {i : Nat} {o : Oper} {env : List (Nat × Value)}
theorem InvM.free (hK : Knows a0 n env) (st : InvM ops ks n a0 w0 its β L a w) {k : Nat} {v : Value} (hk : keyFree ops k = true) (hv : look k env = some v) : a.eval (.tmp k) = v := by
 rw [← hK.val k v hv]
 show a.tmps.getD k undef = a0.tmps.getD k undef
 rw [Array.getD_eq_getD_getElem?, Array.getD_eq_getD_getElem?, st.outer k (fun j hj => absurd hj (keyFree_of hk j))]
theorem InvM.yet (hK : Knows a0 n env) (st : InvM ops ks n a0 w0 its β L a w) (hLi : L i = false) {k : Nat} {v : Value} (hk : keyYet ops i k = true) (hv : look k env = some v) : a.eval (.tmp k) = v := by
 rw [← hK.val k v hv]
 show a.tmps.getD k undef = a0.tmps.getD k undef
 rw [Array.getD_eq_getD_getElem?, Array.getD_eq_getD_getElem?, st.outer k (fun j hj => ?_)]
 cases hoj : ops[j]? with
 | none => unfold slotOf at hj; rw [hoj] at hj; cases hj
 | some oj =>
  have hlt : j < ops.size := (Array.getElem?_eq_some_iff.1 hoj).1
  have h := List.all_eq_true.1 hk j (by simpa using hlt)
  rw [hj, hoj] at h
  simp only [bne_self_eq_false, Bool.false_or] at h
  obtain ⟨e, he, hon⟩ := Array.any_eq_true'.1 h
  cases hLj : L j with
  | false => rfl
  | true =>
   have h1 := st.down j oj hoj hLj e he
   rw [Nat.eq_of_beq_eq_true hon, hLi] at h1; cases h1
theorem InvM.knows (hK : Knows a0 n env) (st : InvM ops ks n a0 w0 its β L a w) (hLi : L i = false) (haft : ∀ e ∈ o.after, L e.on = true) : Knows a n (envM ops (vsK ks β) env i o) := by
 refine ⟨st.size, st.defers, fun k v h => ?_⟩
 unfold envM at h
 rw [look_append] at h
 split at h
 ·rename_i u hu
  obtain rfl := Option.some.inj h
  have hm := look_mem hu
  rw [List.mem_filterMap] at hm
  obtain ⟨e, he, hx⟩ := hm
  cases hs : slotOf ops e.on with
  | none => rw [hs] at hx; cases hx
  | some d =>
   cases hv : (vsK ks β).getD e.on none with
   | none => rw [hs, hv] at hx; cases hx
   | some u' =>
    rw [hs, hv] at hx
    simp only [Option.some.injEq, Prod.mk.injEq] at hx
    obtain ⟨rfl, rfl⟩ := hx
    rw [eval_slot hs]
    exact st.vals e.on _ (haft e (by simpa using he)) (by rw [hs]; simp) hv
 ·obtain ⟨h1, h2⟩ := look_filter h
  exact st.yet hK hLi h1 h2
def upL (L : Nat → Bool) (i : Nat) : Nat → Bool := fun j => decide (j = i) || L j
theorem upL_self (L : Nat → Bool) (i : Nat) : upL L i i = true := by unfold upL; simp
theorem upL_ne {j : Nat} (h : j ≠ i) : upL L i j = L j := by unfold upL; simp [h]
theorem InvM.step (st : InvM ops ks n a0 w0 its β L a w) (hwf : wfR ops n = true) (ho : ops[i]? = some o) (haft : ∀ e ∈ o.after, L e.on = true) (hLi : L i = false) {v : Value} {w' : World} {β' : Nat → Nat} (hβ : ∀ j, j ≠ i → β' j = β j) (hv : ∀ u, slotOf ops i ≠ none → (vsK ks β').getD i none = some u → v = u) (hm : Mem w0 w' (itsK ks β' (upL L i) ++ its)) : InvM ops ks n a0 w0 its β' (upL L i) (a.put o.dst v) w' := by
 have hsl : slotOf ops i = o.dst := by unfold slotOf; rw [ho]; rfl
 refine ⟨by rw [size_put]; exact st.size, by rw [defers_put]; exact st.defers, fun s hs => ?_, fun j u hj hsj hu => ?_, hm, fun j o' ho' hj e he => ?_⟩
 ·rw [← st.outer s (fun j hj => (by have h := hs j hj; cases hl : L j with
   | false => rfl
   | true => unfold upL at h; rw [hl] at h; simp at h))]
  cases hd : o.dst with
  | none => rfl
  | some d =>
   show (a.tmps.setIfInBounds d v)[s]? = _
   rw [Array.getElem?_setIfInBounds, if_neg (fun e => (by have h := hs i (by rw [hsl, hd, e]); rw [upL_self] at h; cases h))]
 ·by_cases hji : j = i
  ·subst hji
   rw [vat_put hwf st.size ho (by rw [← hsl]; exact hsj) rfl]
   exact hv u hsj hu
  ·rw [vat_put_far hwf ho hji]
   refine st.vals j u (by rw [upL_ne hji] at hj; exact hj) hsj ?_
   rw [vsK_get] at hu ⊢
   cases hk : ks[j]? with
   | none => rw [hk] at hu; cases hu
   | some k =>
    rw [hk] at hu
    rw [Option.bind_some] at hu ⊢
    rw [← hu]
    cases k <;> first | rfl | (show kdV β j (.lay _ _) = kdV β' j (.lay _ _); unfold kdV; rw [hβ j hji])
 ·by_cases hji : j = i
  ·subst hji
   rw [ho] at ho'
   obtain rfl := Option.some.inj ho'
   by_cases hei : e.on = j
   ·rw [hei]; exact upL_self _ _
   ·rw [upL_ne hei]; exact haft e he
  ·rw [upL_ne hji] at hj
   by_cases hei : e.on = i
   ·rw [hei]; exact upL_self _ _
   ·rw [upL_ne hei]; exact st.down j o' ho' hj e he
theorem find_pred {α : Type} {f g : α → Bool} : ∀ {l : List α}, (∀ x ∈ l, f x = g x) → l.find? f = l.find? g := by
 intro l
 induction l with
 | nil => intro _; rfl
 | cons x l ih =>
  intro h
  rw [List.find?_cons, List.find?_cons, h x List.mem_cons_self, ih (fun y hy => h y (List.mem_cons_of_mem _ hy))]
theorem cellsK_same {L' : Nat → Bool} {j : Nat} {cs : List Value} (h : ∀ p ∈ ks.zipIdx, ∀ cs', p.1 = .put j cs' → L' p.2 = L p.2) : cellsK ks L' j cs = cellsK ks L j cs := by
 unfold cellsK
 rw [find_pred (g := fun p => match p.1 with | .put j' _ => Nat.beq j' j && L p.2 | _ => false)]
 intro p hp
 rcases hk : p.1 with _ | _ | _ | ⟨q, cs'⟩
 ·rfl
 ·rfl
 ·rfl
 ·simp only
  cases hb : Nat.beq q j with
  | false => rfl
  | true =>
   have e := Nat.eq_of_beq_eq_true hb
   rw [h p hp cs' (by rw [hk, e])]
/-- What an operation without a block of its own leaves alone. -/
theorem itsK_same (hk : ∀ k, ks[i]? = some k → (∀ t cs, k ≠ .lay t cs) ∧ ∀ j cs, k ≠ .put j cs) : itsK ks β (upL L i) = itsK ks β L := by
 unfold itsK
 apply fm_congr
 intro p hp
 have hpg := zip_mem hp
 unfold itK
 rcases hk1 : p.1 with _ | _ | ⟨t, cs⟩ | _
 ·rfl
 ·rfl
 ·simp only
  have hne : p.2 ≠ i := fun e => (hk p.1 (by rw [← e]; exact hpg)).1 t cs hk1
  rw [upL_ne hne, cellsK_same]
  intro q hq cs' hq1
  exact upL_ne fun e => (hk q.1 (by rw [← e]; exact zip_mem hq)).2 _ _ hq1
 ·rfl
theorem PayM.owes {F : World → Prop} (hK : Knows a0 n env) (hwf : wfR ops n = true) (hF : ∀ w, Mem w0 w its → F w) (hpo : putsOk ops ks = true) (hp : PayM P ops ks env F i) (ho : ops[i]? = some o) (hLi : L i = false) (haft : ∀ e ∈ o.after, L e.on = true) (st : InvM ops ks n a0 w0 its β L a w) :
  OwesI P ops Q (fun L a w => ∃ β, InvM ops ks n a0 w0 its β L a w) L i o a w := by
 intro K hKK
 have hk := st.knows hK hLi haft
 have h0 : opAt ops i = o := by unfold opAt; rw [ho]; rfl
 have hFw : F w := hF w (by have := st.mem.drop (itsK ks β L).length; rwa [List.drop_left] at this)
 have parts : chkM ops (vsK ks β) env i = true → Region.wanted o (yielded ops a.tmps) = true ∧ execOp a.eval o = execOp (evE (envM ops (vsK ks β) env i o)) o := by
  intro h
  unfold chkM at h
  rw [ho] at h
  simp only [Bool.and_eq_true] at h
  refine ⟨wanted_of hk ?_, hk.exec h.2⟩
  cases hg : guardE ops (envM ops (vsK ks β) env i o) o with
  | none => rw [hg] at h; cases h.1
  | some b => rw [hg] at h; exact congrArg some h.1
 have plain : ∀ {v : Value} {w' : World}, ks[i]? = some (.val v) ∨ (ks[i]? = some .skip ∧ v = undef) → Mem w0 w' (itsK ks β L ++ its) → InvM ops ks n a0 w0 its β (upL L i) (a.put o.dst v) w' := by
  intro v w' hkk hm
  refine st.step hwf ho haft hLi (fun _ _ => rfl) (fun u _ hu => ?_) ?_
  ·rw [vsK_get] at hu
   rcases hkk with h | ⟨h, rfl⟩
   ·rw [h] at hu; exact Option.some.inj hu
   ·rw [h] at hu; exact Option.some.inj hu
  ·rw [itsK_same]
   ·exact hm
   ·intro k hk2
    rcases hkk with h | ⟨h, _⟩
    ·rw [h] at hk2; obtain rfl := Option.some.inj hk2; exact ⟨fun _ _ e => (by cases e), fun _ _ e => (by cases e)⟩
    ·rw [h] at hk2; obtain rfl := Option.some.inj hk2; exact ⟨fun _ _ e => (by cases e), fun _ _ e => (by cases e)⟩
 cases hp with
 | val v hkk hc hr =>
  obtain ⟨h1, h2⟩ := parts (hc β)
  have hrun := hr β w hFw
  rw [h0] at hrun
  rw [if_pos h1]; unfold Oper.wp; rw [h2, hrun]
  exact hKK v w ⟨β, plain (.inl hkk) st.mem⟩
 | call f args v hkk hc he hcall =>
  obtain ⟨h1, h2⟩ := parts (hc β)
  have hrun := he β w
  rw [h0] at hrun
  rw [if_pos h1]; unfold Oper.wp; rw [h2, hrun]
  refine (hcall w hFw).mono ?_
  rintro e w' ⟨rfl, hb⟩
  exact hKK v w' ⟨β, plain (.inl hkk) (st.mem.go hb)⟩
 | skip hkk hc =>
  have hcb := hc β
  unfold chkMN at hcb
  rw [ho] at hcb
  simp only at hcb
  have hg : guardE ops (envM ops (vsK ks β) env i o) o = some false := by
   cases hg : guardE ops (envM ops (vsK ks β) env i o) o with
   | none => rw [hg] at hcb; cases hcb
   | some b => rw [hg] at hcb; cases b <;> simp_all
  rw [if_neg (by rw [wanted_of hk hg]; decide)]
  exact hKK undef w ⟨β, plain (.inr ⟨hkk, rfl⟩) st.mem⟩
 | lay t cs hkk hc hr =>
  obtain ⟨h1, h2⟩ := parts (hc β)
  have hrun := hr β w
  rw [h0] at hrun
  rw [if_pos h1]; unfold Oper.wp; rw [h2, hrun]
  let β' : Nat → Nat := fun j => if j = i then w.heap.size else β j
  have hβi : β' i = w.heap.size := if_pos rfl
  have hβ : ∀ j, j ≠ i → β' j = β j := fun j hj => if_neg hj
  refine hKK _ _ ⟨β', st.step hwf ho haft hLi hβ (fun u _ hu => ?_) ?_⟩
  ·rw [vsK_get, hkk, Option.bind_some] at hu
   have : (Value.pointer (some ⟨β' i, 0, none⟩)) = u := Option.some.inj hu
   rw [hβi] at this; exact this
  ·have hnop : ∀ q ∈ ks.zipIdx, ∀ cs', q.1 = .put i cs' → L q.2 = false := by
    intro q hq cs' hq1
    cases hLq : L q.2 with
    | false => rfl
    | true =>
     have h3 := List.all_eq_true.1 hpo q hq
     rw [hq1] at h3
     simp only at h3
     cases hoq : ops[q.2]? with
     | none => rw [hoq] at h3; cases h3
     | some oq =>
      rw [hoq] at h3
      obtain ⟨k, hk2, he⟩ := Array.any_eq_true.1 h3
      have := st.down q.2 oq hoq hLq _ (Array.getElem_mem hk2)
      rw [Nat.eq_of_beq_eq_true he, hLi] at this
      cases this
   have hcells : cellsK ks (upL L i) i cs = cs := by
    unfold cellsK
    rw [List.find?_eq_none.2]
    intro q hq
    rcases hq1 : q.1 with _ | _ | _ | ⟨j, cs'⟩
    ·simp
    ·simp
    ·simp
    ·simp only
     cases hb : Nat.beq j i with
     | false => simp
     | true =>
      have e := Nat.eq_of_beq_eq_true hb
      subst e
      have hL := hnop q hq cs' hq1
      have hqi : q.2 ≠ j := fun e => by
       have := zip_mem hq
       rw [e, hkk, hq1] at this
       cases this
      rw [upL_ne hqi, hL]; simp
   have hperm := filterMap_one (f := itK ks β L) (g := itK ks β' (upL L i)) (b := .row w.heap.size t cs) (zip_get hkk) (by unfold itK; simp only; rw [hLi]; rfl) (by unfold itK; simp only; rw [upL_self, if_pos rfl, hβi, hcells]) (by
    intro j p hj hp
    have hpz : p.2 = j := by
     rw [List.getElem?_zipIdx] at hp
     cases hkj : ks[j]? with
     | none => rw [hkj] at hp; cases hp
     | some k => rw [hkj] at hp; have := Option.some.inj hp; rw [← this]; simp
    unfold itK
    rcases hp1 : p.1 with _ | _ | ⟨t', cs2⟩ | _
    ·rfl
    ·rfl
    ·simp only
     rw [hpz, upL_ne hj, hβ j hj, cellsK_same]
     intro q hq cs' hq1
     refine (upL_ne fun e => ?_).symm
     have := zip_mem hq
     rw [e, hkk, hq1] at this
     cases this
    ·rfl)
   exact ((st.mem.alloc t cs).perm (by exact hperm.append_right its))
 | put j tt cs cs' t x y v hkk hj hc hop hx hy hin hs hone =>
  obtain ⟨h1, h2⟩ := parts (hc β)
  have hLj : L j = true := by
   rw [h0] at hin
   obtain ⟨k, hk2, he⟩ := Array.any_eq_true.1 hin
   have := haft _ (Array.getElem_mem hk2)
   rw [Nat.eq_of_beq_eq_true he] at this; exact this
  have hji : j ≠ i := fun e => by rw [e, hLi] at hLj; cases hLj
  have only : ∀ q ∈ ks.zipIdx, ∀ cs2, q.1 = .put j cs2 → q.2 = i := by
   intro q hq cs2 hq1
   have h3 := List.all_eq_true.1 hone q hq
   rw [hq1] at h3
   simp only [Nat.beq_refl, Bool.not_true, Bool.false_or] at h3
   exact Nat.eq_of_beq_eq_true h3
  have hc0 : cellsK ks L j cs = cs := by
   unfold cellsK
   rw [List.find?_eq_none.2]
   intro q hq
   rcases hq1 : q.1 with _ | _ | _ | ⟨j2, cs2⟩
   ·simp
   ·simp
   ·simp
   ·simp only
    cases hb : Nat.beq j2 j with
    | false => simp
    | true =>
     have e := Nat.eq_of_beq_eq_true hb
     subst e
     rw [only q hq cs2 hq1, hLi]; simp
  have hc1 : cellsK ks (upL L i) j cs = cs' := by
   unfold cellsK
   have hfind : ∃ q, (ks.zipIdx.find? fun p => match p.1 with | .put j' _ => Nat.beq j' j && upL L i p.2 | _ => false) = some q := by
    rw [← Option.isSome_iff_exists, List.find?_isSome]
    refine ⟨(.put j cs', i), List.mem_of_getElem? (zip_get hkk), ?_⟩
    simp only [Nat.beq_refl, Bool.true_and, upL_self]
   obtain ⟨q, hq⟩ := hfind
   rw [hq]
   have hm := List.mem_of_find?_eq_some hq
   have hpq := List.find?_some hq
   rcases hq1 : q.1 with _ | _ | _ | ⟨j2, cs2⟩
   ·rw [hq1] at hpq; cases hpq
   ·rw [hq1] at hpq; cases hpq
   ·rw [hq1] at hpq; cases hpq
   ·rw [hq1] at hpq
    simp only [Bool.and_eq_true] at hpq
    have e := Nat.eq_of_beq_eq_true hpq.1
    subst e
    have hqi := only q hm cs2 hq1
    have := zip_mem hm
    rw [hqi, hkk, hq1] at this
    have e2 : (Kd.put j2 cs') = .put j2 cs2 := Option.some.inj this
    injection e2 with _ e3
    obtain ⟨q1, q2⟩ := q
    subst hq1
    exact e3.symm
  obtain ⟨q, hq1, hq2⟩ := filterMap_turn (f := itK ks β L) (g := itK ks β (upL L i)) (b := .row (β j) tt cs) (c := .row (β j) tt cs') (zip_get hj) (by unfold itK; simp only; rw [hLj, if_pos rfl, hc0]) (by unfold itK; simp only; rw [upL_ne hji, hLj, if_pos rfl, hc1]) (by
   intro j2 p hj2 hp
   have hpz : p.2 = j2 := by
    rw [List.getElem?_zipIdx] at hp
    cases hkj : ks[j2]? with
    | none => rw [hkj] at hp; cases hp
    | some k => rw [hkj] at hp; have := Option.some.inj hp; rw [← this]; simp
   unfold itK
   rcases hp1 : p.1 with _ | _ | ⟨t', cs2⟩ | _
   ·rfl
   ·rfl
   ·simp only
    have hne : p.2 ≠ i := fun e => by
     have := zip_mem (List.mem_of_getElem? hp)
     rw [e, hkk, hp1] at this
     cases this
    rw [upL_ne hne, cellsK_same]
    intro r hr cs3 hr1
    refine (upL_ne fun e => hj2 ?_).symm
    have := zip_mem hr
    rw [e, hkk, hr1] at this
    have e2 : (Kd.put j cs') = .put p.2 cs3 := Option.some.inj this
    injection e2 with e3
    rw [e3, hpz]
   ·rfl)
  have hit : (itsK ks β L ++ its)[q]? = some (.row (β j) tt cs) := by
   have hlt : q < (itsK ks β L).length := (List.getElem?_eq_some_iff.1 hq1).1
   rw [List.getElem?_append_left hlt]; exact hq1
  have hrun := run_storeE (P := P) (ρ := evE (envM ops (vsK ks β) env i (opAt ops i))) hop (hx β) (hy β) (st.mem.row q hit) hs
  rw [h0] at hrun
  rw [if_pos h1]; unfold Oper.wp; rw [h2, hrun]
  refine hKK undef _ ⟨β, st.step hwf ho haft hLi (fun _ _ => rfl) (fun u _ hu => ?_) ?_⟩
  ·rw [vsK_get, hkk] at hu; cases hu
  ·have := st.mem.setRow q hit cs'
   have hlt : q < (itsK ks β L).length := (List.getElem?_eq_some_iff.1 hq1).1
   rw [List.set_append_left _ _ hlt] at this
   rw [show itsK ks β (upL L i) = (itsK ks β L).set q (.row (β j) tt cs') from hq2]
   exact this
def lookM (ops : Array Oper) (ks : List Kd) (β : Nat → Nat) (env : List (Nat × Value)) (k : Nat) : Option Value := lookR ops (vsK ks β) env k
theorem region_made_any {F : World → Prop} (hK : Knows a n env) (hM : Mem w0 w its) (ks : List Kd) (m : Nat) (hF : ∀ w, Mem w0 w its → F w) (hd : (wfR ops n && bindsAll ops && putsOk ops ks && Nat.beq ks.length m && Nat.beq ops.size m) = true) (pays : AllS m fun i => PayM P ops ks env F i) (env' : (Nat → Nat) → List (Nat × Value)) (hs : ∀ β, ((env' β).map fun p => lookM ops ks β env p.1) = (env' β).map fun p => some p.2)
  (h : ∀ β a' w', Knows a' n (env' β) → Mem w0 w' (itsK ks β (fun _ => true) ++ its) → Q .normal a' w') : wpAny P .any ops Q ops.size (Array.replicate ops.size false) a w.drew := by
 simp only [Bool.and_eq_true] at hd
 obtain ⟨⟨⟨⟨h1, h2⟩, h3⟩, h4⟩, h5⟩ := hd
 have h4' := Nat.eq_of_beq_eq_true h4
 have h5' := Nat.eq_of_beq_eq_true h5
 have hi0 : itsK ks (fun _ => 0) (fun _ => false) = [] := by
  unfold itsK
  rw [List.filterMap_eq_nil_iff]
  intro p _
  unfold itK
  rcases p.1 with _ | _ | ⟨t, cs⟩ | _ <;> simp
 refine region_inv_any (Inv := fun L a' w' => ∃ β, InvM ops ks n a w0 its β L a' w') h1 h2 ⟨fun _ => 0, hK.size, hK.defers, fun _ _ => rfl, fun j v hj => (by cases hj), (by rw [hi0]; exact hM.drew), fun i o _ hi => (by cases hi)⟩ ?_ ?_
 ·intro i o a' w' L ho hL haft ⟨β, st⟩
  exact PayM.owes hK h1 hF h3 (pays.at i (by rw [← h5']; exact (Array.getElem?_eq_some_iff.1 ho).1)) ho hL haft st
 ·intro L a' w' hL ⟨β, st⟩
  refine h β a' w' ⟨st.size, st.defers, fun k v hk => ?_⟩ ?_
  ·have hmem := look_mem hk
   have hl : lookR ops (vsK ks β) env k = some v := by
    obtain ⟨j, hj, hje⟩ := List.getElem_of_mem hmem
    have := congrArg (fun l => l[j]?) (hs β)
    simp only [List.getElem?_map, List.getElem?_eq_getElem hj, Option.map_some, hje] at this
    exact Option.some.inj this
   unfold lookR at hl
   split at hl
   ·rename_i j hj
    have hp1 := List.find?_some hj
    have hp2 := List.mem_of_find?_eq_some hj
    have hlt : j < ops.size := by simpa using hp2
    cases hs2 : slotOf ops j with
    | none => rw [hs2] at hp1; cases hp1
    | some d =>
     rw [hs2] at hp1
     have : d = k := Nat.eq_of_beq_eq_true hp1
     subst this
     rw [eval_slot hs2]
     exact st.vals j v (hL j hlt) (by rw [hs2]; simp) hl
   ·rename_i hj
    refine st.free hK ?_ hl
    unfold keyFree
    rw [List.all_eq_true]
    intro j hj2
    rw [List.find?_eq_none] at hj
    have := hj j hj2
    cases hs2 : slotOf ops j with
    | none => rfl
    | some d =>
     rw [hs2] at this
     have hne : d ≠ k := by
      rintro rfl
      exact this (Nat.beq_refl d)
     simpa using hne
  ·have hsame : itsK ks β L = itsK ks β (fun _ => true) := by
    unfold itsK
    apply fm_congr
    intro p hp
    have hlt : ∀ {q : Kd × Nat}, q ∈ ks.zipIdx → L q.2 = true := fun {q} hq => by
     have := (List.getElem?_eq_some_iff.1 (zip_mem hq)).1
     exact hL q.2 (by omega)
    unfold itK
    rcases hp1 : p.1 with _ | _ | ⟨t, cs⟩ | _
    ·rfl
    ·rfl
    ·simp only
     have e := cellsK_same (ks := ks) (L' := fun _ => true) (L := L) (j := p.2) (cs := cs) fun q hq _ _ => (hlt hq).symm
     rw [hlt hp, e]; rfl
    ·rfl
   rw [← hsame]; exact st.mem
theorem region_made {id : Nat} {F : World → Prop} (hK : Knows a n env) (hM : Mem w0 w its) (ks : List Kd) (m : Nat) (hF : ∀ w, Mem w0 w its → F w) (hm : P.follows .mixedOrders = true) (hd : (wfR ops n && bindsAll ops && putsOk ops ks && Nat.beq ks.length m && Nat.beq ops.size m) = true) (pays : AllS m fun i => PayM P ops ks env F i) (env' : (Nat → Nat) → List (Nat × Value)) (hs : ∀ β, ((env' β).map fun p => lookM ops ks β env p.1) = (env' β).map fun p => some p.2)
  (h : ∀ β a' w', Knows a' n (env' β) → Mem w0 w' (itsK ks β (fun _ => true) ++ its) → Q .normal a' w') : (Code.region id ops true).wp P Q a w := wp_region_any hm (region_made_any hK hM ks m hF hd pays env' hs h)
theorem region_made_strip {id : Nat} {F : World → Prop} (hK : Knows a n env) (hM : Mem w0 w its) (ks : List Kd) (m : Nat) (hF : ∀ w, Mem w0 w its → F w) (hm : P.follows .mixedOrders = true) (hd : (wfR (stripR ops) n && bindsAll (stripR ops) && putsOk (stripR ops) ks && Nat.beq ks.length m && Nat.beq (stripR ops).size m) = true) (pays : AllS m fun i => PayM P (stripR ops) ks env F i) (env' : (Nat → Nat) → List (Nat × Value)) (hs : ∀ β, ((env' β).map fun p => lookM (stripR ops) ks β env p.1) = (env' β).map fun p => some p.2)
  (h : ∀ β a' w', Knows a' n (env' β) → Mem w0 w' (itsK ks β (fun _ => true) ++ its) → Q .normal a' w') : (Code.region id ops true).wp P Q a w := by
 have h2 := region_made_any hK hM ks m hF hd pays env' hs h
 rw [strip_size, strip_wpAny] at h2
 exact wp_region_any hm h2
end
end Go.Proofs.YtmfiiapmkidmkaaDoor
