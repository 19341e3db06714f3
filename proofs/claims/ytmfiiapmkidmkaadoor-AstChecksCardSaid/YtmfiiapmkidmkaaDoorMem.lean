/-
  What is known of the memory that a call has made (Mem): blocks of its own, slices of its own; loads, stores, new blocks, appends, calls.
-/
import Derived.Test.YtmfiiapmkidmkaaDoorKn
import Derived.Deep.MidRow
import Derived.Laws.CopyRow
import Derived.Maps.AppendAt
namespace Go.Proofs.YtmfiiapmkidmkaaDoor
open Go Go.RowKit

/-- One thing that the call owns: a block of cells, or a slice that grows. -/
inductive It where
  | row (b : Nat) (t : TypeId) (cs : List Value)
  | own (e : TypeId) (size : Nat) (v : Value) (n : Nat) (xs : List Value)
  | obj (b : Nat) (o : Obj)
def It.blk : It → Option Nat
  | .row b _ _ => some b
  | .own _ _ v _ _ => v.ownBlock
  | .obj b _ => some b
def It.holds (base : Nat) (w : World) : It → Prop
  | .row b t cs => base ≤ b ∧ RowT w b t cs
  | .own e s v n xs => w.ownsRow base e s v n xs
  | .obj b o => base ≤ b ∧ w.heap[b]? = some o
/-- What lies below w0's end is as it was; these are the call's own, no two the same. -/
structure Mem (w0 w : World) (its : List It) : Prop where
  below : Below w0.heap.size w0 w
  each : ∀ it ∈ its, it.holds w0.heap.size w
  apart : its.Pairwise fun x y => x.blk = none ∨ x.blk ≠ y.blk
theorem It.lt {base : Nat} {w : World} {it : It} (h : it.holds base w) {k : Nat} (hk : it.blk = some k) : base ≤ k ∧ k < w.heap.size := by
  cases it with
  | row b t cs => obtain rfl := Option.some.inj hk; exact ⟨h.1, h.2.lt⟩
  | own e s v n xs => exact World.ownsRow.lt h k hk
  | obj b o =>
    obtain rfl := Option.some.inj hk
    refine ⟨h.1, ?_⟩
    rcases Nat.lt_or_ge b w.heap.size with h' | h'
    · exact h'
    · have h2 := h.2; rw [Array.getElem?_eq_none h'] at h2; cases h2
/-- What is not touched stays. -/
theorem It.stay {base : Nat} {w w' : World} {it : It} (h : it.holds base w) (hb : ∀ k, it.blk = some k → k < w.heap.size → w'.heap[k]? = w.heap[k]?) : it.holds base w' := by
  cases it with
  | row b t cs => exact ⟨h.1, (hb b rfl h.2.lt).trans h.2⟩
  | own e s v n xs =>
    refine ⟨h.1, ?_⟩
    rcases h.2 with h2 | ⟨g, cap, cur, hv, hg, hh, r⟩
    · exact .inl h2
    · have hlt : g < w.heap.size := (World.ownsRow.lt h g (by rw [hv]; rfl)).2
      exact .inr ⟨g, cap, cur, hv, hg, (hb g (by rw [show (It.own e s v n xs).blk = v.ownBlock from rfl, hv]; rfl) hlt).trans hh, r⟩
  | obj b o => exact ⟨h.1, (hb b rfl (It.lt (it := .obj b o) h rfl).2).trans h.2⟩
theorem It.base {b b' : Nat} {w : World} {it : It} (h : it.holds b w) (hb : b' ≤ b) : it.holds b' w := by
  cases it with
  | row k t cs => exact ⟨Nat.le_trans hb h.1, h.2⟩
  | own e s v n xs =>
    refine ⟨h.1, ?_⟩
    rcases h.2 with h2 | ⟨g, cap, cur, hv, hg, hh, r⟩
    · exact .inl h2
    · exact .inr ⟨g, cap, cur, hv, Nat.le_trans hb hg, hh, r⟩
  | obj k o => exact ⟨Nat.le_trans hb h.1, h.2⟩
section
variable {w0 w w' : World} {its : List It}
theorem Mem.start (w : World) : Mem w w [] := ⟨Below.refl _ _, by simp, .nil⟩
theorem Mem.to (h : Mem w0 w its) (its' : List It) (e : its = its') : Mem w0 w its' := e ▸ h
theorem Mem.size (h : Mem w0 w its) : w0.heap.size ≤ w.heap.size := h.below.size
theorem Mem.row (h : Mem w0 w its) (j : Nat) {b : Nat} {t : TypeId} {cs : List Value} (hj : its[j]? = some (.row b t cs)) : RowT w b t cs := (h.each _ (List.mem_of_getElem? hj)).2
theorem Mem.own (h : Mem w0 w its) (j : Nat) {e : TypeId} {s n : Nat} {v : Value} {xs : List Value} (hj : its[j]? = some (.own e s v n xs)) : w.ownsRow w0.heap.size e s v n xs := h.each _ (List.mem_of_getElem? hj)
theorem Mem.obj (h : Mem w0 w its) (j : Nat) {b : Nat} {o : Obj} (hj : its[j]? = some (.obj b o)) : w.heap[b]? = some o := (h.each _ (List.mem_of_getElem? hj)).2
theorem Mem.objlt (h : Mem w0 w its) (j : Nat) {b : Nat} {o : Obj} (hj : its[j]? = some (.obj b o)) : b < w.heap.size := (It.lt (it := .obj b o) (h.each _ (List.mem_of_getElem? hj)) rfl).2
theorem Mem.slc (h : Mem w0 w its) (j : Nat) {e : TypeId} {s n : Nat} {v : Value} {xs : List Value} (hj : its[j]? = some (.own e s v n xs)) : ∃ A q c, v = .slice A q c := by
  rcases (h.own j hj).2 with ⟨rfl, _⟩ | ⟨g, cap, cur, rfl, _⟩
  · exact ⟨_, _, _, rfl⟩
  · exact ⟨_, _, _, rfl⟩
theorem Mem.sub (h : Mem w0 w its) {its' : List It} (hs : its'.Sublist its) : Mem w0 w its' := ⟨h.below, fun it hi => h.each it (hs.subset hi), h.apart.sublist hs⟩
theorem Mem.drop (h : Mem w0 w its) (k : Nat) : Mem w0 w (its.drop k) := h.sub (List.drop_sublist k its)
theorem Mem.pick (h : Mem w0 w its) (j : Nat) {it : It} (hj : its[j]? = some it) : Mem w0 w [it] := h.sub (by
  obtain ⟨hlt, rfl⟩ := List.getElem?_eq_some_iff.1 hj
  exact List.singleton_sublist.2 (List.getElem_mem hlt))
/-- Nothing of the call's own is touched. -/
theorem Mem.go (h : Mem w0 w its) (hb : Below w.heap.size w w') : Mem w0 w' its :=
  ⟨Below.next h.below hb, fun it hi => It.stay (h.each it hi) fun k _ hk => hb.block k hk, h.apart⟩
theorem Mem.drew (h : Mem w0 w its) : Mem w0 w.drew its := h.go (Below.refl _ _).drew
/-- A new thing, behind the others. -/
theorem Mem.cons (h : Mem w0 w its) {it : It} (hi : it.holds w0.heap.size w) (hne : ∀ x ∈ its, it.blk = none ∨ it.blk ≠ x.blk) : Mem w0 w (it :: its) :=
  ⟨h.below, fun x hx => (List.mem_cons.1 hx).elim (fun e => e ▸ hi) (h.each x), .cons hne h.apart⟩
theorem Mem.alloc (h : Mem w0 w its) (t : TypeId) (cs : List Value) : Mem w0 (w.alloc (.cells cs.toArray t)) (.row w.heap.size t cs :: its) := by
  refine (h.go (below_alloc w _)).cons ⟨h.size, RowT.new w t cs⟩ fun x hx => .inr fun e => ?_
  have := (It.lt (h.each x hx) e.symm).2
  exact Nat.lt_irrefl _ this
theorem Mem.allocO (h : Mem w0 w its) (o : Obj) : Mem w0 (w.alloc o) (.obj w.heap.size o :: its) := by
  refine (h.go (below_alloc w _)).cons ⟨h.size, heap_alloc_new w o⟩ fun x hx => .inr fun e => ?_
  have := (It.lt (h.each x hx) e.symm).2
  exact Nat.lt_irrefl _ this
/-- What a call made, beside what was there. -/
theorem Mem.call (h : Mem w0 w its) {more : List It} (hc : Mem w w' more) : Mem w0 w' (more ++ its) := by
  refine ⟨Below.next h.below hc.below, fun it hi => ?_, ?_⟩
  · rcases List.mem_append.1 hi with hi | hi
    · exact It.base (hc.each it hi) h.size
    · exact (h.go hc.below).each it hi
  · rw [List.pairwise_append]
    refine ⟨hc.apart, h.apart, fun x hx y hy => ?_⟩
    cases e : x.blk with
    | none => exact .inl rfl
    | some k =>
      refine .inr fun e2 => ?_
      have h1 := (It.lt (hc.each x hx) e).1
      have h2 := (It.lt (h.each y hy) e2.symm).2
      omega
theorem pair_get {α : Type} {R : α → α → Prop} (hR : ∀ x y, R x y → R y x) : ∀ {l : List α}, l.Pairwise R → ∀ {i j : Nat} {x y : α}, i ≠ j → l[i]? = some x → l[j]? = some y → R x y := by
  intro l h
  induction h with
  | nil => intro i j x y _ hi; simp at hi
  | cons h1 _ ih =>
    intro i j x y hne hi hj
    cases i with
    | zero =>
      cases j with
      | zero => exact absurd rfl hne
      | succ j => obtain rfl := Option.some.inj hi; rw [List.getElem?_cons_succ] at hj; exact h1 y (List.mem_of_getElem? hj)
    | succ i =>
      cases j with
      | zero => obtain rfl := Option.some.inj hj; rw [List.getElem?_cons_succ] at hi; exact hR _ _ (h1 x (List.mem_of_getElem? hi))
      | succ j => rw [List.getElem?_cons_succ] at hi hj; exact ih (fun e => hne (by rw [e])) hi hj
theorem Mem.far (h : Mem w0 w its) {i j : Nat} (hij : i ≠ j) {x y : It} (hi : its[i]? = some x) (hj : its[j]? = some y) : x.blk = none ∨ y.blk = none ∨ x.blk ≠ y.blk := by
  have := pair_get (R := fun x y : It => x.blk = none ∨ y.blk = none ∨ x.blk ≠ y.blk) (fun x y h => h.elim (fun h => .inr (.inl h)) fun h => h.elim .inl fun h => .inr (.inr (Ne.symm h))) (h.apart.imp fun h => h.elim .inl fun h => .inr (.inr h)) hij hi hj
  exact this
/-- One thing turns into another one at its place. -/
theorem Mem.turnD (h : Mem w0 w its) (j : Nat) {x it : It} (hj : its[j]? = some x) (hi : it.holds w0.heap.size w') (hbel : Below w0.heap.size w0 w')
    (hk : ∀ k, k < w.heap.size → x.blk ≠ some k → w'.heap[k]? = w.heap[k]?) (hd : ∀ (q : Nat) (y : It), q ≠ j → its[q]? = some y → it.blk = none ∨ y.blk = none ∨ it.blk ≠ y.blk) : Mem w0 w' (its.set j it) := by
  have hother : ∀ (q : Nat) (y : It), q ≠ j → its[q]? = some y → y.holds w0.heap.size w' ∧ (it.blk = none ∨ y.blk = none ∨ it.blk ≠ y.blk) := by
    intro q y hq hy
    have hy2 := h.each y (List.mem_of_getElem? hy)
    have hf := h.far (Ne.symm hq) hj hy
    refine ⟨It.stay hy2 fun k e hlt => hk k hlt fun e2 => ?_, ?_⟩
    · rcases hf with hf | hf | hf
      · rw [hf] at e2; cases e2
      · rw [hf] at e; cases e
      · exact hf (e2.trans e.symm)
    · exact hd q y hq hy
  refine ⟨hbel, fun y hy => ?_, ?_⟩
  · obtain ⟨q, hq, rfl⟩ := List.getElem_of_mem hy
    rw [List.getElem_set]
    split
    · exact hi
    · rename_i hne
      rw [List.length_set] at hq
      exact (hother q _ (Ne.symm hne) (List.getElem?_eq_getElem hq)).1
  · rw [List.pairwise_iff_getElem]
    intro p q hp hq hpq
    rw [List.getElem_set, List.getElem_set]
    rw [List.length_set] at hp hq
    have hold := List.pairwise_iff_getElem.1 h.apart p q hp hq hpq
    split
    · rename_i e1
      split
      · omega
      · rename_i e2
        rcases (hother q _ (Ne.symm e2) (List.getElem?_eq_getElem hq)).2 with h1 | h1 | h1
        · exact .inl h1
        · by_cases h0 : it.blk = none
          · exact .inl h0
          · exact .inr (by rw [h1]; exact h0)
        · exact .inr h1
    · rename_i e1
      split
      · rcases (hother p _ (Ne.symm e1) (List.getElem?_eq_getElem hp)).2 with h1 | h1 | h1
        · by_cases h0 : its[p].blk = none
          · exact .inl h0
          · exact .inr (by rw [h1]; exact h0)
        · exact .inl h1
        · exact .inr (Ne.symm h1)
      · exact hold
theorem Mem.turn (h : Mem w0 w its) (j : Nat) {x it : It} (hj : its[j]? = some x) (hi : it.holds w0.heap.size w') (hbel : Below w0.heap.size w0 w')
    (hk : ∀ k, k < w.heap.size → x.blk ≠ some k → w'.heap[k]? = w.heap[k]?) (hloc : it.blk = x.blk ∨ ∀ k, it.blk = some k → w.heap.size ≤ k) : Mem w0 w' (its.set j it) := by
  refine h.turnD j hj hi hbel hk fun q y hq hy => ?_
  have hy2 := h.each y (List.mem_of_getElem? hy)
  rcases hloc with hl | hl
  · rw [hl]; exact h.far (Ne.symm hq) hj hy
  · cases e : it.blk with
    | none => exact .inl rfl
    | some k =>
      refine .inr (.inr fun e2 => ?_)
      have := hl k e
      have := (It.lt hy2 e2.symm).2
      omega
theorem Mem.setRow (h : Mem w0 w its) (j : Nat) {b : Nat} {t : TypeId} {cs : List Value} (hj : its[j]? = some (.row b t cs)) (cs' : List Value) : Mem w0 (w.setRow b cs'.toArray) (its.set j (.row b t cs')) := by
  have hr := h.each _ (List.mem_of_getElem? hj)
  refine h.turn j hj ⟨hr.1, setRow_heap w b cs.toArray _ t _ hr.2⟩ ?_ ?_ (.inl rfl)
  · exact h.below.trans ⟨rfl, rfl, rfl, by simp [World.setRow], fun k hk => setRow_other w b k _ (by have := hr.1; omega)⟩
  · intro k hk hne
    exact setRow_other w b k _ fun e => hne (by rw [e]; rfl)
/-- Block b holds o. -/
def putObj (w : World) (b : Nat) (o : Obj) : World := { w with heap := w.heap.setIfInBounds b o }
theorem Mem.setObj (h : Mem w0 w its) (j : Nat) {b : Nat} {o : Obj} (hj : its[j]? = some (.obj b o)) (o' : Obj) : Mem w0 (putObj w b o') (its.set j (.obj b o')) := by
  have hr := h.each _ (List.mem_of_getElem? hj)
  have hlt := (It.lt hr (k := b) rfl).2
  refine h.turn j hj ⟨hr.1, ?_⟩ ?_ ?_ (.inl rfl)
  · show (w.heap.setIfInBounds b o')[b]? = _
    rw [Array.getElem?_setIfInBounds, if_pos rfl, if_pos hlt]
  · refine h.below.trans ⟨rfl, rfl, rfl, by simp [putObj], fun k hk => ?_⟩
    show (w.heap.setIfInBounds b o')[k]? = _
    rw [Array.getElem?_setIfInBounds, if_neg (by have := hr.1; omega)]
  · intro k hk hne
    show (w.heap.setIfInBounds b o')[k]? = _
    rw [Array.getElem?_setIfInBounds, if_neg (fun e => hne (by rw [← e]; rfl))]
end
/-- The cells from an address on. -/
def CellsAt (w : World) (a : Addr) (cs : List Value) : Prop := ∀ j v, cs[j]? = some v → w.cell? (a.add j) = some v
theorem RowT.cells {w : World} {b : Nat} {t : TypeId} {cs : List Value} (h : RowT w b t cs) (k m : Nat) : CellsAt w ⟨b, k, none⟩ ((cs.drop k).take m) := by
  intro j v hj
  rw [Addr.add_mid, h.cell]
  rw [List.getElem?_take] at hj
  split at hj
  · rwa [List.getElem?_drop] at hj
  · cases hj
def rowT : TypeDesc → Bool
  | .struct _ | .array _ _ => true
  | _ => false
theorem CellsAt.on {w w' : World} {a : Addr} {cs : List Value} (h : CellsAt w a cs) (hb : Below w.heap.size w w') : CellsAt w' a cs := by
  intro j v hj
  have hc := h j v hj
  have hlt : (a.add j).block < w.heap.size := by
    rcases Nat.lt_or_ge (a.add j).block w.heap.size with h' | h'
    · exact h'
    · unfold World.cell? at hc; rw [Array.getElem?_eq_none h'] at hc; cases hc
  rw [hb.cell hlt, hc]
/-- The value of a type that lies in these cells. -/
def loadV (P : Program) (t : TypeId) (cs : List Value) : Option Value := match P.underlying t with
  | none => none
  | some d => match P.info? t with
    | none => none
    | some i => bif rowT d then (bif Nat.beq i.size cs.length then some (.agg cs.toArray) else none) else cs[0]?
theorem run_loadVarE {P : Program} {w : World} {t : TypeId} {a : Addr} {cs : List Value} {u : Value} (hc : CellsAt w a cs) (hl : loadV P t cs = some u) : (loadVar t a).run P w = .ok u w := by
  unfold loadV at hl
  cases hu : P.underlying t with
  | none => rw [hu] at hl; cases hl
  | some d =>
    rw [hu] at hl
    simp only at hl
    cases hi : P.info? t with
    | none => rw [hi] at hl; cases hl
    | some i =>
      rw [hi] at hl
      simp only at hl
      have hag : (isAgg t).run P w = .ok (rowT d) w := by
        cases d <;> simp [isAgg, run_underlying hu, rowT]
      cases hd : rowT d with
      | true =>
        rw [hd] at hl hag
        simp only [cond_true] at hl
        cases hs : Nat.beq i.size cs.length with
        | false => rw [hs] at hl; cases hl
        | true =>
          rw [hs] at hl
          obtain rfl := Option.some.inj hl
          have he : i.size = cs.length := Nat.eq_of_beq_eq_true hs
          simp [loadVar, hag, sizeOf, typeInfo, hi, he, run_loadCells_list (P := P) w a cs hc]
      | false =>
        rw [hd] at hl hag
        have h0 := hc 0 u hl
        have ha : a.add 0 = a := by unfold Addr.add; rw [if_pos rfl]
        rw [ha] at h0
        simp [loadVar, hag, load, Sem.run, h0]
theorem run_loadE {P : Program} {w : World} {ρ : Operand → Value} {o : Oper} {t : TypeId} {x : Operand} {a : Addr} {cs : List Value} {u : Value} (hop : o.op = .load t x) (hx : ρ x = .pointer (some a)) (hc : CellsAt w a cs) (hl : loadV P t cs = some u) : (execOp ρ o).run P w = .ok (.value u) w := by
  have := run_loadVarE hc hl
  simp [execOp, hop, hx, Instr.loadAt, Instr.sureAddr, this]
/-- The cells of a row behind a store. -/
def storeV (P : Program) (t : TypeId) (k : Nat) (cs : List Value) (v : Value) : Option (List Value) := match P.info? t with
  | none => none
  | some i => bif Nat.beq i.size v.cells.size && Nat.ble (k + i.size) cs.length && v.cells.all (·.oneCell') then some (cs.take k ++ v.cells.toList ++ cs.drop (k + i.size)) else none
theorem run_storeE {P : Program} {w : World} {ρ : Operand → Value} {o : Oper} {t tt : TypeId} {x y : Operand} {b k : Nat} {cs cs' : List Value} {v : Value} (hop : o.op = .store t x y) (hx : ρ x = .pointer (some ⟨b, k, none⟩)) (hy : ρ y = v) (hr : RowT w b tt cs) (hs : storeV P t k cs v = some cs') : (execOp ρ o).run P w = .ok .skip (w.setRow b cs'.toArray) := by
  unfold storeV at hs
  cases hi : P.info? t with
  | none => rw [hi] at hs; cases hs
  | some i =>
    rw [hi] at hs
    simp only at hs
    cases hb : (Nat.beq i.size v.cells.size && Nat.ble (k + i.size) cs.length && v.cells.all (·.oneCell')) with
    | false => rw [hb] at hs; cases hs
    | true =>
      rw [hb] at hs
      obtain rfl := Option.some.inj hs
      simp only [Bool.and_eq_true] at hb
      obtain ⟨⟨h1, h2⟩, h3⟩ := hb
      have e1 := Nat.eq_of_beq_eq_true h1
      have e2 := Nat.le_of_ble_eq_true h2
      have hst := run_storeCells_at (P := P) b k tt v.cells.toList 0 cs.toArray w hr (by simp; omega) (fun u hu => (Array.all_eq_true_iff_forall_mem.1 h3) u (by simpa using hu))
      simp only [Nat.add_zero, Array.length_toList] at hst
      have hne : ¬ v.cells.size ≠ i.size := by simp [e1]
      simp [execOp, hop, hx, hy, Instr.storeAt, Instr.sureAddr, storeVar, sizeOf, typeInfo, hi, e1, hst]
section
variable {P : Program} {ops : Array Oper} {Q : Exit → Act → World → Prop} {a : Act} {n i : Nat} {env : List (Nat × Value)} {l : List Nat} {w0 w w' : World} {its : List It}
/-- A step that lays a new block. -/
theorem stepAlloc (hK : Knows a n env) (hM : Mem w0 w its) (d : Nat) (t : TypeId) (cs : List Value) (V : Nat → Value) (hc : chk ops env i n d = true) (hr : (execOp (evE env) (opAt ops i)).run P w = .ok (.value (V w.heap.size)) (w.alloc (.cells cs.toArray t)))
    (h : ∀ b a' w', Knows a' n ((d, V b) :: env) → Mem w0 w' (.row b t cs :: its) → wpOps P ops Q l a' w') : wpOps P ops Q (i :: l) a w :=
  stepV hK d _ hc hr fun a' hK' => h _ a' _ hK' (hM.alloc t cs)
theorem stepObj (hK : Knows a n env) (hM : Mem w0 w its) (d : Nat) (ob : Obj) (V : Nat → Value) (hc : chk ops env i n d = true) (hr : (execOp (evE env) (opAt ops i)).run P w = .ok (.value (V w.heap.size)) (w.alloc ob))
    (h : ∀ b a' w', Knows a' n ((d, V b) :: env) → Mem w0 w' (.obj b ob :: its) → wpOps P ops Q l a' w') : wpOps P ops Q (i :: l) a w :=
  stepV hK d _ hc hr fun a' hK' => h _ a' _ hK' (hM.allocO ob)
theorem stepSetObj (hK : Knows a n env) (hM : Mem w0 w its) (j : Nat) {b : Nat} {ob : Obj} (ob' : Obj) (hc : chk0 ops env i = true) (hj : its[j]? = some (.obj b ob)) (hr : (execOp (evE env) (opAt ops i)).run P w = .ok .skip (putObj w b ob'))
    (h : ∀ w', Mem w0 w' (its.set j (.obj b ob')) → wpOps P ops Q l a w') : wpOps P ops Q (i :: l) a w :=
  stepS hK hc hr (h _ (hM.setObj j hj ob'))
/-- A load. -/
theorem stepLoad (hK : Knows a n env) (d : Nat) {t : TypeId} {x : Operand} {ad : Addr} {cs : List Value} (u : Value) (hc : chk ops env i n d = true) (hop : (opAt ops i).op = .load t x) (hx : evE env x = .pointer (some ad)) (hr : CellsAt w ad cs) (hl : loadV P t cs = some u)
    (h : ∀ a', Knows a' n ((d, u) :: env) → wpOps P ops Q l a' w) : wpOps P ops Q (i :: l) a w :=
  stepV hK d u hc (run_loadE hop hx hr hl) h
/-- A store into a block of the call's own. -/
theorem stepStore (hK : Knows a n env) (hM : Mem w0 w its) (j : Nat) {t tt : TypeId} {x y : Operand} {b k : Nat} {cs : List Value} {v : Value} (cs' : List Value) (hc : chk0 ops env i = true) (hop : (opAt ops i).op = .store t x y) (hx : evE env x = .pointer (some ⟨b, k, none⟩)) (hy : evE env y = v) (hj : its[j]? = some (.row b tt cs)) (hs : storeV P t k cs v = some cs')
    (h : ∀ w', Mem w0 w' (its.set j (.row b tt cs')) → wpOps P ops Q l a w') : wpOps P ops Q (i :: l) a w :=
  stepS hK hc (run_storeE hop hx hy (hM.row j hj) hs) (h _ (hM.setRow j hj cs'))
/-- What is to be known of an element's type: its zero value, cells, bytes. -/
structure Elem (P : Program) (e : TypeId) (z : Value) (size bytes : Nat) : Prop where
  info : ∃ i, P.info? e = some i ∧ i.zero = some z ∧ i.size = size ∧ i.bytes = bytes
  cells : z.cells.size = size
  pos : 0 < size
theorem Mem.append {t ty ety : TypeId} {z : Value} {size bytes : Nat} (hM : Mem w0 w its) (j q : Nat) {m n c b : Nat} {v : Value} {xs news : List Value} (ht : P.underlying t = some (.slice ety)) (he : Elem P ety z size bytes)
    (hj : its[j]? = some (.own ety size v n xs)) (hq : its[q]? = some (.row b ety news)) (hl : news.length = m * size) (h1 : news.all (·.oneCell') = true) (hlim : n + m ≤ 1000000000 ∧ bytes ≤ 100000) :
    ∃ v' w', (Builtin.append_ #[t, t] ty #[v, .slice (some ⟨b, 0, none⟩) m c]).run P w = .ok v' w' ∧ Mem w0 w' (its.set j (.own ety size v' (n + m) (xs ++ news))) := by
  obtain ⟨i, hi, hz, hs, hb⟩ := he.info
  have hown := hM.own j hj
  have hrow := hM.row q hq
  obtain ⟨v', w', hr, ho, hg, _, hat⟩ := run_append_own_at (P := P) w w0.heap.size t ty ety i z size bytes ht hi hz hs hb he.cells he.pos v n xs hown ⟨b, 0, none⟩ m c news hl
    (fun k u hu => by rw [Addr.add_mid, Nat.zero_add, hrow.cell]; exact hu) (fun u hu => List.all_eq_true.1 h1 u hu) (by unfold maxLen; omega)
    (by have h3 : (n + m) * bytes ≤ 1000000000 * 100000 := Nat.mul_le_mul hlim.1 hlim.2; omega) hM.size
  refine ⟨v', w', hr, hM.turn j hj ho (hM.below.grown hg hM.size fun k hk => (hown.lt k hk).1) (fun k hk hne => hg.block k hk fun e => hne e.symm) ?_⟩
  rcases hat with h | h
  · exact .inl h
  · exact .inr fun k hk => by
      have : some k = some w.heap.size := hk.symm.trans h
      rw [Option.some.inj this]; exact Nat.le_refl _
theorem stepAppend {t ety : TypeId} {z : Value} {size bytes : Nat} (hK : Knows a n env) (hM : Mem w0 w its) (d j q : Nat) {m k c b : Nat} {x y : Operand} {v : Value} {xs news : List Value} (ht : P.underlying t = some (.slice ety)) (he : Elem P ety z size bytes) (hc : chk ops env i n d = true)
    (hop : (opAt ops i).op = .call { callee := .builtin .append, args := #[x, y], argTypes := #[t, t] }) (hx : evE env x = v) (hy : evE env y = .slice (some ⟨b, 0, none⟩) m c)
    (hj : its[j]? = some (.own ety size v k xs)) (hq : its[q]? = some (.row b ety news)) (hl : news.length = m * size) (h1 : news.all (·.oneCell') = true) (hlim : k + m ≤ 1000000000 ∧ bytes ≤ 100000)
    (h : ∀ v' a' w', Knows a' n ((d, v') :: env) → Mem w0 w' (its.set j (.own ety size v' (k + m) (xs ++ news))) → wpOps P ops Q l a' w') : wpOps P ops Q (i :: l) a w := by
  obtain ⟨v', w', hr, hm⟩ := hM.append (P := P) (ty := (opAt ops i).type) (c := c) j q ht he hj hq hl h1 hlim
  refine stepV hK d v' hc ?_ fun a' hK' => h v' a' w' hK' hm
  simp [execOp, hop, resolve, invoke, builtin, hx, hy, hr, Result.andThen]
/-- What a call hands back. -/
def Gives {τ : Type} (w0 : World) (f : τ → Value) (g : τ → List It) (R : τ → Prop) (e : Ending) (w' : World) : Prop := ∃ x, e = .returned (f x) ∧ Mem w0 w' (g x) ∧ R x
theorem stepCall (hK : Knows a n env) (hM : Mem w0 w its) (d : Nat) {f : FuncId} (args : Array Value) {τ : Type} {fv : τ → Value} {g : τ → List It} {R : τ → Prop} (hc : chk ops env i n d = true) (he : (execOp (evE env) (opAt ops i)).run P w = .ok (.enter f args) w) (hf : Calls P f args w (Gives w fv g R))
    (h : ∀ x a' w', R x → Knows a' n ((d, fv x) :: env) → Mem w0 w' (g x ++ its) → wpOps P ops Q l a' w') : wpOps P ops Q (i :: l) a w :=
  stepC hK d args hc he (hf.mono (by
    rintro e w' ⟨x, rfl, hm, hR⟩
    exact ⟨_, rfl, fun a' hK' => h x a' w' hR hK' (hM.call hm)⟩))
/-- A call that turns what the caller owns. -/
theorem stepCallIn (hK : Knows a n env) (d : Nat) {f : FuncId} (args : Array Value) {τ : Type} {fv : τ → Value} {g : τ → List It} {R : τ → Prop} (hc : chk ops env i n d = true) (he : (execOp (evE env) (opAt ops i)).run P w = .ok (.enter f args) w) (hf : Calls P f args w (Gives w0 fv g R))
    (h : ∀ x a' w', R x → Knows a' n ((d, fv x) :: env) → Mem w0 w' (g x) → wpOps P ops Q l a' w') : wpOps P ops Q (i :: l) a w :=
  stepC hK d args hc he (hf.mono (by
    rintro e w' ⟨x, rfl, hm, hR⟩
    exact ⟨_, rfl, fun a' hK' => h x a' w' hR hK' hm⟩))
/-- A call that hands back a plain value. -/
theorem stepRet (hK : Knows a n env) (hM : Mem w0 w its) (d : Nat) {f : FuncId} (args : Array Value) (v : Value) (hc : chk ops env i n d = true) (he : (execOp (evE env) (opAt ops i)).run P w = .ok (.enter f args) w) (hf : Calls P f args w (Ret w v))
    (h : ∀ a' w', Knows a' n ((d, v) :: env) → Mem w0 w' its → wpOps P ops Q l a' w') : wpOps P ops Q (i :: l) a w :=
  stepC hK d args hc he (hf.mono (by
    rintro e w' ⟨rfl, hb⟩
    exact ⟨_, rfl, fun a' hK' => h a' w' hK' (hM.go hb)⟩))
/-- A loop, by a number that falls; what varies is x. -/
theorem wp_loopX {τ : Type} {c : Code} (E : τ → List (Nat × Value)) (G : τ → List It) (R : τ → Prop) (μ : τ → Nat) (x0 : τ) (h1 : Knows a n (E x0)) (h2 : Mem w0 w (G x0)) (h3 : R x0)
    (round : ∀ x a w, Knows a n (E x) → Mem w0 w (G x) → R x → c.wp P (Exit.then (fun a' w' => ∃ x', Knows a' n (E x') ∧ Mem w0 w' (G x') ∧ R x' ∧ μ x' < μ x) Q) a w) : (Code.loop c).wp P Q a w := by
  classical
  let I : Act → World → Prop := fun a w => ∃ x, Knows a n (E x) ∧ Mem w0 w (G x) ∧ R x
  let B : Act → World → Nat → Prop := fun a w m => ∃ x, Knows a n (E x) ∧ Mem w0 w (G x) ∧ R x ∧ μ x = m
  have hB : ∀ a w, I a w → ∃ m, B a w m ∧ ∀ q, B a w q → m ≤ q := by
    intro a w hI
    obtain ⟨x, k1, k2, k3⟩ := hI
    have key : ∀ m, B a w m → ∃ m, B a w m ∧ ∀ q, B a w q → m ≤ q := by
      intro m
      induction m using Nat.strongRecOn with
      | _ m ih =>
        intro hm
        by_cases hq : ∃ q, q < m ∧ B a w q
        · obtain ⟨q, hlt, hb⟩ := hq; exact ih q hlt hb
        · exact ⟨m, hm, fun q hb => Nat.le_of_not_lt fun hlt => hq ⟨q, hlt, hb⟩⟩
    exact key (μ x) ⟨x, k1, k2, k3, rfl⟩
  let ν : Act → World → Nat := fun a w => if h : I a w then (hB a w h).choose else 0
  have hν : ∀ a w, I a w → B a w (ν a w) ∧ ∀ q, B a w q → ν a w ≤ q := by
    intro a w h
    show B a w (if h : I a w then _ else _) ∧ ∀ q, B a w q → (if h : I a w then _ else _) ≤ q
    rw [dif_pos h]
    exact (hB a w h).choose_spec
  refine wp_loop I ν ⟨x0, h1, h2, h3⟩ fun a w hI => ?_
  obtain ⟨⟨x, k1, k2, k3, hx⟩, _⟩ := hν a w hI
  intro b k cs
  obtain ⟨e, a', w', h, harr⟩ := round x a w k1 k2 k3 b k cs
  refine ⟨e, a', w', ?_, harr⟩
  cases e with
  | normal =>
    obtain ⟨x', q1, q2, q3, hlt⟩ := h
    have hI' : I a' w' := ⟨x', q1, q2, q3⟩
    refine ⟨hI', ?_⟩
    have := (hν a' w' hI').2 (μ x') ⟨x', q1, q2, q3, rfl⟩
    show ν a' w' < ν a w
    omega
  | _ => exact h
/-- The slots behind a region: what is still of use. -/
theorem region_go {id : Nat} {lst : List Nat} (hn : List.range ops.size = lst) (h : wpOps P ops Q lst a w) : (Code.region id ops false).wp P Q a w := seq_startL hn h
theorem region_done (hK : Knows a n env) (env' : List (Nat × Value)) (hs : Subs env env') (h : ∀ a', Knows a' n env' → Q .normal a' w) : wpOps P ops Q [] a w := h a (hK.sub hs)
end
theorem start_knows {args : List Value} {n : Nat} {env : List (Nat × Value)} (hn : Nat.ble args.length n = true) (he : Subs (args.zipIdx.map fun p => (p.2, p.1)) env) : Knows { tmps := args.toArray ++ Array.replicate (n - args.toArray.size) undef, defers := [] } n env := by
  refine Knows.sub ⟨?_, rfl, ?_⟩ he
  · have := Nat.le_of_ble_eq_true hn
    simp; omega
  · intro k v hk
    have key : ∀ (l : List Value) (o k : Nat) (v : Value), look k ((l.zipIdx o).map fun p => (p.2, p.1)) = some v → o ≤ k ∧ l[k - o]? = some v := by
      intro l
      induction l with
      | nil => intro o k v h; cases h
      | cons x l ih =>
        intro o k v h
        rw [List.zipIdx_cons, List.map_cons] at h
        unfold look at h
        cases hb : Nat.beq k o with
        | true =>
          rw [hb] at h
          obtain rfl := Nat.eq_of_beq_eq_true hb
          simp at h ⊢; exact h
        | false =>
          rw [hb] at h
          obtain ⟨h1, h2⟩ := ih (o + 1) k v h
          refine ⟨by omega, ?_⟩
          rw [show k - o = (k - (o + 1)) + 1 by omega]
          simpa using h2
    obtain ⟨_, h⟩ := key args 0 k v hk
    have hlt : k < args.length := by
      rcases Nat.lt_or_ge k args.length with h' | h'
      · exact h'
      · rw [List.getElem?_eq_none (by omega)] at h; cases h
    exact ev_tmps (by rw [Array.getElem?_append_left (by simpa using hlt)]; simpa using h)
theorem calls_K {P : Program} {f : FuncId} {fn : Func} {c : Code} {args : List Value} {n : Nat} {w : World} {R : Ending → World → Prop} {env : List (Nat × Value)} (hf : P.funcs[f]? = some fn) (hb : fn.body = some c) (hn : fn.ntmps = n) (hl : Nat.ble args.length n = true) (he : Subs (args.zipIdx.map fun p => (p.2, p.1)) env)
    (h : ∀ a w', Knows a n env → Mem w w' [] → c.wp P (bodyPost P fn R) a w') : Calls P f args.toArray w R :=
  calls_of_wp hf hb (by rw [hn]; exact h _ _ (start_knows hl he) (Mem.start w))
theorem calls_KM {P : Program} {f : FuncId} {fn : Func} {c : Code} {args : List Value} {n : Nat} {w0 w : World} {its : List It} {R : Ending → World → Prop} {env : List (Nat × Value)} (hf : P.funcs[f]? = some fn) (hb : fn.body = some c) (hn : fn.ntmps = n) (hl : Nat.ble args.length n = true) (he : Subs (args.zipIdx.map fun p => (p.2, p.1)) env) (hM : Mem w0 w its)
    (h : ∀ a w', Knows a n env → Mem w0 w' its → c.wp P (bodyPost P fn R) a w') : Calls P f args.toArray w R :=
  calls_of_wp hf hb (by rw [hn]; exact h _ _ (start_knows hl he) hM)
end Go.Proofs.YtmfiiapmkidmkaaDoor
