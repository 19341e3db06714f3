/-
  What AstCallsCard stands on, part 1.
-/
import Derived.WalkKit
import Derived.Laws.OwnMore
import Derived.Deep.AppendLies
import Derived.Deep.Draws
import Derived.Lib.Hide
import Derived.BigQuiet
import Derived.Deep.RegionWith
import Derived.Deep.OwnRows
import Derived.RangeFuncNested
import Derived.RangeFuncBound
import Derived.RangeFuncCalls
import Derived.RangeFuncLeaves
import Derived.RangeFuncBox
import Derived.Test.YtiigncmpbkfhmaaGreatDoorProg
import Derived.Orders
import Derived.Calls
import Derived.Below
import Derived.Shelf.Abstract
import Derived.LoopN
import Derived.Maps.OwnIn
import Derived.Deep.MidRow
import Derived.Laws.CopyRow
import Derived.Maps.AppendAt
namespace Go.Proofs.YtiigncmpbkfhmaaGreatDoor
open Go Go.RowKit
abbrev U (x : Nat) : Value := .int .u64 (x : Int)
abbrev I (x : Int) : Value := .int .i64 x
def Ret (w : World) (v : Value) (e : Ending) (w' : World) : Prop := e = .returned v ∧ Below w.heap.size w w'
def RetQ (w : World) (Q : Value → World → Prop) (e : Ending) (w' : World) : Prop := ∃ v, e = .returned v ∧ Q v w' ∧ Below w.heap.size w w'
theorem Ret.b {w w' : World} {a b : Bool} (h : b = a) (hb : Below w.heap.size w w') : Ret w (.bool a) (.returned (.bool b)) w' := ⟨by rw [h], hb⟩
theorem Ret.i {w w' : World} {k : IntKind} {a b : Int} (h : b = a) (hb : Below w.heap.size w w') : Ret w (.int k a) (.returned (.int k b)) w' := ⟨by rw [h], hb⟩
theorem below_alloc (w : World) (o : Obj) : Below w.heap.size w (w.alloc o) := (Below.refl _ _).alloc (Nat.le_refl _) _
theorem block_of_add (a : Addr) (n : Nat) : (a.add n).block = a.block := by unfold Addr.add; split <;> rfl
def Reads (w : World) (B size : Nat) (A : Option Addr) (n : Nat) (xs : List Value) : Prop :=
  xs.length = n * size ∧ (0 < n → ∃ ad, A = some ad ∧ ad.block < B ∧ ∀ j u, xs[j]? = some u → w.cell? (ad.add j) = some u)
section
variable {w w' : World} {B B' size n : Nat} {A : Option Addr} {xs : List Value}
theorem Reads.at_ {k : Nat} (h : Reads w B 1 A n xs) (hk : k < n) : ∃ ad u, A = some ad ∧ ad.block < B ∧ xs[k]? = some u ∧ w.cell? (ad.add k) = some u := by
  obtain ⟨ad, e, hb, hc⟩ := h.2 (by omega)
  have hl : k < xs.length := by have := h.1; omega
  exact ⟨ad, xs[k], e, hb, List.getElem?_eq_getElem hl, hc k _ (List.getElem?_eq_getElem hl)⟩
theorem Reads.u {k : Nat} {l : List Nat} (h : Reads w B 1 A n (l.map U)) (hk : k < n) : ∃ ad x, A = some ad ∧ ad.block < B ∧ l[k]? = some x ∧ w.cell? (ad.add k) = some (.int .u64 (x : Int)) := by
  obtain ⟨ad, u, e, hb, hx, hc⟩ := h.at_ hk
  rw [List.getElem?_map] at hx
  cases hl : l[k]? with
  | none => rw [hl] at hx; cases hx
  | some x => rw [hl] at hx; obtain rfl : U x = u := by simpa using hx
              exact ⟨ad, x, e, hb, rfl, hc⟩
theorem Reads.i {k : Nat} {l : List Int} (h : Reads w B 1 A n (l.map I)) (hk : k < n) : ∃ ad x, A = some ad ∧ ad.block < B ∧ l[k]? = some x ∧ w.cell? (ad.add k) = some (.int .i64 x) := by
  obtain ⟨ad, u, e, hb, hx, hc⟩ := h.at_ hk
  rw [List.getElem?_map] at hx
  cases hl : l[k]? with
  | none => rw [hl] at hx; cases hx
  | some x => rw [hl] at hx; obtain rfl : I x = u := by simpa using hx
              exact ⟨ad, x, e, hb, rfl, hc⟩
theorem Reads.keep (h : Reads w B size A n xs) (hk : ∀ p : Addr, p.block < B → w'.cell? p = w.cell? p) : Reads w' B size A n xs :=
  ⟨h.1, fun hn => by
    obtain ⟨ad, e, hb, hc⟩ := h.2 hn
    exact ⟨ad, e, hb, fun j u hu => (hk _ (by rw [block_of_add]; exact hb)).trans (hc j u hu)⟩⟩
theorem Reads.more (h : Reads w B size A n xs) (hB : B ≤ B') : Reads w B' size A n xs :=
  ⟨h.1, fun hn => by
    obtain ⟨ad, e, hb, hc⟩ := h.2 hn
    exact ⟨ad, e, by omega, hc⟩⟩
theorem Reads.below (h : Reads w B size A n xs) (hb : Below B w w') : Reads w' B size A n xs := h.keep fun _ hp => hb.cell hp
theorem Reads.drew (h : Reads w B size A n xs) : Reads w.drew B size A n xs := h
theorem Reads.alloc (h : Reads w B size A n xs) (hB : B ≤ w.heap.size) (o : Obj) : Reads (w.alloc o) B size A n xs := h.keep fun p hp => World.cell?_alloc_lt w o p (by omega)
theorem Reads.setCell (h : Reads w B size A n xs) {p : Addr} (hB : B ≤ p.block) (u : Value) : Reads (w.setCell p u) B size A n xs :=
  h.keep fun q hq => World.cell?_setCell_other w p q u (fun e => by subst e; omega)
theorem Reads.grown (h : Reads w B size A n xs) {row : Option Nat} (hg : w.grownBy w' row) (hB : B ≤ w.heap.size) (hr : ∀ g, row = some g → B ≤ g) : Reads w' B size A n xs :=
  h.keep fun p hp => World.cell?_of_block (hg.block p.block (by omega) (fun e => by have := hr _ e.symm; omega))
end
def RowT (w : World) (g : Nat) (t : TypeId) (cs : List Value) : Prop := w.heap[g]? = some (.cells cs.toArray t (0, 0))
section
variable {w w' : World} {g : Nat} {t : TypeId} {cs : List Value}
theorem RowT.lt (h : RowT w g t cs) : g < w.heap.size := by
  rcases Nat.lt_or_ge g w.heap.size with hlt | hge
  · exact hlt
  · unfold RowT at h; rw [Array.getElem?_eq_none hge] at h; cases h
theorem RowT.cell (h : RowT w g t cs) (i : Nat) : w.cell? ⟨g, i, none⟩ = cs[i]? := by
  rw [cell_of_row w g i cs.toArray t (0, 0) h]; simp
theorem RowT.frozen (h : RowT w g t cs) (i : Nat) : w.frozen? ⟨g, i, none⟩ = false := by
  unfold RowT at h
  simp [World.frozen?, h]
theorem RowT.new (w : World) (t : TypeId) (cs : List Value) : RowT (w.alloc (.cells cs.toArray t)) w.heap.size t cs := heap_alloc_new w _
theorem RowT.drew (h : RowT w g t cs) : RowT w.drew g t cs := h
theorem RowT.alloc (h : RowT w g t cs) (o : Obj) : RowT (w.alloc o) g t cs := (Below.heap_alloc w o g h.lt).trans h
theorem RowT.far (h : RowT w g t cs) {p : Addr} (hp : g ≠ p.block) (u : Value) : RowT (w.setCell p u) g t cs := (Below.heap_setCell w p u g hp).trans h
theorem RowT.below {B : Nat} (h : RowT w g t cs) (hb : Below B w w') (hg : g < B) : RowT w' g t cs := (hb.block g hg).trans h
theorem RowT.grown {row : Option Nat} (h : RowT w g t cs) (hb : w.grownBy w' row) (hg : some g ≠ row) : RowT w' g t cs := (hb.block g h.lt hg).trans h
theorem RowT.reads (h : RowT w g t cs) : Reads w w.heap.size 1 (some ⟨g, 0, none⟩) cs.length cs :=
  ⟨by simp, fun _ => ⟨_, rfl, h.lt, fun j u hu => by
    have e : (⟨g, 0, none⟩ : Addr).add j = ⟨g, j, none⟩ := by unfold Addr.add; split <;> simp_all
    rw [e, h.cell, hu]⟩⟩
end
end Go.Proofs.YtiigncmpbkfhmaaGreatDoor
namespace Go.Proofs.YtiigncmpbkfhmaaGreatDoor
open Go Go.RowKit
def mark (D : Nat) : Deferred := { target := .collected D, args := #[] }
structure Marked (B : Nat) (Ds : List Nat) (W : World) : Prop where
  nodup : Ds.Nodup
  each : ∀ D ∈ Ds, B ≤ D ∧ W.heap[D]? = some (.deferred (some []))
theorem Marked.nil (B : Nat) (W : World) : Marked B [] W := ⟨List.nodup_nil, fun _ h => by cases h⟩
theorem Marked.lt {B : Nat} {Ds : List Nat} {W : World} (h : Marked B Ds W) : ∀ D ∈ Ds, D < W.heap.size := fun D hD => (Array.getElem?_eq_some_iff.1 (h.each D hD).2).1
theorem Marked.below {B C : Nat} {Ds : List Nat} {W W' : World} (h : Marked B Ds W) (hb : Below C W W') (hC : ∀ D ∈ Ds, D < C) : Marked B Ds W' :=
  ⟨h.nodup, fun D hD => ⟨(h.each D hD).1, (hb.block D (hC D hD)).trans (h.each D hD).2⟩⟩
theorem Marked.cons {B D : Nat} {Ds : List Nat} {W : World} (h : Marked B Ds W) (hn : D ∉ Ds) (hB : B ≤ D) (hD : W.heap[D]? = some (.deferred (some []))) : Marked B (D :: Ds) W :=
  ⟨List.nodup_cons.2 ⟨hn, h.nodup⟩, fun E hE => by
    rcases List.mem_cons.1 hE with rfl | hE
    · exact ⟨hB, hD⟩
    · exact h.each E hE⟩
theorem RowT.putObj {W : World} {g D : Nat} {t : TypeId} {cs : List Value} {ds : Option (List Deferred)} (h : RowT W g t cs) (hD : W.heap[D]? = some (.deferred ds)) (o : Obj) : RowT (W.putObj D o) g t cs := by
  have h' : W.heap[g]? = some (.cells cs.toArray t (0, 0)) := h
  have hne : g ≠ D := fun e => by rw [e, hD] at h'; cases h'
  exact (World.putObj_heap_other hne).trans h
end Go.Proofs.YtiigncmpbkfhmaaGreatDoor
namespace Go.Proofs.YtiigncmpbkfhmaaGreatDoor
open Go Go.RowKit
def slotOf (ops : Array Oper) (i : Nat) : Option Tmp := (ops[i]?).bind (·.dst)
def vat (ops : Array Oper) (a : Act) (i : Nat) : Value := match slotOf ops i with
  | some d => a.tmps.getD d undef
  | none => undef
def wfR (ops : Array Oper) (n : Nat) : Bool := (List.range ops.size).all fun i => match ops[i]? with
  | some o => (o.after.all fun e => decide (e.on < i)) && (match o.dst with
    | some d => decide (d < n) && (List.range i).all (fun j => slotOf ops j != some d)
    | none => true)
  | none => false
section
variable {P : Program} {ops : Array Oper} {Q : Exit → Act → World → Prop}
theorem wf_at {n i : Nat} {o : Oper} (h : wfR ops n = true) (ho : ops[i]? = some o) : (∀ e ∈ o.after, e.on < i) ∧ ∀ d, o.dst = some d → d < n ∧ ∀ j, j < i → slotOf ops j ≠ some d := by
  have hi : i < ops.size := (Array.getElem?_eq_some_iff.1 ho).1
  have := List.all_eq_true.1 h i (by simpa using hi)
  rw [ho] at this
  simp only [Bool.and_eq_true, Array.all_eq_true] at this
  obtain ⟨h1, h2⟩ := this
  constructor
  · intro e he
    obtain ⟨k, hk, rfl⟩ := Array.getElem_of_mem he
    simpa using h1 k hk
  · intro d hd
    rw [hd] at h2
    simp only [Bool.and_eq_true, decide_eq_true_eq] at h2
    refine ⟨h2.1, fun j hj e => ?_⟩
    have := List.all_eq_true.1 h2.2 j (by simpa using hj)
    rw [e] at this
    simp at this
theorem slot_inj {n i j : Nat} {d : Tmp} (h : wfR ops n = true) (hi : slotOf ops i = some d) (hj : slotOf ops j = some d) : i = j := by
  unfold slotOf at hi hj
  obtain ⟨oi, h1, h2⟩ := Option.bind_eq_some_iff.1 hi
  obtain ⟨oj, h3, h4⟩ := Option.bind_eq_some_iff.1 hj
  rcases Nat.lt_trichotomy i j with hlt | e | hlt
  · exact absurd hi (((wf_at h h3).2 d h4).2 i hlt)
  · exact e
  · exact absurd hj (((wf_at h h1).2 d h2).2 j hlt)
structure St (ops : Array Oper) (T : Nat → (Nat → Value) → World → Prop) (G : World → Prop) (a0 : Act) (L : Nat → Bool) (a : Act) (w : World) : Prop where
  g : G w
  defers : a.defers = a0.defers
  size : a.tmps.size = a0.tmps.size
  outer : ∀ s, (∀ i, slotOf ops i ≠ some s) → a.tmps[s]? = a0.tmps[s]?
  down : ∀ i o, ops[i]? = some o → L i = true → ∀ e ∈ o.after, L e.on = true
  inn : ∀ i, L i = true → i < ops.size
  t : ∀ i, L i = true → T i (vat ops a) w
def Owes (P : Program) (ops : Array Oper) (Q : Exit → Act → World → Prop) (T : Nat → (Nat → Value) → World → Prop) (G : World → Prop) (L : Nat → Bool) (i : Nat) (o : Oper) (a : Act) (w : World) : Prop :=
  ∀ K : Act → World → Prop, (∀ v w', T i (fun j => if j = i then v else vat ops a j) w' → G w' → (∀ j, j ≠ i → L j = true → T j (vat ops a) w → T j (vat ops a) w') → K (a.put o.dst v) w') →
    if Region.wanted o (yielded ops a.tmps) = true then o.wp P a w K Q else K (a.put o.dst undef) w
theorem vat_put {n i j : Nat} {o : Oper} {a : Act} {v : Value} (h : wfR ops n = true) (hn : a.tmps.size = n) (ho : ops[i]? = some o) (hd : o.dst ≠ none) (hv : j = i) : vat ops (a.put o.dst v) j = v := by
  subst hv
  obtain ⟨d, hd⟩ := Option.ne_none_iff_exists'.1 hd
  have hlt := ((wf_at h ho).2 d hd).1
  unfold vat slotOf
  rw [ho, Option.bind_some, hd]
  simp [Act.put, hn, hlt]
theorem vat_put_far {n i j : Nat} {o : Oper} {a : Act} {v : Value} (h : wfR ops n = true) (ho : ops[i]? = some o) (hv : j ≠ i) : vat ops (a.put o.dst v) j = vat ops a j := by
  unfold vat
  cases hs : slotOf ops j with
  | none => rfl
  | some d =>
    cases hd : o.dst with
    | none => rfl
    | some d' =>
      have hne : d' ≠ d := by
        rintro rfl
        exact hv (slot_inj h hs (show slotOf ops i = some d' by unfold slotOf; rw [ho, Option.bind_some, hd]))
      simp [Act.put, hne]
variable {T : Nat → (Nat → Value) → World → Prop} {G : World → Prop} {a0 : Act}
structure Deps (ops : Array Oper) (T : Nat → (Nat → Value) → World → Prop) (D : Nat → List Nat) : Prop where
  dep : ∀ i ρ ρ' w, (ρ i = ρ' i ∨ slotOf ops i = none) → (∀ j ∈ D i, ρ j = ρ' j) → T i ρ w → T i ρ' w
  aft : ∀ i o, ops[i]? = some o → ∀ j ∈ D i, ∃ e ∈ o.after, e.on = j
theorem St.next {D : Nat → List Nat} {L : Nat → Bool} {i : Nat} {o : Oper} {a : Act} {w w' : World} {v : Value} (hwf : wfR ops a0.tmps.size = true) (hD : Deps ops T D) (st : St ops T G a0 L a w) (ho : ops[i]? = some o) (hL : L i = false)
    (haft : ∀ e ∈ o.after, L e.on = true) (hT : T i (fun j => if j = i then v else vat ops a j) w') (hG : G w') (hst : ∀ j, j ≠ i → L j = true → T j (vat ops a) w → T j (vat ops a) w') :
    St ops T G a0 (fun j => decide (j = i) || L j) (a.put o.dst v) w' where
  g := hG
  defers := by rw [← st.defers]; cases o.dst <;> rfl
  size := by rw [← st.size]; cases o.dst <;> simp [Act.put]
  outer := fun s hs => by
    rw [← st.outer s hs]
    cases hd : o.dst with
    | none => rfl
    | some d =>
      have hne : d ≠ s := by
        rintro rfl
        exact hs i (by unfold slotOf; rw [ho, Option.bind_some, hd])
      simp [Act.put, hne]
  down := fun k o' hk hlk e he => by
    rw [Bool.or_eq_true, decide_eq_true_iff] at hlk ⊢
    rcases hlk with rfl | hlk
    · have : o' = o := Option.some.inj (hk.symm.trans ho)
      subst this
      exact .inr (haft e he)
    · exact .inr (st.down k o' hk hlk e he)
  inn := fun k hk => by
    rw [Bool.or_eq_true, decide_eq_true_iff] at hk
    rcases hk with rfl | hk
    · exact (Array.getElem?_eq_some_iff.1 ho).1
    · exact st.inn k hk
  t := fun k hk => by
    rw [Bool.or_eq_true, decide_eq_true_iff] at hk
    by_cases e : k = i
    · subst e
      refine hD.dep k _ _ w' ?_ ?_ hT
      · by_cases hd : o.dst = none
        · right; unfold slotOf; rw [ho, Option.bind_some, hd]
        · left; rw [vat_put hwf st.size ho hd rfl]; simp
      · intro j hj
        obtain ⟨e, he, rfl⟩ := hD.aft k o ho j hj
        have hlt := (wf_at hwf ho).1 e he
        have hne : e.on ≠ k := by omega
        rw [vat_put_far hwf ho hne, if_neg hne]
    · have hk' : L k = true := by rcases hk with h | h; exact absurd h e; exact h
      refine hD.dep k _ _ w' (.inl (vat_put_far hwf ho e).symm) ?_ (hst k e hk' (st.t k hk'))
      intro j hj
      have hkl := st.inn k hk'
      obtain ⟨ok, hok⟩ : ∃ ok, ops[k]? = some ok := ⟨ops[k], Array.getElem?_eq_getElem hkl⟩
      obtain ⟨ed, hed, rfl⟩ := hD.aft k ok hok j hj
      have hlj := st.down k ok hok hk' ed hed
      have hne : ed.on ≠ i := fun e' => by rw [e', hL] at hlj; cases hlj
      exact (vat_put_far hwf ho hne).symm
theorem setB_get {listed : Array Bool} {i j : Nat} (hi : i < listed.size) : (listed.setIfInBounds i true).getD j false = (decide (j = i) || listed.getD j false) := by
  by_cases h : j = i
  · subst h; simp [hi]
  · have h' : ¬ i = j := fun e => h e.symm
    simp [h, h']
theorem count_set (l : List Bool) (i : Nat) (h : l[i]? = some false) : ((l.set i true).filter fun b => !b).length + 1 = (l.filter fun b => !b).length := by
  induction l generalizing i with
  | nil => simp at h
  | cons b l ih =>
    cases i with
    | zero =>
      have : b = false := by simpa using h
      subst this
      simp
    | succ i =>
      have := ih i (by simpa using h)
      rw [List.set_cons_succ]
      cases b
      · simpa using this
      · simpa using this
def leftN (listed : Array Bool) : Nat := (listed.toList.filter fun b => !b).length
theorem leftN_set {listed : Array Bool} {i : Nat} (hi : i < listed.size) (hf : listed.getD i false = false) : leftN (listed.setIfInBounds i true) + 1 = leftN listed := by
  unfold leftN
  rw [show (listed.setIfInBounds i true).toList = listed.toList.set i true from by simp]
  exact count_set _ _ (by
    have : listed[i] = false := by simpa [hi] using hf
    simp [hi, this])
theorem left_zero {listed : Array Bool} (h : leftN listed = 0) {i : Nat} (hi : i < listed.size) : listed.getD i false = true := by
  unfold leftN at h
  have h' := List.length_eq_zero_iff.1 h
  rw [List.filter_eq_nil_iff] at h'
  have := h' listed[i] (by simp)
  simpa [hi] using this
theorem ready_nil {n : Nat} {listed : Array Bool} (hwf : wfR ops n = true) (hs : listed.size = ops.size) (h : Region.ready .any ops listed = []) : ∀ i, i < ops.size → listed.getD i false = true := by
  intro i
  induction i using Nat.strongRecOn with
  | _ i ih =>
    intro hi
    cases hl : listed.getD i false with
    | true => rfl
    | false =>
      exfalso
      have hmem : i ∈ Region.ready .any ops listed := by
        unfold Region.ready
        rw [List.mem_filter]
        refine ⟨by simpa using hi, ?_⟩
        have hlt : i < listed.size := by omega
        have hl2 : listed.getD i true = false := by
          simp [hlt] at hl ⊢; exact hl
        have ho : ops[i]? = some ops[i] := Array.getElem?_eq_getElem hi
        rw [hl2, ho]
        simp only [Bool.not_false, Bool.true_and, Option.map_some, Option.getD_some]
        rw [Array.all_eq_true']
        intro e he
        have := (wf_at hwf ho).1 e he
        rw [ih e.on this (by omega)]
        simp
      rw [h] at hmem
      cases hmem
theorem wpAny_inv {D : Nat → List Nat} (hwf : wfR ops a0.tmps.size = true) (hD : Deps ops T D)
    (hnb : ∀ (i : Nat) (o : Oper), ops[i]? = some o → ∀ e ∈ o.after, Region.binds .any e = true)
    (step : ∀ (i : Nat) (o : Oper) (a : Act) (w : World) (L : Nat → Bool), ops[i]? = some o → L i = false → (∀ e ∈ o.after, L e.on = true) → St ops T G a0 L a w → Owes P ops Q T G L i o a w)
    (fin : ∀ L a w, (∀ i, i < ops.size → L i = true) → St ops T G a0 L a w → Q .normal a w) :
    ∀ (fuel : Nat) (listed : Array Bool) (a : Act) (w : World), listed.size = ops.size → leftN listed ≤ fuel → St ops T G a0 (fun i => listed.getD i false) a w → wpAny P .any ops Q fuel listed a w := by
  intro fuel
  induction fuel with
  | zero =>
    intro listed a w hs hl st
    have hall : ∀ i, i < ops.size → listed.getD i false = true := fun i hi => left_zero (by omega) (by omega)
    refine ⟨?_, fin _ a w hall st⟩
    unfold Region.ready
    rw [List.filter_eq_nil_iff]
    intro i hi
    have hi' : i < ops.size := by simpa using hi
    have h1 := hall i hi'
    have hlt : i < listed.size := by omega
    have : listed.getD i true = true := by simp [hlt] at h1 ⊢; exact h1
    rw [this]; simp
  | succ fuel ih =>
    intro listed a w hs hl st
    refine ⟨fun h => fin _ a w (ready_nil hwf hs h) st, fun i hi => ?_⟩
    unfold Region.ready at hi
    rw [List.mem_filter] at hi
    have hi' : i < ops.size := by simpa using hi.1
    have ho : ops[i]? = some ops[i] := Array.getElem?_eq_getElem hi'
    have hlt : i < listed.size := by omega
    rw [ho] at hi
    simp only [Option.map_some, Option.getD_some, Bool.and_eq_true, Bool.not_eq_true'] at hi
    have hf : listed.getD i false = false := by
      have := hi.2.1
      simp [hlt] at this ⊢; exact this
    have haft : ∀ e ∈ (ops[i]).after, listed.getD e.on false = true := fun e he => by
      have := (Array.all_eq_true'.1 hi.2.2) e he
      rw [hnb i _ ho e he] at this
      simpa using this
    have key := step i _ a w (fun i => listed.getD i false) ho hf haft st (wpAny P .any ops Q fuel (listed.setIfInBounds i true)) (fun v w' h1 h2 h3 => by
      have st' := st.next hwf hD ho hf haft h1 h2 h3
      refine ih _ _ _ (by simp [hs]) (by have := leftN_set hlt hf; omega) ?_
      rw [show (fun j => (listed.setIfInBounds i true).getD j false) = fun j => decide (j = i) || listed.getD j false from funext fun j => setB_get hlt]
      exact st')
    unfold wpOp
    rw [ho]
    show if Region.wanted ops[i] (yielded ops a.tmps) = true then _ else _
    split
    · rename_i hw; rw [if_pos hw] at key; exact .inl key
    · rename_i hw; rw [if_neg hw] at key; exact key
def bindsAll (ops : Array Oper) : Bool := ops.all fun o => o.after.all fun e => Region.binds .any e
theorem region_all {id : Nat} {w0 : World} {D : Nat → List Nat} (hm : P.follows .mixedOrders = true) (hwf : wfR ops a0.tmps.size = true) (hb : bindsAll ops = true) (hD : Deps ops T D) (hG : G w0.drew)
    (step : ∀ (i : Nat) (o : Oper) (a : Act) (w : World) (L : Nat → Bool), ops[i]? = some o → L i = false → (∀ e ∈ o.after, L e.on = true) → St ops T G a0 L a w → Owes P ops Q T G L i o a w)
    (fin : ∀ L a w, (∀ i, i < ops.size → L i = true) → St ops T G a0 L a w → Q .normal a w) : (Code.region id ops true).wp P Q a0 w0 := by
  refine wp_region_any hm ?_
  have hb' : ∀ (i : Nat) (o : Oper), ops[i]? = some o → ∀ e ∈ o.after, Region.binds .any e = true := fun i o ho e he => by
    have h1 := (Array.all_eq_true'.1 hb) o (Array.mem_of_getElem? ho)
    exact (Array.all_eq_true'.1 h1) e he
  have hz : ∀ i, (Array.replicate ops.size false).getD i false = false := fun i => by
    rw [Array.getD_eq_getD_getElem?]
    cases h : (Array.replicate ops.size false)[i]? with
    | none => rfl
    | some b =>
      obtain ⟨h1, h2⟩ := Array.getElem?_eq_some_iff.1 h
      simpa using h2.symm
  refine wpAny_inv hwf hD hb' step fin ops.size _ a0 _ (by simp) ?_ ⟨hG, rfl, rfl, fun _ _ => rfl, fun i o _ h => ?_, fun i h => ?_, fun i h => ?_⟩
  · unfold leftN
    exact Nat.le_trans (List.length_filter_le _ _) (by simp)
  · rw [hz] at h; cases h
  · rw [hz] at h; cases h
  · rw [hz] at h; cases h
end
section
variable {P : Program} {ops : Array Oper} {Q : Exit → Act → World → Prop} {T : Nat → (Nat → Value) → World → Prop} {G : World → Prop} {L : Nat → Bool} {i : Nat} {o : Oper} {a : Act} {w : World}
theorem Owes.value {v : Value} {w' : World} (hw : Region.wanted o (yielded ops a.tmps) = true) (hrun : (execOp a.eval o).run P w = .ok (.value v) w') (hT : T i (fun j => if j = i then v else vat ops a j) w') (hG : G w')
    (hst : ∀ j, j ≠ i → L j = true → T j (vat ops a) w → T j (vat ops a) w') : Owes P ops Q T G L i o a w := fun K hK => by
  rw [if_pos hw]
  unfold Oper.wp
  rw [hrun]
  exact hK v w' hT hG hst
theorem Owes.pure {v : Value} (hw : Region.wanted o (yielded ops a.tmps) = true) (hrun : (execOp a.eval o).run P w = .ok (.value v) w) (hT : T i (fun j => if j = i then v else vat ops a j) w) (hG : G w) : Owes P ops Q T G L i o a w :=
  Owes.value hw hrun hT hG (fun _ _ _ h => h)
theorem Owes.skipped (hw : Region.wanted o (yielded ops a.tmps) = false) (hT : T i (fun j => if j = i then undef else vat ops a j) w) (hG : G w) : Owes P ops Q T G L i o a w := fun K hK => by
  rw [if_neg (by rw [hw]; decide)]
  exact hK undef w hT hG (fun _ _ _ h => h)
theorem Owes.call {f : FuncId} {args : Array Value} (hw : Region.wanted o (yielded ops a.tmps) = true) (hrun : (execOp a.eval o).run P w = .ok (.enter f args) w)
    (hc : Calls P f args w fun e w' => ∃ v, e = .returned v ∧ T i (fun j => if j = i then v else vat ops a j) w' ∧ G w' ∧ ∀ j, j ≠ i → L j = true → T j (vat ops a) w → T j (vat ops a) w') : Owes P ops Q T G L i o a w := fun K hK => by
  rw [if_pos hw]
  unfold Oper.wp
  rw [hrun]
  refine hc.mono ?_
  rintro e w' ⟨v, rfl, h1, h2, h3⟩
  exact hK v w' h1 h2 h3
theorem eval_slot {j : Nat} {d : Tmp} (h : slotOf ops j = some d) : a.eval (.tmp d) = vat ops a j := by unfold vat; rw [h]; rfl
theorem yielded_of {g : Nat} {b : Bool} (h : vat ops a g = .bool b) : yielded ops a.tmps g = some b := by
  unfold yielded
  unfold vat slotOf at h
  cases hs : (ops[g]?).bind (·.dst) with
  | none => rw [hs] at h; cases h
  | some d =>
    rw [hs] at h
    simp only [Array.getD_eq_getD_getElem?] at h
    rw [Option.bind_some]
    cases ht : a.tmps[d]? with
    | none => rw [ht] at h; cases h
    | some v => rw [ht] at h; obtain rfl : v = .bool b := h; rfl
end
def AllS : Nat → (Nat → Prop) → Prop
  | 0, _ => True
  | n + 1, p => AllS n p ∧ p n
theorem AllS.at : ∀ {n : Nat} {p : Nat → Prop}, AllS n p → ∀ i, i < n → p i
  | n + 1, p, h, i, hi => by
    by_cases e : i = n
    · subst e; exact h.2
    · exact h.1.at i (by omega)
theorem region_steps {P : Program} {ops : Array Oper} {Q : Exit → Act → World → Prop} {T : Nat → (Nat → Value) → World → Prop} {G : World → Prop} {a0 : Act} {id n : Nat} {w0 : World} {D : Nat → List Nat}
    (hm : P.follows .mixedOrders = true) (hwf : wfR ops a0.tmps.size = true) (hb : bindsAll ops = true) (hD : Deps ops T D) (hG : G w0.drew) (hn : ops.size = n)
    (steps : AllS n fun i => ∀ (o : Oper) (a : Act) (w : World) (L : Nat → Bool), ops[i]? = some o → L i = false → (∀ e ∈ o.after, L e.on = true) → St ops T G a0 L a w → Owes P ops Q T G L i o a w)
    (fin : ∀ L a w, (∀ i, i < n → L i = true) → St ops T G a0 L a w → Q .normal a w) : (Code.region id ops true).wp P Q a0 w0 := by
  subst hn
  exact region_all hm hwf hb hD hG (fun i o a w L ho => steps.at i (Array.getElem?_eq_some_iff.1 ho).1 o a w L ho) fin
def findReg (id : Nat) : Code → Option (Array Oper)
  | .region i ops _ => if i = id then some ops else none
  | .seq x y => match findReg id x with
    | some o => some o
    | none => findReg id y
  | .cond _ x y => match findReg id x with
    | some o => some o
    | none => findReg id y
  | .block _ c => findReg id c
  | .loop c => findReg id c
  | _ => none
def regOps (f : Func) (id : Nat) : Array Oper := (f.body.bind (findReg id)).getD #[]
def TV (vs : List (Option Value)) (i : Nat) (ρ : Nat → Value) (_ : World) : Prop := match vs.getD i none with
  | some v => ρ i = v
  | none => True
def okV (ops : Array Oper) (vs : List (Option Value)) : Bool := (List.range ops.size).all fun i => match vs.getD i none with
  | some _ => (slotOf ops i).isSome
  | none => true
theorem tv_deps {ops : Array Oper} {vs : List (Option Value)} (h : okV ops vs = true) (hl : vs.length = ops.size) : Deps ops (TV vs) (fun _ => []) := by
  constructor
  · intro i ρ ρ' w h1 _ hT
    unfold TV at hT ⊢
    cases hs : vs.getD i none with
    | none => trivial
    | some v =>
      rw [hs] at hT
      have hi : i < ops.size := by
        rcases Nat.lt_or_ge i ops.size with h' | h'
        · exact h'
        · rw [List.getD_eq_getElem?_getD, List.getElem?_eq_none (by omega)] at hs; cases hs
      have k := List.all_eq_true.1 h i (by simpa using hi)
      rw [hs] at k
      rcases h1 with h1 | h1
      · show ρ' i = v
        rw [← h1]; exact hT
      · rw [h1] at k; cases k
  · intro i o _ j hj; cases hj
section
variable {P : Program} {ops : Array Oper} {Q : Exit → Act → World → Prop} {vs : List (Option Value)} {G : World → Prop} {a0 : Act} {w0 : World} {L : Nat → Bool} {i : Nat} {o : Oper} {a : Act} {w : World}
theorem TV.self {v : Value} {ρ : Nat → Value} (hv : vs.getD i none = some v) : TV vs i (fun j => if j = i then v else ρ j) w := by
  unfold TV; rw [hv]; simp
theorem TV.none {ρ : Nat → Value} (hv : vs.getD i none = Option.none) : TV vs i ρ w := by
  unfold TV; rw [hv]; trivial
theorem St.argV {j : Nat} {d : Tmp} {v : Value} (st : St ops (TV vs) G a0 L a w) (hl : L j = true) (hs : slotOf ops j = some d) (hv : vs.getD j none = some v) : a.eval (.tmp d) = v := by
  have := st.t j hl
  unfold TV at this
  rw [hv] at this
  rw [eval_slot hs]; exact this
theorem ev_put {d : Tmp} {s : Tmp} {v : Value} : (a.put (some d) v).eval (.tmp s) = if s = d then (if d < a.tmps.size then v else undef) else a.eval (.tmp s) := by
  show (a.tmps.setIfInBounds d v).getD s undef = _
  rw [Array.getD_eq_getD_getElem?, Array.getElem?_setIfInBounds]
  by_cases h : s = d
  · subst h
    simp only [if_true]
    split <;> rfl
  · rw [if_neg (fun e => h e.symm), if_neg h]
    show _ = a.tmps.getD s undef
    rw [Array.getD_eq_getD_getElem?]
theorem size_put {d : Option Tmp} {v : Value} : (a.put d v).tmps.size = a.tmps.size := by cases d <;> simp [Act.put]
theorem defers_put {d : Option Tmp} {v : Value} : (a.put d v).defers = a.defers := by cases d <;> rfl
end
section
variable {P : Program} {ops : Array Oper} {Q : Exit → Act → World → Prop}
structure StW (ops : Array Oper) (T : Nat → (Nat → Value) → World → Prop) (G : (Nat → Bool) → World → Prop) (a0 : Act) (L : Nat → Bool) (a : Act) (w : World) : Prop where
  g : G L w
  defers : a.defers = a0.defers
  size : a.tmps.size = a0.tmps.size
  outer : ∀ s, (∀ i, slotOf ops i ≠ some s) → a.tmps[s]? = a0.tmps[s]?
  down : ∀ i o, ops[i]? = some o → L i = true → ∀ e ∈ o.after, L e.on = true
  inn : ∀ i, L i = true → i < ops.size
  t : ∀ i, L i = true → T i (vat ops a) w
def OwesW (P : Program) (ops : Array Oper) (Q : Exit → Act → World → Prop) (T : Nat → (Nat → Value) → World → Prop) (G : (Nat → Bool) → World → Prop) (L : Nat → Bool) (i : Nat) (o : Oper) (a : Act) (w : World) : Prop :=
  ∀ K : Act → World → Prop, (∀ v w', T i (fun j => if j = i then v else vat ops a j) w' → G (fun j => decide (j = i) || L j) w' → (∀ j, j ≠ i → L j = true → T j (vat ops a) w → T j (vat ops a) w') → K (a.put o.dst v) w') →
    if Region.wanted o (yielded ops a.tmps) = true then o.wp P a w K Q else K (a.put o.dst undef) w
variable {T : Nat → (Nat → Value) → World → Prop} {G : (Nat → Bool) → World → Prop} {a0 : Act}
theorem StW.next {D : Nat → List Nat} {L : Nat → Bool} {i : Nat} {o : Oper} {a : Act} {w w' : World} {v : Value} (hwf : wfR ops a0.tmps.size = true) (hD : Deps ops T D) (st : StW ops T G a0 L a w) (ho : ops[i]? = some o) (hL : L i = false)
    (haft : ∀ e ∈ o.after, L e.on = true) (hT : T i (fun j => if j = i then v else vat ops a j) w') (hG : G (fun j => decide (j = i) || L j) w') (hst : ∀ j, j ≠ i → L j = true → T j (vat ops a) w → T j (vat ops a) w') :
    StW ops T G a0 (fun j => decide (j = i) || L j) (a.put o.dst v) w' where
  g := hG
  defers := by rw [← st.defers]; cases o.dst <;> rfl
  size := by rw [← st.size]; cases o.dst <;> simp [Act.put]
  outer := fun s hs => by
    rw [← st.outer s hs]
    cases hd : o.dst with
    | none => rfl
    | some d =>
      have hne : d ≠ s := by
        rintro rfl
        exact hs i (by unfold slotOf; rw [ho, Option.bind_some, hd])
      simp [Act.put, hne]
  down := fun k o' hk hlk e he => by
    rw [Bool.or_eq_true, decide_eq_true_iff] at hlk ⊢
    rcases hlk with rfl | hlk
    · have : o' = o := Option.some.inj (hk.symm.trans ho)
      subst this
      exact .inr (haft e he)
    · exact .inr (st.down k o' hk hlk e he)
  inn := fun k hk => by
    rw [Bool.or_eq_true, decide_eq_true_iff] at hk
    rcases hk with rfl | hk
    · exact (Array.getElem?_eq_some_iff.1 ho).1
    · exact st.inn k hk
  t := fun k hk => by
    rw [Bool.or_eq_true, decide_eq_true_iff] at hk
    by_cases e : k = i
    · subst e
      refine hD.dep k _ _ w' ?_ ?_ hT
      · by_cases hd : o.dst = none
        · right; unfold slotOf; rw [ho, Option.bind_some, hd]
        · left; rw [vat_put hwf st.size ho hd rfl]; simp
      · intro j hj
        obtain ⟨e, he, rfl⟩ := hD.aft k o ho j hj
        have hlt := (wf_at hwf ho).1 e he
        have hne : e.on ≠ k := by omega
        rw [vat_put_far hwf ho hne, if_neg hne]
    · have hk' : L k = true := by rcases hk with h | h; exact absurd h e; exact h
      refine hD.dep k _ _ w' (.inl (vat_put_far hwf ho e).symm) ?_ (hst k e hk' (st.t k hk'))
      intro j hj
      have hkl := st.inn k hk'
      obtain ⟨ok, hok⟩ : ∃ ok, ops[k]? = some ok := ⟨ops[k], Array.getElem?_eq_getElem hkl⟩
      obtain ⟨ed, hed, rfl⟩ := hD.aft k ok hok j hj
      have hlj := st.down k ok hok hk' ed hed
      have hne : ed.on ≠ i := fun e' => by rw [e', hL] at hlj; cases hlj
      exact (vat_put_far hwf ho hne).symm
end
theorem ev_tmps {a : Act} {s : Tmp} {v : Value} (h : a.tmps[s]? = some v) : a.eval (.tmp s) = v := by
  show a.tmps.getD s undef = v
  rw [Array.getD_eq_getD_getElem?, h]; rfl
theorem add0 (g k : Nat) : (⟨g, 0, none⟩ : Addr).add k = ⟨g, k, none⟩ := by unfold Addr.add; split <;> simp_all
section
variable {P : Program} {ops : Array Oper} {Q : Exit → Act → World → Prop} {a : Act} {w : World} {i : Nat} {o : Oper}
theorem ev_same {d : Tmp} {v : Value} (h : d < a.tmps.size) : (a.put (some d) v).eval (.tmp d) = v := by rw [ev_put, if_pos rfl, if_pos h]
theorem ev_ne {d s : Tmp} {v : Value} (h : s ≠ d) : (a.put (some d) v).eval (.tmp s) = a.eval (.tmp s) := by rw [ev_put, if_neg h]
theorem seq_startL {id : Nat} {l : List Nat} (hn : List.range ops.size = l) (h : wpOps P ops Q l a w) : (Code.region id ops false).wp P Q a w := by
  subst hn; exact wp_region h
end
def GS (s : Nat) (W1 W2 : World) (L : Nat → Bool) (w : World) : Prop := w = if L s = true then W2 else W1
def lastOk (ops : Array Oper) (s : Nat) : Bool := match ops[s]? with
  | none => true
  | some o => (List.range s).all fun i => o.after.any fun e => e.on == i
section
variable {P : Program} {ops : Array Oper} {Q : Exit → Act → World → Prop} {vs : List (Option Value)} {a0 : Act} {W1 W2 : World} {L : Nat → Bool} {i s : Nat} {o : Oper} {a : Act} {w : World}
theorem StW.first (st : StW ops (TV vs) (GS s W1 W2) a0 L a w) (h : lastOk ops s = true) (hL : L i = false) (hi : i ≤ s) : L s = false := by
  cases e : L s with
  | false => rfl
  | true =>
    have hlt := st.inn s e
    have ho : ops[s]? = some ops[s] := Array.getElem?_eq_getElem hlt
    rcases Nat.lt_or_ge i s with h' | h'
    · unfold lastOk at h
      rw [ho] at h
      have := List.all_eq_true.1 h i (by simpa using h')
      obtain ⟨k, hk, he⟩ := Array.any_eq_true.1 this
      have := st.down s _ ho e _ (Array.getElem_mem hk)
      rw [show ((ops[s]).after[k]).on = i by simpa using he, hL] at this
      cases this
    · have : i = s := by omega
      rw [this, e] at hL; cases hL
theorem StW.argV {j : Nat} {d : Tmp} {v : Value} (st : StW ops (TV vs) (GS s W1 W2) a0 L a w) (hl : L j = true) (hs : slotOf ops j = some d) (hv : vs.getD j none = some v) : a.eval (.tmp d) = v := by
  have := st.t j hl
  unfold TV at this
  rw [hv] at this
  rw [eval_slot hs]; exact this
structure KeepM (m : Nat) (xs : List Nat) (a0 a : Act) : Prop where
  defers : a.defers = a0.defers
  size : a.tmps.size = a0.tmps.size
  var : ∀ s, s < m → xs.contains s = false → a.tmps[s]? = a0.tmps[s]?
theorem KeepM.refl (m : Nat) (xs : List Nat) (a : Act) : KeepM m xs a a := ⟨rfl, rfl, fun _ _ _ => rfl⟩
theorem KeepM.put {m : Nat} {xs : List Nat} {a0 a : Act} {d : Tmp} {v : Value} (h : KeepM m xs a0 a) (hd : (decide (m ≤ d) || xs.contains d) = true) : KeepM m xs a0 (a.put (some d) v) :=
  ⟨by rw [defers_put]; exact h.defers, by rw [size_put]; exact h.size, fun s hs hx => by
    rw [← h.var s hs hx]
    have hne : d ≠ s := by
      rintro rfl
      rcases Bool.or_eq_true_iff.1 hd with h1 | h1
      · exact absurd (show m ≤ d from of_decide_eq_true h1) (Nat.not_le.2 hs)
      · rw [hx] at h1; cases h1
    show (a.tmps.setIfInBounds d v)[s]? = _
    rw [Array.getElem?_setIfInBounds, if_neg hne]⟩
theorem KeepM.trans {m : Nat} {xs : List Nat} {a b c : Act} (h : KeepM m xs a b) (k : KeepM m xs b c) : KeepM m xs a c := ⟨k.defers.trans h.defers, k.size.trans h.size, fun s hs hx => (k.var s hs hx).trans (h.var s hs hx)⟩
theorem contains_sub {xs ys : List Nat} (h : xs.all ys.contains = true) (s : Nat) (hs : ys.contains s = false) : xs.contains s = false := by
  cases e : xs.contains s with
  | false => rfl
  | true =>
    have := List.all_eq_true.1 h s (by simpa using e)
    rw [hs] at this; cases this
theorem KeepM.mono {m : Nat} {xs ys : List Nat} {a b : Act} (h : KeepM m xs a b) (hx : xs.all ys.contains = true) : KeepM m ys a b := ⟨h.defers, h.size, fun s hs hc => h.var s hs (contains_sub hx s hc)⟩
theorem KeepM.ev {m : Nat} {xs : List Nat} {a0 a : Act} (h : KeepM m xs a0 a) {s : Nat} {v : Value} (hv : a0.eval (.tmp s) = v) (hs : (decide (s < m) && !xs.contains s) = true) : a.eval (.tmp s) = v := by
  rw [Bool.and_eq_true, Bool.not_eq_true'] at hs
  rw [← hv]
  show a.tmps.getD s undef = a0.tmps.getD s undef
  rw [Array.getD_eq_getD_getElem?, Array.getD_eq_getD_getElem?, h.var s (of_decide_eq_true hs.1) hs.2]
def keepM (m : Nat) (ops : Array Oper) (xs : List Nat) : Bool := (List.range ops.size).all fun j => match slotOf ops j with
  | some d => decide (m ≤ d) || xs.contains d
  | none => true
theorem keepM_of {m : Nat} {xs : List Nat} (h : keepM m ops xs = true) {s : Nat} (hs : s < m) (hx : xs.contains s = false) : ∀ j, slotOf ops j ≠ some s := fun j hj => by
  rcases Nat.lt_or_ge j ops.size with hl | hl
  · have := List.all_eq_true.1 h j (by simpa using hl)
    rw [hj] at this
    rcases Bool.or_eq_true_iff.1 this with h1 | h1
    · exact absurd (show m ≤ s from of_decide_eq_true h1) (Nat.not_le.2 hs)
    · rw [hx] at h1; cases h1
  · unfold slotOf at hj; rw [Array.getElem?_eq_none hl] at hj; cases hj
theorem StW.keepM {T : Nat → (Nat → Value) → World → Prop} {G : (Nat → Bool) → World → Prop} {m : Nat} {xs : List Nat} (st : StW ops T G a0 L a w) (h : Proofs.YtiigncmpbkfhmaaGreatDoor.keepM m ops xs = true) : KeepM m xs a0 a :=
  ⟨st.defers, st.size, fun s hs hx => st.outer s (keepM_of h hs hx)⟩
theorem St.keepM {T : Nat → (Nat → Value) → World → Prop} {G : World → Prop} {m : Nat} {xs : List Nat} (st : St ops T G a0 L a w) (h : Proofs.YtiigncmpbkfhmaaGreatDoor.keepM m ops xs = true) : KeepM m xs a0 a :=
  ⟨st.defers, st.size, fun s hs hx => st.outer s (keepM_of h hs hx)⟩
end
theorem _root_.Go.RowKit.Below.next {B : Nat} {w W W' : World} (h : Below B w W) (hb : Below W.heap.size W W') (hB : B ≤ w.heap.size := by exact Nat.le_refl _) : Below B w W' := h.trans (hb.mono (Nat.le_trans hB h.size))
end Go.Proofs.YtiigncmpbkfhmaaGreatDoor
namespace Go.Proofs.YtiigncmpbkfhmaaGreatDoor
open Go Go.RowKit
def look (k : Nat) : List (Nat × Value) → Option Value
  | [] => none
  | p :: r => bif Nat.beq k p.1 then some p.2 else look k r
structure Knows (a : Act) (n : Nat) (env : List (Nat × Value)) : Prop where
  size : a.tmps.size = n
  defers : a.defers = []
  val : ∀ k v, look k env = some v → a.eval (.tmp k) = v
def Subs (env : List (Nat × Value)) : List (Nat × Value) → Prop
  | [] => True
  | p :: r => look p.1 env = some p.2 ∧ Subs env r
section
variable {a : Act} {n : Nat} {env : List (Nat × Value)}
theorem Knows.get (h : Knows a n env) {k : Nat} {v : Value} (e : look k env = some v) : a.eval (.tmp k) = v := h.val k v e
theorem Knows.put (h : Knows a n env) {d : Nat} {v : Value} (hd : Nat.blt d n = true) : Knows (a.put (some d) v) n ((d, v) :: env) := by
  have hd' : d < n := Nat.le_of_ble_eq_true hd
  refine ⟨by rw [size_put]; exact h.size, by rw [defers_put]; exact h.defers, fun k u e => ?_⟩
  unfold look at e
  cases hk : Nat.beq k d with
  | true =>
    rw [hk] at e
    obtain rfl := Nat.eq_of_beq_eq_true hk
    rw [ev_same (by rw [h.size]; exact hd')]
    exact Option.some.inj e
  | false =>
    rw [hk] at e
    rw [ev_ne (Nat.ne_of_beq_eq_false hk)]
    exact h.val k u e
theorem subs_look {env env' : List (Nat × Value)} (hs : Subs env env') : ∀ k v, look k env' = some v → look k env = some v := by
  induction env' with
  | nil => intro k v e; cases e
  | cons p r ih =>
    intro k v e
    unfold look at e
    cases hk : Nat.beq k p.1 with
    | true => rw [hk] at e; obtain rfl := Nat.eq_of_beq_eq_true hk; rw [hs.1]; exact e
    | false => rw [hk] at e; exact ih hs.2 k v e
theorem Knows.sub (h : Knows a n env) {env' : List (Nat × Value)} (hs : Subs env env') : Knows a n env' := ⟨h.size, h.defers, fun k v e => h.val k v (subs_look hs k v e)⟩
end
def evE (env : List (Nat × Value)) : Operand → Value
  | .tmp k => (look k env).getD undef
  | .const v => v
  | .global g => .pointer (some ⟨g, 0, none⟩)
  | .func f => .func (.func f) #[] #[]
def knownO (env : List (Nat × Value)) : Operand → Bool
  | .tmp k => (look k env).isSome
  | _ => true
theorem Knows.ev {a : Act} {n : Nat} {env : List (Nat × Value)} (h : Knows a n env) {x : Operand} (hx : knownO env x = true) : a.eval x = evE env x := by
  cases x with
  | tmp k =>
    replace hx : (look k env).isSome = true := hx
    obtain ⟨v, hv⟩ := Option.isSome_iff_exists.1 hx
    rw [h.val k v hv]
    show v = (look k env).getD undef
    rw [hv]; rfl
  | const v => rfl
  | global g => rfl
  | func f => rfl
theorem map_congr_of {α : Type} {xs : Array Operand} {ρ σ : Operand → α} (h : ∀ x ∈ xs, ρ x = σ x) : xs.map ρ = xs.map σ := by
  apply Array.map_congr_left; exact h
def plainOp : Op → Bool
  | .move _ | .assign _ | .box .. | .load .. | .nilCheck _ | .unOp .. | .convert .. | .makeInterface .. | .fieldAddr .. | .field .. | .range .. | .next .. | .typeAssert .. | .extract .. | .panic _ => true
  | .store .. | .binOp .. | .makeSlice .. | .indexAddr .. | .index .. | .lookup .. | .pick .. | .insert .. | .mapUpdate .. => true
  | .alloc _ | .build .. | .buildSlice .. | .makeFunc .. | .makeMap .. | .slice .. | .call _ => true
  | _ => false
theorem execOp_congr {ρ σ : Operand → Value} {o : Oper} (hp : plainOp o.op = true) (h : ∀ x ∈ o.op.operands, ρ x = σ x) : execOp ρ o = execOp σ o := by
  cases ho : o.op <;> rw [ho] at h hp <;> first | cases hp | skip
  case move x => simp only [execOp, ho]; rw [h x (by simp [Op.operands])]
  case assign x => simp only [execOp, ho]; rw [h x (by simp [Op.operands])]
  case box t x => simp only [execOp, ho]; rw [h x (by simp [Op.operands])]
  case load t x => simp only [execOp, ho]; rw [h x (by simp [Op.operands])]
  case nilCheck x => simp only [execOp, ho]; rw [h x (by simp [Op.operands])]
  case unOp u t x => simp only [execOp, ho]; rw [h x (by simp [Op.operands])]
  case convert s d x => simp only [execOp, ho]; rw [h x (by simp [Op.operands])]
  case makeInterface t x => simp only [execOp, ho]; rw [h x (by simp [Op.operands])]
  case fieldAddr t x f => simp only [execOp, ho]; rw [h x (by simp [Op.operands])]
  case field t x f => simp only [execOp, ho]; rw [h x (by simp [Op.operands])]
  case range t x => simp only [execOp, ho]; rw [h x (by simp [Op.operands])]
  case next x b => simp only [execOp, ho]; rw [h x (by simp [Op.operands])]
  case typeAssert x t u ok => simp only [execOp, ho]; rw [h x (by simp [Op.operands])]
  case extract x k => simp only [execOp, ho]; rw [h x (by simp [Op.operands])]
  case panic x => simp only [execOp, ho]; rw [h x (by simp [Op.operands])]
  case store t x y => simp only [execOp, ho]; rw [h x (by simp [Op.operands]), h y (by simp [Op.operands])]
  case binOp op t x y t2 => simp only [execOp, ho]; rw [h x (by simp [Op.operands]), h y (by simp [Op.operands])]
  case makeSlice t x y => simp only [execOp, ho]; rw [h x (by simp [Op.operands]), h y (by simp [Op.operands])]
  case indexAddr t x y => simp only [execOp, ho]; rw [h x (by simp [Op.operands]), h y (by simp [Op.operands])]
  case index t x y => simp only [execOp, ho]; rw [h x (by simp [Op.operands]), h y (by simp [Op.operands])]
  case lookup t x y ok => simp only [execOp, ho]; rw [h x (by simp [Op.operands]), h y (by simp [Op.operands])]
  case pick x y z => simp only [execOp, ho]; rw [h x (by simp [Op.operands]), h y (by simp [Op.operands]), h z (by simp [Op.operands])]
  case insert t x y z => simp only [execOp, ho]; rw [h x (by simp [Op.operands]), h y (by simp [Op.operands]), h z (by simp [Op.operands])]
  case mapUpdate t x y z => simp only [execOp, ho]; rw [h x (by simp [Op.operands]), h y (by simp [Op.operands]), h z (by simp [Op.operands])]
  case alloc t => simp only [execOp, ho]
  case build t ps =>
    have : (ps.map fun p => (p.1, ρ p.2)) = ps.map fun p => (p.1, σ p.2) := by
      apply Array.map_congr_left
      intro p hp
      rw [h p.2 (by simp [Op.operands]; exact ⟨p.1, hp⟩)]
    simp only [execOp, ho]; rw [this]
  case buildSlice t l ps =>
    have : (ps.map fun p => (p.1, ρ p.2)) = ps.map fun p => (p.1, σ p.2) := by
      apply Array.map_congr_left
      intro p hp
      rw [h p.2 (by simp [Op.operands]; exact ⟨p.1, hp⟩)]
    simp only [execOp, ho]; rw [this]
  case makeFunc fn xs ys =>
    simp only [execOp, ho]
    rw [map_congr_of (xs := xs) fun x hx => h x (by simp [Op.operands, hx]), map_congr_of (xs := ys) fun x hx => h x (by simp [Op.operands, hx])]
  case makeMap t r =>
    cases r with
    | none => simp only [execOp, ho]; rfl
    | some x => simp only [execOp, ho, Option.map]; rw [h x (by simp [Op.operands])]
  case slice t x lo hi mx =>
    have e1 : lo.map ρ = lo.map σ := by cases lo with | none => rfl | some y => simp [h y (by simp [Op.operands])]
    have e2 : hi.map ρ = hi.map σ := by cases hi with | none => rfl | some y => simp [h y (by simp [Op.operands])]
    have e3 : mx.map ρ = mx.map σ := by cases mx with | none => rfl | some y => simp [h y (by simp [Op.operands])]
    simp only [execOp, ho]
    rw [h x (by simp [Op.operands]), e1, e2, e3]
  case call c =>
    have : resolve ρ c o.type = resolve σ c o.type := by
      unfold resolve
      replace h : ∀ x ∈ c.operands, ρ x = σ x := h
      unfold Call.operands at h
      cases hc : c.callee with
      | value f =>
        rw [hc] at h; simp only
        rw [h f (by simp), map_congr_of (xs := c.args) fun x hx => h x (by simp [hx])]
      | invoke r m =>
        rw [hc] at h; simp only
        rw [h r (by simp), map_congr_of (xs := c.args) fun x hx => h x (by simp [hx])]
      | builtin b =>
        rw [hc] at h; simp only
        rw [map_congr_of (xs := c.args) fun x hx => h x (by simp [hx])]
    simp only [execOp, ho]; rw [this]
def guardE (ops : Array Oper) (env : List (Nat × Value)) (o : Oper) : Option Bool := match o.guard with
  | none => some true
  | some gb => match slotOf ops gb.1 with
    | none => none
    | some d => match look d env with
      | some (.bool c) => some (c == gb.2)
      | some (.tuple _) => some false
      | _ => none
theorem wanted_of {a : Act} {n : Nat} {env : List (Nat × Value)} {ops : Array Oper} {o : Oper} {b : Bool} (hK : Knows a n env) (h : guardE ops env o = some b) : Region.wanted o (yielded ops a.tmps) = b := by
  unfold guardE at h
  unfold Region.wanted
  cases hg : o.guard with
  | none => rw [hg] at h; exact Option.some.inj h
  | some gb =>
    obtain ⟨g, want⟩ := gb
    rw [hg] at h
    simp only at h ⊢
    cases hs : slotOf ops g with
    | none => rw [hs] at h; cases h
    | some d =>
      rw [hs] at h
      simp only at h
      cases hl : look d env with
      | none => rw [hl] at h; cases h
      | some v =>
        rw [hl] at h
        have hv := hK.val d v hl
        cases v with
        | bool c =>
          simp only [Option.some.injEq] at h
          have hy : yielded ops a.tmps g = some c := yielded_of (by unfold vat; rw [hs]; exact hv)
          rw [hy]; rw [← h]; cases c <;> cases want <;> rfl
        | tuple vs =>
          simp only [Option.some.injEq] at h
          subst h
          have hy : yielded ops a.tmps g = none := by
            unfold yielded
            unfold slotOf at hs
            rw [hs, Option.bind_some]
            cases ht : a.tmps[d]? with
            | none => rfl
            | some u =>
              have : a.eval (.tmp d) = u := ev_tmps ht
              rw [hv] at this; subst this; rfl
          rw [hy]; rfl
        | _ => simp at h
def opAt (ops : Array Oper) (i : Nat) : Oper := (ops[i]?).getD default
def covE (env : List (Nat × Value)) (o : Oper) : Bool := plainOp o.op && o.op.operands.all (knownO env)
def chk (ops : Array Oper) (env : List (Nat × Value)) (i n d : Nat) : Bool := match ops[i]? with
  | none => false
  | some o => (match o.dst with | some e => Nat.beq e d | none => false) && Nat.blt d n && (match guardE ops env o with | some b => b | none => false) && covE env o
def chk0 (ops : Array Oper) (env : List (Nat × Value)) (i : Nat) : Bool := match ops[i]? with
  | none => false
  | some o => o.dst.isNone && (match guardE ops env o with | some b => b | none => false) && covE env o
def chkN (ops : Array Oper) (env : List (Nat × Value)) (i n d : Nat) : Bool := match ops[i]? with
  | none => false
  | some o => (match o.dst with | some e => Nat.beq e d | none => false) && Nat.blt d n && (match guardE ops env o with | some b => !b | none => false)
section
variable {P : Program} {ops : Array Oper} {Q : Exit → Act → World → Prop} {a : Act} {n i : Nat} {env : List (Nat × Value)} {l : List Nat} {w w' : World}
theorem chk_parts {d : Nat} (h : chk ops env i n d = true) : ∃ o, ops[i]? = some o ∧ opAt ops i = o ∧ o.dst = some d ∧ Nat.blt d n = true ∧ guardE ops env o = some true ∧ covE env o = true := by
  unfold chk at h
  cases ho : ops[i]? with
  | none => rw [ho] at h; cases h
  | some o =>
    rw [ho] at h
    simp only [Bool.and_eq_true] at h
    obtain ⟨⟨⟨h1, h2⟩, h3⟩, h4⟩ := h
    refine ⟨o, rfl, by unfold opAt; rw [ho]; rfl, ?_, h2, ?_, h4⟩
    · cases hd : o.dst with
      | none => rw [hd] at h1; cases h1
      | some e => rw [hd] at h1; rw [Nat.eq_of_beq_eq_true h1]
    · cases hg : guardE ops env o with
      | none => rw [hg] at h3; cases h3
      | some b => rw [hg] at h3; exact congrArg some h3
theorem chk0_parts (h : chk0 ops env i = true) : ∃ o, ops[i]? = some o ∧ opAt ops i = o ∧ o.dst = none ∧ guardE ops env o = some true ∧ covE env o = true := by
  unfold chk0 at h
  cases ho : ops[i]? with
  | none => rw [ho] at h; cases h
  | some o =>
    rw [ho] at h
    simp only [Bool.and_eq_true] at h
    obtain ⟨⟨h1, h3⟩, h4⟩ := h
    refine ⟨o, rfl, by unfold opAt; rw [ho]; rfl, ?_, ?_, h4⟩
    · cases hd : o.dst with
      | none => rfl
      | some e => rw [hd] at h1; cases h1
    · cases hg : guardE ops env o with
      | none => rw [hg] at h3; cases h3
      | some b => rw [hg] at h3; exact congrArg some h3
theorem chkN_parts {d : Nat} (h : chkN ops env i n d = true) : ∃ o, ops[i]? = some o ∧ o.dst = some d ∧ Nat.blt d n = true ∧ guardE ops env o = some false := by
  unfold chkN at h
  cases ho : ops[i]? with
  | none => rw [ho] at h; cases h
  | some o =>
    rw [ho] at h
    simp only [Bool.and_eq_true] at h
    obtain ⟨⟨h1, h2⟩, h3⟩ := h
    refine ⟨o, rfl, ?_, h2, ?_⟩
    · cases hd : o.dst with
      | none => rw [hd] at h1; cases h1
      | some e => rw [hd] at h1; rw [Nat.eq_of_beq_eq_true h1]
    · cases hg : guardE ops env o with
      | none => rw [hg] at h3; cases h3
      | some b => rw [hg] at h3; cases b <;> simp_all
theorem Knows.exec {o : Oper} (hK : Knows a n env) (hc : covE env o = true) : execOp a.eval o = execOp (evE env) o := by
  unfold covE at hc
  rw [Bool.and_eq_true] at hc
  exact execOp_congr hc.1 fun x hx => hK.ev (by
    obtain ⟨k, hk, rfl⟩ := Array.getElem_of_mem hx
    exact Array.all_eq_true.1 hc.2 k hk)
theorem stepV (hK : Knows a n env) (d : Nat) (v : Value) (hc : chk ops env i n d = true) (hr : (execOp (evE env) (opAt ops i)).run P w = .ok (.value v) w') (h : ∀ a', Knows a' n ((d, v) :: env) → wpOps P ops Q l a' w') : wpOps P ops Q (i :: l) a w := by
  obtain ⟨o, ho, h0, hd, hb, hg, hcov⟩ := chk_parts hc
  rw [h0] at hr
  rw [wpOps_cons]; unfold wpOp; rw [ho]
  show if Region.wanted o (yielded ops a.tmps) = true then _ else _
  rw [if_pos (wanted_of hK hg)]
  left
  unfold Oper.wp
  rw [hK.exec hcov, hr]
  show wpOps P ops Q l (a.put o.dst v) w'
  rw [hd]
  exact h _ (hK.put hb)
theorem sP (hK : Knows a n env) (d : Nat) (v : Value) (hc : chk ops env i n d = true) (hr : (execOp (evE env) (opAt ops i)).run P w = .ok (.value v) w) (h : ∀ a', Knows a' n ((d, v) :: env) → wpOps P ops Q l a' w) : wpOps P ops Q (i :: l) a w := stepV hK d v hc hr h
theorem stepS (hK : Knows a n env) (hc : chk0 ops env i = true) (hr : (execOp (evE env) (opAt ops i)).run P w = .ok .skip w') (h : wpOps P ops Q l a w') : wpOps P ops Q (i :: l) a w := by
  obtain ⟨o, ho, h0, hd, hg, hcov⟩ := chk0_parts hc
  rw [h0] at hr
  rw [wpOps_cons]; unfold wpOp; rw [ho]
  show if Region.wanted o (yielded ops a.tmps) = true then _ else _
  rw [if_pos (wanted_of hK hg)]
  left
  unfold Oper.wp
  rw [hK.exec hcov, hr]
  show wpOps P ops Q l (a.put o.dst undef) w'
  rw [hd]
  exact h
theorem sN (hK : Knows a n env) (d : Nat) (hc : chkN ops env i n d = true) (h : ∀ a', Knows a' n ((d, undef) :: env) → wpOps P ops Q l a' w) : wpOps P ops Q (i :: l) a w := by
  obtain ⟨o, ho, hd, hb, hg⟩ := chkN_parts hc
  rw [wpOps_cons]; unfold wpOp; rw [ho]
  show if Region.wanted o (yielded ops a.tmps) = true then _ else _
  rw [if_neg (by rw [wanted_of hK hg]; decide), hd]
  exact h _ (hK.put hb)
theorem sM (hK : Knows a n env) (d k : Nat) {v : Value} (hc : chk ops env i n d = true) (ho : (opAt ops i).op = .move (.tmp k) ∨ (opAt ops i).op = .assign (.tmp k)) (hl : look k env = some v) (h : ∀ a', Knows a' n ((d, v) :: env) → wpOps P ops Q l a' w) : wpOps P ops Q (i :: l) a w :=
  stepV hK d v hc (by
    have e : evE env (.tmp k) = v := by show (look k env).getD undef = v; rw [hl]; rfl
    rcases ho with ho | ho
    · unfold execOp; rw [ho, ← e]; rfl
    · unfold execOp; rw [ho, ← e]; rfl) h
theorem stepC (hK : Knows a n env) (d : Nat) {f : FuncId} (args : Array Value) (hc : chk ops env i n d = true) (he : (execOp (evE env) (opAt ops i)).run P w = .ok (.enter f args) w)
    (hf : Calls P f args w fun e w' => ∃ v, e = .returned v ∧ ∀ a', Knows a' n ((d, v) :: env) → wpOps P ops Q l a' w') : wpOps P ops Q (i :: l) a w := by
  obtain ⟨o, ho, h0, hd, hb, hg, hcov⟩ := chk_parts hc
  rw [h0] at he
  rw [wpOps_cons]; unfold wpOp; rw [ho]
  show if Region.wanted o (yielded ops a.tmps) = true then _ else _
  rw [if_pos (wanted_of hK hg)]
  left
  unfold Oper.wp
  rw [hK.exec hcov, he]
  refine hf.mono ?_
  rintro e w' ⟨v, rfl, h⟩
  show wpOps P ops Q l (a.put o.dst v) w'
  rw [hd]
  exact h _ (hK.put hb)
theorem exit_then {id : Nat} {K : Act → World → Prop} (h : Q (.exit id) a w) : Exit.then K Q (.exit id) a w := h
theorem exit_here (id : Nat) (h : Q .normal a w) : Exit.inBlock id Q (.exit id) a w := by
  show if id = id then _ else _
  rw [if_pos rfl]; exact h
end
end Go.Proofs.YtiigncmpbkfhmaaGreatDoor
namespace Go.Proofs.YtiigncmpbkfhmaaGreatDoor
open Go Go.RowKit
inductive It where
  | row (b : Nat) (t : TypeId) (cs : List Value)
  | own (e : TypeId) (size : Nat) (v : Value) (n : Nat) (xs : List Value)
  | obj (b : Nat) (o : Obj)
def It.blk : It → Option Nat
  | .row b _ _ => some b
  | .own _ _ v _ _ => v.ownBlock
  | .obj b _ => some b
def It.holds (base : Nat) (w : World) : It → Prop
  | .row b t cs => base ≤ b ∧ RowT w b t cs
  | .own e s v n xs => w.ownsRow base e s v n xs
  | .obj b o => base ≤ b ∧ w.heap[b]? = some o
structure Mem (w0 w : World) (its : List It) : Prop where
  below : Below w0.heap.size w0 w
  each : ∀ it ∈ its, it.holds w0.heap.size w
  apart : its.Pairwise fun x y => x.blk = none ∨ x.blk ≠ y.blk
theorem It.lt {base : Nat} {w : World} {it : It} (h : it.holds base w) {k : Nat} (hk : it.blk = some k) : base ≤ k ∧ k < w.heap.size := by
  cases it with
  | row b t cs => obtain rfl := Option.some.inj hk; exact ⟨h.1, h.2.lt⟩
  | own e s v n xs => exact World.ownsRow.lt h k hk
  | obj b o =>
    obtain rfl := Option.some.inj hk
    refine ⟨h.1, ?_⟩
    rcases Nat.lt_or_ge b w.heap.size with h' | h'
    · exact h'
    · have h2 := h.2; rw [Array.getElem?_eq_none h'] at h2; cases h2
theorem It.stay {base : Nat} {w w' : World} {it : It} (h : it.holds base w) (hb : ∀ k, it.blk = some k → k < w.heap.size → w'.heap[k]? = w.heap[k]?) : it.holds base w' := by
  cases it with
  | row b t cs => exact ⟨h.1, (hb b rfl h.2.lt).trans h.2⟩
  | own e s v n xs =>
    refine ⟨h.1, ?_⟩
    rcases h.2 with h2 | ⟨g, cap, cur, hv, hg, hh, r⟩
    · exact .inl h2
    · have hlt : g < w.heap.size := (World.ownsRow.lt h g (by rw [hv]; rfl)).2
      exact .inr ⟨g, cap, cur, hv, hg, (hb g (by rw [show (It.own e s v n xs).blk = v.ownBlock from rfl, hv]; rfl) hlt).trans hh, r⟩
  | obj b o => exact ⟨h.1, (hb b rfl (It.lt (it := .obj b o) h rfl).2).trans h.2⟩
theorem It.base {b b' : Nat} {w : World} {it : It} (h : it.holds b w) (hb : b' ≤ b) : it.holds b' w := by
  cases it with
  | row k t cs => exact ⟨Nat.le_trans hb h.1, h.2⟩
  | own e s v n xs =>
    refine ⟨h.1, ?_⟩
    rcases h.2 with h2 | ⟨g, cap, cur, hv, hg, hh, r⟩
    · exact .inl h2
    · exact .inr ⟨g, cap, cur, hv, Nat.le_trans hb hg, hh, r⟩
  | obj k o => exact ⟨Nat.le_trans hb h.1, h.2⟩
section
variable {w0 w w' : World} {its : List It}
theorem Mem.start (w : World) : Mem w w [] := ⟨Below.refl _ _, by simp, .nil⟩
theorem Mem.to (h : Mem w0 w its) (its' : List It) (e : its = its') : Mem w0 w its' := e ▸ h
theorem Mem.size (h : Mem w0 w its) : w0.heap.size ≤ w.heap.size := h.below.size
theorem Mem.row (h : Mem w0 w its) (j : Nat) {b : Nat} {t : TypeId} {cs : List Value} (hj : its[j]? = some (.row b t cs)) : RowT w b t cs := (h.each _ (List.mem_of_getElem? hj)).2
theorem Mem.own (h : Mem w0 w its) (j : Nat) {e : TypeId} {s n : Nat} {v : Value} {xs : List Value} (hj : its[j]? = some (.own e s v n xs)) : w.ownsRow w0.heap.size e s v n xs := h.each _ (List.mem_of_getElem? hj)
theorem Mem.obj (h : Mem w0 w its) (j : Nat) {b : Nat} {o : Obj} (hj : its[j]? = some (.obj b o)) : w.heap[b]? = some o := (h.each _ (List.mem_of_getElem? hj)).2
theorem Mem.objlt (h : Mem w0 w its) (j : Nat) {b : Nat} {o : Obj} (hj : its[j]? = some (.obj b o)) : b < w.heap.size := (It.lt (it := .obj b o) (h.each _ (List.mem_of_getElem? hj)) rfl).2
theorem Mem.sub (h : Mem w0 w its) {its' : List It} (hs : its'.Sublist its) : Mem w0 w its' := ⟨h.below, fun it hi => h.each it (hs.subset hi), h.apart.sublist hs⟩
theorem Mem.drop (h : Mem w0 w its) (k : Nat) : Mem w0 w (its.drop k) := h.sub (List.drop_sublist k its)
theorem Mem.pick (h : Mem w0 w its) (j : Nat) {it : It} (hj : its[j]? = some it) : Mem w0 w [it] := h.sub (by
  obtain ⟨hlt, rfl⟩ := List.getElem?_eq_some_iff.1 hj
  exact List.singleton_sublist.2 (List.getElem_mem hlt))
theorem Mem.go (h : Mem w0 w its) (hb : Below w.heap.size w w') : Mem w0 w' its :=
  ⟨Below.next h.below hb, fun it hi => It.stay (h.each it hi) fun k _ hk => hb.block k hk, h.apart⟩
theorem Mem.drew (h : Mem w0 w its) : Mem w0 w.drew its := h.go (Below.refl _ _).drew
theorem Mem.cons (h : Mem w0 w its) {it : It} (hi : it.holds w0.heap.size w) (hne : ∀ x ∈ its, it.blk = none ∨ it.blk ≠ x.blk) : Mem w0 w (it :: its) :=
  ⟨h.below, fun x hx => (List.mem_cons.1 hx).elim (fun e => e ▸ hi) (h.each x), .cons hne h.apart⟩
theorem Mem.alloc (h : Mem w0 w its) (t : TypeId) (cs : List Value) : Mem w0 (w.alloc (.cells cs.toArray t)) (.row w.heap.size t cs :: its) := by
  refine (h.go (below_alloc w _)).cons ⟨h.size, RowT.new w t cs⟩ fun x hx => .inr fun e => ?_
  have := (It.lt (h.each x hx) e.symm).2
  exact Nat.lt_irrefl _ this
theorem Mem.allocO (h : Mem w0 w its) (o : Obj) : Mem w0 (w.alloc o) (.obj w.heap.size o :: its) := by
  refine (h.go (below_alloc w _)).cons ⟨h.size, heap_alloc_new w o⟩ fun x hx => .inr fun e => ?_
  have := (It.lt (h.each x hx) e.symm).2
  exact Nat.lt_irrefl _ this
theorem Mem.call (h : Mem w0 w its) {more : List It} (hc : Mem w w' more) : Mem w0 w' (more ++ its) := by
  refine ⟨Below.next h.below hc.below, fun it hi => ?_, ?_⟩
  · rcases List.mem_append.1 hi with hi | hi
    · exact It.base (hc.each it hi) h.size
    · exact (h.go hc.below).each it hi
  · rw [List.pairwise_append]
    refine ⟨hc.apart, h.apart, fun x hx y hy => ?_⟩
    cases e : x.blk with
    | none => exact .inl rfl
    | some k =>
      refine .inr fun e2 => ?_
      have h1 := (It.lt (hc.each x hx) e).1
      have h2 := (It.lt (h.each y hy) e2.symm).2
      omega
theorem pair_get {α : Type} {R : α → α → Prop} (hR : ∀ x y, R x y → R y x) : ∀ {l : List α}, l.Pairwise R → ∀ {i j : Nat} {x y : α}, i ≠ j → l[i]? = some x → l[j]? = some y → R x y := by
  intro l h
  induction h with
  | nil => intro i j x y _ hi; simp at hi
  | cons h1 _ ih =>
    intro i j x y hne hi hj
    cases i with
    | zero =>
      cases j with
      | zero => exact absurd rfl hne
      | succ j => obtain rfl := Option.some.inj hi; rw [List.getElem?_cons_succ] at hj; exact h1 y (List.mem_of_getElem? hj)
    | succ i =>
      cases j with
      | zero => obtain rfl := Option.some.inj hj; rw [List.getElem?_cons_succ] at hi; exact hR _ _ (h1 x (List.mem_of_getElem? hi))
      | succ j => rw [List.getElem?_cons_succ] at hi hj; exact ih (fun e => hne (by rw [e])) hi hj
theorem Mem.far (h : Mem w0 w its) {i j : Nat} (hij : i ≠ j) {x y : It} (hi : its[i]? = some x) (hj : its[j]? = some y) : x.blk = none ∨ y.blk = none ∨ x.blk ≠ y.blk := by
  have := pair_get (R := fun x y : It => x.blk = none ∨ y.blk = none ∨ x.blk ≠ y.blk) (fun x y h => h.elim (fun h => .inr (.inl h)) fun h => h.elim .inl fun h => .inr (.inr (Ne.symm h))) (h.apart.imp fun h => h.elim .inl fun h => .inr (.inr h)) hij hi hj
  exact this
theorem Mem.turnD (h : Mem w0 w its) (j : Nat) {x it : It} (hj : its[j]? = some x) (hi : it.holds w0.heap.size w') (hbel : Below w0.heap.size w0 w')
    (hk : ∀ k, k < w.heap.size → x.blk ≠ some k → w'.heap[k]? = w.heap[k]?) (hd : ∀ (q : Nat) (y : It), q ≠ j → its[q]? = some y → it.blk = none ∨ y.blk = none ∨ it.blk ≠ y.blk) : Mem w0 w' (its.set j it) := by
  have hother : ∀ (q : Nat) (y : It), q ≠ j → its[q]? = some y → y.holds w0.heap.size w' ∧ (it.blk = none ∨ y.blk = none ∨ it.blk ≠ y.blk) := by
    intro q y hq hy
    have hy2 := h.each y (List.mem_of_getElem? hy)
    have hf := h.far (Ne.symm hq) hj hy
    refine ⟨It.stay hy2 fun k e hlt => hk k hlt fun e2 => ?_, ?_⟩
    · rcases hf with hf | hf | hf
      · rw [hf] at e2; cases e2
      · rw [hf] at e; cases e
      · exact hf (e2.trans e.symm)
    · exact hd q y hq hy
  refine ⟨hbel, fun y hy => ?_, ?_⟩
  · obtain ⟨q, hq, rfl⟩ := List.getElem_of_mem hy
    rw [List.getElem_set]
    split
    · exact hi
    · rename_i hne
      rw [List.length_set] at hq
      exact (hother q _ (Ne.symm hne) (List.getElem?_eq_getElem hq)).1
  · rw [List.pairwise_iff_getElem]
    intro p q hp hq hpq
    rw [List.getElem_set, List.getElem_set]
    rw [List.length_set] at hp hq
    have hold := List.pairwise_iff_getElem.1 h.apart p q hp hq hpq
    split
    · rename_i e1
      split
      · omega
      · rename_i e2
        rcases (hother q _ (Ne.symm e2) (List.getElem?_eq_getElem hq)).2 with h1 | h1 | h1
        · exact .inl h1
        · by_cases h0 : it.blk = none
          · exact .inl h0
          · exact .inr (by rw [h1]; exact h0)
        · exact .inr h1
    · rename_i e1
      split
      · rcases (hother p _ (Ne.symm e1) (List.getElem?_eq_getElem hp)).2 with h1 | h1 | h1
        · by_cases h0 : its[p].blk = none
          · exact .inl h0
          · exact .inr (by rw [h1]; exact h0)
        · exact .inl h1
        · exact .inr (Ne.symm h1)
      · exact hold
theorem Mem.turn (h : Mem w0 w its) (j : Nat) {x it : It} (hj : its[j]? = some x) (hi : it.holds w0.heap.size w') (hbel : Below w0.heap.size w0 w')
    (hk : ∀ k, k < w.heap.size → x.blk ≠ some k → w'.heap[k]? = w.heap[k]?) (hloc : it.blk = x.blk ∨ ∀ k, it.blk = some k → w.heap.size ≤ k) : Mem w0 w' (its.set j it) := by
  refine h.turnD j hj hi hbel hk fun q y hq hy => ?_
  have hy2 := h.each y (List.mem_of_getElem? hy)
  rcases hloc with hl | hl
  · rw [hl]; exact h.far (Ne.symm hq) hj hy
  · cases e : it.blk with
    | none => exact .inl rfl
    | some k =>
      refine .inr (.inr fun e2 => ?_)
      have := hl k e
      have := (It.lt hy2 e2.symm).2
      omega
theorem Mem.setRow (h : Mem w0 w its) (j : Nat) {b : Nat} {t : TypeId} {cs : List Value} (hj : its[j]? = some (.row b t cs)) (cs' : List Value) : Mem w0 (w.setRow b cs'.toArray) (its.set j (.row b t cs')) := by
  have hr := h.each _ (List.mem_of_getElem? hj)
  refine h.turn j hj ⟨hr.1, setRow_heap w b cs.toArray _ t _ hr.2⟩ ?_ ?_ (.inl rfl)
  · exact h.below.trans ⟨rfl, rfl, rfl, by simp [World.setRow], fun k hk => setRow_other w b k _ (by have := hr.1; omega)⟩
  · intro k hk hne
    exact setRow_other w b k _ fun e => hne (by rw [e]; rfl)
def putObj (w : World) (b : Nat) (o : Obj) : World := { w with heap := w.heap.setIfInBounds b o }
theorem Mem.setObj (h : Mem w0 w its) (j : Nat) {b : Nat} {o : Obj} (hj : its[j]? = some (.obj b o)) (o' : Obj) : Mem w0 (putObj w b o') (its.set j (.obj b o')) := by
  have hr := h.each _ (List.mem_of_getElem? hj)
  have hlt := (It.lt hr (k := b) rfl).2
  refine h.turn j hj ⟨hr.1, ?_⟩ ?_ ?_ (.inl rfl)
  · show (w.heap.setIfInBounds b o')[b]? = _
    rw [Array.getElem?_setIfInBounds, if_pos rfl, if_pos hlt]
  · refine h.below.trans ⟨rfl, rfl, rfl, by simp [putObj], fun k hk => ?_⟩
    show (w.heap.setIfInBounds b o')[k]? = _
    rw [Array.getElem?_setIfInBounds, if_neg (by have := hr.1; omega)]
  · intro k hk hne
    show (w.heap.setIfInBounds b o')[k]? = _
    rw [Array.getElem?_setIfInBounds, if_neg (fun e => hne (by rw [← e]; rfl))]
end
def CellsAt (w : World) (a : Addr) (cs : List Value) : Prop := ∀ j v, cs[j]? = some v → w.cell? (a.add j) = some v
theorem RowT.cells {w : World} {b : Nat} {t : TypeId} {cs : List Value} (h : RowT w b t cs) (k m : Nat) : CellsAt w ⟨b, k, none⟩ ((cs.drop k).take m) := by
  intro j v hj
  rw [Addr.add_mid, h.cell]
  rw [List.getElem?_take] at hj
  split at hj
  · rwa [List.getElem?_drop] at hj
  · cases hj
def rowT : TypeDesc → Bool
  | .struct _ | .array _ _ => true
  | _ => false
theorem CellsAt.on {w w' : World} {a : Addr} {cs : List Value} (h : CellsAt w a cs) (hb : Below w.heap.size w w') : CellsAt w' a cs := by
  intro j v hj
  have hc := h j v hj
  have hlt : (a.add j).block < w.heap.size := by
    rcases Nat.lt_or_ge (a.add j).block w.heap.size with h' | h'
    · exact h'
    · unfold World.cell? at hc; rw [Array.getElem?_eq_none h'] at hc; cases hc
  rw [hb.cell hlt, hc]
def loadV (P : Program) (t : TypeId) (cs : List Value) : Option Value := match P.underlying t with
  | none => none
  | some d => match P.info? t with
    | none => none
    | some i => bif rowT d then (bif Nat.beq i.size cs.length then some (.agg cs.toArray) else none) else cs[0]?
theorem run_loadVarE {P : Program} {w : World} {t : TypeId} {a : Addr} {cs : List Value} {u : Value} (hc : CellsAt w a cs) (hl : loadV P t cs = some u) : (loadVar t a).run P w = .ok u w := by
  unfold loadV at hl
  cases hu : P.underlying t with
  | none => rw [hu] at hl; cases hl
  | some d =>
    rw [hu] at hl
    simp only at hl
    cases hi : P.info? t with
    | none => rw [hi] at hl; cases hl
    | some i =>
      rw [hi] at hl
      simp only at hl
      have hag : (isAgg t).run P w = .ok (rowT d) w := by
        cases d <;> simp [isAgg, run_underlying hu, rowT]
      cases hd : rowT d with
      | true =>
        rw [hd] at hl hag
        simp only [cond_true] at hl
        cases hs : Nat.beq i.size cs.length with
        | false => rw [hs] at hl; cases hl
        | true =>
          rw [hs] at hl
          obtain rfl := Option.some.inj hl
          have he : i.size = cs.length := Nat.eq_of_beq_eq_true hs
          simp [loadVar, hag, sizeOf, typeInfo, hi, he, run_loadCells_list (P := P) w a cs hc]
      | false =>
        rw [hd] at hl hag
        have h0 := hc 0 u hl
        have ha : a.add 0 = a := by unfold Addr.add; rw [if_pos rfl]
        rw [ha] at h0
        simp [loadVar, hag, load, Sem.run, h0]
theorem rL {P : Program} {w : World} {ρ : Operand → Value} {o : Oper} {t : TypeId} {x : Operand} {a : Addr} {cs : List Value} {u : Value} (hop : o.op = .load t x) (hx : ρ x = .pointer (some a)) (hc : CellsAt w a cs) (hl : loadV P t cs = some u) : (execOp ρ o).run P w = .ok (.value u) w := by
  have := run_loadVarE hc hl
  simp [execOp, hop, hx, Instr.loadAt, Instr.sureAddr, this]
def storeV (P : Program) (t : TypeId) (k : Nat) (cs : List Value) (v : Value) : Option (List Value) := match P.info? t with
  | none => none
  | some i => bif Nat.beq i.size v.cells.size && Nat.ble (k + i.size) cs.length && v.cells.all (·.oneCell') then some (cs.take k ++ v.cells.toList ++ cs.drop (k + i.size)) else none
theorem run_storeE {P : Program} {w : World} {ρ : Operand → Value} {o : Oper} {t tt : TypeId} {x y : Operand} {b k : Nat} {cs cs' : List Value} {v : Value} (hop : o.op = .store t x y) (hx : ρ x = .pointer (some ⟨b, k, none⟩)) (hy : ρ y = v) (hr : RowT w b tt cs) (hs : storeV P t k cs v = some cs') : (execOp ρ o).run P w = .ok .skip (w.setRow b cs'.toArray) := by
  unfold storeV at hs
  cases hi : P.info? t with
  | none => rw [hi] at hs; cases hs
  | some i =>
    rw [hi] at hs
    simp only at hs
    cases hb : (Nat.beq i.size v.cells.size && Nat.ble (k + i.size) cs.length && v.cells.all (·.oneCell')) with
    | false => rw [hb] at hs; cases hs
    | true =>
      rw [hb] at hs
      obtain rfl := Option.some.inj hs
      simp only [Bool.and_eq_true] at hb
      obtain ⟨⟨h1, h2⟩, h3⟩ := hb
      have e1 := Nat.eq_of_beq_eq_true h1
      have e2 := Nat.le_of_ble_eq_true h2
      have hst := run_storeCells_at (P := P) b k tt v.cells.toList 0 cs.toArray w hr (by simp; omega) (fun u hu => (Array.all_eq_true_iff_forall_mem.1 h3) u (by simpa using hu))
      simp only [Nat.add_zero, Array.length_toList] at hst
      have hne : ¬ v.cells.size ≠ i.size := by simp [e1]
      simp [execOp, hop, hx, hy, Instr.storeAt, Instr.sureAddr, storeVar, sizeOf, typeInfo, hi, e1, hst]
section
variable {P : Program} {ops : Array Oper} {Q : Exit → Act → World → Prop} {a : Act} {n i : Nat} {env : List (Nat × Value)} {l : List Nat} {w0 w w' : World} {its : List It}
theorem sA (hK : Knows a n env) (hM : Mem w0 w its) (d : Nat) (t : TypeId) (cs : List Value) (V : Nat → Value) (hc : chk ops env i n d = true) (hr : (execOp (evE env) (opAt ops i)).run P w = .ok (.value (V w.heap.size)) (w.alloc (.cells cs.toArray t)))
    (h : ∀ b a' w', Knows a' n ((d, V b) :: env) → Mem w0 w' (.row b t cs :: its) → wpOps P ops Q l a' w') : wpOps P ops Q (i :: l) a w :=
  stepV hK d _ hc hr fun a' hK' => h _ a' _ hK' (hM.alloc t cs)
theorem stepObj (hK : Knows a n env) (hM : Mem w0 w its) (d : Nat) (ob : Obj) (V : Nat → Value) (hc : chk ops env i n d = true) (hr : (execOp (evE env) (opAt ops i)).run P w = .ok (.value (V w.heap.size)) (w.alloc ob))
    (h : ∀ b a' w', Knows a' n ((d, V b) :: env) → Mem w0 w' (.obj b ob :: its) → wpOps P ops Q l a' w') : wpOps P ops Q (i :: l) a w :=
  stepV hK d _ hc hr fun a' hK' => h _ a' _ hK' (hM.allocO ob)
theorem stepSetObj (hK : Knows a n env) (hM : Mem w0 w its) (j : Nat) {b : Nat} {ob : Obj} (ob' : Obj) (hc : chk0 ops env i = true) (hj : its[j]? = some (.obj b ob)) (hr : (execOp (evE env) (opAt ops i)).run P w = .ok .skip (putObj w b ob'))
    (h : ∀ w', Mem w0 w' (its.set j (.obj b ob')) → wpOps P ops Q l a w') : wpOps P ops Q (i :: l) a w :=
  stepS hK hc hr (h _ (hM.setObj j hj ob'))
theorem sL (hK : Knows a n env) (d : Nat) {t : TypeId} {x : Operand} {ad : Addr} {cs : List Value} (u : Value) (hc : chk ops env i n d = true) (hop : (opAt ops i).op = .load t x) (hx : evE env x = .pointer (some ad)) (hr : CellsAt w ad cs) (hl : loadV P t cs = some u)
    (h : ∀ a', Knows a' n ((d, u) :: env) → wpOps P ops Q l a' w) : wpOps P ops Q (i :: l) a w :=
  stepV hK d u hc (rL hop hx hr hl) h
theorem sS (hK : Knows a n env) (hM : Mem w0 w its) (j : Nat) {t tt : TypeId} {x y : Operand} {b k : Nat} {cs : List Value} {v : Value} (cs' : List Value) (hc : chk0 ops env i = true) (hop : (opAt ops i).op = .store t x y) (hx : evE env x = .pointer (some ⟨b, k, none⟩)) (hy : evE env y = v) (hj : its[j]? = some (.row b tt cs)) (hs : storeV P t k cs v = some cs')
    (h : ∀ w', Mem w0 w' (its.set j (.row b tt cs')) → wpOps P ops Q l a w') : wpOps P ops Q (i :: l) a w :=
  stepS hK hc (run_storeE hop hx hy (hM.row j hj) hs) (h _ (hM.setRow j hj cs'))
structure Elem (P : Program) (e : TypeId) (z : Value) (size bytes : Nat) : Prop where
  info : ∃ i, P.info? e = some i ∧ i.zero = some z ∧ i.size = size ∧ i.bytes = bytes
  cells : z.cells.size = size
  pos : 0 < size
theorem Mem.append {t ty ety : TypeId} {z : Value} {size bytes : Nat} (hM : Mem w0 w its) (j q : Nat) {m n c b : Nat} {v : Value} {xs news : List Value} (ht : P.underlying t = some (.slice ety)) (he : Elem P ety z size bytes)
    (hj : its[j]? = some (.own ety size v n xs)) (hq : its[q]? = some (.row b ety news)) (hl : news.length = m * size) (h1 : news.all (·.oneCell') = true) (hlim : n + m ≤ 1000000000 ∧ bytes ≤ 100000) :
    ∃ v' w', (Builtin.append_ #[t, t] ty #[v, .slice (some ⟨b, 0, none⟩) m c]).run P w = .ok v' w' ∧ Mem w0 w' (its.set j (.own ety size v' (n + m) (xs ++ news))) := by
  obtain ⟨i, hi, hz, hs, hb⟩ := he.info
  have hown := hM.own j hj
  have hrow := hM.row q hq
  obtain ⟨v', w', hr, ho, hg, _, hat⟩ := run_append_own_at (P := P) w w0.heap.size t ty ety i z size bytes ht hi hz hs hb he.cells he.pos v n xs hown ⟨b, 0, none⟩ m c news hl
    (fun k u hu => by rw [Addr.add_mid, Nat.zero_add, hrow.cell]; exact hu) (fun u hu => List.all_eq_true.1 h1 u hu) (by unfold maxLen; omega)
    (by have h3 : (n + m) * bytes ≤ 1000000000 * 100000 := Nat.mul_le_mul hlim.1 hlim.2; omega) hM.size
  refine ⟨v', w', hr, hM.turn j hj ho (hM.below.grown hg hM.size fun k hk => (hown.lt k hk).1) (fun k hk hne => hg.block k hk fun e => hne e.symm) ?_⟩
  rcases hat with h | h
  · exact .inl h
  · exact .inr fun k hk => by
      have : some k = some w.heap.size := hk.symm.trans h
      rw [Option.some.inj this]; exact Nat.le_refl _
def Gives {τ : Type} (w0 : World) (f : τ → Value) (g : τ → List It) (R : τ → Prop) (e : Ending) (w' : World) : Prop := ∃ x, e = .returned (f x) ∧ Mem w0 w' (g x) ∧ R x
theorem sC (hK : Knows a n env) (hM : Mem w0 w its) (d : Nat) {f : FuncId} (args : Array Value) {τ : Type} {fv : τ → Value} {g : τ → List It} {R : τ → Prop} (hc : chk ops env i n d = true) (he : (execOp (evE env) (opAt ops i)).run P w = .ok (.enter f args) w) (hf : Calls P f args w (Gives w fv g R))
    (h : ∀ x a' w', R x → Knows a' n ((d, fv x) :: env) → Mem w0 w' (g x ++ its) → wpOps P ops Q l a' w') : wpOps P ops Q (i :: l) a w :=
  stepC hK d args hc he (hf.mono (by
    rintro e w' ⟨x, rfl, hm, hR⟩
    exact ⟨_, rfl, fun a' hK' => h x a' w' hR hK' (hM.call hm)⟩))
theorem stepCallIn (hK : Knows a n env) (d : Nat) {f : FuncId} (args : Array Value) {τ : Type} {fv : τ → Value} {g : τ → List It} {R : τ → Prop} (hc : chk ops env i n d = true) (he : (execOp (evE env) (opAt ops i)).run P w = .ok (.enter f args) w) (hf : Calls P f args w (Gives w0 fv g R))
    (h : ∀ x a' w', R x → Knows a' n ((d, fv x) :: env) → Mem w0 w' (g x) → wpOps P ops Q l a' w') : wpOps P ops Q (i :: l) a w :=
  stepC hK d args hc he (hf.mono (by
    rintro e w' ⟨x, rfl, hm, hR⟩
    exact ⟨_, rfl, fun a' hK' => h x a' w' hR hK' hm⟩))
theorem sR (hK : Knows a n env) (hM : Mem w0 w its) (d : Nat) {f : FuncId} (args : Array Value) (v : Value) (hc : chk ops env i n d = true) (he : (execOp (evE env) (opAt ops i)).run P w = .ok (.enter f args) w) (hf : Calls P f args w (Ret w v))
    (h : ∀ a' w', Knows a' n ((d, v) :: env) → Mem w0 w' its → wpOps P ops Q l a' w') : wpOps P ops Q (i :: l) a w :=
  stepC hK d args hc he (hf.mono (by
    rintro e w' ⟨rfl, hb⟩
    exact ⟨_, rfl, fun a' hK' => h a' w' hK' (hM.go hb)⟩))
theorem wLX {τ : Type} {c : Code} (E : τ → List (Nat × Value)) (G : τ → List It) (R : τ → Prop) (μ : τ → Nat) (x0 : τ) (h1 : Knows a n (E x0)) (h2 : Mem w0 w (G x0)) (h3 : R x0)
    (round : ∀ x a w, Knows a n (E x) → Mem w0 w (G x) → R x → c.wp P (Exit.then (fun a' w' => ∃ x', Knows a' n (E x') ∧ Mem w0 w' (G x') ∧ R x' ∧ μ x' < μ x) Q) a w) : (Code.loop c).wp P Q a w := by
  classical
  let I : Act → World → Prop := fun a w => ∃ x, Knows a n (E x) ∧ Mem w0 w (G x) ∧ R x
  let B : Act → World → Nat → Prop := fun a w m => ∃ x, Knows a n (E x) ∧ Mem w0 w (G x) ∧ R x ∧ μ x = m
  have hB : ∀ a w, I a w → ∃ m, B a w m ∧ ∀ q, B a w q → m ≤ q := by
    intro a w hI
    obtain ⟨x, k1, k2, k3⟩ := hI
    have key : ∀ m, B a w m → ∃ m, B a w m ∧ ∀ q, B a w q → m ≤ q := by
      intro m
      induction m using Nat.strongRecOn with
      | _ m ih =>
        intro hm
        by_cases hq : ∃ q, q < m ∧ B a w q
        · obtain ⟨q, hlt, hb⟩ := hq; exact ih q hlt hb
        · exact ⟨m, hm, fun q hb => Nat.le_of_not_lt fun hlt => hq ⟨q, hlt, hb⟩⟩
    exact key (μ x) ⟨x, k1, k2, k3, rfl⟩
  let ν : Act → World → Nat := fun a w => if h : I a w then (hB a w h).choose else 0
  have hν : ∀ a w, I a w → B a w (ν a w) ∧ ∀ q, B a w q → ν a w ≤ q := by
    intro a w h
    show B a w (if h : I a w then _ else _) ∧ ∀ q, B a w q → (if h : I a w then _ else _) ≤ q
    rw [dif_pos h]
    exact (hB a w h).choose_spec
  refine wp_loop I ν ⟨x0, h1, h2, h3⟩ fun a w hI => ?_
  obtain ⟨⟨x, k1, k2, k3, hx⟩, _⟩ := hν a w hI
  intro b k cs
  obtain ⟨e, a', w', h, harr⟩ := round x a w k1 k2 k3 b k cs
  refine ⟨e, a', w', ?_, harr⟩
  cases e with
  | normal =>
    obtain ⟨x', q1, q2, q3, hlt⟩ := h
    have hI' : I a' w' := ⟨x', q1, q2, q3⟩
    refine ⟨hI', ?_⟩
    have := (hν a' w' hI').2 (μ x') ⟨x', q1, q2, q3, rfl⟩
    show ν a' w' < ν a w
    omega
  | _ => exact h
theorem region_go {id : Nat} {lst : List Nat} (hn : List.range ops.size = lst) (h : wpOps P ops Q lst a w) : (Code.region id ops false).wp P Q a w := seq_startL hn h
theorem rdo (hK : Knows a n env) (env' : List (Nat × Value)) (hs : Subs env env') (h : ∀ a', Knows a' n env' → Q .normal a' w) : wpOps P ops Q [] a w := h a (hK.sub hs)
end
theorem start_knows {args : List Value} {n : Nat} {env : List (Nat × Value)} (hn : Nat.ble args.length n = true) (he : Subs (args.zipIdx.map fun p => (p.2, p.1)) env) : Knows { tmps := args.toArray ++ Array.replicate (n - args.toArray.size) undef, defers := [] } n env := by
  refine Knows.sub ⟨?_, rfl, ?_⟩ he
  · have := Nat.le_of_ble_eq_true hn
    simp; omega
  · intro k v hk
    have key : ∀ (l : List Value) (o k : Nat) (v : Value), look k ((l.zipIdx o).map fun p => (p.2, p.1)) = some v → o ≤ k ∧ l[k - o]? = some v := by
      intro l
      induction l with
      | nil => intro o k v h; cases h
      | cons x l ih =>
        intro o k v h
        rw [List.zipIdx_cons, List.map_cons] at h
        unfold look at h
        cases hb : Nat.beq k o with
        | true =>
          rw [hb] at h
          obtain rfl := Nat.eq_of_beq_eq_true hb
          simp at h ⊢; exact h
        | false =>
          rw [hb] at h
          obtain ⟨h1, h2⟩ := ih (o + 1) k v h
          refine ⟨by omega, ?_⟩
          rw [show k - o = (k - (o + 1)) + 1 by omega]
          simpa using h2
    obtain ⟨_, h⟩ := key args 0 k v hk
    have hlt : k < args.length := by
      rcases Nat.lt_or_ge k args.length with h' | h'
      · exact h'
      · rw [List.getElem?_eq_none (by omega)] at h; cases h
    exact ev_tmps (by rw [Array.getElem?_append_left (by simpa using hlt)]; simpa using h)
theorem calls_K {P : Program} {f : FuncId} {fn : Func} {c : Code} {args : List Value} {n : Nat} {w : World} {R : Ending → World → Prop} {env : List (Nat × Value)} (hf : P.funcs[f]? = some fn) (hb : fn.body = some c) (hn : fn.ntmps = n) (hl : Nat.ble args.length n = true) (he : Subs (args.zipIdx.map fun p => (p.2, p.1)) env)
    (h : ∀ a w', Knows a n env → Mem w w' [] → c.wp P (bodyPost P fn R) a w') : Calls P f args.toArray w R :=
  calls_of_wp hf hb (by rw [hn]; exact h _ _ (start_knows hl he) (Mem.start w))
theorem calls_KM {P : Program} {f : FuncId} {fn : Func} {c : Code} {args : List Value} {n : Nat} {w0 w : World} {its : List It} {R : Ending → World → Prop} {env : List (Nat × Value)} (hf : P.funcs[f]? = some fn) (hb : fn.body = some c) (hn : fn.ntmps = n) (hl : Nat.ble args.length n = true) (he : Subs (args.zipIdx.map fun p => (p.2, p.1)) env) (hM : Mem w0 w its)
    (h : ∀ a w', Knows a n env → Mem w0 w' its → c.wp P (bodyPost P fn R) a w') : Calls P f args.toArray w R :=
  calls_of_wp hf hb (by rw [hn]; exact h _ _ (start_knows hl he) hM)
end Go.Proofs.YtiigncmpbkfhmaaGreatDoor
namespace Go.Proofs.YtiigncmpbkfhmaaGreatDoor
open Go Go.RowKit
def Str (l : List UInt8) : Value := .string ⟨l.toArray⟩
section
variable {o : Oper} {ρ : Operand → Value} {w : World}
theorem run_idxS {x y : Operand} {l : List UInt8} {k : Nat} {c : UInt8} (hop : o.op = .index 9 x y) (hx : ρ x = Str l) (hy : ρ y = .int .i64 ((k : Nat) : Int)) (hc : l[k]? = some c) : (execOp ρ o).run Tryz.prog w = .ok (.value (.int .u8 ((c.toNat : Nat) : Int))) w := by
  obtain ⟨hk, he⟩ := List.getElem?_eq_some_iff.1 hc
  have hk' : k < (ByteArray.mk l.toArray).size := by show k < l.toArray.size; simpa using hk
  have e : (ByteArray.mk l.toArray)[k]'hk' = c := by
    show l.toArray[k]'(by simpa using hk) = c
    simpa using he
  simp [execOp, hop, hx, hy, go_sem, Str, hk, e]
theorem run_eqS {x y : Operand} {l m : List UInt8} {t : TypeId} (hop : o.op = .binOp .eql 9 x y t) (hx : ρ x = Str l) (hy : ρ y = Str m) : (execOp ρ o).run Tryz.prog w = .ok (.value (.bool (decide (l = m)))) w := by
  have e : (l == m) = decide (l = m) := by rw [Bool.eq_iff_iff]; simp
  simp [execOp, hop, hx, hy, go_sem, Str, e]
theorem run_minI {x y : Operand} {i j : Int} (hop : o.op = .call { callee := .builtin .min, args := #[x, y], argTypes := #[3, 3] }) (hx : ρ x = .int .i64 i) (hy : ρ y = .int .i64 j) : (execOp ρ o).run Tryz.prog w = .ok (.value (.int .i64 (min i j))) w := by
  have e : (if j < i then j else i) = min i j := by split <;> omega
  simp [execOp, hop, hx, hy, go_sem, e]
theorem run_maxI {x y : Operand} {i j : Int} (hop : o.op = .call { callee := .builtin .max, args := #[x, y], argTypes := #[3, 3] }) (hx : ρ x = .int .i64 i) (hy : ρ y = .int .i64 j) : (execOp ρ o).run Tryz.prog w = .ok (.value (.int .i64 (max i j))) w := by
  have e : (if i < j then j else i) = max i j := by split <;> omega
  simp [execOp, hop, hx, hy, go_sem, e]
end
end Go.Proofs.YtiigncmpbkfhmaaGreatDoor
namespace Go.Proofs.YtiigncmpbkfhmaaGreatDoor
open Go Go.RowKit
theorem oB {r : Result Next} {b c : Bool} {w : World} (h : r = .ok (.value (.bool b)) w) (e : b = c) : r = .ok (.value (.bool c)) w := by rw [h, e]
theorem okVal {r : Result Next} {u v : Value} {w : World} (h : r = .ok (.value u) w) (e : u = v) : r = .ok (.value v) w := by rw [h, e]
theorem ret_eq {P : Program} {f : FuncId} {args : Array Value} {w : World} {v v' : Value} (h : Calls P f args w (Ret w v)) (e : v = v') : Calls P f args w (Ret w v') := e ▸ h
section
variable {P : Program} {o : Oper} {ρ : Operand → Value} {w : World}
theorem run_addN {x y : Operand} {i j : Nat} {t u : TypeId} (hop : o.op = .binOp .add t x y u) (hx : ρ x = .int .i64 (i : Nat)) (hy : ρ y = .int .i64 (j : Nat)) (hi : i + j < 9223372036854775808) : (execOp ρ o).run P w = .ok (.value (.int .i64 ((i + j : Nat) : Int))) w := by
  have e : IntKind.i64.wrap ((i : Int) + (j : Int)) = ((i + j : Nat) : Int) := by rw [IntKind.wrap_i64]; omega
  simp [execOp, hop, hx, hy, go_sem, e]
theorem run_addZ {x y : Operand} {i j : Int} {t u : TypeId} (hop : o.op = .binOp .add t x y u) (hx : ρ x = .int .i64 i) (hy : ρ y = .int .i64 j) (h1 : -9223372036854775808 ≤ i + j) (h2 : i + j < 9223372036854775808) : (execOp ρ o).run P w = .ok (.value (.int .i64 (i + j))) w := by
  have e : IntKind.i64.wrap (i + j) = i + j := by rw [IntKind.wrap_i64]; omega
  simp [execOp, hop, hx, hy, go_sem, e]
theorem run_subZ {x y : Operand} {i j : Int} {t u : TypeId} (hop : o.op = .binOp .sub t x y u) (hx : ρ x = .int .i64 i) (hy : ρ y = .int .i64 j) (h1 : -9223372036854775808 ≤ i - j) (h2 : i - j < 9223372036854775808) : (execOp ρ o).run P w = .ok (.value (.int .i64 (i - j))) w := by
  have e : IntKind.i64.wrap (i - j) = i - j := by rw [IntKind.wrap_i64]; omega
  simp [execOp, hop, hx, hy, go_sem, e]
theorem run_neS {x y : Operand} {l m : List UInt8} {t : TypeId} (hop : o.op = .binOp .neq 9 x y t) (hx : ρ x = Str l) (hy : ρ y = Str m) : (execOp ρ o).run Tryz.prog w = .ok (.value (.bool (!(decide (l = m))))) w := by
  have e : (l == m) = decide (l = m) := by rw [Bool.eq_iff_iff]; simp
  simp [execOp, hop, hx, hy, go_sem, Str, e]
theorem rC {f : FuncId} {x : Operand} {xs : Array Operand} {ts : Array TypeId} {first lb args : Array Value} (he : Enters P f) (hop : o.op = .call { callee := .value x, args := xs, argTypes := ts }) (hx : ρ x = .func (.func f) first lb) (ha : first ++ xs.map ρ ++ lb = args) : (execOp ρ o).run P w = .ok (.enter f args) w := by
  subst ha
  have h := he (first ++ xs.map ρ ++ lb) w
  simp only [execOp, hop, resolve, hx, Deferred.ofValue, invoke]
  simpa using h
end
theorem Knows.getq {a : Act} {n : Nat} {env : List (Nat × Value)} (h : Knows a n env) {k : Nat} {v : Value} (e : look k env = some v) : a.tmps[k]?.getD undef = v := by
  rw [← Array.getD_eq_getD_getElem?]; exact h.get e
section
variable {P : Program} {fn : Func} {R : Ending → World → Prop} {a : Act} {w : World} {n : Nat} {env : List (Nat × Value)}
theorem ret_t (hK : Knows a n env) {k : Tmp} {u : Value} (hf : fn.results = #[.tmp k]) (h0 : look k env = some u) (h : R (.returned u) w) : bodyPost P fn R .ret a w :=
  bodyPost_ret (by simp [results, hf, go_sem, hK.getq h0]) hK.defers h
theorem ret_tt (hK : Knows a n env) {k m : Tmp} {u v : Value} (hf : fn.results = #[.tmp k, .tmp m]) (h0 : look k env = some u) (h1 : look m env = some v) (h : R (.returned (.tuple #[u, v])) w) : bodyPost P fn R .ret a w :=
  bodyPost_ret (by simp [results, hf, go_sem, hK.getq h0, hK.getq h1]) hK.defers h
theorem ret_c (hK : Knows a n env) {k : Tmp} {t : TypeId} {ad : Addr} {cs : List Value} {u : Value} (hf : fn.results = #[.cell k t]) (h0 : look k env = some (.pointer (some ad))) (c0 : CellsAt w ad cs) (l0 : loadV P t cs = some u) (h : R (.returned u) w) : bodyPost P fn R .ret a w :=
  bodyPost_ret (by simp [results, hf, hK.getq h0, asAddr, run_loadVarE c0 l0]) hK.defers h
end
end Go.Proofs.YtiigncmpbkfhmaaGreatDoor
namespace Go.Proofs.YtiigncmpbkfhmaaGreatDoor
open Go Go.RowKit
section
variable {P : Program} {o : Oper} {ρ : Operand → Value} {w : World}
theorem run_checkS' {kt : TypeId} (hkt : P.underlying kt = some .string) (e : Bool) (s : ByteArray) (n : Nat) : (Instr.checkKey e (n + 1) kt (.string s)).run P w = .ok () w := by
  simp [Instr.checkKey, run_underlying hkt]
theorem run_checkS {kt : TypeId} (hkt : P.underlying kt = some .string) (e : Bool) (s : ByteArray) : (Instr.checkKey e 10000 kt (.string s)).run P w = .ok () w := run_checkS' hkt e s 9999
theorem run_findS {kt : TypeId} (hkt : P.underlying kt = some .string) {k : Value} {es : List MapEntry} {r : Option (Nat × Value)} (hf : Instr.findNow .string k es 0 = some r) : (Instr.findKey kt k es).run P w = .ok r w := by
  simp [Instr.findKey, run_underlying hkt, hf]
theorem run_insS {mt kt et : TypeId} {m k v : Operand} {b : Nat} {es : Array MapEntry} {clock : Nat} {s : ByteArray} {u : Value} (hop : o.op = .insert mt m k v) (hm : ρ m = .map (some b)) (hk : ρ k = .string s) (hv : ρ v = u) (hmt : P.underlying mt = some (.map kt et)) (hkt : P.underlying kt = some .string) (hh : w.heap[b]? = some (.map es clock)) (hf : Instr.findNow .string (.string s) es.toList 0 = some none) : (execOp ρ o).run P w = .ok .skip (putObj w b (.map (es.push ⟨.string s, u, clock⟩) (clock + 1))) := by
  simp [execOp, hop, hm, hk, hv, Instr.mapUpdate, run_underlying hmt, getObj, setObj, Sem.run, hh, run_checkS hkt, run_findS hkt hf, putObj]
theorem run_lookS_no {mt kt et : TypeId} {m k : Operand} {b : Nat} {es : Array MapEntry} {clock : Nat} {s : ByteArray} {z : Value} (hop : o.op = .lookup mt m k true) (hm : ρ m = .map (some b)) (hk : ρ k = .string s) (hmt : P.underlying mt = some (.map kt et)) (hkt : P.underlying kt = some .string) (hh : w.heap[b]? = some (.map es clock)) (hz : (P.info? et).bind (·.zero) = some z) (hf : Instr.findNow .string (.string s) es.toList 0 = some none) : (execOp ρ o).run P w = .ok (.value (.tuple #[z, .bool false])) w := by
  obtain ⟨i, hi, hz⟩ := Option.bind_eq_some_iff.1 hz
  simp [execOp, hop, hm, hk, Instr.lookup, run_underlying hmt, getObj, Sem.run, hh, run_checkS hkt, run_findS hkt hf, zeroValue, typeInfo, hi, hz]
theorem run_lookS_yes {mt kt et : TypeId} {m k : Operand} {b j : Nat} {es : Array MapEntry} {clock : Nat} {s : ByteArray} {v : Value} (hop : o.op = .lookup mt m k true) (hm : ρ m = .map (some b)) (hk : ρ k = .string s) (hmt : P.underlying mt = some (.map kt et)) (hkt : P.underlying kt = some .string) (hh : w.heap[b]? = some (.map es clock)) (hf : Instr.findNow .string (.string s) es.toList 0 = some (some (j, v))) : (execOp ρ o).run P w = .ok (.value (.tuple #[v, .bool true])) w := by
  simp [execOp, hop, hm, hk, Instr.lookup, run_underlying hmt, getObj, Sem.run, hh, run_checkS hkt, run_findS hkt hf]
end
def setEs : Nat → List (List UInt8) → List MapEntry
  | _, [] => []
  | i, k :: ks => ⟨Str k, .agg #[], i⟩ :: setEs (i + 1) ks
theorem same_str (l k : List UInt8) : Instr.sameNow .string (Str l) (Str k) = some (l == k) := by
  show some ((l.toArray : Array UInt8) == k.toArray) = _
  simp
theorem set_no : ∀ (ks : List (List UInt8)) (l : List UInt8) (i : Nat), ks.contains l = false → Instr.findNow .string (Str l) (setEs i ks) i = some none := by
  intro ks
  induction ks with
  | nil => intro l i _; rfl
  | cons k ks ih =>
    intro l i h
    rw [List.contains_cons, Bool.or_eq_false_iff] at h
    unfold setEs Instr.findNow
    simp only [same_str, h.1]
    exact ih l (i + 1) h.2
theorem set_yes : ∀ (ks : List (List UInt8)) (l : List UInt8) (i : Nat), ks.contains l = true → ∃ j, Instr.findNow .string (Str l) (setEs i ks) i = some (some (j, .agg #[])) := by
  intro ks
  induction ks with
  | nil => intro l i h; cases h
  | cons k ks ih =>
    intro l i h
    unfold setEs Instr.findNow
    simp only [same_str]
    cases hk : (l == k) with
    | true => exact ⟨i, rfl⟩
    | false =>
      rw [List.contains_cons, hk, Bool.false_or] at h
      exact ih l (i + 1) h
end Go.Proofs.YtiigncmpbkfhmaaGreatDoor
namespace Go.Proofs.YtiigncmpbkfhmaaGreatDoor
open Go Go.RowKit
abbrev GBw (w0 : World) : World → Prop := fun w => Below w0.heap.size w0 w
section
variable {P : Program} {ops : Array Oper} {Q : Exit → Act → World → Prop} {vs : List (Option Value)} {a0 : Act} {w0 : World} {L : Nat → Bool} {i : Nat} {o : Oper} {a : Act} {w : World}
end
end Go.Proofs.YtiigncmpbkfhmaaGreatDoor
namespace Go.Proofs.YtiigncmpbkfhmaaGreatDoor
open Go Go.RowKit
def Calm (F : World → Prop) : Prop := ∀ w w', Below w.heap.size w w' → F w → F w'
def GF (s : Nat) (F : World → Prop) (X : Bool → World → Prop) (L : Nat → Bool) (w : World) : Prop := F w ∧ X (L s) w
section
variable {P : Program} {ops : Array Oper} {Q : Exit → Act → World → Prop} {vs : List (Option Value)} {a0 : Act} {F : World → Prop} {X : Bool → World → Prop} {L : Nat → Bool} {i s : Nat} {o : Oper} {a : Act} {w : World}
end
def setCells (w : World) (b k : Nat) : List Value → World
  | [] => w
  | v :: vs => setCells (w.setCell ⟨b, k, none⟩ v) b (k + 1) vs
theorem RowT.setCells {w : World} {g b : Nat} {t : TypeId} {cs : List Value} (h : RowT w g t cs) (hne : g ≠ b) : ∀ (vs : List Value) (k : Nat), RowT (Proofs.YtiigncmpbkfhmaaGreatDoor.setCells w b k vs) g t cs := by
  intro vs
  induction vs generalizing w with
  | nil => exact fun _ => h
  | cons v vs ih => exact fun k => ih (h.far (p := ⟨b, k, none⟩) hne v) (k + 1)
end Go.Proofs.YtiigncmpbkfhmaaGreatDoor
namespace Go.Proofs.YtiigncmpbkfhmaaGreatDoor
open Go Go.RowKit
def keyFree (ops : Array Oper) (k : Nat) : Bool := (List.range ops.size).all fun j => slotOf ops j != some k
def envAt (ops : Array Oper) (vs : List (Option Value)) (env : List (Nat × Value)) (o : Oper) : List (Nat × Value) :=
  (o.after.toList.filterMap fun e => match slotOf ops e.on, vs.getD e.on none with
    | some d, some v => some (d, v)
    | _, _ => none) ++ env.filter fun p => keyFree ops p.1
theorem look_append {k : Nat} : ∀ (A B : List (Nat × Value)), look k (A ++ B) = match look k A with | some v => some v | none => look k B := by
  intro A
  induction A with
  | nil => intro B; rfl
  | cons p A ih =>
    intro B
    show (bif Nat.beq k p.1 then some p.2 else look k (A ++ B)) = match (bif Nat.beq k p.1 then some p.2 else look k A) with | some v => some v | none => look k B
    cases Nat.beq k p.1 with
    | true => rfl
    | false => exact ih B
theorem look_mem {k : Nat} {v : Value} : ∀ {A : List (Nat × Value)}, look k A = some v → (k, v) ∈ A := by
  intro A
  induction A with
  | nil => intro h; cases h
  | cons p A ih =>
    intro h
    unfold look at h
    cases hb : Nat.beq k p.1 with
    | true =>
      rw [hb] at h
      obtain rfl := Nat.eq_of_beq_eq_true hb
      obtain rfl := Option.some.inj h
      exact List.mem_cons_self
    | false => rw [hb] at h; exact List.mem_cons_of_mem _ (ih h)
theorem look_filter {k : Nat} {v : Value} {q : Nat → Bool} : ∀ {A : List (Nat × Value)}, look k (A.filter fun p => q p.1) = some v → q k = true ∧ look k A = some v := by
  intro A
  induction A with
  | nil => intro h; cases h
  | cons p A ih =>
    intro h
    rw [List.filter_cons] at h
    cases hb : Nat.beq k p.1 with
    | true =>
      have e := Nat.eq_of_beq_eq_true hb
      split at h
      · rename_i hq
        unfold look at h; rw [hb] at h
        refine ⟨by rw [e]; exact hq, ?_⟩
        unfold look; rw [hb]; exact h
      · rename_i hq
        have := (ih h).1
        rw [e] at this
        exact absurd this hq
    | false =>
      have h2 : look k (p :: A) = look k A := by
        show (bif Nat.beq k p.1 then some p.2 else look k A) = _
        rw [hb]; rfl
      rw [h2]
      split at h
      · unfold look at h; rw [hb] at h; exact ih h
      · exact ih h
section
variable {P : Program} {ops : Array Oper} {Q : Exit → Act → World → Prop} {vs : List (Option Value)} {G : World → Prop} {a0 a : Act} {L : Nat → Bool} {i n : Nat} {o : Oper} {w w0 : World} {env : List (Nat × Value)}
theorem keyFree_of {k : Nat} (h : keyFree ops k = true) (j : Nat) : slotOf ops j ≠ some k := by
  intro e
  rcases Nat.lt_or_ge j ops.size with hj | hj
  · have := List.all_eq_true.1 h j (by simpa using hj)
    rw [e] at this; simp at this
  · unfold slotOf at e; rw [Array.getElem?_eq_none hj] at e; cases e
theorem St.slotV {j : Nat} {d : Tmp} {v : Value} (st : St ops (TV vs) G a0 L a w) (hl : L j = true) (hs : slotOf ops j = some d) (hv : vs.getD j none = some v) : a.eval (.tmp d) = v := st.argV hl hs hv
theorem St.free {k : Nat} {v : Value} (hK : Knows a0 n env) (st : St ops (TV vs) G a0 L a w) (hk : keyFree ops k = true) (hv : look k env = some v) : a.eval (.tmp k) = v := by
  rw [← hK.val k v hv]
  show a.tmps.getD k undef = a0.tmps.getD k undef
  rw [Array.getD_eq_getD_getElem?, Array.getD_eq_getD_getElem?, st.outer k (keyFree_of hk)]
theorem St.knows (hK : Knows a0 n env) (st : St ops (TV vs) G a0 L a w) (haft : ∀ e ∈ o.after, L e.on = true) : Knows a n (envAt ops vs env o) := by
  refine ⟨st.size.trans hK.size, st.defers.trans hK.defers, fun k v h => ?_⟩
  unfold envAt at h
  rw [look_append] at h
  split at h
  · rename_i u hu
    obtain rfl := Option.some.inj h
    have hm := look_mem hu
    rw [List.mem_filterMap] at hm
    obtain ⟨e, he, hx⟩ := hm
    cases hs : slotOf ops e.on with
    | none => rw [hs] at hx; cases hx
    | some d =>
      cases hv : vs.getD e.on none with
      | none => rw [hs, hv] at hx; cases hx
      | some u' =>
        rw [hs, hv] at hx
        simp only [Option.some.injEq, Prod.mk.injEq] at hx
        obtain ⟨rfl, rfl⟩ := hx
        exact st.slotV (haft e (by simpa using he)) hs hv
  · obtain ⟨h1, h2⟩ := look_filter h
    exact st.free hK h1 h2
def chkD (ops : Array Oper) (vs : List (Option Value)) (env : List (Nat × Value)) (i : Nat) : Bool := match ops[i]? with
  | none => false
  | some o => (match guardE ops (envAt ops vs env o) o with | some b => b | none => false) && covE (envAt ops vs env o) o
def chkDN (ops : Array Oper) (vs : List (Option Value)) (env : List (Nat × Value)) (i : Nat) : Bool := match ops[i]? with
  | none => false
  | some o => match guardE ops (envAt ops vs env o) o with | some b => !b | none => false
inductive Pay (P : Program) (ops : Array Oper) (vs : List (Option Value)) (env : List (Nat × Value)) (F : World → Prop) (i : Nat) : Prop
  | val (v : Value) (hv : vs.getD i none = some v) (hc : chkD ops vs env i = true) (hr : ∀ w, F w → (execOp (evE (envAt ops vs env (opAt ops i))) (opAt ops i)).run P w = .ok (.value v) w)
  | call (f : FuncId) (args : Array Value) (v : Value) (hv : vs.getD i none = some v) (hc : chkD ops vs env i = true) (he : ∀ w, (execOp (evE (envAt ops vs env (opAt ops i))) (opAt ops i)).run P w = .ok (.enter f args) w) (hcall : ∀ w, F w → Calls P f args w (Ret w v))
  | skip (hv : vs.getD i none = some undef) (hc : chkDN ops vs env i = true)
theorem Pay.owes {F : World → Prop} (hK : Knows a0 n env) (hF : Calm F) (hp : Pay P ops vs env F i) (ho : ops[i]? = some o) (haft : ∀ e ∈ o.after, L e.on = true) (st : St ops (TV vs) F a0 L a w) : Owes P ops Q (TV vs) F L i o a w := by
  have hk := st.knows hK haft
  have h0 : opAt ops i = o := by unfold opAt; rw [ho]; rfl
  have parts : chkD ops vs env i = true → guardE ops (envAt ops vs env o) o = some true ∧ covE (envAt ops vs env o) o = true := by
    intro h
    unfold chkD at h
    rw [ho] at h
    simp only [Bool.and_eq_true] at h
    refine ⟨?_, h.2⟩
    cases hg : guardE ops (envAt ops vs env o) o with
    | none => rw [hg] at h; cases h.1
    | some b => rw [hg] at h; exact congrArg some h.1
  cases hp with
  | val v hv hc hr =>
    obtain ⟨h1, h2⟩ := parts hc
    have := hr w st.g
    rw [h0] at this
    exact Owes.pure (wanted_of hk h1) (by rw [hk.exec h2]; exact this) (TV.self hv) st.g
  | call f args v hv hc he hcall =>
    obtain ⟨h1, h2⟩ := parts hc
    have := he w
    rw [h0] at this
    refine Owes.call (wanted_of hk h1) (by rw [hk.exec h2]; exact this) ((hcall w st.g).mono ?_)
    rintro e w' ⟨rfl, hb⟩
    exact ⟨v, rfl, TV.self hv, hF w w' hb st.g, fun _ _ _ h => h⟩
  | skip hv hc =>
    unfold chkDN at hc
    rw [ho] at hc
    simp only at hc
    have hg : guardE ops (envAt ops vs env o) o = some false := by
      cases hg : guardE ops (envAt ops vs env o) o with
      | none => rw [hg] at hc; cases hc
      | some b => rw [hg] at hc; cases b <;> simp_all
    exact Owes.skipped (wanted_of hk hg) (TV.self hv) st.g
def lookR (ops : Array Oper) (vs : List (Option Value)) (env : List (Nat × Value)) (k : Nat) : Option Value := match (List.range ops.size).find? fun j => match slotOf ops j with | some d => Nat.beq d k | none => false with
  | some j => vs.getD j none
  | none => look k env
def dchk (ops : Array Oper) (vs : List (Option Value)) (n m : Nat) : Bool := wfR ops n && bindsAll ops && okV ops vs && Nat.beq vs.length ops.size && Nat.beq ops.size m
theorem rAn {id : Nat} {F : World → Prop} (hK : Knows a n env) (vs : List (Option Value)) (m : Nat) (hF : Calm F) (h0 : F w) (hm : P.follows .mixedOrders = true) (hd : dchk ops vs n m = true) (pays : AllS m fun i => Pay P ops vs env F i) (env' : List (Nat × Value)) (hs : (env'.map fun p => lookR ops vs env p.1) = env'.map fun p => some p.2)
    (h : ∀ a' w', Knows a' n env' → F w' → Q .normal a' w') : (Code.region id ops true).wp P Q a w := by
  unfold dchk at hd
  simp only [Bool.and_eq_true] at hd
  obtain ⟨⟨⟨⟨h1, h2⟩, h3⟩, h4⟩, h5⟩ := hd
  have h4' := Nat.eq_of_beq_eq_true h4
  have h5' := Nat.eq_of_beq_eq_true h5
  refine region_steps (G := F) hm (by rw [hK.size]; exact h1) h2 (tv_deps h3 h4') (hF w w.drew (Below.refl _ _).drew h0) h5' ?_ ?_
  · have key : ∀ (m : Nat) (p q : Nat → Prop), (∀ i, p i → q i) → AllS m p → AllS m q := by
      intro m
      induction m with
      | zero => intro p q _ _; trivial
      | succ m ih => intro p q hpq hp; exact ⟨ih p q hpq hp.1, hpq m hp.2⟩
    exact key m _ _ (fun i hp o a' w' L ho _ haft st => Pay.owes hK hF hp ho haft st) pays
  · intro L a' w' hL st
    refine h a' w' ⟨st.size.trans hK.size, st.defers.trans hK.defers, fun k v hk => ?_⟩ st.g
    have hmem := look_mem hk
    have hl : lookR ops vs env k = some v := by
      obtain ⟨j, hj, hje⟩ := List.getElem_of_mem hmem
      have := congrArg (fun l => l[j]?) hs
      simp only [List.getElem?_map, List.getElem?_eq_getElem hj, Option.map_some, hje] at this
      exact Option.some.inj this
    unfold lookR at hl
    split at hl
    · rename_i j hj
      have h1 := List.find?_some hj
      have h2 := List.mem_of_find?_eq_some hj
      have hlt : j < ops.size := by simpa using h2
      cases hs2 : slotOf ops j with
      | none => rw [hs2] at h1; cases h1
      | some d =>
        rw [hs2] at h1
        have : d = k := Nat.eq_of_beq_eq_true h1
        subst this
        exact st.slotV (hL j (by omega)) hs2 hl
    · rename_i hj
      refine st.free hK ?_ hl
      unfold keyFree
      rw [List.all_eq_true]
      intro j hj2
      rw [List.find?_eq_none] at hj
      have := hj j hj2
      cases hs2 : slotOf ops j with
      | none => rfl
      | some d =>
        rw [hs2] at this
        have hne : d ≠ k := by
          rintro rfl
          exact this (Nat.beq_refl d)
        simpa using hne
end
end Go.Proofs.YtiigncmpbkfhmaaGreatDoor
namespace Go.Proofs.YtiigncmpbkfhmaaGreatDoor
open Go Go.RowKit
def OwesI (P : Program) (ops : Array Oper) (Q : Exit → Act → World → Prop) (Inv : (Nat → Bool) → Act → World → Prop) (L : Nat → Bool) (i : Nat) (o : Oper) (a : Act) (w : World) : Prop :=
  ∀ K : Act → World → Prop, (∀ v w', Inv (fun j => decide (j = i) || L j) (a.put o.dst v) w' → K (a.put o.dst v) w') →
    if Region.wanted o (yielded ops a.tmps) = true then o.wp P a w K Q else K (a.put o.dst undef) w
section
variable {P : Program} {ops : Array Oper} {Q : Exit → Act → World → Prop} {Inv : (Nat → Bool) → Act → World → Prop} {a0 : Act}
theorem wpAny_invI {n : Nat} (hwf : wfR ops n = true)
    (hnb : ∀ (i : Nat) (o : Oper), ops[i]? = some o → ∀ e ∈ o.after, Region.binds .any e = true)
    (step : ∀ (i : Nat) (o : Oper) (a : Act) (w : World) (L : Nat → Bool), ops[i]? = some o → L i = false → (∀ e ∈ o.after, L e.on = true) → Inv L a w → OwesI P ops Q Inv L i o a w)
    (fin : ∀ L a w, (∀ i, i < ops.size → L i = true) → Inv L a w → Q .normal a w) :
    ∀ (fuel : Nat) (listed : Array Bool) (a : Act) (w : World), listed.size = ops.size → leftN listed ≤ fuel → Inv (fun i => listed.getD i false) a w → wpAny P .any ops Q fuel listed a w := by
  intro fuel
  induction fuel with
  | zero =>
    intro listed a w hs hl st
    have hall : ∀ i, i < ops.size → listed.getD i false = true := fun i hi => left_zero (by omega) (by omega)
    refine ⟨?_, fin _ a w hall st⟩
    unfold Region.ready
    rw [List.filter_eq_nil_iff]
    intro i hi
    have hi' : i < ops.size := by simpa using hi
    have h1 := hall i hi'
    have hlt : i < listed.size := by omega
    have : listed.getD i true = true := by simp [hlt] at h1 ⊢; exact h1
    rw [this]; simp
  | succ fuel ih =>
    intro listed a w hs hl st
    refine ⟨fun h => fin _ a w (ready_nil hwf hs h) st, fun i hi => ?_⟩
    unfold Region.ready at hi
    rw [List.mem_filter] at hi
    have hi' : i < ops.size := by simpa using hi.1
    have ho : ops[i]? = some ops[i] := Array.getElem?_eq_getElem hi'
    have hlt : i < listed.size := by omega
    rw [ho] at hi
    simp only [Option.map_some, Option.getD_some, Bool.and_eq_true, Bool.not_eq_true'] at hi
    have hf : listed.getD i false = false := by
      have := hi.2.1
      simp [hlt] at this ⊢; exact this
    have haft : ∀ e ∈ (ops[i]).after, listed.getD e.on false = true := fun e he => by
      have := (Array.all_eq_true'.1 hi.2.2) e he
      rw [hnb i _ ho e he] at this
      simpa using this
    have key := step i _ a w (fun i => listed.getD i false) ho hf haft st (wpAny P .any ops Q fuel (listed.setIfInBounds i true)) (fun v w' h1 => by
      refine ih _ _ _ (by simp [hs]) (by have := leftN_set hlt hf; omega) ?_
      rw [show (fun j => (listed.setIfInBounds i true).getD j false) = fun j => decide (j = i) || listed.getD j false from funext fun j => setB_get hlt]
      exact h1)
    unfold wpOp
    rw [ho]
    show if Region.wanted ops[i] (yielded ops a.tmps) = true then _ else _
    split
    · rename_i hw; rw [if_pos hw] at key; exact .inl key
    · rename_i hw; rw [if_neg hw] at key; exact key
theorem region_inv_any {n : Nat} {w0 : World} (hwf : wfR ops n = true) (hb : bindsAll ops = true) (h0 : Inv (fun _ => false) a0 w0.drew)
    (step : ∀ (i : Nat) (o : Oper) (a : Act) (w : World) (L : Nat → Bool), ops[i]? = some o → L i = false → (∀ e ∈ o.after, L e.on = true) → Inv L a w → OwesI P ops Q Inv L i o a w)
    (fin : ∀ L a w, (∀ i, i < ops.size → L i = true) → Inv L a w → Q .normal a w) : wpAny P .any ops Q ops.size (Array.replicate ops.size false) a0 w0.drew := by
  have hb' : ∀ (i : Nat) (o : Oper), ops[i]? = some o → ∀ e ∈ o.after, Region.binds .any e = true := fun i o ho e he => by
    have h1 := (Array.all_eq_true'.1 hb) o (Array.mem_of_getElem? ho)
    exact (Array.all_eq_true'.1 h1) e he
  refine wpAny_invI hwf hb' step fin ops.size _ a0 _ (by simp) ?_ ?_
  · unfold leftN
    exact Nat.le_trans (List.length_filter_le _ _) (by simp)
  · have hz : (fun i => (Array.replicate ops.size false).getD i false) = fun _ => false := funext fun i => by
      rw [Array.getD_eq_getD_getElem?]
      cases h : (Array.replicate ops.size false)[i]? with
      | none => rfl
      | some b =>
        obtain ⟨h1, h2⟩ := Array.getElem?_eq_some_iff.1 h
        simpa using h2.symm
    rw [hz]; exact h0
def strip1 (o : Oper) : Oper := { o with after := (o.after.toList.filter (Region.binds .any)).toArray }
def stripR (ops : Array Oper) : Array Oper := (ops.toList.map strip1).toArray
theorem strip_get (ops : Array Oper) (i : Nat) : (stripR ops)[i]? = (ops[i]?).map strip1 := by
  unfold stripR
  rw [List.getElem?_toArray, List.getElem?_map, Array.getElem?_toList]
theorem strip_size (ops : Array Oper) : (stripR ops).size = ops.size := by unfold stripR; simp
theorem strip_ready (ops : Array Oper) (listed : Array Bool) : Region.ready .any (stripR ops) listed = Region.ready .any ops listed := by
  unfold Region.ready
  rw [strip_size]
  congr 1
  funext i
  rw [strip_get]
  cases ops[i]? with
  | none => rfl
  | some o =>
    simp only [Option.map_some, Option.getD_some]
    congr 1
    unfold strip1
    rw [Bool.eq_iff_iff, Array.all_eq_true', Array.all_eq_true']
    constructor
    · intro h e he
      cases hb : Region.binds .any e with
      | false => rfl
      | true =>
        have := h e (by simp [hb]; exact he)
        rw [hb] at this; exact this
    · intro h e he
      exact h e (by simp at he; exact he.1)
theorem strip_yielded (ops : Array Oper) (tm : Array Value) : yielded (stripR ops) tm = yielded ops tm := by
  funext j
  unfold yielded
  rw [strip_get]
  cases ops[j]? <;> rfl
theorem strip_wpOp (ops : Array Oper) (i : Nat) (K : Act → World → Prop) (a : Act) (w : World) : wpOp P (stripR ops) Q i K a w = wpOp P ops Q i K a w := by
  unfold wpOp
  rw [strip_get, strip_yielded]
  cases ops[i]? <;> rfl
theorem strip_wpAny (ops : Array Oper) : ∀ (fuel : Nat) (listed : Array Bool), wpAny P .any (stripR ops) Q fuel listed = wpAny P .any ops Q fuel listed := by
  intro fuel
  induction fuel with
  | zero => intro listed; funext a w; unfold wpAny; rw [strip_ready]
  | succ fuel ih =>
    intro listed
    funext a w
    unfold wpAny
    rw [strip_ready]
    simp only [strip_wpOp, ih]
end
inductive Kd where
  | val (v : Value)
  | skip
  | lay (t : TypeId) (cs : List Value)
  | put (j : Nat) (cs : List Value)
def kdV (β : Nat → Nat) (i : Nat) : Kd → Option Value
  | .val v => some v
  | .skip => some undef
  | .lay _ _ => some (.pointer (some ⟨β i, 0, none⟩))
  | .put _ _ => none
def vsK (ks : List Kd) (β : Nat → Nat) : List (Option Value) := ks.zipIdx.map fun p => kdV β p.2 p.1
def cellsK (ks : List Kd) (L : Nat → Bool) (i : Nat) (cs : List Value) : List Value :=
  match (ks.zipIdx.find? fun p => match p.1 with | .put j _ => Nat.beq j i && L p.2 | _ => false) with
  | some (.put _ cs', _) => cs'
  | _ => cs
def itK (ks : List Kd) (β : Nat → Nat) (L : Nat → Bool) (p : Kd × Nat) : Option It := match p.1 with
  | .lay t cs => if L p.2 = true then some (.row (β p.2) t (cellsK ks L p.2 cs)) else none
  | _ => none
def itsK (ks : List Kd) (β : Nat → Nat) (L : Nat → Bool) : List It := ks.zipIdx.filterMap (itK ks β L)
theorem Mem.perm {w0 w : World} {its its' : List It} (h : Mem w0 w its) (hp : its.Perm its') : Mem w0 w its' := by
  refine ⟨h.below, fun it hi => h.each it (hp.mem_iff.2 hi), ?_⟩
  have h2 : its.Pairwise fun x y => x.blk = none ∨ y.blk = none ∨ x.blk ≠ y.blk := h.apart.imp fun h => h.elim .inl fun h => .inr (.inr h)
  have h3 := hp.pairwise h2 (fun {x y} h => h.elim (fun h => .inr (.inl h)) fun h => h.elim .inl fun h => .inr (.inr (Ne.symm h)))
  refine h3.imp fun {x y} h => ?_
  rcases h with h | h | h
  · exact .inl h
  · cases hx : x.blk with
    | none => exact .inl rfl
    | some k => exact .inr (by rw [h]; simp)
  · exact .inr h
theorem fm_congr {α β : Type} {f g : α → Option β} : ∀ {l : List α}, (∀ x ∈ l, f x = g x) → l.filterMap f = l.filterMap g := by
  intro l
  induction l with
  | nil => intro _; rfl
  | cons a l ih =>
    intro h
    have h1 := h a List.mem_cons_self
    have h2 := ih fun x hx => h x (List.mem_cons_of_mem _ hx)
    cases ha : f a with
    | none => rw [List.filterMap_cons_none ha, List.filterMap_cons_none (by rw [← h1]; exact ha), h2]
    | some c => rw [List.filterMap_cons_some ha, List.filterMap_cons_some (by rw [← h1]; exact ha), h2]
theorem filterMap_one {α β : Type} {f g : α → Option β} {b : β} : ∀ {l : List α} {i : Nat} {x : α}, l[i]? = some x → f x = none → g x = some b → (∀ (j : Nat) (y : α), j ≠ i → l[j]? = some y → f y = g y) → (b :: l.filterMap f).Perm (l.filterMap g) := by
  intro l
  induction l with
  | nil => intro i x h; simp at h
  | cons a l ih =>
    intro i x h hf hg he
    cases i with
    | zero =>
      obtain rfl := Option.some.inj h
      rw [List.filterMap_cons_none hf, List.filterMap_cons_some hg]
      have : l.filterMap f = l.filterMap g := by
        apply fm_congr
        intro y hy
        obtain ⟨j, hj, rfl⟩ := List.getElem_of_mem hy
        exact he (j + 1) _ (by omega) (by rw [List.getElem?_cons_succ, List.getElem?_eq_getElem hj])
      rw [this]
    | succ i =>
      have h1 := he 0 a (by omega) rfl
      have hrec := ih (i := i) (by simpa using h) hf hg (fun j y hj hy => he (j + 1) y (by omega) (by simpa using hy))
      cases ha : f a with
      | none => rw [List.filterMap_cons_none ha, List.filterMap_cons_none (by rw [← h1]; exact ha)]; exact hrec
      | some c =>
        rw [List.filterMap_cons_some ha, List.filterMap_cons_some (by rw [← h1]; exact ha)]
        exact (List.Perm.swap c b _).trans (hrec.cons c)
theorem filterMap_turn {α β : Type} {f g : α → Option β} {b c : β} : ∀ {l : List α} {i : Nat} {x : α}, l[i]? = some x → f x = some b → g x = some c → (∀ (j : Nat) (y : α), j ≠ i → l[j]? = some y → f y = g y) → ∃ q, (l.filterMap f)[q]? = some b ∧ l.filterMap g = (l.filterMap f).set q c := by
  intro l
  induction l with
  | nil => intro i x h; simp at h
  | cons a l ih =>
    intro i x h hf hg he
    cases i with
    | zero =>
      obtain rfl := Option.some.inj h
      have : l.filterMap f = l.filterMap g := by
        apply fm_congr
        intro y hy
        obtain ⟨j, hj, rfl⟩ := List.getElem_of_mem hy
        exact he (j + 1) _ (by omega) (by rw [List.getElem?_cons_succ, List.getElem?_eq_getElem hj])
      refine ⟨0, by rw [List.filterMap_cons_some hf]; rfl, ?_⟩
      rw [List.filterMap_cons_some hf, List.filterMap_cons_some hg, this]; rfl
    | succ i =>
      have h1 := he 0 a (by omega) rfl
      obtain ⟨q, h2, h3⟩ := ih (i := i) (by simpa using h) hf hg (fun j y hj hy => he (j + 1) y (by omega) (by simpa using hy))
      cases ha : f a with
      | none => rw [List.filterMap_cons_none ha, List.filterMap_cons_none (by rw [← h1]; exact ha)]; exact ⟨q, h2, h3⟩
      | some d =>
        rw [List.filterMap_cons_some ha, List.filterMap_cons_some (by rw [← h1]; exact ha)]
        exact ⟨q + 1, by simpa using h2, by rw [h3]; rfl⟩
def keyYet (ops : Array Oper) (i k : Nat) : Bool := (List.range ops.size).all fun j => slotOf ops j != some k || (match ops[j]? with
  | some o => o.after.any fun e => Nat.beq e.on i
  | none => false)
def envM (ops : Array Oper) (vs : List (Option Value)) (env : List (Nat × Value)) (i : Nat) (o : Oper) : List (Nat × Value) :=
  (o.after.toList.filterMap fun e => match slotOf ops e.on, vs.getD e.on none with
    | some d, some v => some (d, v)
    | _, _ => none) ++ env.filter fun p => keyYet ops i p.1
def chkM (ops : Array Oper) (vs : List (Option Value)) (env : List (Nat × Value)) (i : Nat) : Bool := match ops[i]? with
  | none => false
  | some o => (match guardE ops (envM ops vs env i o) o with | some b => b | none => false) && covE (envM ops vs env i o) o
def chkMN (ops : Array Oper) (vs : List (Option Value)) (env : List (Nat × Value)) (i : Nat) : Bool := match ops[i]? with
  | none => false
  | some o => match guardE ops (envM ops vs env i o) o with | some b => !b | none => false
inductive PayM (P : Program) (ops : Array Oper) (ks : List Kd) (env : List (Nat × Value)) (F : World → Prop) (i : Nat) : Prop
  | val (v : Value) (hk : ks[i]? = some (.val v)) (hc : ∀ β, chkM ops (vsK ks β) env i = true) (hr : ∀ β w, F w → (execOp (evE (envM ops (vsK ks β) env i (opAt ops i))) (opAt ops i)).run P w = .ok (.value v) w)
  | call (f : FuncId) (args : Array Value) (v : Value) (hk : ks[i]? = some (.val v)) (hc : ∀ β, chkM ops (vsK ks β) env i = true) (he : ∀ β w, (execOp (evE (envM ops (vsK ks β) env i (opAt ops i))) (opAt ops i)).run P w = .ok (.enter f args) w) (hcall : ∀ w, F w → Calls P f args w (Ret w v))
  | skip (hk : ks[i]? = some .skip) (hc : ∀ β, chkMN ops (vsK ks β) env i = true)
  | lay (t : TypeId) (cs : List Value) (hk : ks[i]? = some (.lay t cs)) (hc : ∀ β, chkM ops (vsK ks β) env i = true) (hr : ∀ β w, (execOp (evE (envM ops (vsK ks β) env i (opAt ops i))) (opAt ops i)).run P w = .ok (.value (.pointer (some ⟨w.heap.size, 0, none⟩))) (w.alloc (.cells cs.toArray t)))
  | put (j : Nat) (tt : TypeId) (cs cs' : List Value) (t : TypeId) (x y : Operand) (v : Value) (hk : ks[i]? = some (.put j cs')) (hj : ks[j]? = some (.lay tt cs)) (hc : ∀ β, chkM ops (vsK ks β) env i = true)
      (hop : (opAt ops i).op = .store t x y) (hx : ∀ β, evE (envM ops (vsK ks β) env i (opAt ops i)) x = .pointer (some ⟨β j, 0, none⟩)) (hy : ∀ β, evE (envM ops (vsK ks β) env i (opAt ops i)) y = v)
      (hin : ((opAt ops i).after.any fun e => Nat.beq e.on j) = true) (hs : storeV P t 0 cs v = some cs') (hone : (ks.zipIdx.all fun p => match p.1 with | .put q _ => !Nat.beq q j || Nat.beq p.2 i | _ => true) = true)
def putsOk (ops : Array Oper) (ks : List Kd) : Bool := ks.zipIdx.all fun p => match p.1 with
  | .put j _ => match ops[p.2]? with
    | some o => o.after.any fun e => Nat.beq e.on j
    | none => false
  | _ => true
theorem zip_get {ks : List Kd} {i : Nat} {k : Kd} (h : ks[i]? = some k) : ks.zipIdx[i]? = some (k, i) := by
  rw [List.getElem?_zipIdx, h]; simp
theorem zip_mem {ks : List Kd} {p : Kd × Nat} (h : p ∈ ks.zipIdx) : ks[p.2]? = some p.1 := by
  obtain ⟨j, hj, rfl⟩ := List.getElem_of_mem h
  simp at hj ⊢
theorem vsK_get (ks : List Kd) (β : Nat → Nat) (j : Nat) : (vsK ks β).getD j none = (ks[j]?).bind (kdV β j) := by
  unfold vsK
  rw [List.getD_eq_getElem?_getD, List.getElem?_map, List.getElem?_zipIdx]
  cases ks[j]? <;> simp
structure InvM (ops : Array Oper) (ks : List Kd) (n : Nat) (a0 : Act) (w0 : World) (its : List It) (β : Nat → Nat) (L : Nat → Bool) (a : Act) (w : World) : Prop where
  size : a.tmps.size = n
  defers : a.defers = []
  outer : ∀ s, (∀ i, slotOf ops i = some s → L i = false) → a.tmps[s]? = a0.tmps[s]?
  vals : ∀ j v, L j = true → slotOf ops j ≠ none → (vsK ks β).getD j none = some v → vat ops a j = v
  mem : Mem w0 w (itsK ks β L ++ its)
  down : ∀ i o, ops[i]? = some o → L i = true → ∀ e ∈ o.after, L e.on = true
section
variable {P : Program} {ops : Array Oper} {Q : Exit → Act → World → Prop} {ks : List Kd} {n : Nat} {a0 a : Act} {w0 w : World} {its : List It} {β : Nat → Nat} {L : Nat → Bool} {i : Nat} {o : Oper} {env : List (Nat × Value)}
theorem InvM.free (hK : Knows a0 n env) (st : InvM ops ks n a0 w0 its β L a w) {k : Nat} {v : Value} (hk : keyFree ops k = true) (hv : look k env = some v) : a.eval (.tmp k) = v := by
  rw [← hK.val k v hv]
  show a.tmps.getD k undef = a0.tmps.getD k undef
  rw [Array.getD_eq_getD_getElem?, Array.getD_eq_getD_getElem?, st.outer k (fun j hj => absurd hj (keyFree_of hk j))]
theorem InvM.yet (hK : Knows a0 n env) (st : InvM ops ks n a0 w0 its β L a w) (hLi : L i = false) {k : Nat} {v : Value} (hk : keyYet ops i k = true) (hv : look k env = some v) : a.eval (.tmp k) = v := by
  rw [← hK.val k v hv]
  show a.tmps.getD k undef = a0.tmps.getD k undef
  rw [Array.getD_eq_getD_getElem?, Array.getD_eq_getD_getElem?, st.outer k (fun j hj => ?_)]
  cases hoj : ops[j]? with
  | none => unfold slotOf at hj; rw [hoj] at hj; cases hj
  | some oj =>
    have hlt : j < ops.size := (Array.getElem?_eq_some_iff.1 hoj).1
    have h := List.all_eq_true.1 hk j (by simpa using hlt)
    rw [hj, hoj] at h
    simp only [bne_self_eq_false, Bool.false_or] at h
    obtain ⟨e, he, hon⟩ := Array.any_eq_true'.1 h
    cases hLj : L j with
    | false => rfl
    | true =>
      have h1 := st.down j oj hoj hLj e he
      rw [Nat.eq_of_beq_eq_true hon, hLi] at h1; cases h1
theorem InvM.knows (hK : Knows a0 n env) (st : InvM ops ks n a0 w0 its β L a w) (hLi : L i = false) (haft : ∀ e ∈ o.after, L e.on = true) : Knows a n (envM ops (vsK ks β) env i o) := by
  refine ⟨st.size, st.defers, fun k v h => ?_⟩
  unfold envM at h
  rw [look_append] at h
  split at h
  · rename_i u hu
    obtain rfl := Option.some.inj h
    have hm := look_mem hu
    rw [List.mem_filterMap] at hm
    obtain ⟨e, he, hx⟩ := hm
    cases hs : slotOf ops e.on with
    | none => rw [hs] at hx; cases hx
    | some d =>
      cases hv : (vsK ks β).getD e.on none with
      | none => rw [hs, hv] at hx; cases hx
      | some u' =>
        rw [hs, hv] at hx
        simp only [Option.some.injEq, Prod.mk.injEq] at hx
        obtain ⟨rfl, rfl⟩ := hx
        rw [eval_slot hs]
        exact st.vals e.on _ (haft e (by simpa using he)) (by rw [hs]; simp) hv
  · obtain ⟨h1, h2⟩ := look_filter h
    exact st.yet hK hLi h1 h2
def upL (L : Nat → Bool) (i : Nat) : Nat → Bool := fun j => decide (j = i) || L j
theorem upL_self (L : Nat → Bool) (i : Nat) : upL L i i = true := by unfold upL; simp
theorem upL_ne {j : Nat} (h : j ≠ i) : upL L i j = L j := by unfold upL; simp [h]
theorem InvM.step (st : InvM ops ks n a0 w0 its β L a w) (hwf : wfR ops n = true) (ho : ops[i]? = some o) (haft : ∀ e ∈ o.after, L e.on = true) (hLi : L i = false) {v : Value} {w' : World} {β' : Nat → Nat} (hβ : ∀ j, j ≠ i → β' j = β j) (hv : ∀ u, slotOf ops i ≠ none → (vsK ks β').getD i none = some u → v = u) (hm : Mem w0 w' (itsK ks β' (upL L i) ++ its)) : InvM ops ks n a0 w0 its β' (upL L i) (a.put o.dst v) w' := by
  have hsl : slotOf ops i = o.dst := by unfold slotOf; rw [ho]; rfl
  refine ⟨by rw [size_put]; exact st.size, by rw [defers_put]; exact st.defers, fun s hs => ?_, fun j u hj hsj hu => ?_, hm, fun j o' ho' hj e he => ?_⟩
  · rw [← st.outer s (fun j hj => (by have h := hs j hj; cases hl : L j with
      | false => rfl
      | true => unfold upL at h; rw [hl] at h; simp at h))]
    cases hd : o.dst with
    | none => rfl
    | some d =>
      show (a.tmps.setIfInBounds d v)[s]? = _
      rw [Array.getElem?_setIfInBounds, if_neg (fun e => (by have h := hs i (by rw [hsl, hd, e]); rw [upL_self] at h; cases h))]
  · by_cases hji : j = i
    · subst hji
      rw [vat_put hwf st.size ho (by rw [← hsl]; exact hsj) rfl]
      exact hv u hsj hu
    · rw [vat_put_far hwf ho hji]
      refine st.vals j u (by rw [upL_ne hji] at hj; exact hj) hsj ?_
      rw [vsK_get] at hu ⊢
      cases hk : ks[j]? with
      | none => rw [hk] at hu; cases hu
      | some k =>
        rw [hk] at hu
        rw [Option.bind_some] at hu ⊢
        rw [← hu]
        cases k <;> first | rfl | (show kdV β j (.lay _ _) = kdV β' j (.lay _ _); unfold kdV; rw [hβ j hji])
  · by_cases hji : j = i
    · subst hji
      rw [ho] at ho'
      obtain rfl := Option.some.inj ho'
      by_cases hei : e.on = j
      · rw [hei]; exact upL_self _ _
      · rw [upL_ne hei]; exact haft e he
    · rw [upL_ne hji] at hj
      by_cases hei : e.on = i
      · rw [hei]; exact upL_self _ _
      · rw [upL_ne hei]; exact st.down j o' ho' hj e he
theorem find_pred {α : Type} {f g : α → Bool} : ∀ {l : List α}, (∀ x ∈ l, f x = g x) → l.find? f = l.find? g := by
  intro l
  induction l with
  | nil => intro _; rfl
  | cons x l ih =>
    intro h
    rw [List.find?_cons, List.find?_cons, h x List.mem_cons_self, ih (fun y hy => h y (List.mem_cons_of_mem _ hy))]
theorem cellsK_same {L' : Nat → Bool} {j : Nat} {cs : List Value} (h : ∀ p ∈ ks.zipIdx, ∀ cs', p.1 = .put j cs' → L' p.2 = L p.2) : cellsK ks L' j cs = cellsK ks L j cs := by
  unfold cellsK
  rw [find_pred (g := fun p => match p.1 with | .put j' _ => Nat.beq j' j && L p.2 | _ => false)]
  intro p hp
  rcases hk : p.1 with _ | _ | _ | ⟨q, cs'⟩
  · rfl
  · rfl
  · rfl
  · simp only
    cases hb : Nat.beq q j with
    | false => rfl
    | true =>
      have e := Nat.eq_of_beq_eq_true hb
      rw [h p hp cs' (by rw [hk, e])]
theorem itsK_same (hk : ∀ k, ks[i]? = some k → (∀ t cs, k ≠ .lay t cs) ∧ ∀ j cs, k ≠ .put j cs) : itsK ks β (upL L i) = itsK ks β L := by
  unfold itsK
  apply fm_congr
  intro p hp
  have hpg := zip_mem hp
  unfold itK
  rcases hk1 : p.1 with _ | _ | ⟨t, cs⟩ | _
  · rfl
  · rfl
  · simp only
    have hne : p.2 ≠ i := fun e => (hk p.1 (by rw [← e]; exact hpg)).1 t cs hk1
    rw [upL_ne hne, cellsK_same]
    intro q hq cs' hq1
    exact upL_ne fun e => (hk q.1 (by rw [← e]; exact zip_mem hq)).2 _ _ hq1
  · rfl
theorem PayM.owes {F : World → Prop} (hK : Knows a0 n env) (hwf : wfR ops n = true) (hF : ∀ w, Mem w0 w its → F w) (hpo : putsOk ops ks = true) (hp : PayM P ops ks env F i) (ho : ops[i]? = some o) (hLi : L i = false) (haft : ∀ e ∈ o.after, L e.on = true) (st : InvM ops ks n a0 w0 its β L a w) :
    OwesI P ops Q (fun L a w => ∃ β, InvM ops ks n a0 w0 its β L a w) L i o a w := by
  intro K hKK
  have hk := st.knows hK hLi haft
  have h0 : opAt ops i = o := by unfold opAt; rw [ho]; rfl
  have hFw : F w := hF w (by have := st.mem.drop (itsK ks β L).length; rwa [List.drop_left] at this)
  have parts : chkM ops (vsK ks β) env i = true → Region.wanted o (yielded ops a.tmps) = true ∧ execOp a.eval o = execOp (evE (envM ops (vsK ks β) env i o)) o := by
    intro h
    unfold chkM at h
    rw [ho] at h
    simp only [Bool.and_eq_true] at h
    refine ⟨wanted_of hk ?_, hk.exec h.2⟩
    cases hg : guardE ops (envM ops (vsK ks β) env i o) o with
    | none => rw [hg] at h; cases h.1
    | some b => rw [hg] at h; exact congrArg some h.1
  have plain : ∀ {v : Value} {w' : World}, ks[i]? = some (.val v) ∨ (ks[i]? = some .skip ∧ v = undef) → Mem w0 w' (itsK ks β L ++ its) → InvM ops ks n a0 w0 its β (upL L i) (a.put o.dst v) w' := by
    intro v w' hkk hm
    refine st.step hwf ho haft hLi (fun _ _ => rfl) (fun u _ hu => ?_) ?_
    · rw [vsK_get] at hu
      rcases hkk with h | ⟨h, rfl⟩
      · rw [h] at hu; exact Option.some.inj hu
      · rw [h] at hu; exact Option.some.inj hu
    · rw [itsK_same]
      · exact hm
      · intro k hk2
        rcases hkk with h | ⟨h, _⟩
        · rw [h] at hk2; obtain rfl := Option.some.inj hk2; exact ⟨fun _ _ e => (by cases e), fun _ _ e => (by cases e)⟩
        · rw [h] at hk2; obtain rfl := Option.some.inj hk2; exact ⟨fun _ _ e => (by cases e), fun _ _ e => (by cases e)⟩
  cases hp with
  | val v hkk hc hr =>
    obtain ⟨h1, h2⟩ := parts (hc β)
    have hrun := hr β w hFw
    rw [h0] at hrun
    rw [if_pos h1]; unfold Oper.wp; rw [h2, hrun]
    exact hKK v w ⟨β, plain (.inl hkk) st.mem⟩
  | call f args v hkk hc he hcall =>
    obtain ⟨h1, h2⟩ := parts (hc β)
    have hrun := he β w
    rw [h0] at hrun
    rw [if_pos h1]; unfold Oper.wp; rw [h2, hrun]
    refine (hcall w hFw).mono ?_
    rintro e w' ⟨rfl, hb⟩
    exact hKK v w' ⟨β, plain (.inl hkk) (st.mem.go hb)⟩
  | skip hkk hc =>
    have hcb := hc β
    unfold chkMN at hcb
    rw [ho] at hcb
    simp only at hcb
    have hg : guardE ops (envM ops (vsK ks β) env i o) o = some false := by
      cases hg : guardE ops (envM ops (vsK ks β) env i o) o with
      | none => rw [hg] at hcb; cases hcb
      | some b => rw [hg] at hcb; cases b <;> simp_all
    rw [if_neg (by rw [wanted_of hk hg]; decide)]
    exact hKK undef w ⟨β, plain (.inr ⟨hkk, rfl⟩) st.mem⟩
  | lay t cs hkk hc hr =>
    obtain ⟨h1, h2⟩ := parts (hc β)
    have hrun := hr β w
    rw [h0] at hrun
    rw [if_pos h1]; unfold Oper.wp; rw [h2, hrun]
    let β' : Nat → Nat := fun j => if j = i then w.heap.size else β j
    have hβi : β' i = w.heap.size := if_pos rfl
    have hβ : ∀ j, j ≠ i → β' j = β j := fun j hj => if_neg hj
    refine hKK _ _ ⟨β', st.step hwf ho haft hLi hβ (fun u _ hu => ?_) ?_⟩
    · rw [vsK_get, hkk, Option.bind_some] at hu
      have : (Value.pointer (some ⟨β' i, 0, none⟩)) = u := Option.some.inj hu
      rw [hβi] at this; exact this
    · have hnop : ∀ q ∈ ks.zipIdx, ∀ cs', q.1 = .put i cs' → L q.2 = false := by
        intro q hq cs' hq1
        cases hLq : L q.2 with
        | false => rfl
        | true =>
          have h3 := List.all_eq_true.1 hpo q hq
          rw [hq1] at h3
          simp only at h3
          cases hoq : ops[q.2]? with
          | none => rw [hoq] at h3; cases h3
          | some oq =>
            rw [hoq] at h3
            obtain ⟨k, hk2, he⟩ := Array.any_eq_true.1 h3
            have := st.down q.2 oq hoq hLq _ (Array.getElem_mem hk2)
            rw [Nat.eq_of_beq_eq_true he, hLi] at this
            cases this
      have hcells : cellsK ks (upL L i) i cs = cs := by
        unfold cellsK
        rw [List.find?_eq_none.2]
        intro q hq
        rcases hq1 : q.1 with _ | _ | _ | ⟨j, cs'⟩
        · simp
        · simp
        · simp
        · simp only
          cases hb : Nat.beq j i with
          | false => simp
          | true =>
            have e := Nat.eq_of_beq_eq_true hb
            subst e
            have hL := hnop q hq cs' hq1
            have hqi : q.2 ≠ j := fun e => by
              have := zip_mem hq
              rw [e, hkk, hq1] at this
              cases this
            rw [upL_ne hqi, hL]; simp
      have hperm := filterMap_one (f := itK ks β L) (g := itK ks β' (upL L i)) (b := .row w.heap.size t cs) (zip_get hkk) (by unfold itK; simp only; rw [hLi]; rfl) (by unfold itK; simp only; rw [upL_self, if_pos rfl, hβi, hcells]) (by
        intro j p hj hp
        have hpz : p.2 = j := by
          rw [List.getElem?_zipIdx] at hp
          cases hkj : ks[j]? with
          | none => rw [hkj] at hp; cases hp
          | some k => rw [hkj] at hp; have := Option.some.inj hp; rw [← this]; simp
        unfold itK
        rcases hp1 : p.1 with _ | _ | ⟨t', cs2⟩ | _
        · rfl
        · rfl
        · simp only
          rw [hpz, upL_ne hj, hβ j hj, cellsK_same]
          intro q hq cs' hq1
          refine (upL_ne fun e => ?_).symm
          have := zip_mem hq
          rw [e, hkk, hq1] at this
          cases this
        · rfl)
      exact ((st.mem.alloc t cs).perm (by exact hperm.append_right its))
  | put j tt cs cs' t x y v hkk hj hc hop hx hy hin hs hone =>
    obtain ⟨h1, h2⟩ := parts (hc β)
    have hLj : L j = true := by
      rw [h0] at hin
      obtain ⟨k, hk2, he⟩ := Array.any_eq_true.1 hin
      have := haft _ (Array.getElem_mem hk2)
      rw [Nat.eq_of_beq_eq_true he] at this; exact this
    have hji : j ≠ i := fun e => by rw [e, hLi] at hLj; cases hLj
    have only : ∀ q ∈ ks.zipIdx, ∀ cs2, q.1 = .put j cs2 → q.2 = i := by
      intro q hq cs2 hq1
      have h3 := List.all_eq_true.1 hone q hq
      rw [hq1] at h3
      simp only [Nat.beq_refl, Bool.not_true, Bool.false_or] at h3
      exact Nat.eq_of_beq_eq_true h3
    have hc0 : cellsK ks L j cs = cs := by
      unfold cellsK
      rw [List.find?_eq_none.2]
      intro q hq
      rcases hq1 : q.1 with _ | _ | _ | ⟨j2, cs2⟩
      · simp
      · simp
      · simp
      · simp only
        cases hb : Nat.beq j2 j with
        | false => simp
        | true =>
          have e := Nat.eq_of_beq_eq_true hb
          subst e
          rw [only q hq cs2 hq1, hLi]; simp
    have hc1 : cellsK ks (upL L i) j cs = cs' := by
      unfold cellsK
      have hfind : ∃ q, (ks.zipIdx.find? fun p => match p.1 with | .put j' _ => Nat.beq j' j && upL L i p.2 | _ => false) = some q := by
        rw [← Option.isSome_iff_exists, List.find?_isSome]
        refine ⟨(.put j cs', i), List.mem_of_getElem? (zip_get hkk), ?_⟩
        simp only [Nat.beq_refl, Bool.true_and, upL_self]
      obtain ⟨q, hq⟩ := hfind
      rw [hq]
      have hm := List.mem_of_find?_eq_some hq
      have hpq := List.find?_some hq
      rcases hq1 : q.1 with _ | _ | _ | ⟨j2, cs2⟩
      · rw [hq1] at hpq; cases hpq
      · rw [hq1] at hpq; cases hpq
      · rw [hq1] at hpq; cases hpq
      · rw [hq1] at hpq
        simp only [Bool.and_eq_true] at hpq
        have e := Nat.eq_of_beq_eq_true hpq.1
        subst e
        have hqi := only q hm cs2 hq1
        have := zip_mem hm
        rw [hqi, hkk, hq1] at this
        have e2 : (Kd.put j2 cs') = .put j2 cs2 := Option.some.inj this
        injection e2 with _ e3
        obtain ⟨q1, q2⟩ := q
        subst hq1
        exact e3.symm
    obtain ⟨q, hq1, hq2⟩ := filterMap_turn (f := itK ks β L) (g := itK ks β (upL L i)) (b := .row (β j) tt cs) (c := .row (β j) tt cs') (zip_get hj) (by unfold itK; simp only; rw [hLj, if_pos rfl, hc0]) (by unfold itK; simp only; rw [upL_ne hji, hLj, if_pos rfl, hc1]) (by
      intro j2 p hj2 hp
      have hpz : p.2 = j2 := by
        rw [List.getElem?_zipIdx] at hp
        cases hkj : ks[j2]? with
        | none => rw [hkj] at hp; cases hp
        | some k => rw [hkj] at hp; have := Option.some.inj hp; rw [← this]; simp
      unfold itK
      rcases hp1 : p.1 with _ | _ | ⟨t', cs2⟩ | _
      · rfl
      · rfl
      · simp only
        have hne : p.2 ≠ i := fun e => by
          have := zip_mem (List.mem_of_getElem? hp)
          rw [e, hkk, hp1] at this
          cases this
        rw [upL_ne hne, cellsK_same]
        intro r hr cs3 hr1
        refine (upL_ne fun e => hj2 ?_).symm
        have := zip_mem hr
        rw [e, hkk, hr1] at this
        have e2 : (Kd.put j cs') = .put p.2 cs3 := Option.some.inj this
        injection e2 with e3
        rw [e3, hpz]
      · rfl)
    have hit : (itsK ks β L ++ its)[q]? = some (.row (β j) tt cs) := by
      have hlt : q < (itsK ks β L).length := (List.getElem?_eq_some_iff.1 hq1).1
      rw [List.getElem?_append_left hlt]; exact hq1
    have hrun := run_storeE (P := P) (ρ := evE (envM ops (vsK ks β) env i (opAt ops i))) hop (hx β) (hy β) (st.mem.row q hit) hs
    rw [h0] at hrun
    rw [if_pos h1]; unfold Oper.wp; rw [h2, hrun]
    refine hKK undef _ ⟨β, st.step hwf ho haft hLi (fun _ _ => rfl) (fun u _ hu => ?_) ?_⟩
    · rw [vsK_get, hkk] at hu; cases hu
    · have := st.mem.setRow q hit cs'
      have hlt : q < (itsK ks β L).length := (List.getElem?_eq_some_iff.1 hq1).1
      rw [List.set_append_left _ _ hlt] at this
      rw [show itsK ks β (upL L i) = (itsK ks β L).set q (.row (β j) tt cs') from hq2]
      exact this
def lookM (ops : Array Oper) (ks : List Kd) (β : Nat → Nat) (env : List (Nat × Value)) (k : Nat) : Option Value := lookR ops (vsK ks β) env k
theorem region_made_any {F : World → Prop} (hK : Knows a n env) (hM : Mem w0 w its) (ks : List Kd) (m : Nat) (hF : ∀ w, Mem w0 w its → F w) (hd : (wfR ops n && bindsAll ops && putsOk ops ks && Nat.beq ks.length m && Nat.beq ops.size m) = true) (pays : AllS m fun i => PayM P ops ks env F i) (env' : (Nat → Nat) → List (Nat × Value)) (hs : ∀ β, ((env' β).map fun p => lookM ops ks β env p.1) = (env' β).map fun p => some p.2)
    (h : ∀ β a' w', Knows a' n (env' β) → Mem w0 w' (itsK ks β (fun _ => true) ++ its) → Q .normal a' w') : wpAny P .any ops Q ops.size (Array.replicate ops.size false) a w.drew := by
  simp only [Bool.and_eq_true] at hd
  obtain ⟨⟨⟨⟨h1, h2⟩, h3⟩, h4⟩, h5⟩ := hd
  have h4' := Nat.eq_of_beq_eq_true h4
  have h5' := Nat.eq_of_beq_eq_true h5
  have hi0 : itsK ks (fun _ => 0) (fun _ => false) = [] := by
    unfold itsK
    rw [List.filterMap_eq_nil_iff]
    intro p _
    unfold itK
    rcases p.1 with _ | _ | ⟨t, cs⟩ | _ <;> simp
  refine region_inv_any (Inv := fun L a' w' => ∃ β, InvM ops ks n a w0 its β L a' w') h1 h2 ⟨fun _ => 0, hK.size, hK.defers, fun _ _ => rfl, fun j v hj => (by cases hj), (by rw [hi0]; exact hM.drew), fun i o _ hi => (by cases hi)⟩ ?_ ?_
  · intro i o a' w' L ho hL haft ⟨β, st⟩
    exact PayM.owes hK h1 hF h3 (pays.at i (by rw [← h5']; exact (Array.getElem?_eq_some_iff.1 ho).1)) ho hL haft st
  · intro L a' w' hL ⟨β, st⟩
    refine h β a' w' ⟨st.size, st.defers, fun k v hk => ?_⟩ ?_
    · have hmem := look_mem hk
      have hl : lookR ops (vsK ks β) env k = some v := by
        obtain ⟨j, hj, hje⟩ := List.getElem_of_mem hmem
        have := congrArg (fun l => l[j]?) (hs β)
        simp only [List.getElem?_map, List.getElem?_eq_getElem hj, Option.map_some, hje] at this
        exact Option.some.inj this
      unfold lookR at hl
      split at hl
      · rename_i j hj
        have hp1 := List.find?_some hj
        have hp2 := List.mem_of_find?_eq_some hj
        have hlt : j < ops.size := by simpa using hp2
        cases hs2 : slotOf ops j with
        | none => rw [hs2] at hp1; cases hp1
        | some d =>
          rw [hs2] at hp1
          have : d = k := Nat.eq_of_beq_eq_true hp1
          subst this
          rw [eval_slot hs2]
          exact st.vals j v (hL j hlt) (by rw [hs2]; simp) hl
      · rename_i hj
        refine st.free hK ?_ hl
        unfold keyFree
        rw [List.all_eq_true]
        intro j hj2
        rw [List.find?_eq_none] at hj
        have := hj j hj2
        cases hs2 : slotOf ops j with
        | none => rfl
        | some d =>
          rw [hs2] at this
          have hne : d ≠ k := by
            rintro rfl
            exact this (Nat.beq_refl d)
          simpa using hne
    · have hsame : itsK ks β L = itsK ks β (fun _ => true) := by
        unfold itsK
        apply fm_congr
        intro p hp
        have hlt : ∀ {q : Kd × Nat}, q ∈ ks.zipIdx → L q.2 = true := fun {q} hq => by
          have := (List.getElem?_eq_some_iff.1 (zip_mem hq)).1
          exact hL q.2 (by omega)
        unfold itK
        rcases hp1 : p.1 with _ | _ | ⟨t, cs⟩ | _
        · rfl
        · rfl
        · simp only
          have e := cellsK_same (ks := ks) (L' := fun _ => true) (L := L) (j := p.2) (cs := cs) fun q hq _ _ => (hlt hq).symm
          rw [hlt hp, e]; rfl
        · rfl
      rw [← hsame]; exact st.mem
theorem region_made {id : Nat} {F : World → Prop} (hK : Knows a n env) (hM : Mem w0 w its) (ks : List Kd) (m : Nat) (hF : ∀ w, Mem w0 w its → F w) (hm : P.follows .mixedOrders = true) (hd : (wfR ops n && bindsAll ops && putsOk ops ks && Nat.beq ks.length m && Nat.beq ops.size m) = true) (pays : AllS m fun i => PayM P ops ks env F i) (env' : (Nat → Nat) → List (Nat × Value)) (hs : ∀ β, ((env' β).map fun p => lookM ops ks β env p.1) = (env' β).map fun p => some p.2)
    (h : ∀ β a' w', Knows a' n (env' β) → Mem w0 w' (itsK ks β (fun _ => true) ++ its) → Q .normal a' w') : (Code.region id ops true).wp P Q a w := wp_region_any hm (region_made_any hK hM ks m hF hd pays env' hs h)
theorem region_made_strip {id : Nat} {F : World → Prop} (hK : Knows a n env) (hM : Mem w0 w its) (ks : List Kd) (m : Nat) (hF : ∀ w, Mem w0 w its → F w) (hm : P.follows .mixedOrders = true) (hd : (wfR (stripR ops) n && bindsAll (stripR ops) && putsOk (stripR ops) ks && Nat.beq ks.length m && Nat.beq (stripR ops).size m) = true) (pays : AllS m fun i => PayM P (stripR ops) ks env F i) (env' : (Nat → Nat) → List (Nat × Value)) (hs : ∀ β, ((env' β).map fun p => lookM (stripR ops) ks β env p.1) = (env' β).map fun p => some p.2)
    (h : ∀ β a' w', Knows a' n (env' β) → Mem w0 w' (itsK ks β (fun _ => true) ++ its) → Q .normal a' w') : (Code.region id ops true).wp P Q a w := by
  have h2 := region_made_any hK hM ks m hF hd pays env' hs h
  rw [strip_size, strip_wpAny] at h2
  exact wp_region_any hm h2
end
end Go.Proofs.YtiigncmpbkfhmaaGreatDoor
namespace Go.Proofs.YtiigncmpbkfhmaaGreatDoor
open Go Go.RowKit
section
variable {o : Oper} {ρ : Operand → Value} {w : World}
theorem rX {P : Program} {t e : TypeId} {x y : Operand} {A : Option Addr} {a : Addr} {n c k s : Nat} (hop : o.op = .indexAddr t x y) (hx : ρ x = .slice A n c) (hA : A = some a) (hy : ρ y = .int .i64 ((k : Nat) : Int)) (ht : P.underlying t = some (.slice e)) (hs : (P.info? e).map (·.size) = some s) (hk : k < n) : (execOp ρ o).run P w = .ok (.value (.pointer (some (a.add (k * s))))) w := by
  subst hA
  obtain ⟨i, hi, hs⟩ := Option.map_eq_some_iff.1 hs
  simp [execOp, hop, hx, hy, Instr.indexAt, asIntOf, run_underlying ht, sizeOf, typeInfo, hi, hs, hk]
theorem run_ixG {P : Program} {t e : TypeId} {x y : Operand} {g n c k s : Nat} (hop : o.op = .indexAddr t x y) (hx : ρ x = .slice (some ⟨g, 0, none⟩) n c) (hy : ρ y = .int .i64 ((k : Nat) : Int)) (ht : P.underlying t = some (.slice e)) (hs : (P.info? e).map (·.size) = some s) (hk : k < n) : (execOp ρ o).run P w = .ok (.value (.pointer (some ⟨g, k * s, none⟩))) w := by
  rw [rX hop hx rfl hy ht hs hk, add0]
theorem run_quoN {P : Program} {x y : Operand} {i j : Nat} {t u : TypeId} (hop : o.op = .binOp .quo t x y u) (hx : ρ x = .int .i64 ((i : Nat) : Int)) (hy : ρ y = .int .i64 ((j : Nat) : Int)) (hj : 0 < j) (hi : i < 9223372036854775808) : (execOp ρ o).run P w = .ok (.value (.int .i64 ((i / j : Nat) : Int))) w := by
  have h1 : i / j ≤ i := Nat.div_le_self i j
  have e : IntKind.i64.wrap ((i : Int) / (j : Int)) = (i : Int) / (j : Int) := by
    rw [← Int.natCast_ediv, IntKind.wrap_i64]
    generalize i / j = d at h1 ⊢
    omega
  have hj' : ¬ (j : Int) = 0 := by omega
  have hj2 : ¬ j = 0 := by omega
  simp [execOp, hop, hx, hy, go_sem, hj', hj2, e]
end
theorem CellsAt.sub {w : World} {g o : Nat} {cs : List Value} (h : CellsAt w ⟨g, o, none⟩ cs) (i m : Nat) : CellsAt w ⟨g, o + i, none⟩ ((cs.drop i).take m) := by
  intro j v hj
  rw [List.getElem?_take] at hj
  split at hj
  · rw [List.getElem?_drop] at hj
    have := h (i + j) v hj
    rw [Addr.add_mid] at this ⊢
    rw [Nat.add_assoc]; exact this
  · cases hj
theorem add_add (a : Addr) {m n : Nat} (hm : 0 < m) : (a.add m).add n = a.add (m + n) := by
  unfold Addr.add
  rw [if_neg (show ¬ m = 0 by omega), if_neg (show ¬ m + n = 0 by omega)]
  by_cases hn : n = 0
  · subst hn; simp
  · rw [if_neg hn]; simp [Nat.add_assoc]
theorem CellsAt.addA {w : World} {a : Addr} {cs : List Value} (h : CellsAt w a cs) (i m : Nat) (hi : 0 < i) : CellsAt w (a.add i) ((cs.drop i).take m) := by
  intro j v hj
  rw [List.getElem?_take] at hj
  split at hj
  · rw [List.getElem?_drop] at hj
    rw [add_add a hi]; exact h (i + j) v hj
  · cases hj
theorem CellsAt.addZ {w : World} {a : Addr} {cs : List Value} (h : CellsAt w a cs) (m : Nat) : CellsAt w (a.add 0) ((cs.drop 0).take m) := by
  intro j v hj
  rw [List.getElem?_take] at hj
  split at hj
  · rw [show a.add 0 = a from if_pos rfl]; exact h j v (by simpa using hj)
  · cases hj
section
variable {w0 w : World} {its : List It}
end
theorem rps {P : Program} {ops : Array Oper} {Q : Exit → Act → World → Prop} {a : Act} {w : World} (h : Q .normal a w) : wpOps P ops Q [] a w := h
abbrev pA (b k : Nat) : Value := .pointer (some ⟨b, k, none⟩)
abbrev vN (n : Nat) : Value := .int .i64 ((n : Nat) : Int)
theorem rg1 {P : Program} {ops : Array Oper} {Q : Exit → Act → World → Prop} {a : Act} {w : World} {id : Nat} (hn : List.range ops.size = [0]) (h : wpOps P ops Q [0] a w) : (Code.region id ops false).wp P Q a w := region_go hn h
theorem rg2 {P : Program} {ops : Array Oper} {Q : Exit → Act → World → Prop} {a : Act} {w : World} {id : Nat} (hn : List.range ops.size = [0, 1]) (h : wpOps P ops Q [0, 1] a w) : (Code.region id ops false).wp P Q a w := region_go hn h
theorem rg3 {P : Program} {ops : Array Oper} {Q : Exit → Act → World → Prop} {a : Act} {w : World} {id : Nat} (hn : List.range ops.size = [0, 1, 2]) (h : wpOps P ops Q [0, 1, 2] a w) : (Code.region id ops false).wp P Q a w := region_go hn h
theorem rg4 {P : Program} {ops : Array Oper} {Q : Exit → Act → World → Prop} {a : Act} {w : World} {id : Nat} (hn : List.range ops.size = [0, 1, 2, 3]) (h : wpOps P ops Q [0, 1, 2, 3] a w) : (Code.region id ops false).wp P Q a w := region_go hn h
theorem rg5 {P : Program} {ops : Array Oper} {Q : Exit → Act → World → Prop} {a : Act} {w : World} {id : Nat} (hn : List.range ops.size = [0, 1, 2, 3, 4]) (h : wpOps P ops Q [0, 1, 2, 3, 4] a w) : (Code.region id ops false).wp P Q a w := region_go hn h
theorem rg6 {P : Program} {ops : Array Oper} {Q : Exit → Act → World → Prop} {a : Act} {w : World} {id : Nat} (hn : List.range ops.size = [0, 1, 2, 3, 4, 5]) (h : wpOps P ops Q [0, 1, 2, 3, 4, 5] a w) : (Code.region id ops false).wp P Q a w := region_go hn h
theorem rg7 {P : Program} {ops : Array Oper} {Q : Exit → Act → World → Prop} {a : Act} {w : World} {id : Nat} (hn : List.range ops.size = [0, 1, 2, 3, 4, 5, 6]) (h : wpOps P ops Q [0, 1, 2, 3, 4, 5, 6] a w) : (Code.region id ops false).wp P Q a w := region_go hn h
theorem rg8 {P : Program} {ops : Array Oper} {Q : Exit → Act → World → Prop} {a : Act} {w : World} {id : Nat} (hn : List.range ops.size = [0, 1, 2, 3, 4, 5, 6, 7]) (h : wpOps P ops Q [0, 1, 2, 3, 4, 5, 6, 7] a w) : (Code.region id ops false).wp P Q a w := region_go hn h
theorem rg9 {P : Program} {ops : Array Oper} {Q : Exit → Act → World → Prop} {a : Act} {w : World} {id : Nat} (hn : List.range ops.size = [0, 1, 2, 3, 4, 5, 6, 7, 8]) (h : wpOps P ops Q [0, 1, 2, 3, 4, 5, 6, 7, 8] a w) : (Code.region id ops false).wp P Q a w := region_go hn h
theorem rg10 {P : Program} {ops : Array Oper} {Q : Exit → Act → World → Prop} {a : Act} {w : World} {id : Nat} (hn : List.range ops.size = [0, 1, 2, 3, 4, 5, 6, 7, 8, 9]) (h : wpOps P ops Q [0, 1, 2, 3, 4, 5, 6, 7, 8, 9] a w) : (Code.region id ops false).wp P Q a w := region_go hn h
theorem rg11 {P : Program} {ops : Array Oper} {Q : Exit → Act → World → Prop} {a : Act} {w : World} {id : Nat} (hn : List.range ops.size = [0, 1, 2, 3, 4, 5, 6, 7, 8, 9, 10]) (h : wpOps P ops Q [0, 1, 2, 3, 4, 5, 6, 7, 8, 9, 10] a w) : (Code.region id ops false).wp P Q a w := region_go hn h
theorem rg12 {P : Program} {ops : Array Oper} {Q : Exit → Act → World → Prop} {a : Act} {w : World} {id : Nat} (hn : List.range ops.size = [0, 1, 2, 3, 4, 5, 6, 7, 8, 9, 10, 11]) (h : wpOps P ops Q [0, 1, 2, 3, 4, 5, 6, 7, 8, 9, 10, 11] a w) : (Code.region id ops false).wp P Q a w := region_go hn h
theorem rg13 {P : Program} {ops : Array Oper} {Q : Exit → Act → World → Prop} {a : Act} {w : World} {id : Nat} (hn : List.range ops.size = [0, 1, 2, 3, 4, 5, 6, 7, 8, 9, 10, 11, 12]) (h : wpOps P ops Q [0, 1, 2, 3, 4, 5, 6, 7, 8, 9, 10, 11, 12] a w) : (Code.region id ops false).wp P Q a w := region_go hn h
theorem rg15 {P : Program} {ops : Array Oper} {Q : Exit → Act → World → Prop} {a : Act} {w : World} {id : Nat} (hn : List.range ops.size = [0, 1, 2, 3, 4, 5, 6, 7, 8, 9, 10, 11, 12, 13, 14]) (h : wpOps P ops Q [0, 1, 2, 3, 4, 5, 6, 7, 8, 9, 10, 11, 12, 13, 14] a w) : (Code.region id ops false).wp P Q a w := region_go hn h
theorem rg16 {P : Program} {ops : Array Oper} {Q : Exit → Act → World → Prop} {a : Act} {w : World} {id : Nat} (hn : List.range ops.size = [0, 1, 2, 3, 4, 5, 6, 7, 8, 9, 10, 11, 12, 13, 14, 15]) (h : wpOps P ops Q [0, 1, 2, 3, 4, 5, 6, 7, 8, 9, 10, 11, 12, 13, 14, 15] a w) : (Code.region id ops false).wp P Q a w := region_go hn h
theorem rg18 {P : Program} {ops : Array Oper} {Q : Exit → Act → World → Prop} {a : Act} {w : World} {id : Nat} (hn : List.range ops.size = [0, 1, 2, 3, 4, 5, 6, 7, 8, 9, 10, 11, 12, 13, 14, 15, 16, 17]) (h : wpOps P ops Q [0, 1, 2, 3, 4, 5, 6, 7, 8, 9, 10, 11, 12, 13, 14, 15, 16, 17] a w) : (Code.region id ops false).wp P Q a w := region_go hn h
theorem rg21 {P : Program} {ops : Array Oper} {Q : Exit → Act → World → Prop} {a : Act} {w : World} {id : Nat} (hn : List.range ops.size = [0, 1, 2, 3, 4, 5, 6, 7, 8, 9, 10, 11, 12, 13, 14, 15, 16, 17, 18, 19, 20]) (h : wpOps P ops Q [0, 1, 2, 3, 4, 5, 6, 7, 8, 9, 10, 11, 12, 13, 14, 15, 16, 17, 18, 19, 20] a w) : (Code.region id ops false).wp P Q a w := region_go hn h
theorem rg27 {P : Program} {ops : Array Oper} {Q : Exit → Act → World → Prop} {a : Act} {w : World} {id : Nat} (hn : List.range ops.size = [0, 1, 2, 3, 4, 5, 6, 7, 8, 9, 10, 11, 12, 13, 14, 15, 16, 17, 18, 19, 20, 21, 22, 23, 24, 25, 26]) (h : wpOps P ops Q [0, 1, 2, 3, 4, 5, 6, 7, 8, 9, 10, 11, 12, 13, 14, 15, 16, 17, 18, 19, 20, 21, 22, 23, 24, 25, 26] a w) : (Code.region id ops false).wp P Q a w := region_go hn h
theorem rg28 {P : Program} {ops : Array Oper} {Q : Exit → Act → World → Prop} {a : Act} {w : World} {id : Nat} (hn : List.range ops.size = [0, 1, 2, 3, 4, 5, 6, 7, 8, 9, 10, 11, 12, 13, 14, 15, 16, 17, 18, 19, 20, 21, 22, 23, 24, 25, 26, 27]) (h : wpOps P ops Q [0, 1, 2, 3, 4, 5, 6, 7, 8, 9, 10, 11, 12, 13, 14, 15, 16, 17, 18, 19, 20, 21, 22, 23, 24, 25, 26, 27] a w) : (Code.region id ops false).wp P Q a w := region_go hn h
theorem rg32 {P : Program} {ops : Array Oper} {Q : Exit → Act → World → Prop} {a : Act} {w : World} {id : Nat} (hn : List.range ops.size = [0, 1, 2, 3, 4, 5, 6, 7, 8, 9, 10, 11, 12, 13, 14, 15, 16, 17, 18, 19, 20, 21, 22, 23, 24, 25, 26, 27, 28, 29, 30, 31]) (h : wpOps P ops Q [0, 1, 2, 3, 4, 5, 6, 7, 8, 9, 10, 11, 12, 13, 14, 15, 16, 17, 18, 19, 20, 21, 22, 23, 24, 25, 26, 27, 28, 29, 30, 31] a w) : (Code.region id ops false).wp P Q a w := region_go hn h
theorem rg43 {P : Program} {ops : Array Oper} {Q : Exit → Act → World → Prop} {a : Act} {w : World} {id : Nat} (hn : List.range ops.size = [0, 1, 2, 3, 4, 5, 6, 7, 8, 9, 10, 11, 12, 13, 14, 15, 16, 17, 18, 19, 20, 21, 22, 23, 24, 25, 26, 27, 28, 29, 30, 31, 32, 33, 34, 35, 36, 37, 38, 39, 40, 41, 42]) (h : wpOps P ops Q [0, 1, 2, 3, 4, 5, 6, 7, 8, 9, 10, 11, 12, 13, 14, 15, 16, 17, 18, 19, 20, 21, 22, 23, 24, 25, 26, 27, 28, 29, 30, 31, 32, 33, 34, 35, 36, 37, 38, 39, 40, 41, 42] a w) : (Code.region id ops false).wp P Q a w := region_go hn h
theorem rg48 {P : Program} {ops : Array Oper} {Q : Exit → Act → World → Prop} {a : Act} {w : World} {id : Nat} (hn : List.range ops.size = [0, 1, 2, 3, 4, 5, 6, 7, 8, 9, 10, 11, 12, 13, 14, 15, 16, 17, 18, 19, 20, 21, 22, 23, 24, 25, 26, 27, 28, 29, 30, 31, 32, 33, 34, 35, 36, 37, 38, 39, 40, 41, 42, 43, 44, 45, 46, 47]) (h : wpOps P ops Q [0, 1, 2, 3, 4, 5, 6, 7, 8, 9, 10, 11, 12, 13, 14, 15, 16, 17, 18, 19, 20, 21, 22, 23, 24, 25, 26, 27, 28, 29, 30, 31, 32, 33, 34, 35, 36, 37, 38, 39, 40, 41, 42, 43, 44, 45, 46, 47] a w) : (Code.region id ops false).wp P Q a w := region_go hn h
theorem rg50 {P : Program} {ops : Array Oper} {Q : Exit → Act → World → Prop} {a : Act} {w : World} {id : Nat} (hn : List.range ops.size = [0, 1, 2, 3, 4, 5, 6, 7, 8, 9, 10, 11, 12, 13, 14, 15, 16, 17, 18, 19, 20, 21, 22, 23, 24, 25, 26, 27, 28, 29, 30, 31, 32, 33, 34, 35, 36, 37, 38, 39, 40, 41, 42, 43, 44, 45, 46, 47, 48, 49]) (h : wpOps P ops Q [0, 1, 2, 3, 4, 5, 6, 7, 8, 9, 10, 11, 12, 13, 14, 15, 16, 17, 18, 19, 20, 21, 22, 23, 24, 25, 26, 27, 28, 29, 30, 31, 32, 33, 34, 35, 36, 37, 38, 39, 40, 41, 42, 43, 44, 45, 46, 47, 48, 49] a w) : (Code.region id ops false).wp P Q a w := region_go hn h
theorem rg51 {P : Program} {ops : Array Oper} {Q : Exit → Act → World → Prop} {a : Act} {w : World} {id : Nat} (hn : List.range ops.size = [0, 1, 2, 3, 4, 5, 6, 7, 8, 9, 10, 11, 12, 13, 14, 15, 16, 17, 18, 19, 20, 21, 22, 23, 24, 25, 26, 27, 28, 29, 30, 31, 32, 33, 34, 35, 36, 37, 38, 39, 40, 41, 42, 43, 44, 45, 46, 47, 48, 49, 50]) (h : wpOps P ops Q [0, 1, 2, 3, 4, 5, 6, 7, 8, 9, 10, 11, 12, 13, 14, 15, 16, 17, 18, 19, 20, 21, 22, 23, 24, 25, 26, 27, 28, 29, 30, 31, 32, 33, 34, 35, 36, 37, 38, 39, 40, 41, 42, 43, 44, 45, 46, 47, 48, 49, 50] a w) : (Code.region id ops false).wp P Q a w := region_go hn h
end Go.Proofs.YtiigncmpbkfhmaaGreatDoor
namespace Go.Proofs.YtiigncmpbkfhmaaGreatDoor
open Go Go.RowKit
inductive Ex where
  | mk (op num : Int) (nm : List UInt8) (A : Option Addr) (c : Nat) (ks : List Ex)
namespace Ex
def op : Ex → Int | .mk x _ _ _ _ _ => x
def num : Ex → Int | .mk _ x _ _ _ _ => x
def nm : Ex → List UInt8 | .mk _ _ x _ _ _ => x
def A : Ex → Option Addr | .mk _ _ _ x _ _ => x
def c : Ex → Nat | .mk _ _ _ _ x _ => x
def ks : Ex → List Ex | .mk _ _ _ _ _ x => x
end Ex
abbrev cE (e : Ex) : List Value := [.int .i64 e.op, .int .i64 e.num, Str e.nm, .slice e.A e.ks.length e.c]
theorem ks_lt {e x : Ex} (h : x ∈ e.ks) : SizeOf.sizeOf x < SizeOf.sizeOf e := by
  cases e with
  | mk o n m A c ks =>
    have := List.sizeOf_lt_of_mem (show x ∈ ks from h)
    simp; omega
inductive ExAt (w : World) : Ex → Prop
  | mk (e : Ex) (hn : e.nm.length ≤ 9223372036854775807 ∧ e.ks.length ≤ 9223372036854775807) (h : ∀ (k : Nat) (x : Ex), e.ks[k]? = some x → ∃ a, e.A = some a ∧ CellsAt w (a.add (k * 4)) (cE x)) (h2 : ∀ (k : Nat) (x : Ex), e.ks[k]? = some x → ExAt w x) : ExAt w e
def ExsAt (w : World) (A : Option Addr) (l : List Ex) : Prop := ∀ (k : Nat) (x : Ex), l[k]? = some x → (∃ a, A = some a ∧ CellsAt w (a.add (k * 4)) (cE x)) ∧ ExAt w x
theorem ExAt.kids {w : World} {e : Ex} (h : ExAt w e) : ExsAt w e.A e.ks := by
  cases h with
  | mk _ _ h1 h2 => exact fun k x hx => ⟨h1 k x hx, h2 k x hx⟩
theorem ExAt.len {w : World} {e : Ex} (h : ExAt w e) : e.nm.length ≤ 9223372036854775807 ∧ e.ks.length ≤ 9223372036854775807 := by
  cases h with
  | mk _ h _ _ => exact h
theorem ExAt.on {w w' : World} {e : Ex} (h : ExAt w e) (hb : Below w.heap.size w w') : ExAt w' e := by
  induction h with
  | mk e hn h1 h2 ih => exact .mk e hn (fun k x hx => (by obtain ⟨a, e1, e2⟩ := h1 k x hx; exact ⟨a, e1, e2.on hb⟩)) ih
theorem ExsAt.on {w w' : World} {A : Option Addr} {l : List Ex} (h : ExsAt w A l) (hb : Below w.heap.size w w') : ExsAt w' A l := fun k x hx => (by
  obtain ⟨⟨a, e1, e2⟩, e3⟩ := h k x hx
  exact ⟨⟨a, e1, e2.on hb⟩, e3.on hb⟩)
theorem Ex.rec_on {p : Ex → Prop} (h : ∀ e, (∀ x ∈ e.ks, p x) → p e) (e : Ex) : p e := by
  have : ∀ (n : Nat) (e : Ex), SizeOf.sizeOf e < n → p e := by
    intro n
    induction n with
    | zero => intro e he; omega
    | succ n ih => intro e he; exact h e fun x hx => ih x (by have := ks_lt hx; omega)
  exact this _ e (Nat.lt_succ_self _)
mutual
def Ex.sz : Ex → Nat
  | .mk _ _ _ _ _ ks => exsSz ks + 1
def exsSz : List Ex → Nat
  | [] => 0
  | x :: r => x.sz + exsSz r
end
mutual
def Ex.dp : Ex → Nat
  | .mk _ _ _ _ _ ks => exsDp ks + 1
def exsDp : List Ex → Nat
  | [] => 0
  | x :: r => max x.dp (exsDp r)
end
theorem sz_eq (e : Ex) : e.sz = exsSz e.ks + 1 := by cases e; rw [Ex.sz]; rfl
theorem dp_eq (e : Ex) : e.dp = exsDp e.ks + 1 := by cases e; rw [Ex.dp]; rfl
theorem exsSz_le {l : List Ex} {i : Nat} : exsSz (l.take i) ≤ exsSz l := by
  induction l generalizing i with
  | nil => simp
  | cons y r ih =>
    cases i with
    | zero => simp [exsSz]
    | succ i => have := ih (i := i); simp only [List.take_succ_cons, exsSz]; omega
theorem exsSz_mem {l : List Ex} {x : Ex} (h : x ∈ l) : x.sz ≤ exsSz l := by
  induction l with
  | nil => cases h
  | cons y r ih =>
    rcases List.mem_cons.1 h with rfl | h
    · simp only [exsSz]; omega
    · have := ih h; simp only [exsSz]; omega
theorem exsSz_len (l : List Ex) : l.length ≤ exsSz l := by
  induction l with
  | nil => exact Nat.zero_le _
  | cons y r ih => have := sz_eq y; simp only [exsSz, List.length_cons]; omega
mutual
def Ex.hf : Ex → Int → Int
  | .mk _ _ m _ _ ks, l => exsHf ks (l - 1 - ((m.length / 20 : Nat) : Int))
def exsHf : List Ex → Int → Int
  | [], l => l
  | x :: r, l => if l < 0 then l else exsHf r (x.hf l)
end
theorem hf_eq (e : Ex) (l : Int) : e.hf l = exsHf e.ks (l - 1 - ((e.nm.length / 20 : Nat) : Int)) := by cases e; rw [Ex.hf]; rfl
theorem exsHf_step {ks : List Ex} {i : Nat} {x : Ex} {l : Int} (h : ks[i]? = some x) (hl : 0 ≤ l) : exsHf (ks.drop i) l = exsHf (ks.drop (i + 1)) (x.hf l) := by
  obtain ⟨hi, rfl⟩ := List.getElem?_eq_some_iff.1 h
  rw [List.drop_eq_getElem_cons hi, exsHf, if_neg (by omega)]
theorem exsHf_neg (ks : List Ex) {l : Int} (h : l < 0) : exsHf ks l = l := by
  cases ks with
  | nil => rw [exsHf]
  | cons x r => rw [exsHf, if_pos h]
theorem hf_sz (e : Ex) : ∀ l : Int, 0 ≤ e.hf l → e.hf l + e.sz ≤ l := by
  induction e using Ex.rec_on with
  | h e ih =>
    intro l h
    rw [hf_eq] at h ⊢
    rw [sz_eq]
    have key : ∀ (ks : List Ex) (l : Int), (∀ x ∈ ks, ∀ l : Int, 0 ≤ x.hf l → x.hf l + x.sz ≤ l) → 0 ≤ exsHf ks l → exsHf ks l + exsSz ks ≤ l := by
      intro ks
      induction ks with
      | nil => intro l _ _; rw [exsHf, exsSz]; omega
      | cons x r ih2 =>
        intro l hx h0
        rw [exsHf] at h0 ⊢
        split at h0
        · omega
        · rename_i hl
          rw [if_neg hl, exsSz]
          have h1 := ih2 _ (fun y hy => hx y (List.mem_cons_of_mem _ hy)) h0
          have h2 := hx x List.mem_cons_self l (by omega)
          omega
    have := key e.ks _ ih h
    omega
abbrev vE (e : Ex) : Value := .agg #[.int .i64 e.op, .int .i64 e.num, Str e.nm, .slice e.A e.ks.length e.c]
end Go.Proofs.YtiigncmpbkfhmaaGreatDoor
namespace Go.Proofs.YtiigncmpbkfhmaaGreatDoor
open Go Go.RowKit
inductive Sm where
  | mk (kind : Int) (nm loc : List UInt8) (ord : Int) (A1 : Option Addr) (c1 : Nat) (es : List Ex) (A2 : Option Addr) (c2 : Nat) (th : List Sm) (A3 : Option Addr) (c3 : Nat) (el : List Sm)
namespace Sm
def kind : Sm → Int | .mk x _ _ _ _ _ _ _ _ _ _ _ _ => x
def nm : Sm → List UInt8 | .mk _ x _ _ _ _ _ _ _ _ _ _ _ => x
def loc : Sm → List UInt8 | .mk _ _ x _ _ _ _ _ _ _ _ _ _ => x
def ord : Sm → Int | .mk _ _ _ x _ _ _ _ _ _ _ _ _ => x
def A1 : Sm → Option Addr | .mk _ _ _ _ x _ _ _ _ _ _ _ _ => x
def c1 : Sm → Nat | .mk _ _ _ _ _ x _ _ _ _ _ _ _ => x
def es : Sm → List Ex | .mk _ _ _ _ _ _ x _ _ _ _ _ _ => x
def A2 : Sm → Option Addr | .mk _ _ _ _ _ _ _ x _ _ _ _ _ => x
def c2 : Sm → Nat | .mk _ _ _ _ _ _ _ _ x _ _ _ _ => x
def th : Sm → List Sm | .mk _ _ _ _ _ _ _ _ _ x _ _ _ => x
def A3 : Sm → Option Addr | .mk _ _ _ _ _ _ _ _ _ _ x _ _ => x
def c3 : Sm → Nat | .mk _ _ _ _ _ _ _ _ _ _ _ x _ => x
def el : Sm → List Sm | .mk _ _ _ _ _ _ _ _ _ _ _ _ x => x
end Sm
abbrev cS (s : Sm) : List Value := [.int .i64 s.kind, Str s.nm, Str s.loc, .int .i64 s.ord, .slice s.A1 s.es.length s.c1, .slice s.A2 s.th.length s.c2, .slice s.A3 s.el.length s.c3]
theorem th_lt {s x : Sm} (h : x ∈ s.th) : SizeOf.sizeOf x < SizeOf.sizeOf s := by
  cases s with
  | mk k n l o A1 c1 es A2 c2 th A3 c3 el =>
    have := List.sizeOf_lt_of_mem (show x ∈ th from h)
    simp; omega
theorem el_lt {s x : Sm} (h : x ∈ s.el) : SizeOf.sizeOf x < SizeOf.sizeOf s := by
  cases s with
  | mk k n l o A1 c1 es A2 c2 th A3 c3 el =>
    have := List.sizeOf_lt_of_mem (show x ∈ el from h)
    simp; omega
inductive SmAt (w : World) : Sm → Prop
  | mk (s : Sm) (hn : s.nm.length ≤ 9223372036854775807 ∧ s.loc.length ≤ 9223372036854775807 ∧ s.es.length ≤ 9223372036854775807 ∧ s.th.length ≤ 9223372036854775807 ∧ s.el.length ≤ 9223372036854775807) (he : ExsAt w s.A1 s.es)
    (ht : ∀ (k : Nat) (x : Sm), s.th[k]? = some x → ∃ a, s.A2 = some a ∧ CellsAt w (a.add (k * 7)) (cS x)) (ht2 : ∀ (k : Nat) (x : Sm), s.th[k]? = some x → SmAt w x)
    (hl : ∀ (k : Nat) (x : Sm), s.el[k]? = some x → ∃ a, s.A3 = some a ∧ CellsAt w (a.add (k * 7)) (cS x)) (hl2 : ∀ (k : Nat) (x : Sm), s.el[k]? = some x → SmAt w x) : SmAt w s
def SmsAt (w : World) (A : Option Addr) (l : List Sm) : Prop := ∀ (k : Nat) (x : Sm), l[k]? = some x → (∃ a, A = some a ∧ CellsAt w (a.add (k * 7)) (cS x)) ∧ SmAt w x
theorem SmAt.exprs {w : World} {s : Sm} (h : SmAt w s) : ExsAt w s.A1 s.es := by
  cases h with
  | mk _ _ he _ _ _ _ => exact he
theorem SmAt.len {w : World} {s : Sm} (h : SmAt w s) : s.nm.length ≤ 9223372036854775807 ∧ s.loc.length ≤ 9223372036854775807 ∧ s.es.length ≤ 9223372036854775807 ∧ s.th.length ≤ 9223372036854775807 ∧ s.el.length ≤ 9223372036854775807 := by
  cases h with
  | mk _ h _ _ _ _ _ => exact h
theorem SmAt.thn {w : World} {s : Sm} (h : SmAt w s) : SmsAt w s.A2 s.th := by
  cases h with
  | mk _ _ _ h1 h2 _ _ => exact fun k x hx => ⟨h1 k x hx, h2 k x hx⟩
theorem SmAt.els {w : World} {s : Sm} (h : SmAt w s) : SmsAt w s.A3 s.el := by
  cases h with
  | mk _ _ _ _ _ h1 h2 => exact fun k x hx => ⟨h1 k x hx, h2 k x hx⟩
theorem SmAt.on {w w' : World} {s : Sm} (h : SmAt w s) (hb : Below w.heap.size w w') : SmAt w' s := by
  induction h with
  | mk s hn he h1 h2 h3 h4 ih1 ih2 => exact .mk s hn (he.on hb) (fun k x hx => (by obtain ⟨a, e1, e2⟩ := h1 k x hx; exact ⟨a, e1, e2.on hb⟩)) ih1 (fun k x hx => (by obtain ⟨a, e1, e2⟩ := h3 k x hx; exact ⟨a, e1, e2.on hb⟩)) ih2
theorem SmsAt.on {w w' : World} {A : Option Addr} {l : List Sm} (h : SmsAt w A l) (hb : Below w.heap.size w w') : SmsAt w' A l := fun k x hx => (by
  obtain ⟨⟨a, e1, e2⟩, e3⟩ := h k x hx
  exact ⟨⟨a, e1, e2.on hb⟩, e3.on hb⟩)
theorem sms_rec {p : List Sm → Prop} (h : ∀ l, (∀ s ∈ l, p s.th ∧ p s.el) → p l) (l : List Sm) : p l := by
  have key : ∀ (n : Nat) (s : Sm), SizeOf.sizeOf s < n → p s.th ∧ p s.el := by
    intro n
    induction n with
    | zero => intro s hs; omega
    | succ n ih => intro s hs; exact ⟨h s.th fun x hx => ih x (by have := th_lt hx; omega), h s.el fun x hx => ih x (by have := el_lt hx; omega)⟩
  exact h l fun s _ => key _ s (Nat.lt_succ_self _)
mutual
def Sm.sz : Sm → Nat
  | .mk _ _ _ _ _ _ es _ _ th _ _ el => exsSz es + smsSz th + smsSz el + 1
def smsSz : List Sm → Nat
  | [] => 0
  | x :: r => x.sz + smsSz r
end
mutual
def Sm.dp : Sm → Nat
  | .mk _ _ _ _ _ _ es _ _ th _ _ el => max (max (smsDp th) (smsDp el)) (exsDp es) + 1
def smsDp : List Sm → Nat
  | [] => 0
  | x :: r => max x.dp (smsDp r)
end
mutual
def Sm.ct (k : Int) : Sm → Nat
  | .mk q _ _ _ _ _ _ _ _ th _ _ el => (if q = k then 1 else 0) + smsCt k th + smsCt k el
def smsCt (k : Int) : List Sm → Nat
  | [] => 0
  | x :: r => x.ct k + smsCt k r
end
theorem sm_sz (s : Sm) : s.sz = exsSz s.es + smsSz s.th + smsSz s.el + 1 := by cases s; rw [Sm.sz]; rfl
theorem sm_dp (s : Sm) : s.dp = max (max (smsDp s.th) (smsDp s.el)) (exsDp s.es) + 1 := by cases s; rw [Sm.dp]; rfl
theorem sm_ct (k : Int) (s : Sm) : s.ct k = (if s.kind = k then 1 else 0) + smsCt k s.th + smsCt k s.el := by cases s; rw [Sm.ct]; rfl
theorem smsCt_take {k : Int} {l : List Sm} {i : Nat} {x : Sm} (h : l[i]? = some x) : smsCt k (l.take (i + 1)) = smsCt k (l.take i) + x.ct k := by
  induction l generalizing i with
  | nil => simp at h
  | cons y r ih =>
    cases i with
    | zero => obtain rfl := Option.some.inj h; simp [smsCt]
    | succ i => have := ih (i := i) (by simpa using h); simp only [List.take_succ_cons, smsCt]; omega
theorem smsSz_le {l : List Sm} {i : Nat} : smsSz (l.take i) ≤ smsSz l := by
  induction l generalizing i with
  | nil => simp
  | cons y r ih =>
    cases i with
    | zero => simp [smsSz]
    | succ i => have := ih (i := i); simp only [List.take_succ_cons, smsSz]; omega
theorem smsSz_mem {l : List Sm} {x : Sm} (h : x ∈ l) : x.sz ≤ smsSz l := by
  induction l with
  | nil => cases h
  | cons y r ih =>
    rcases List.mem_cons.1 h with rfl | h
    · simp only [smsSz]; omega
    · have := ih h; simp only [smsSz]; omega
theorem smsSz_len (l : List Sm) : l.length ≤ smsSz l := by
  induction l with
  | nil => exact Nat.zero_le _
  | cons y r ih => have := sm_sz y; simp only [smsSz, List.length_cons]; omega
mutual
def Sm.hf : Sm → Int → Int
  | .mk _ m o _ _ _ es _ _ th _ _ el, l =>
    let l1 := exsHf es (l - 1 - ((m.length / 20 : Nat) : Int) - ((o.length / 20 : Nat) : Int))
    let l2 := if 0 ≤ l1 then smsHf th l1 else l1
    if 0 ≤ l2 then smsHf el l2 else l2
def smsHf : List Sm → Int → Int
  | [], l => l
  | x :: r, l => if l < 0 then l else smsHf r (x.hf l)
end
def smHf1 (s : Sm) (l : Int) : Int := exsHf s.es (l - 1 - ((s.nm.length / 20 : Nat) : Int) - ((s.loc.length / 20 : Nat) : Int))
def smHf2 (s : Sm) (l : Int) : Int := if 0 ≤ smHf1 s l then smsHf s.th (smHf1 s l) else smHf1 s l
theorem sm_hf (s : Sm) (l : Int) : s.hf l = if 0 ≤ smHf2 s l then smsHf s.el (smHf2 s l) else smHf2 s l := by cases s; rw [Sm.hf]; rfl
theorem smsHf_step {ks : List Sm} {i : Nat} {x : Sm} {l : Int} (h : ks[i]? = some x) (hl : 0 ≤ l) : smsHf (ks.drop i) l = smsHf (ks.drop (i + 1)) (x.hf l) := by
  obtain ⟨hi, rfl⟩ := List.getElem?_eq_some_iff.1 h
  rw [List.drop_eq_getElem_cons hi, smsHf, if_neg (by omega)]
theorem smsHf_neg (ks : List Sm) {l : Int} (h : l < 0) : smsHf ks l = l := by
  cases ks with
  | nil => rw [smsHf]
  | cons x r => rw [smsHf, if_pos h]
theorem exsHf_sz (l : List Ex) : ∀ n : Int, 0 ≤ exsHf l n → exsHf l n + exsSz l ≤ n := by
  induction l with
  | nil => intro n _; rw [exsHf, exsSz]; omega
  | cons x r ih =>
    intro n h0
    rw [exsHf] at h0 ⊢
    split at h0
    · omega
    · rename_i hl
      rw [if_neg hl, exsSz]
      have h1 := ih _ h0
      have h2 := hf_sz x n (by omega)
      omega
theorem smsHf_sz (l : List Sm) : ∀ n : Int, 0 ≤ smsHf l n → smsHf l n + smsSz l ≤ n := by
  induction l using sms_rec with
  | h l ih =>
    induction l with
    | nil => intro n _; rw [smsHf, smsSz]; omega
    | cons y r ih2 =>
      intro n h0
      rw [smsHf] at h0 ⊢
      split at h0
      · omega
      · rename_i hl
        rw [if_neg hl, smsSz]
        have h1 := ih2 (fun s hs => ih s (List.mem_cons_of_mem _ hs)) _ h0
        obtain ⟨h2, h3⟩ := ih y List.mem_cons_self
        have h4 : 0 ≤ y.hf n := by omega
        have h5 : y.hf n + y.sz ≤ n := by
          rw [sm_hf] at h4 ⊢
          split at h4
          · rename_i g2
            rw [if_pos g2]
            have k3 := h3 _ h4
            unfold smHf2 at g2 k3 ⊢
            split at g2
            · rename_i g1
              rw [if_pos g1] at k3 ⊢
              have k2 := h2 _ g2
              unfold smHf1 at g1 k2 k3 ⊢
              have k1 := exsHf_sz y.es _ g1
              rw [sm_sz]; omega
            · omega
          · omega
        omega
abbrev vS (e : Sm) : Value := .agg #[.int .i64 e.kind, Str e.nm, Str e.loc, .int .i64 e.ord, .slice e.A1 e.es.length e.c1, .slice e.A2 e.th.length e.c2, .slice e.A3 e.el.length e.c3]
end Go.Proofs.YtiigncmpbkfhmaaGreatDoor
namespace Go.Proofs.YtiigncmpbkfhmaaGreatDoor
open Go Go.RowKit
def neI (x y : Int) : Bool := !(decide (x = y))
def neS (x y : List UInt8) : Bool := !(decide (x = y))
def exNe (x y : Ex) : Bool := ((neI x.op y.op || neI x.num y.num) || neS x.nm y.nm) || neI ((x.ks.length : Nat) : Int) ((y.ks.length : Nat) : Int)
mutual
def Ex.same : Ex → Ex → Bool
  | .mk o n m A c ks, y => !(exNe (.mk o n m A c ks) y) && exsSame ks y.ks
def exsSame : List Ex → List Ex → Bool
  | x :: r, y :: s => x.same y && exsSame r s
  | _, _ => true
end
theorem same_eq (x y : Ex) : x.same y = (!(exNe x y) && exsSame x.ks y.ks) := by cases x; rw [Ex.same]; rfl
theorem exsSame_step {l m : List Ex} {i : Nat} {x y : Ex} (h : l[i]? = some x) (h2 : m[i]? = some y) : exsSame (l.drop i) (m.drop i) = (x.same y && exsSame (l.drop (i + 1)) (m.drop (i + 1))) := by
  obtain ⟨hi, rfl⟩ := List.getElem?_eq_some_iff.1 h
  obtain ⟨hj, rfl⟩ := List.getElem?_eq_some_iff.1 h2
  rw [List.drop_eq_getElem_cons hi, List.drop_eq_getElem_cons hj, exsSame]
theorem exsSame_end {l m : List Ex} {i : Nat} (h : l.length ≤ i) : exsSame (l.drop i) (m.drop i) = true := by
  rw [List.drop_of_length_le h]; unfold exsSame; rfl
end Go.Proofs.YtiigncmpbkfhmaaGreatDoor
namespace Go.Proofs.YtiigncmpbkfhmaaGreatDoor
open Go Go.RowKit
def smNe (s t : Sm) : Bool := (((neI s.kind t.kind || neS s.nm t.nm) || neS s.loc t.loc) || neI s.ord t.ord) || neI ((s.es.length : Nat) : Int) ((t.es.length : Nat) : Int)
mutual
def Sm.same : Sm → Sm → Bool
  | .mk k n o d A1 c1 es A2 c2 th A3 c3 el, t => !((smNe (.mk k n o d A1 c1 es A2 c2 th A3 c3 el) t || !(!(neI ((th.length : Nat) : Int) ((t.th.length : Nat) : Int)) && smsSame th t.th)) || !(!(neI ((el.length : Nat) : Int) ((t.el.length : Nat) : Int)) && smsSame el t.el)) && exsSame es t.es
def smsSame : List Sm → List Sm → Bool
  | x :: r, y :: s => x.same y && smsSame r s
  | _, _ => true
end
def smsEq (l m : List Sm) : Bool := !(neI ((l.length : Nat) : Int) ((m.length : Nat) : Int)) && smsSame l m
theorem sm_same (s t : Sm) : s.same t = (!((smNe s t || !(smsEq s.th t.th)) || !(smsEq s.el t.el)) && exsSame s.es t.es) := by cases s; rw [Sm.same]; rfl
theorem smsSame_step {l m : List Sm} {i : Nat} {x y : Sm} (h : l[i]? = some x) (h2 : m[i]? = some y) : smsSame (l.drop i) (m.drop i) = (x.same y && smsSame (l.drop (i + 1)) (m.drop (i + 1))) := by
  obtain ⟨hi, rfl⟩ := List.getElem?_eq_some_iff.1 h
  obtain ⟨hj, rfl⟩ := List.getElem?_eq_some_iff.1 h2
  rw [List.drop_eq_getElem_cons hi, List.drop_eq_getElem_cons hj, smsSame]
theorem smsSame_end {l m : List Sm} {i : Nat} (h : l.length ≤ i) : smsSame (l.drop i) (m.drop i) = true := by
  rw [List.drop_of_length_le h]; unfold smsSame; rfl
end Go.Proofs.YtiigncmpbkfhmaaGreatDoor
namespace Go.Proofs.YtiigncmpbkfhmaaGreatDoor
open Go Go.RowKit
structure Dc where
  nm : List UInt8
  plain : Bool
  val : Int
structure Th where
  A : Option Addr
  c : Nat
  l : List Sm
structure Pg where
  A1 : Option Addr
  c1 : Nat
  ds : List Dc
  A2 : Option Addr
  c2 : Nat
  ts : List Th
abbrev cD (d : Dc) : List Value := [Str d.nm, .bool d.plain, .int .i64 d.val]
abbrev cT (t : Th) : List Value := [.slice t.A t.l.length t.c]
structure PgAt (w : World) (p : Pg) : Prop where
  decls : ∀ (k : Nat) (d : Dc), p.ds[k]? = some d → (∃ a, p.A1 = some a ∧ CellsAt w (a.add (k * 3)) (cD d)) ∧ d.nm.length ≤ 9223372036854775807
  threads : ∀ (k : Nat) (t : Th), p.ts[k]? = some t → (∃ a, p.A2 = some a ∧ CellsAt w (a.add (k * 1)) (cT t)) ∧ SmsAt w t.A t.l ∧ t.l.length ≤ 9223372036854775807
  len : p.ds.length ≤ 9223372036854775807 ∧ p.ts.length ≤ 9223372036854775807
theorem PgAt.on {w w' : World} {p : Pg} (h : PgAt w p) (hb : Below w.heap.size w w') : PgAt w' p where
  decls := fun k d hd => (by obtain ⟨⟨a, e1, e2⟩, e3⟩ := h.decls k d hd; exact ⟨⟨a, e1, e2.on hb⟩, e3⟩)
  threads := fun k t ht => (by obtain ⟨⟨a, e1, e2⟩, e3, e4⟩ := h.threads k t ht; exact ⟨⟨a, e1, e2.on hb⟩, e3.on hb, e4⟩)
  len := h.len
def thsSz (l : List Th) : Nat := (l.map fun t => smsSz t.l).sum
def thsDp : List Th → Nat
  | [] => 0
  | t :: r => max (smsDp t.l) (thsDp r)
theorem thsSz_take {l : List Th} {i : Nat} {t : Th} (h : l[i]? = some t) : thsSz (l.take (i + 1)) = thsSz (l.take i) + smsSz t.l := by
  unfold thsSz; rw [List.take_add_one, h]; simp
theorem thsSz_le {l : List Th} {i : Nat} : thsSz (l.take i) ≤ thsSz l := by
  have h : thsSz l = thsSz (l.take i) + thsSz (l.drop i) := by
    unfold thsSz; rw [← List.sum_append_nat, ← List.map_append, List.take_append_drop]
  omega
theorem thsSz_mem {l : List Th} {i : Nat} {t : Th} (h : l[i]? = some t) : smsSz t.l ≤ thsSz l := by
  have h1 := thsSz_take h
  have h2 := thsSz_le (l := l) (i := i + 1)
  omega
def dcsHf : List Dc → Int → Int
  | [], l => l
  | x :: r, l => if l < 0 then l else dcsHf r (l - ((x.nm.length / 20 : Nat) : Int))
def thsHf : List Th → Int → Int
  | [], l => l
  | x :: r, l => if l < 0 then l else thsHf r (smsHf x.l l)
theorem dcsHf_step {ks : List Dc} {i : Nat} {x : Dc} {l : Int} (h : ks[i]? = some x) (hl : 0 ≤ l) : dcsHf (ks.drop i) l = dcsHf (ks.drop (i + 1)) (l - ((x.nm.length / 20 : Nat) : Int)) := by
  obtain ⟨hi, rfl⟩ := List.getElem?_eq_some_iff.1 h
  rw [List.drop_eq_getElem_cons hi, dcsHf, if_neg (by omega)]
theorem dcsHf_neg (ks : List Dc) {l : Int} (h : l < 0) : dcsHf ks l = l := by
  cases ks with
  | nil => rw [dcsHf]
  | cons x r => rw [dcsHf, if_pos h]
theorem thsHf_step {ks : List Th} {i : Nat} {x : Th} {l : Int} (h : ks[i]? = some x) (hl : 0 ≤ l) : thsHf (ks.drop i) l = thsHf (ks.drop (i + 1)) (smsHf x.l l) := by
  obtain ⟨hi, rfl⟩ := List.getElem?_eq_some_iff.1 h
  rw [List.drop_eq_getElem_cons hi, thsHf, if_neg (by omega)]
theorem thsHf_neg (ks : List Th) {l : Int} (h : l < 0) : thsHf ks l = l := by
  cases ks with
  | nil => rw [thsHf]
  | cons x r => rw [thsHf, if_pos h]
theorem dcsHf_le (l : List Dc) : ∀ n : Int, dcsHf l n ≤ n := by
  induction l with
  | nil => intro n; rw [dcsHf]; omega
  | cons x r ih =>
    intro n
    rw [dcsHf]
    split
    · omega
    · have := ih (n - ((x.nm.length / 20 : Nat) : Int)); omega
theorem thsHf_sz (l : List Th) : ∀ n : Int, 0 ≤ thsHf l n → thsHf l n + thsSz l ≤ n := by
  induction l with
  | nil => intro n _; rw [thsHf]; unfold thsSz; simp
  | cons x r ih =>
    intro n h0
    have h2 : thsSz (x :: r) = smsSz x.l + thsSz r := by unfold thsSz; simp
    rw [thsHf] at h0 ⊢
    split at h0
    · omega
    · rename_i hl
      rw [if_neg hl, h2]
      have h1 := ih _ h0
      have h3 := smsHf_sz x.l n (by omega)
      omega
def pgHf (p : Pg) (n : Int) : Int := thsHf p.ts (dcsHf p.ds (n - min (n + 1) ((p.ds.length : Nat) : Int) - min (n + 1) ((p.ts.length : Nat) : Int)))
abbrev vG (q : Pg) : Value := .agg #[.slice q.A1 q.ds.length q.c1, .slice q.A2 q.ts.length q.c2]
end Go.Proofs.YtiigncmpbkfhmaaGreatDoor
namespace Go.Proofs.YtiigncmpbkfhmaaGreatDoor
open Go Go.RowKit
mutual
def Ex.sh : Ex → Bool
  | .mk _ _ m _ _ ks => decide (m.length ≤ 65536) && exsSh ks
def exsSh : List Ex → Bool
  | [] => true
  | x :: r => x.sh && exsSh r
end
theorem ex_sh {e : Ex} (h : e.sh = true) : e.nm.length ≤ 65536 ∧ exsSh e.ks = true := by
  cases e
  rw [Ex.sh, Bool.and_eq_true, decide_eq_true_iff] at h
  exact h
theorem exsSh_mem {l : List Ex} (h : exsSh l = true) {x : Ex} (hx : x ∈ l) : x.sh = true := by
  induction l with
  | nil => cases hx
  | cons y r ih =>
    rw [exsSh, Bool.and_eq_true] at h
    rcases List.mem_cons.1 hx with rfl | hx
    · exact h.1
    · exact ih h.2 hx
mutual
def Sm.sh : Sm → Bool
  | .mk _ m o _ _ _ es _ _ th _ _ el => decide (m.length ≤ 65536) && decide (o.length ≤ 65536) && exsSh es && smsSh th && smsSh el
def smsSh : List Sm → Bool
  | [] => true
  | x :: r => x.sh && smsSh r
end
theorem sm_sh {s : Sm} (h : s.sh = true) : s.nm.length ≤ 65536 ∧ s.loc.length ≤ 65536 ∧ exsSh s.es = true ∧ smsSh s.th = true ∧ smsSh s.el = true := by
  cases s
  simp only [Sm.sh, Bool.and_eq_true, decide_eq_true_iff] at h
  exact ⟨h.1.1.1.1, h.1.1.1.2, h.1.1.2, h.1.2, h.2⟩
theorem smsSh_mem {l : List Sm} (h : smsSh l = true) {x : Sm} (hx : x ∈ l) : x.sh = true := by
  induction l with
  | nil => cases hx
  | cons y r ih =>
    rw [smsSh, Bool.and_eq_true] at h
    rcases List.mem_cons.1 hx with rfl | hx
    · exact h.1
    · exact ih h.2 hx
def pgSh (p : Pg) : Bool := (p.ds.all fun d => decide (d.nm.length ≤ 65536)) && (p.ts.all fun t => smsSh t.l)
theorem pg_sh {p : Pg} (h : pgSh p = true) : (∀ d ∈ p.ds, d.nm.length ≤ 65536) ∧ ∀ t ∈ p.ts, smsSh t.l = true := by
  unfold pgSh at h
  rw [Bool.and_eq_true, List.all_eq_true, List.all_eq_true] at h
  exact ⟨fun d hd => by simpa using h.1 d hd, h.2⟩
theorem exsHf_le (l : List Ex) : ∀ n : Int, 0 ≤ exsHf l n → 0 ≤ n ∧ exsHf l n ≤ n := by
  intro n h
  have h1 := exsHf_sz l n h
  constructor <;> omega
theorem hf_sh (e : Ex) : ∀ n : Int, n ≤ 3200 → 0 ≤ e.hf n → e.sh = true := by
  induction e using Ex.rec_on with
  | h e ih =>
    intro n hn h
    have h0 := hf_eq e n
    rw [h0] at h
    have h1 := exsHf_le _ _ h
    have key : ∀ (ks : List Ex) (v : Int), (∀ x ∈ ks, ∀ n : Int, n ≤ 3200 → 0 ≤ x.hf n → x.sh = true) → v ≤ 3200 → 0 ≤ exsHf ks v → exsSh ks = true := by
      intro ks
      induction ks with
      | nil => intro v _ _ _; rfl
      | cons x r ih2 =>
        intro v hx hv h
        rw [exsHf] at h
        split at h
        · omega
        · have h2 := exsHf_le _ _ h
          have h3 := hf_sz x v h2.1
          rw [exsSh, hx x List.mem_cons_self v hv h2.1, ih2 (x.hf v) (fun y hy => hx y (List.mem_cons_of_mem _ hy)) (by omega) h]
          rfl
    have h2 := key e.ks _ ih (by omega) h
    cases e with
    | mk o nu m A c ks =>
      rw [Ex.sh, Bool.and_eq_true, decide_eq_true_iff]
      refine ⟨?_, h2⟩
      replace h1 : 0 ≤ n - 1 - ((m.length / 20 : Nat) : Int) := h1.1
      omega
theorem exsHf_sh (ks : List Ex) : ∀ v : Int, v ≤ 3200 → 0 ≤ exsHf ks v → exsSh ks = true := by
  induction ks with
  | nil => intro v _ _; rfl
  | cons x r ih2 =>
    intro v hv h
    rw [exsHf] at h
    split at h
    · omega
    · have h2 := exsHf_le _ _ h
      have h3 := hf_sz x v h2.1
      rw [exsSh, hf_sh x v hv h2.1, ih2 (x.hf v) (by omega) h]
      rfl
theorem smsHf_sh (l : List Sm) : ∀ v : Int, v ≤ 3200 → 0 ≤ smsHf l v → smsSh l = true := by
  induction l using sms_rec with
  | h l ih =>
    induction l with
    | nil => intro v _ _; rfl
    | cons y r ih2 =>
      intro v hv h
      rw [smsHf] at h
      split at h
      · omega
      · have h1 := smsHf_sz r _ h
        obtain ⟨it, ie⟩ := ih y List.mem_cons_self
        have hy : 0 ≤ y.hf v := by omega
        have hr : y.hf v ≤ v := by
          have := smsHf_sz [y] v (by rw [smsHf, if_neg (by omega), smsHf]; exact hy)
          rw [smsHf, if_neg (by omega), smsHf] at this
          omega
        rw [smsSh, ih2 (fun s hs => ih s (List.mem_cons_of_mem _ hs)) _ (by omega) h, Bool.and_true]
        rw [sm_hf] at hy
        split at hy
        · rename_i g2
          have k3 := ie (smHf2 y v)
          have g3 := smsHf_sz y.el _ hy
          unfold smHf2 at g2 k3 g3 hy
          split at g2
          · rename_i g1
            rw [if_pos g1] at k3 g3 hy
            have g4 := smsHf_sz y.th _ g2
            have k2 := it (smHf1 y v)
            unfold smHf1 at g1 g2 g3 g4 k2 k3 hy
            have g5 := exsHf_le y.es _ g1
            have k1 := exsHf_sh y.es _ (by omega) g1
            have k2 := k2 (by omega) g2
            have k3 := k3 (by omega) hy
            cases y
            simp only [Sm.sh, Bool.and_eq_true, decide_eq_true_iff]
            have e1 := g5.1
            refine ⟨⟨⟨⟨?_, ?_⟩, k1⟩, k2⟩, k3⟩
            · simp only [Sm.nm, Sm.loc] at e1; omega
            · simp only [Sm.nm, Sm.loc] at e1; omega
          · omega
        · omega
theorem pgHf_sh (p : Pg) (h : 0 ≤ pgHf p 3000) : pgSh p = true := by
  unfold pgHf at h
  have h1 := thsHf_sz _ _ h
  have hd : ∀ (l : List Dc) (n : Int), n ≤ 3000 → 0 ≤ dcsHf l n → ∀ d ∈ l, d.nm.length ≤ 65536 := by
    intro l
    induction l with
    | nil => intro n _ _ d hd; cases hd
    | cons x r ih =>
      intro n hn h d hd
      rw [dcsHf] at h
      split at h
      · omega
      · have h2 := dcsHf_le r (n - ((x.nm.length / 20 : Nat) : Int))
        rcases List.mem_cons.1 hd with rfl | hd
        · omega
        · exact ih _ (by omega) h d hd
  have ht : ∀ (l : List Th) (n : Int), n ≤ 3000 → 0 ≤ thsHf l n → ∀ t ∈ l, smsSh t.l = true := by
    intro l
    induction l with
    | nil => intro n _ _ t ht; cases ht
    | cons x r ih =>
      intro n hn h t ht
      rw [thsHf] at h
      split at h
      · omega
      · have h2 := thsHf_sz r _ h
        have h3 : 0 ≤ smsHf x.l n := by omega
        have h4 := smsHf_sz x.l n h3
        rcases List.mem_cons.1 ht with rfl | ht
        · exact smsHf_sh _ n (by omega) h3
        · exact ih _ (by omega) h t ht
  have h2 := dcsHf_le p.ds (3000 - min (3000 + 1) ((p.ds.length : Nat) : Int) - min (3000 + 1) ((p.ts.length : Nat) : Int))
  unfold pgSh
  rw [Bool.and_eq_true, List.all_eq_true, List.all_eq_true]
  exact ⟨fun d hd' => by rw [decide_eq_true_iff]; exact hd p.ds (3000 - min (3000 + 1) ((p.ds.length : Nat) : Int) - min (3000 + 1) ((p.ts.length : Nat) : Int)) (by omega) (by omega) d hd', ht p.ts _ (Int.le_trans h2 (by omega)) h⟩
end Go.Proofs.YtiigncmpbkfhmaaGreatDoor
namespace Go.Proofs.YtiigncmpbkfhmaaGreatDoor
open Go Go.RowKit
def Nrm (R : Act → World → Prop) : Exit → Act → World → Prop := fun e a w => e = .normal ∧ R a w
def AllL : List Nat → (Nat → Prop) → Prop
  | [], _ => True
  | i :: r, p => p i ∧ AllL r p
theorem AllL.mem {p : Nat → Prop} : ∀ {l : List Nat}, AllL l p → ∀ i ∈ l, p i := by
  intro l
  induction l with
  | nil => intro _ i hi; cases hi
  | cons j r ih =>
    intro h i hi
    rcases List.mem_cons.1 hi with rfl | hi
    · exact h.1
    · exact ih h.2 i hi
section
variable {P : Program} {ops : Array Oper} {Q : Exit → Act → World → Prop} {R K : Act → World → Prop} {a : Act} {n fuel i : Nat} {env : List (Nat × Value)} {w w0 : World} {its : List It} {listed : Array Bool}
theorem wp_cut {c : Code} (R : Act → World → Prop) (h : c.wp P (Nrm R) a w) (h2 : ∀ a w, R a w → Q .normal a w) : c.wp P Q a w :=
  Code.wp_mono (by rintro e a w ⟨rfl, h⟩; exact h2 a w h) h
theorem not_lets : ¬ LetsOut (Nrm R) := by
  rintro ⟨a, w, h, _⟩; cases h
theorem wpOps_one (h : wpOps P ops (Nrm K) [i] a w) : wpOp P ops (Nrm R) i K a w := by
  rw [wpOps_cons] at h
  replace h : wpOp P ops (Nrm K) i K a w := wpOp_mono (fun a w h => h.2) h
  unfold wpOp at h ⊢
  split
  · simpa [*] using h
  · rename_i o ho
    simp only [ho] at h
    split
    · rename_i hw
      rw [if_pos hw] at h
      rcases h with h | ⟨_, h⟩
      · refine .inl ?_
        unfold Oper.wp at h ⊢
        generalize (execOp a.eval o).run P w = r at h ⊢
        cases r with
        | ok x w' =>
          cases x <;> simp only [Oper.upon] at h ⊢ <;> first
            | exact h
            | exact Calls.mono h (fun e w'' he => by
                cases e with
                | returned v => exact he
                | panicked c => cases he.1
                | outgrown => exact absurd he not_lets)
        | halt x w' => cases x <;> simp only [Oper.upon] at h ⊢ <;> first | exact h | cases h.1
      · exact absurd h not_lets
    · rename_i hw
      rw [if_neg hw] at h; exact h
theorem region_tree {id : Nat} (hM : Mem w0 w its) (hm : P.follows .mixedOrders = true) (k : Nat) (hk : ops.size = k) (ls : Array Bool) (hl : Array.replicate k false = ls) (h : ∀ w, Mem w0 w its → wpAny P .any ops (Nrm R) k ls a w) : (Code.region id ops true).wp P (Nrm R) a w := by
  subst hk; subst hl
  exact wp_region_any hm (h _ hM.drew)
theorem tP (hK : Knows a n env) (i d : Nat) (v : Value) (hs : Region.noSelect ops = true) (hc : chk ops env i n d = true) (hf : (Region.free .any ops listed i && (Region.ready .any ops listed).contains i) = true) (hrun : ∀ w, (execOp (evE env) (opAt ops i)).run P w = .ok (.value v) w) (ls : Array Bool) (hl : listed.setIfInBounds i true = ls)
    (h : ∀ a', Knows a' n ((d, v) :: env) → wpAny P .any ops (Nrm R) fuel ls a' w) : wpAny P .any ops (Nrm R) (fuel + 1) listed a w := by
  subst hl
  rw [Bool.and_eq_true] at hf
  obtain ⟨o, ho, h0, hd, hb, hg, hcov⟩ := chk_parts hc
  rw [h0] at hrun
  refine wpAny_take ho hs hf.1 hf.2 (fun c a w h => by cases h.1) (.inl ⟨wanted_of hK hg, fun w => by rw [hK.exec hcov]; exact hrun w⟩) ?_
  rw [hd]; exact h _ (hK.put hb)
theorem tM (lst : List Nat) (hr : Region.ready .any ops listed = lst) (hne : lst.isEmpty = false) (h : AllL lst fun i => wpOps P ops (Nrm (wpAny P .any ops (Nrm R) fuel (listed.setIfInBounds i true))) [i] a w) : wpAny P .any ops (Nrm R) (fuel + 1) listed a w :=
  wpAny_all hr (by intro e; rw [e] at hne; cases hne) fun i hi => wpOps_one (AllL.mem h i hi)
theorem tX (ls : Array Bool) (hl : listed.setIfInBounds i true = ls) (h : wpAny P .any ops (Nrm R) fuel ls a w) : wpOps P ops (Nrm (wpAny P .any ops (Nrm R) fuel (listed.setIfInBounds i true))) [] a w := by
  subst hl; exact ⟨rfl, h⟩
theorem treeE (hr : Region.ready .any ops listed = []) (h : R a w) : wpAny P .any ops (Nrm R) fuel listed a w := wpAny_done hr ⟨rfl, h⟩ fuel
end
theorem Mem.order {w0 w : World} {its : List It} (hM : Mem w0 w its) (segs : List (List It)) (idx : List Nat) (n : Nat) (hn : segs.length = n) (h : its = segs.flatten) (hp : idx.Perm (List.range n)) (its' : List It) (h' : its' = (idx.map fun k => segs.getD k []).flatten) : Mem w0 w its' := by
  subst h; subst h'; subst hn
  refine hM.perm ?_
  have h2 : (idx.map fun k => segs.getD k []).Perm ((List.range segs.length).map fun k => segs.getD k []) := hp.map _
  have h3 : (List.range segs.length).map (fun k => segs.getD k []) = segs := by
    apply List.ext_getElem
    · simp
    · intro i h1 h2; simp [List.getD_eq_getElem?_getD, h2]
  rw [h3] at h2
  exact h2.symm.flatten
theorem Gives.perm {τ : Type} {w0 : World} {f : τ → Value} {g g' : τ → List It} {R : τ → Prop} {e : Ending} {w' : World} (hp : ∀ x, (g x).Perm (g' x)) (h : Gives w0 f g R e w') : Gives w0 f g' R e w' := by
  obtain ⟨x, h1, h2, h3⟩ := h
  exact ⟨x, h1, h2.perm (hp x), h3⟩
end Go.Proofs.YtiigncmpbkfhmaaGreatDoor
namespace Go.Proofs.YtiigncmpbkfhmaaGreatDoor
open Go Go.RowKit
section
variable {σ : Type}
def andW (r : Bool × σ) (k : σ → Bool × σ) : Bool × σ := if r.1 = true then k r.2 else r
theorem andW_t (s : σ) (k : σ → Bool × σ) : andW (true, s) k = k s := rfl
theorem andW_f (s : σ) (k : σ → Bool × σ) : andW (false, s) k = (false, s) := rfl
mutual
def Ex.wk (f : Ex → Nat → σ → Bool × σ) : Ex → Nat → σ → Bool × σ
  | .mk o n m A c ks, d, s => andW (f (.mk o n m A c ks) d s) fun s => exsWk f ks (d + 1) s
def exsWk (f : Ex → Nat → σ → Bool × σ) : List Ex → Nat → σ → Bool × σ
  | [], _, s => (true, s)
  | x :: r, d, s => andW (x.wk f d s) fun s => exsWk f r d s
end
mutual
def Sm.wk (f : Ex → Nat → σ → Bool × σ) (g : Sm → Nat → σ → Bool × σ) : Sm → Nat → σ → Bool × σ
  | .mk k n l o A1 c1 es A2 c2 th A3 c3 el, d, s => andW (g (.mk k n l o A1 c1 es A2 c2 th A3 c3 el) d s) fun s => andW (andW (exsWk f es (d + 1) s) fun s => smsWk f g th (d + 1) s) fun s => smsWk f g el (d + 1) s
def smsWk (f : Ex → Nat → σ → Bool × σ) (g : Sm → Nat → σ → Bool × σ) : List Sm → Nat → σ → Bool × σ
  | [], _, s => (true, s)
  | x :: r, d, s => andW (x.wk f g d s) fun s => smsWk f g r d s
end
def walkW (f : Ex → Nat → σ → Bool × σ) (g : Sm → Nat → σ → Bool × σ) (es : List Ex) (ss : List Sm) (d : Nat) (s : σ) : Bool × σ := andW (exsWk f es d s) fun s => smsWk f g ss d s
def thsWk (f : Ex → Nat → σ → Bool × σ) (g : Sm → Nat → σ → Bool × σ) : List Th → σ → Bool × σ
  | [], s => (true, s)
  | t :: r, s => andW (smsWk f g t.l 1 s) fun s => thsWk f g r s
variable {f : Ex → Nat → σ → Bool × σ} {g : Sm → Nat → σ → Bool × σ} {es : List Ex} {ss : List Sm} {ts : List Th} {d i : Nat} {s s1 s2 s3 s4 : σ} {b : Bool} {W : Bool × σ} {x : Ex} {y : Sm} {t : Th}
theorem ex_wk (e : Ex) : e.wk f d s = andW (f e d s) fun s => exsWk f e.ks (d + 1) s := by cases e; rw [Ex.wk]; rfl
theorem sm_wk (e : Sm) : e.wk f g d s = andW (g e d s) fun s => andW (walkW f g e.es e.th (d + 1) s) fun s => smsWk f g e.el (d + 1) s := by cases e; rw [Sm.wk]; rfl
theorem walkW_e : walkW f g es [] d s = exsWk f es d s := by
  unfold walkW
  generalize exsWk f es d s = r
  obtain ⟨b, s'⟩ := r
  cases b <;> simp [andW, smsWk]
theorem walkW_s : walkW f g [] ss d s = smsWk f g ss d s := by unfold walkW; rw [exsWk]; rfl
theorem walkW_stop (h : exsWk f es d s = (false, s2)) : walkW f g es ss d s = (false, s2) := by unfold walkW; rw [h]; rfl
theorem walkW_go (h : exsWk f es d s = (true, s2)) : walkW f g es ss d s = smsWk f g ss d s2 := by unfold walkW; rw [h]; rfl
theorem exs_at (hx : es[i]? = some x) : exsWk f (es.drop i) d s = andW (x.wk f d s) fun s => exsWk f (es.drop (i + 1)) d s := by
  obtain ⟨hi, rfl⟩ := List.getElem?_eq_some_iff.1 hx
  rw [List.drop_eq_getElem_cons hi, exsWk]
theorem sms_at (hx : ss[i]? = some y) : smsWk f g (ss.drop i) d s = andW (y.wk f g d s) fun s => smsWk f g (ss.drop (i + 1)) d s := by
  obtain ⟨hi, rfl⟩ := List.getElem?_eq_some_iff.1 hx
  rw [List.drop_eq_getElem_cons hi, smsWk]
theorem ths_at (hx : ts[i]? = some t) : thsWk f g (ts.drop i) s = andW (smsWk f g t.l 1 s) fun s => thsWk f g (ts.drop (i + 1)) s := by
  obtain ⟨hi, rfl⟩ := List.getElem?_eq_some_iff.1 hx
  rw [List.drop_eq_getElem_cons hi, thsWk]
theorem exs_end (h : es.length ≤ i) : exsWk f (es.drop i) d s = (true, s) := by rw [List.drop_of_length_le h, exsWk]
theorem sms_end (h : ss.length ≤ i) : smsWk f g (ss.drop i) d s = (true, s) := by rw [List.drop_of_length_le h, smsWk]
theorem ths_end (h : ts.length ≤ i) : thsWk f g (ts.drop i) s = (true, s) := by rw [List.drop_of_length_le h, thsWk]
theorem exs_stop (hx : es[i]? = some x) (h1 : exsWk f (es.drop i) d s1 = W) (h2 : x.wk f d s1 = (false, s2)) : W = (false, s2) := by rw [← h1, exs_at hx, h2]; rfl
theorem exs_next (hx : es[i]? = some x) (h1 : exsWk f (es.drop i) d s1 = W) (h2 : x.wk f d s1 = (true, s2)) : exsWk f (es.drop (i + 1)) d s2 = W := by rw [← h1, exs_at hx, h2]; rfl
theorem sms_stop (hx : ss[i]? = some y) (h1 : smsWk f g (ss.drop i) d s1 = W) (h2 : y.wk f g d s1 = (false, s2)) : W = (false, s2) := by rw [← h1, sms_at hx, h2]; rfl
theorem sms_next (hx : ss[i]? = some y) (h1 : smsWk f g (ss.drop i) d s1 = W) (h2 : y.wk f g d s1 = (true, s2)) : smsWk f g (ss.drop (i + 1)) d s2 = W := by rw [← h1, sms_at hx, h2]; rfl
theorem ths_stop (hx : ts[i]? = some t) (h1 : thsWk f g (ts.drop i) s1 = W) (h2 : smsWk f g t.l 1 s1 = (false, s2)) : W = (false, s2) := by rw [← h1, ths_at hx, h2]; rfl
theorem ths_next (hx : ts[i]? = some t) (h1 : thsWk f g (ts.drop i) s1 = W) (h2 : smsWk f g t.l 1 s1 = (true, s2)) : thsWk f g (ts.drop (i + 1)) s2 = W := by rw [← h1, ths_at hx, h2]; rfl
theorem ex_stop1 (h : f x d s1 = (false, s2)) : x.wk f d s1 = (false, s2) := by rw [ex_wk, h]; rfl
theorem ex_kids (h : f x d s1 = (true, s2)) (h2 : exsWk f x.ks (d + 1) s2 = (b, s3)) : x.wk f d s1 = (b, s3) := by rw [ex_wk, h, andW_t, h2]
theorem sm_stop1 (h : g y d s1 = (false, s2)) : y.wk f g d s1 = (false, s2) := by rw [sm_wk, h]; rfl
theorem sm_th (h : g y d s1 = (true, s2)) (h2 : walkW f g y.es y.th (d + 1) s2 = (false, s3)) : y.wk f g d s1 = (false, s3) := by rw [sm_wk, h, andW_t, h2]; rfl
theorem sm_el (h : g y d s1 = (true, s2)) (h2 : walkW f g y.es y.th (d + 1) s2 = (true, s3)) (h3 : smsWk f g y.el (d + 1) s3 = (b, s4)) : y.wk f g d s1 = (b, s4) := by rw [sm_wk, h, andW_t, h2, andW_t, h3]
theorem bt_of {r : Bool} (h : (!r) = false) : r = true := by simpa using h
theorem bf_of {r : Bool} (h : (!r) = true) : r = false := by simpa using h
theorem pair_of {r r' : Bool} (h : (r, s1) = W) (e : r = r') : (r', s1) = W := by rw [← h, e]
end
theorem exsSz_drop {l : List Ex} {i : Nat} {x : Ex} (h : l[i]? = some x) : exsSz (l.drop i) = x.sz + exsSz (l.drop (i + 1)) := by
  obtain ⟨hi, rfl⟩ := List.getElem?_eq_some_iff.1 h
  rw [List.drop_eq_getElem_cons hi, exsSz]
theorem smsSz_drop {l : List Sm} {i : Nat} {x : Sm} (h : l[i]? = some x) : smsSz (l.drop i) = x.sz + smsSz (l.drop (i + 1)) := by
  obtain ⟨hi, rfl⟩ := List.getElem?_eq_some_iff.1 h
  rw [List.drop_eq_getElem_cons hi, smsSz]
theorem thsSz_drop {l : List Th} {i : Nat} {x : Th} (h : l[i]? = some x) : thsSz (l.drop i) = smsSz x.l + thsSz (l.drop (i + 1)) := by
  obtain ⟨hi, rfl⟩ := List.getElem?_eq_some_iff.1 h
  rw [List.drop_eq_getElem_cons hi]; rfl
theorem exsSz_end {l : List Ex} {i : Nat} (h : l.length ≤ i) : exsSz (l.drop i) = 0 := by rw [List.drop_of_length_le h, exsSz]
theorem smsSz_end {l : List Sm} {i : Nat} (h : l.length ≤ i) : smsSz (l.drop i) = 0 := by rw [List.drop_of_length_le h, smsSz]
theorem thsSz_end {l : List Th} {i : Nat} (h : l.length ≤ i) : thsSz (l.drop i) = 0 := by rw [List.drop_of_length_le h]; rfl
structure StepE {σ : Type} (w0 : World) (G : σ → List It) (ok : Nat → σ → Prop) (f : Ex → Nat → σ → Bool × σ) (fe : FuncId) (ce : Array Value) : Prop where
  enters : Enters Tryz.prog fe
  call : ∀ (e : Ex) (d k : Nat) (s : σ) (F : List It) (w : World), Mem w0 w (G s ++ F) → ExAt w e → e.sh = true → d ≤ 1000000 → ok (k + 1) s → Calls Tryz.prog fe (#[vE e, vN d] ++ ce) w (Gives w0 (fun r : Bool × σ => .bool r.1) (fun r => G r.2 ++ F) fun r => r = f e d s)
  ok : ∀ (e : Ex) (d k : Nat) (s : σ), ok (k + 1) s → (f e d s).1 = true → ok k (f e d s).2
structure StepS {σ : Type} (w0 : World) (G : σ → List It) (ok : Nat → σ → Prop) (g : Sm → Nat → σ → Bool × σ) (fs : FuncId) (cs : Array Value) : Prop where
  enters : Enters Tryz.prog fs
  call : ∀ (e : Sm) (d k : Nat) (s : σ) (F : List It) (w : World), Mem w0 w (G s ++ F) → SmAt w e → e.sh = true → d ≤ 1000000 → ok (k + 1) s → Calls Tryz.prog fs (#[vS e, vN d] ++ cs) w (Gives w0 (fun r : Bool × σ => .bool r.1) (fun r => G r.2 ++ F) fun r => r = g e d s)
  ok : ∀ (e : Sm) (d k : Nat) (s : σ), ok (k + 1) s → (g e d s).1 = true → ok k (g e d s).2
theorem ok_eq {σ : Type} {ok : Nat → σ → Prop} {n m : Nat} {s : σ} (h : ok n s) (e : n = m) : ok m s := e ▸ h
theorem StepE.next {σ : Type} {w0 : World} {G : σ → List It} {ok : Nat → σ → Prop} {f : Ex → Nat → σ → Bool × σ} {fe : FuncId} {ce : Array Value} (h : StepE w0 G ok f fe ce) {e : Ex} {d k n : Nat} {s s2 : σ} (hk : ok n s) (en : n = k + 1) (hr : f e d s = (true, s2)) : ok k s2 := by
  have := h.ok e d k s (ok_eq hk en) (by rw [hr])
  rw [hr] at this; exact this
theorem StepS.next {σ : Type} {w0 : World} {G : σ → List It} {ok : Nat → σ → Prop} {f : Sm → Nat → σ → Bool × σ} {fe : FuncId} {ce : Array Value} (h : StepS w0 G ok f fe ce) {e : Sm} {d k n : Nat} {s s2 : σ} (hk : ok n s) (en : n = k + 1) (hr : f e d s = (true, s2)) : ok k s2 := by
  have := h.ok e d k s (ok_eq hk en) (by rw [hr])
  rw [hr] at this; exact this
end Go.Proofs.YtiigncmpbkfhmaaGreatDoor
namespace Go.Proofs.YtiigncmpbkfhmaaGreatDoor
open Go Go.RowKit
theorem en_cantileverkit_heft : Enters Tryz.prog 24 := enters_of Tryz.func24 (by kernel_rfl) rfl
theorem en_cantileverkit_hefts : Enters Tryz.prog 23 := enters_of Tryz.func23 (by kernel_rfl) rfl
theorem en_cantileverkit_Light : Enters Tryz.prog 6 := enters_of Tryz.func6 (by kernel_rfl) rfl
set_option maxRecDepth 100000 in
set_option maxHeartbeats 4000000 in
theorem kit_heft (e : Ex) : ∀ (n : Int) (w0 : World), ExAt w0 e → 0 ≤ n → n ≤ 1000000 → Calls Tryz.prog 24 #[vE e, .int .i64 n] w0 (Ret w0 (.int .i64 (e.hf n))) := by
 induction e using Ex.rec_on
 rename_i e ih
 intro n w0 he hn0 hn1
 have hln := he.len
 refine calls_K (args := [vE e, .int .i64 n]) (n := 32) (env := [(0, vE e), (1, .int .i64 n)]) Tryz.func24 rfl rfl rfl ⟨rfl, rfl, trivial⟩ fun a w hK hM => ?_
 refine wp_seq ?_
 refine rg2 (by kernel_rfl) ?_
 refine sA hK hM 2 28 (cE e) (fun b => pA b 0) (by kernel_rfl) (by kernel_rfl) fun b1 a w hK hM => ?_
 refine sP hK 4 (.int .i64 0) (by kernel_rfl) (by kernel_rfl) fun a hK => ?_
 refine rps ?_
 refine wp_seq ?_
 refine rg8 (by kernel_rfl) ?_
 refine sM hK 6 1 (by kernel_rfl) (.inl rfl) rfl fun a hK => ?_
 refine sP hK 7 (.int .i64 (n - 1)) (by kernel_rfl) (run_subZ rfl rfl rfl (by omega) (by omega)) fun a hK => ?_
 refine sP hK 8 (pA b1 2) (by kernel_rfl) (by kernel_rfl) fun a hK => ?_
 refine sL hK 9 (Str e.nm) (by kernel_rfl) rfl rfl ((hM.row 0 rfl).cells 2 1) (by kernel_rfl) fun a hK => ?_
 refine sP hK 10 (.int .i64 ((e.nm.length : Nat) : Int)) (by kernel_rfl) (by kernel_rfl) fun a hK => ?_
 refine sP hK 11 (.int .i64 (((e.nm.length / 20) : Nat) : Int)) (by kernel_rfl) (run_quoN (i := e.nm.length) (j := 20) rfl rfl rfl (by decide) (by omega)) fun a hK => ?_
 refine sP hK 12 (.int .i64 ((n - 1) - (((e.nm.length / 20) : Nat) : Int))) (by kernel_rfl) (run_subZ rfl rfl rfl (by omega) (by omega)) fun a hK => ?_
 refine sM hK 1 12 (by kernel_rfl) (.inr rfl) rfl fun a hK => ?_
 refine rps ?_
 refine wp_seq ?_
 refine wp_seq ?_
 refine rg1 (by kernel_rfl) ?_
 refine sP hK 5 (.int .i64 0) (by kernel_rfl) (by kernel_rfl) fun a hK => ?_
 refine rps ?_
 refine wp_block ?_
 refine wLX (fun x : Nat × Int => [(4, .int .i64 0), (2, pA b1 0), (0, vE e), (5, .int .i64 ((x.1 : Nat) : Int)), (1, .int .i64 x.2)]) (fun x : Nat × Int => [.row b1 28 (cE e)]) (fun x : Nat × Int => x.1 ≤ e.ks.length ∧ exsHf (e.ks.drop x.1) x.2 = e.hf n ∧ x.2 ≤ 1000000) (fun x : Nat × Int => e.ks.length - x.1) (0, ((n - 1) - (((e.nm.length / 20) : Nat) : Int))) (hK.sub ⟨rfl, rfl, rfl, rfl, rfl, trivial⟩) hM ⟨Nat.zero_le _, by rw [List.drop_zero, hf_eq], by omega⟩ ?_
 rintro ⟨i, v⟩ a w hK hM hR
 replace hK : Knows a 32 [(4, .int .i64 0), (2, pA b1 0), (0, vE e), (5, vN i), (1, .int .i64 v)] := hK
 replace hM : Mem w0 w [.row b1 28 (cE e)] := hM
 replace hR : i ≤ e.ks.length ∧ exsHf (e.ks.drop i) v = e.hf n ∧ v ≤ 1000000 := hR
 refine wp_seq ?_
 refine wp_seq ?_
 refine rg9 (by kernel_rfl) ?_
 refine sM hK 13 5 (by kernel_rfl) (.inl rfl) rfl fun a hK => ?_
 refine sP hK 14 (pA b1 3) (by kernel_rfl) (by kernel_rfl) fun a hK => ?_
 refine sL hK 15 (.slice e.A e.ks.length e.c) (by kernel_rfl) rfl rfl ((hM.row 0 rfl).cells 3 1) (by kernel_rfl) fun a hK => ?_
 refine sP hK 16 (.int .i64 ((e.ks.length : Nat) : Int)) (by kernel_rfl) (by kernel_rfl) fun a hK => ?_
 by_cases h2 : (((i : Nat) : Int) : Int) < ((e.ks.length : Nat) : Int)
 ·refine sP hK 17 (.bool true) (by kernel_rfl) (oB (b := (decide ((((i : Nat) : Int) : Int) < ((e.ks.length : Nat) : Int)))) (by kernel_rfl) (decide_eq_true h2)) fun a hK => ?_
  refine sM hK 18 17 (by kernel_rfl) (.inl rfl) rfl fun a hK => ?_
  refine sM hK 19 1 (by kernel_rfl) (.inl rfl) rfl fun a hK => ?_
  by_cases h3 : (0 : Int) ≤ v
  ·refine sP hK 20 (.bool true) (by kernel_rfl) (oB (b := (decide ((0 : Int) ≤ v))) (by kernel_rfl) (decide_eq_true h3)) fun a hK => ?_
   refine sP hK 21 (.bool true) (by kernel_rfl) (by kernel_rfl) fun a hK => ?_
   refine rps ?_
   refine wp_cond_true (hK.get rfl) ?_
   refine wp_skip ?_
   refine wp_seq ?_
   refine wp_block ?_
   refine rg8 (by kernel_rfl) ?_
   refine sP hK 24 (pA b1 3) (by kernel_rfl) (by kernel_rfl) fun a hK => ?_
   refine sL hK 25 (.slice e.A e.ks.length e.c) (by kernel_rfl) rfl rfl ((hM.row 0 rfl).cells 3 1) (by kernel_rfl) fun a hK => ?_
   refine sM hK 26 5 (by kernel_rfl) (.inl rfl) rfl fun a hK => ?_
   obtain ⟨t4, ht4⟩ : ∃ t, e.ks[(i : Nat)]? = some t := ⟨_, List.getElem?_eq_getElem (by omega)⟩
   obtain ⟨⟨at4, At4, ct4⟩, et4⟩ := he.kids _ _ ht4; have nt4 := et4.len
   refine sP hK 27 (.pointer (some (at4.add (i * 4)))) (by kernel_rfl) (rX (k := i) (s := 4) rfl rfl At4 rfl Tryz.underlying26 (by kernel_rfl) (by omega)) fun a hK => ?_
   refine sL hK 28 (vE t4) (by kernel_rfl) rfl rfl ((ct4.on hM.below)) (by kernel_rfl) fun a hK => ?_
   refine sM hK 29 1 (by kernel_rfl) (.inl rfl) rfl fun a hK => ?_
   refine sR hK hM 30 #[vE t4, .int .i64 v] (.int .i64 (t4.hf v)) (by kernel_rfl) (rC en_cantileverkit_heft rfl rfl (by kernel_rfl)) (ih t4 (List.mem_of_getElem? ht4) v _ (et4.on hM.below) (by omega) (by omega)) fun a w hK hM => ?_
   refine sM hK 1 30 (by kernel_rfl) (.inr rfl) rfl fun a hK => ?_
   refine rps ?_
   refine rg3 (by kernel_rfl) ?_
   refine sM hK 22 5 (by kernel_rfl) (.inl rfl) rfl fun a hK => ?_
   refine sP hK 23 (.int .i64 (((i + 1) : Nat) : Int)) (by kernel_rfl) (run_addN (i := i) (j := 1) rfl rfl rfl (by omega)) fun a hK => ?_
   refine sM hK 5 23 (by kernel_rfl) (.inr rfl) rfl fun a hK => ?_
   refine rps ?_
   have hRn : (i + 1) ≤ e.ks.length ∧ exsHf (e.ks.drop (i + 1)) ((t4.hf v)) = e.hf n ∧ ((t4.hf v)) ≤ 1000000 := ⟨by omega, by rw [← exsHf_step ht4 (by omega)]; exact hR.2.1, by have h1 := hf_sz t4 v; omega⟩
   have hmn : e.ks.length - (i + 1) < e.ks.length - i := by omega
   exact ⟨(i + 1, (t4.hf v)), hK.sub ⟨rfl, rfl, rfl, rfl, rfl, trivial⟩, hM, hRn, hmn⟩
  ·refine sP hK 20 (.bool false) (by kernel_rfl) (oB (b := (decide ((0 : Int) ≤ v))) (by kernel_rfl) (decide_eq_false h3)) fun a hK => ?_
   refine sP hK 21 (.bool false) (by kernel_rfl) (by kernel_rfl) fun a hK => ?_
   refine rps ?_
   refine wp_cond_false (hK.get rfl) ?_
   refine wp_exit (exit_then (exit_then (exit_here 0 ?_)))
   refine wp_seq ?_
   refine rg2 (by kernel_rfl) ?_
   refine sM hK 31 1 (by kernel_rfl) (.inl rfl) rfl fun a hK => ?_
   refine sM hK 4 31 (by kernel_rfl) (.inr rfl) rfl fun a hK => ?_
   refine rps ?_
   refine wp_ret ?_
   exact ret_t hK rfl (u := (.int .i64 v)) rfl (⟨by rw [← hR.2.1]; first | rw [exsHf_neg _ (by omega)] | (rw [List.drop_of_length_le (by omega), exsHf]), hM.below⟩)
 ·refine sP hK 17 (.bool false) (by kernel_rfl) (oB (b := (decide ((((i : Nat) : Int) : Int) < ((e.ks.length : Nat) : Int)))) (by kernel_rfl) (decide_eq_false h2)) fun a hK => ?_
  refine sM hK 18 17 (by kernel_rfl) (.inl rfl) rfl fun a hK => ?_
  refine sN hK 19 (by kernel_rfl) fun a hK => ?_
  refine sN hK 20 (by kernel_rfl) fun a hK => ?_
  refine sP hK 21 (.bool false) (by kernel_rfl) (by kernel_rfl) fun a hK => ?_
  refine rps ?_
  refine wp_cond_false (hK.get rfl) ?_
  refine wp_exit (exit_then (exit_then (exit_here 0 ?_)))
  refine wp_seq ?_
  refine rg2 (by kernel_rfl) ?_
  refine sM hK 31 1 (by kernel_rfl) (.inl rfl) rfl fun a hK => ?_
  refine sM hK 4 31 (by kernel_rfl) (.inr rfl) rfl fun a hK => ?_
  refine rps ?_
  refine wp_ret ?_
  exact ret_t hK rfl (u := (.int .i64 v)) rfl (⟨by rw [← hR.2.1]; first | rw [exsHf_neg _ (by omega)] | (rw [List.drop_of_length_le (by omega), exsHf]), hM.below⟩)
set_option maxRecDepth 100000 in
set_option maxHeartbeats 4000000 in
theorem kit_hefts (l : List Sm) : ∀ (A : Option Addr) (c : Nat) (n : Int) (w0 : World), SmsAt w0 A l → l.length ≤ 9223372036854775807 → 0 ≤ n → n ≤ 1000000 → Calls Tryz.prog 23 #[.slice A l.length c, .int .i64 n] w0 (Ret w0 (.int .i64 (smsHf l n))) := by
 induction l using sms_rec
 rename_i l ih
 intro A c n w0 hl hln hn0 hn1
 refine calls_K (args := [.slice A l.length c, .int .i64 n]) (n := 78) (env := [(0, .slice A l.length c), (1, .int .i64 n)]) Tryz.func23 rfl rfl rfl ⟨rfl, rfl, trivial⟩ fun a w hK hM => ?_
 refine wp_seq ?_
 refine rg1 (by kernel_rfl) ?_
 refine sP hK 4 (.int .i64 0) (by kernel_rfl) (by kernel_rfl) fun a hK => ?_
 refine rps ?_
 refine wp_seq ?_
 refine wp_seq ?_
 refine rg1 (by kernel_rfl) ?_
 refine sP hK 5 (.int .i64 0) (by kernel_rfl) (by kernel_rfl) fun a hK => ?_
 refine rps ?_
 refine wp_block ?_
 refine wLX (fun x : Nat × Int => [(4, .int .i64 0), (0, .slice A l.length c), (5, .int .i64 ((x.1 : Nat) : Int)), (1, .int .i64 x.2)]) (fun x : Nat × Int => []) (fun x : Nat × Int => x.1 ≤ l.length ∧ smsHf (l.drop x.1) x.2 = smsHf l n ∧ x.2 ≤ 1000000) (fun x : Nat × Int => l.length - x.1) (0, n) (hK.sub ⟨rfl, rfl, rfl, rfl, trivial⟩) hM ⟨Nat.zero_le _, rfl, hn1⟩ ?_
 rintro ⟨i, v⟩ a w hK hM hR
 replace hK : Knows a 78 [(4, .int .i64 0), (0, .slice A l.length c), (5, vN i), (1, .int .i64 v)] := hK
 replace hM : Mem w0 w [] := hM
 replace hR : i ≤ l.length ∧ smsHf (l.drop i) v = smsHf l n ∧ v ≤ 1000000 := hR
 refine wp_seq ?_
 refine wp_seq ?_
 refine rg8 (by kernel_rfl) ?_
 refine sM hK 7 5 (by kernel_rfl) (.inl rfl) rfl fun a hK => ?_
 refine sM hK 8 0 (by kernel_rfl) (.inl rfl) rfl fun a hK => ?_
 refine sP hK 9 (.int .i64 ((l.length : Nat) : Int)) (by kernel_rfl) (by kernel_rfl) fun a hK => ?_
 by_cases h1 : (((i : Nat) : Int) : Int) < ((l.length : Nat) : Int)
 ·refine sP hK 10 (.bool true) (by kernel_rfl) (oB (b := (decide ((((i : Nat) : Int) : Int) < ((l.length : Nat) : Int)))) (by kernel_rfl) (decide_eq_true h1)) fun a hK => ?_
  refine sM hK 11 10 (by kernel_rfl) (.inl rfl) rfl fun a hK => ?_
  refine sM hK 12 1 (by kernel_rfl) (.inl rfl) rfl fun a hK => ?_
  by_cases h2 : (0 : Int) ≤ v
  ·refine sP hK 13 (.bool true) (by kernel_rfl) (oB (b := (decide ((0 : Int) ≤ v))) (by kernel_rfl) (decide_eq_true h2)) fun a hK => ?_
   refine sP hK 14 (.bool true) (by kernel_rfl) (by kernel_rfl) fun a hK => ?_
   refine rps ?_
   refine wp_cond_true (hK.get rfl) ?_
   refine wp_skip ?_
   refine wp_seq ?_
   refine wp_block ?_
   refine wp_seq ?_
   obtain ⟨t3, ht3⟩ : ∃ t, l[(i : Nat)]? = some t := ⟨_, List.getElem?_eq_getElem (by omega)⟩
   obtain ⟨⟨at3, At3, ct3⟩, et3⟩ := hl _ _ ht3; have nt3 := et3.len
   refine region_made (F := fun w => Mem w0 w []) hK hM [.val (.int .i64 v), .val (.int .i64 (v - 1)), .val (.slice A l.length c), .val (vN i), .val (.pointer (some (at3.add (i * 7)))), .val (.pointer (some ((at3.add (i * 7)).add 1))), .val (Str t3.nm), .val (.int .i64 ((t3.nm.length : Nat) : Int)), .val (.int .i64 (((t3.nm.length / 20) : Nat) : Int)), .val (.int .i64 ((v - 1) - (((t3.nm.length / 20) : Nat) : Int))), .val (.slice A l.length c), .val (vN i), .val (.pointer (some (at3.add (i * 7)))), .val (.pointer (some ((at3.add (i * 7)).add 2))), .val (Str t3.loc), .val (.int .i64 ((t3.loc.length : Nat) : Int)), .val (.int .i64 (((t3.loc.length / 20) : Nat) : Int)), .val (.int .i64 (((v - 1) - (((t3.nm.length / 20) : Nat) : Int)) - (((t3.loc.length / 20) : Nat) : Int))), .val (.int .i64 (((v - 1) - (((t3.nm.length / 20) : Nat) : Int)) - (((t3.loc.length / 20) : Nat) : Int)))] 19 (fun _ h => h) (by kernel_rfl) (by kernel_rfl) ⟨⟨⟨⟨⟨⟨⟨⟨⟨⟨⟨⟨⟨⟨⟨⟨⟨⟨⟨trivial, ?_⟩, ?_⟩, ?_⟩, ?_⟩, ?_⟩, ?_⟩, ?_⟩, ?_⟩, ?_⟩, ?_⟩, ?_⟩, ?_⟩, ?_⟩, ?_⟩, ?_⟩, ?_⟩, ?_⟩, ?_⟩, ?_⟩ (fun β => [(1, .int .i64 (((v - 1) - (((t3.nm.length / 20) : Nat) : Int)) - (((t3.loc.length / 20) : Nat) : Int))), (14, .bool true), (4, .int .i64 0), (0, .slice A l.length c), (5, vN i)]) (fun β => by kernel_rfl) ?_
   ·exact .val (.int .i64 v) rfl (fun β => by kernel_rfl) (fun β w hM => (by kernel_rfl))
   ·exact .val (.int .i64 (v - 1)) rfl (fun β => by kernel_rfl) (fun β w hM => (run_subZ rfl rfl rfl (by omega) (by omega)))
   ·exact .val (.slice A l.length c) rfl (fun β => by kernel_rfl) (fun β w hM => (by kernel_rfl))
   ·exact .val (vN i) rfl (fun β => by kernel_rfl) (fun β w hM => (by kernel_rfl))
   ·exact .val (.pointer (some (at3.add (i * 7)))) rfl (fun β => by kernel_rfl) (fun β w hM => (rX (k := i) (s := 7) rfl rfl At3 rfl Tryz.underlying38 (by kernel_rfl) (by omega)))
   ·exact .val (.pointer (some ((at3.add (i * 7)).add 1))) rfl (fun β => by kernel_rfl) (fun β w hM => (by kernel_rfl))
   ·exact .val (Str t3.nm) rfl (fun β => by kernel_rfl) (fun β w hM => rL rfl rfl (((ct3.on hM.below)).addA 1 1 (by decide)) (by kernel_rfl))
   ·exact .val (.int .i64 ((t3.nm.length : Nat) : Int)) rfl (fun β => by kernel_rfl) (fun β w hM => (by kernel_rfl))
   ·exact .val (.int .i64 (((t3.nm.length / 20) : Nat) : Int)) rfl (fun β => by kernel_rfl) (fun β w hM => (run_quoN (i := t3.nm.length) (j := 20) rfl rfl rfl (by decide) (by omega)))
   ·exact .val (.int .i64 ((v - 1) - (((t3.nm.length / 20) : Nat) : Int))) rfl (fun β => by kernel_rfl) (fun β w hM => (run_subZ rfl rfl rfl (by omega) (by omega)))
   ·exact .val (.slice A l.length c) rfl (fun β => by kernel_rfl) (fun β w hM => (by kernel_rfl))
   ·exact .val (vN i) rfl (fun β => by kernel_rfl) (fun β w hM => (by kernel_rfl))
   ·exact .val (.pointer (some (at3.add (i * 7)))) rfl (fun β => by kernel_rfl) (fun β w hM => (rX (k := i) (s := 7) rfl rfl At3 rfl Tryz.underlying38 (by kernel_rfl) (by omega)))
   ·exact .val (.pointer (some ((at3.add (i * 7)).add 2))) rfl (fun β => by kernel_rfl) (fun β w hM => (by kernel_rfl))
   ·exact .val (Str t3.loc) rfl (fun β => by kernel_rfl) (fun β w hM => rL rfl rfl (((ct3.on hM.below)).addA 2 1 (by decide)) (by kernel_rfl))
   ·exact .val (.int .i64 ((t3.loc.length : Nat) : Int)) rfl (fun β => by kernel_rfl) (fun β w hM => (by kernel_rfl))
   ·exact .val (.int .i64 (((t3.loc.length / 20) : Nat) : Int)) rfl (fun β => by kernel_rfl) (fun β w hM => (run_quoN (i := t3.loc.length) (j := 20) rfl rfl rfl (by decide) (by omega)))
   ·exact .val (.int .i64 (((v - 1) - (((t3.nm.length / 20) : Nat) : Int)) - (((t3.loc.length / 20) : Nat) : Int))) rfl (fun β => by kernel_rfl) (fun β w hM => (run_subZ rfl rfl rfl (by omega) (by omega)))
   ·exact .val (.int .i64 (((v - 1) - (((t3.nm.length / 20) : Nat) : Int)) - (((t3.loc.length / 20) : Nat) : Int))) rfl (fun β => by kernel_rfl) (fun β w hM => (by kernel_rfl))
   intro β4 a w hK hM
   have hK2 := hK; have hM2 := hM; clear hK hM
   have hK : Knows a 78 [(1, .int .i64 (((v - 1) - (((t3.nm.length / 20) : Nat) : Int)) - (((t3.loc.length / 20) : Nat) : Int))), (14, .bool true), (4, .int .i64 0), (0, .slice A l.length c), (5, vN i)] := hK2
   have hM := hM2.to [] (by kernel_rfl)
   clear hK2 hM2
   refine wp_seq ?_
   refine wp_seq ?_
   refine rg1 (by kernel_rfl) ?_
   refine sP hK 6 (.int .i64 0) (by kernel_rfl) (by kernel_rfl) fun a hK => ?_
   refine rps ?_
   refine wp_block ?_
   have hRo := hR
   refine wLX (fun x : Nat × Int => [(14, .bool true), (4, .int .i64 0), (0, .slice A l.length c), (5, vN i), (6, .int .i64 ((x.1 : Nat) : Int)), (1, .int .i64 x.2)]) (fun x : Nat × Int => []) (fun x : Nat × Int => x.1 ≤ t3.es.length ∧ exsHf (t3.es.drop x.1) x.2 = smHf1 t3 v ∧ x.2 ≤ 1000000) (fun x : Nat × Int => t3.es.length - x.1) (0, (((v - 1) - (((t3.nm.length / 20) : Nat) : Int)) - (((t3.loc.length / 20) : Nat) : Int))) (hK.sub ⟨rfl, rfl, rfl, rfl, rfl, rfl, trivial⟩) hM ⟨Nat.zero_le _, rfl, by omega⟩ ?_
   rintro ⟨k, v2⟩ a w hK hM hR
   replace hK : Knows a 78 [(14, .bool true), (4, .int .i64 0), (0, .slice A l.length c), (5, vN i), (6, vN k), (1, .int .i64 v2)] := hK
   replace hM : Mem w0 w [] := hM
   replace hR : k ≤ t3.es.length ∧ exsHf (t3.es.drop k) v2 = smHf1 t3 v ∧ v2 ≤ 1000000 := hR
   refine wp_seq ?_
   refine wp_seq ?_
   refine rg12 (by kernel_rfl) ?_
   refine sM hK 35 6 (by kernel_rfl) (.inl rfl) rfl fun a hK => ?_
   refine sM hK 36 0 (by kernel_rfl) (.inl rfl) rfl fun a hK => ?_
   refine sM hK 37 5 (by kernel_rfl) (.inl rfl) rfl fun a hK => ?_
   refine sP hK 38 (.pointer (some (at3.add (i * 7)))) (by kernel_rfl) (rX (k := i) (s := 7) rfl rfl At3 rfl Tryz.underlying38 (by kernel_rfl) (by omega)) fun a hK => ?_
   refine sP hK 39 (.pointer (some ((at3.add (i * 7)).add 4))) (by kernel_rfl) (by kernel_rfl) fun a hK => ?_
   refine sL hK 40 (.slice t3.A1 t3.es.length t3.c1) (by kernel_rfl) rfl rfl (((ct3.on hM.below)).addA 4 1 (by decide)) (by kernel_rfl) fun a hK => ?_
   refine sP hK 41 (.int .i64 ((t3.es.length : Nat) : Int)) (by kernel_rfl) (by kernel_rfl) fun a hK => ?_
   by_cases h5 : (((k : Nat) : Int) : Int) < ((t3.es.length : Nat) : Int)
   ·refine sP hK 42 (.bool true) (by kernel_rfl) (oB (b := (decide ((((k : Nat) : Int) : Int) < ((t3.es.length : Nat) : Int)))) (by kernel_rfl) (decide_eq_true h5)) fun a hK => ?_
    refine sM hK 43 42 (by kernel_rfl) (.inl rfl) rfl fun a hK => ?_
    refine sM hK 44 1 (by kernel_rfl) (.inl rfl) rfl fun a hK => ?_
    by_cases h6 : (0 : Int) ≤ v2
    ·refine sP hK 45 (.bool true) (by kernel_rfl) (oB (b := (decide ((0 : Int) ≤ v2))) (by kernel_rfl) (decide_eq_true h6)) fun a hK => ?_
     refine sP hK 46 (.bool true) (by kernel_rfl) (by kernel_rfl) fun a hK => ?_
     refine rps ?_
     refine wp_cond_true (hK.get rfl) ?_
     refine wp_skip ?_
     refine wp_seq ?_
     refine wp_block ?_
     refine rg11 (by kernel_rfl) ?_
     refine sM hK 49 0 (by kernel_rfl) (.inl rfl) rfl fun a hK => ?_
     refine sM hK 50 5 (by kernel_rfl) (.inl rfl) rfl fun a hK => ?_
     refine sP hK 51 (.pointer (some (at3.add (i * 7)))) (by kernel_rfl) (rX (k := i) (s := 7) rfl rfl At3 rfl Tryz.underlying38 (by kernel_rfl) (by omega)) fun a hK => ?_
     refine sP hK 52 (.pointer (some ((at3.add (i * 7)).add 4))) (by kernel_rfl) (by kernel_rfl) fun a hK => ?_
     refine sL hK 53 (.slice t3.A1 t3.es.length t3.c1) (by kernel_rfl) rfl rfl (((ct3.on hM.below)).addA 4 1 (by decide)) (by kernel_rfl) fun a hK => ?_
     refine sM hK 54 6 (by kernel_rfl) (.inl rfl) rfl fun a hK => ?_
     obtain ⟨t7, ht7⟩ : ∃ t, t3.es[(k : Nat)]? = some t := ⟨_, List.getElem?_eq_getElem (by omega)⟩
     obtain ⟨⟨at7, At7, ct7⟩, et7⟩ := et3.exprs _ _ ht7; have nt7 := et7.len
     refine sP hK 55 (.pointer (some (at7.add (k * 4)))) (by kernel_rfl) (rX (k := k) (s := 4) rfl rfl At7 rfl Tryz.underlying26 (by kernel_rfl) (by omega)) fun a hK => ?_
     refine sL hK 56 (vE t7) (by kernel_rfl) rfl rfl ((ct7.on hM.below)) (by kernel_rfl) fun a hK => ?_
     refine sM hK 57 1 (by kernel_rfl) (.inl rfl) rfl fun a hK => ?_
     refine sR hK hM 58 #[vE t7, .int .i64 v2] (.int .i64 (t7.hf v2)) (by kernel_rfl) (rC en_cantileverkit_heft rfl rfl (by kernel_rfl)) (kit_heft t7 v2 _ (et7.on hM.below) (by omega) (by omega)) fun a w hK hM => ?_
     refine sM hK 1 58 (by kernel_rfl) (.inr rfl) rfl fun a hK => ?_
     refine rps ?_
     refine rg3 (by kernel_rfl) ?_
     refine sM hK 47 6 (by kernel_rfl) (.inl rfl) rfl fun a hK => ?_
     refine sP hK 48 (.int .i64 (((k + 1) : Nat) : Int)) (by kernel_rfl) (run_addN (i := k) (j := 1) rfl rfl rfl (by omega)) fun a hK => ?_
     refine sM hK 6 48 (by kernel_rfl) (.inr rfl) rfl fun a hK => ?_
     refine rps ?_
     have hRn : (k + 1) ≤ t3.es.length ∧ exsHf (t3.es.drop (k + 1)) ((t7.hf v2)) = smHf1 t3 v ∧ ((t7.hf v2)) ≤ 1000000 := ⟨by omega, by rw [← exsHf_step ht7 (by omega)]; exact hR.2.1, by have h1 := hf_sz t7 v2; omega⟩
     have hmn : t3.es.length - (k + 1) < t3.es.length - k := by omega
     exact ⟨(k + 1, (t7.hf v2)), hK.sub ⟨rfl, rfl, rfl, rfl, rfl, rfl, trivial⟩, hM, hRn, hmn⟩
    ·refine sP hK 45 (.bool false) (by kernel_rfl) (oB (b := (decide ((0 : Int) ≤ v2))) (by kernel_rfl) (decide_eq_false h6)) fun a hK => ?_
     refine sP hK 46 (.bool false) (by kernel_rfl) (by kernel_rfl) fun a hK => ?_
     refine rps ?_
     refine wp_cond_false (hK.get rfl) ?_
     refine wp_exit (exit_then (exit_then (exit_here 2 ?_)))
     refine wp_seq ?_
     refine wp_seq ?_
     refine rg2 (by kernel_rfl) ?_
     refine sM hK 59 1 (by kernel_rfl) (.inl rfl) rfl fun a hK => ?_
     refine sP hK 60 (.bool false) (by kernel_rfl) (oB (b := (decide ((0 : Int) ≤ v2))) (by kernel_rfl) (decide_eq_false h6)) fun a hK => ?_
     refine rps ?_
     refine wp_cond_false (hK.get rfl) ?_
     refine wp_skip ?_
     refine wp_seq ?_
     refine rg2 (by kernel_rfl) ?_
     refine sM hK 68 1 (by kernel_rfl) (.inl rfl) rfl fun a hK => ?_
     refine sP hK 69 (.bool false) (by kernel_rfl) (oB (b := (decide ((0 : Int) ≤ v2))) (by kernel_rfl) (decide_eq_false h6)) fun a hK => ?_
     refine rps ?_
     refine wp_cond_false (hK.get rfl) ?_
     refine wp_skip ?_
     refine rg3 (by kernel_rfl) ?_
     refine sM hK 15 5 (by kernel_rfl) (.inl rfl) rfl fun a hK => ?_
     refine sP hK 16 (.int .i64 (((i + 1) : Nat) : Int)) (by kernel_rfl) (run_addN (i := i) (j := 1) rfl rfl rfl (by omega)) fun a hK => ?_
     refine sM hK 5 16 (by kernel_rfl) (.inr rfl) rfl fun a hK => ?_
     refine rps ?_
     have e1 : v2 = smHf1 t3 v := by rw [← hR.2.1]; first | rw [exsHf_neg _ (by omega)] | (rw [List.drop_of_length_le (by omega), exsHf])
     have e2 : t3.hf v = v2 := by rw [sm_hf, show smHf2 t3 v = v2 by unfold smHf2; rw [← e1, if_neg (by omega)], if_neg (by omega)]
     have hRn : (i + 1) ≤ l.length ∧ smsHf (l.drop (i + 1)) v2 = smsHf l n ∧ v2 ≤ 1000000 := ⟨by omega, by rw [← e2, ← smsHf_step ht3 (by omega)]; exact hRo.2.1, by have h1 := smsHf_sz t3.th v2; have h2 := smsHf_sz t3.el (smsHf t3.th v2); omega⟩
     have hmn : l.length - (i + 1) < l.length - i := by omega
     exact ⟨(i + 1, v2), hK.sub ⟨rfl, rfl, rfl, rfl, trivial⟩, hM, hRn, hmn⟩
   ·refine sP hK 42 (.bool false) (by kernel_rfl) (oB (b := (decide ((((k : Nat) : Int) : Int) < ((t3.es.length : Nat) : Int)))) (by kernel_rfl) (decide_eq_false h5)) fun a hK => ?_
    refine sM hK 43 42 (by kernel_rfl) (.inl rfl) rfl fun a hK => ?_
    refine sN hK 44 (by kernel_rfl) fun a hK => ?_
    refine sN hK 45 (by kernel_rfl) fun a hK => ?_
    refine sP hK 46 (.bool false) (by kernel_rfl) (by kernel_rfl) fun a hK => ?_
    refine rps ?_
    refine wp_cond_false (hK.get rfl) ?_
    refine wp_exit (exit_then (exit_then (exit_here 2 ?_)))
    refine wp_seq ?_
    refine wp_seq ?_
    refine rg2 (by kernel_rfl) ?_
    refine sM hK 59 1 (by kernel_rfl) (.inl rfl) rfl fun a hK => ?_
    by_cases h8 : (0 : Int) ≤ v2
    ·refine sP hK 60 (.bool true) (by kernel_rfl) (oB (b := (decide ((0 : Int) ≤ v2))) (by kernel_rfl) (decide_eq_true h8)) fun a hK => ?_
     refine rps ?_
     refine wp_cond_true (hK.get rfl) ?_
     refine rg8 (by kernel_rfl) ?_
     refine sM hK 61 0 (by kernel_rfl) (.inl rfl) rfl fun a hK => ?_
     refine sM hK 62 5 (by kernel_rfl) (.inl rfl) rfl fun a hK => ?_
     refine sP hK 63 (.pointer (some (at3.add (i * 7)))) (by kernel_rfl) (rX (k := i) (s := 7) rfl rfl At3 rfl Tryz.underlying38 (by kernel_rfl) (by omega)) fun a hK => ?_
     refine sP hK 64 (.pointer (some ((at3.add (i * 7)).add 5))) (by kernel_rfl) (by kernel_rfl) fun a hK => ?_
     refine sL hK 65 (.slice t3.A2 t3.th.length t3.c2) (by kernel_rfl) rfl rfl (((ct3.on hM.below)).addA 5 1 (by decide)) (by kernel_rfl) fun a hK => ?_
     refine sM hK 66 1 (by kernel_rfl) (.inl rfl) rfl fun a hK => ?_
     refine sR hK hM 67 #[.slice t3.A2 t3.th.length t3.c2, .int .i64 v2] (.int .i64 (smsHf t3.th v2)) (by kernel_rfl) (rC en_cantileverkit_hefts rfl rfl (by kernel_rfl)) ((ih t3 (List.mem_of_getElem? ht3)).1 _ _ v2 _ (et3.thn.on hM.below) (by omega) (by omega) (by omega)) fun a w hK hM => ?_
     refine sM hK 1 67 (by kernel_rfl) (.inr rfl) rfl fun a hK => ?_
     refine rps ?_
     refine wp_seq ?_
     refine rg2 (by kernel_rfl) ?_
     refine sM hK 68 1 (by kernel_rfl) (.inl rfl) rfl fun a hK => ?_
     by_cases h9 : (0 : Int) ≤ (smsHf t3.th v2)
     ·refine sP hK 69 (.bool true) (by kernel_rfl) (oB (b := (decide ((0 : Int) ≤ (smsHf t3.th v2)))) (by kernel_rfl) (decide_eq_true h9)) fun a hK => ?_
      refine rps ?_
      refine wp_cond_true (hK.get rfl) ?_
      refine rg8 (by kernel_rfl) ?_
      refine sM hK 70 0 (by kernel_rfl) (.inl rfl) rfl fun a hK => ?_
      refine sM hK 71 5 (by kernel_rfl) (.inl rfl) rfl fun a hK => ?_
      refine sP hK 72 (.pointer (some (at3.add (i * 7)))) (by kernel_rfl) (rX (k := i) (s := 7) rfl rfl At3 rfl Tryz.underlying38 (by kernel_rfl) (by omega)) fun a hK => ?_
      refine sP hK 73 (.pointer (some ((at3.add (i * 7)).add 6))) (by kernel_rfl) (by kernel_rfl) fun a hK => ?_
      refine sL hK 74 (.slice t3.A3 t3.el.length t3.c3) (by kernel_rfl) rfl rfl (((ct3.on hM.below)).addA 6 1 (by decide)) (by kernel_rfl) fun a hK => ?_
      refine sM hK 75 1 (by kernel_rfl) (.inl rfl) rfl fun a hK => ?_
      refine sR hK hM 76 #[.slice t3.A3 t3.el.length t3.c3, .int .i64 (smsHf t3.th v2)] (.int .i64 (smsHf t3.el (smsHf t3.th v2))) (by kernel_rfl) (rC en_cantileverkit_hefts rfl rfl (by kernel_rfl)) ((ih t3 (List.mem_of_getElem? ht3)).2 _ _ (smsHf t3.th v2) _ (et3.els.on hM.below) (by omega) (by omega) (by have h1 := smsHf_sz t3.th v2; omega)) fun a w hK hM => ?_
      refine sM hK 1 76 (by kernel_rfl) (.inr rfl) rfl fun a hK => ?_
      refine rps ?_
      refine rg3 (by kernel_rfl) ?_
      refine sM hK 15 5 (by kernel_rfl) (.inl rfl) rfl fun a hK => ?_
      refine sP hK 16 (.int .i64 (((i + 1) : Nat) : Int)) (by kernel_rfl) (run_addN (i := i) (j := 1) rfl rfl rfl (by omega)) fun a hK => ?_
      refine sM hK 5 16 (by kernel_rfl) (.inr rfl) rfl fun a hK => ?_
      refine rps ?_
      have e1 : v2 = smHf1 t3 v := by rw [← hR.2.1]; first | rw [exsHf_neg _ (by omega)] | (rw [List.drop_of_length_le (by omega), exsHf])
      have e2 : t3.hf v = (smsHf t3.el (smsHf t3.th v2)) := by rw [sm_hf, show smHf2 t3 v = (smsHf t3.th v2) by unfold smHf2; rw [← e1, if_pos (by omega)], if_pos (by omega)]
      have hRn : (i + 1) ≤ l.length ∧ smsHf (l.drop (i + 1)) ((smsHf t3.el (smsHf t3.th v2))) = smsHf l n ∧ ((smsHf t3.el (smsHf t3.th v2))) ≤ 1000000 := ⟨by omega, by rw [← e2, ← smsHf_step ht3 (by omega)]; exact hRo.2.1, by have h1 := smsHf_sz t3.th v2; have h2 := smsHf_sz t3.el (smsHf t3.th v2); omega⟩
      have hmn : l.length - (i + 1) < l.length - i := by omega
      exact ⟨(i + 1, (smsHf t3.el (smsHf t3.th v2))), hK.sub ⟨rfl, rfl, rfl, rfl, trivial⟩, hM, hRn, hmn⟩
     ·refine sP hK 69 (.bool false) (by kernel_rfl) (oB (b := (decide ((0 : Int) ≤ (smsHf t3.th v2)))) (by kernel_rfl) (decide_eq_false h9)) fun a hK => ?_
      refine rps ?_
      refine wp_cond_false (hK.get rfl) ?_
      refine wp_skip ?_
      refine rg3 (by kernel_rfl) ?_
      refine sM hK 15 5 (by kernel_rfl) (.inl rfl) rfl fun a hK => ?_
      refine sP hK 16 (.int .i64 (((i + 1) : Nat) : Int)) (by kernel_rfl) (run_addN (i := i) (j := 1) rfl rfl rfl (by omega)) fun a hK => ?_
      refine sM hK 5 16 (by kernel_rfl) (.inr rfl) rfl fun a hK => ?_
      refine rps ?_
      have e1 : v2 = smHf1 t3 v := by rw [← hR.2.1]; first | rw [exsHf_neg _ (by omega)] | (rw [List.drop_of_length_le (by omega), exsHf])
      have e2 : t3.hf v = (smsHf t3.th v2) := by rw [sm_hf, show smHf2 t3 v = (smsHf t3.th v2) by unfold smHf2; rw [← e1, if_pos (by omega)], if_neg (by omega)]
      have hRn : (i + 1) ≤ l.length ∧ smsHf (l.drop (i + 1)) ((smsHf t3.th v2)) = smsHf l n ∧ ((smsHf t3.th v2)) ≤ 1000000 := ⟨by omega, by rw [← e2, ← smsHf_step ht3 (by omega)]; exact hRo.2.1, by have h1 := smsHf_sz t3.th v2; have h2 := smsHf_sz t3.el (smsHf t3.th v2); omega⟩
      have hmn : l.length - (i + 1) < l.length - i := by omega
      exact ⟨(i + 1, (smsHf t3.th v2)), hK.sub ⟨rfl, rfl, rfl, rfl, trivial⟩, hM, hRn, hmn⟩
    ·refine sP hK 60 (.bool false) (by kernel_rfl) (oB (b := (decide ((0 : Int) ≤ v2))) (by kernel_rfl) (decide_eq_false h8)) fun a hK => ?_
     refine rps ?_
     refine wp_cond_false (hK.get rfl) ?_
     refine wp_skip ?_
     refine wp_seq ?_
     refine rg2 (by kernel_rfl) ?_
     refine sM hK 68 1 (by kernel_rfl) (.inl rfl) rfl fun a hK => ?_
     refine sP hK 69 (.bool false) (by kernel_rfl) (oB (b := (decide ((0 : Int) ≤ v2))) (by kernel_rfl) (decide_eq_false h8)) fun a hK => ?_
     refine rps ?_
     refine wp_cond_false (hK.get rfl) ?_
     refine wp_skip ?_
     refine rg3 (by kernel_rfl) ?_
     refine sM hK 15 5 (by kernel_rfl) (.inl rfl) rfl fun a hK => ?_
     refine sP hK 16 (.int .i64 (((i + 1) : Nat) : Int)) (by kernel_rfl) (run_addN (i := i) (j := 1) rfl rfl rfl (by omega)) fun a hK => ?_
     refine sM hK 5 16 (by kernel_rfl) (.inr rfl) rfl fun a hK => ?_
     refine rps ?_
     have e1 : v2 = smHf1 t3 v := by rw [← hR.2.1]; first | rw [exsHf_neg _ (by omega)] | (rw [List.drop_of_length_le (by omega), exsHf])
     have e2 : t3.hf v = v2 := by rw [sm_hf, show smHf2 t3 v = v2 by unfold smHf2; rw [← e1, if_neg (by omega)], if_neg (by omega)]
     have hRn : (i + 1) ≤ l.length ∧ smsHf (l.drop (i + 1)) v2 = smsHf l n ∧ v2 ≤ 1000000 := ⟨by omega, by rw [← e2, ← smsHf_step ht3 (by omega)]; exact hRo.2.1, by have h1 := smsHf_sz t3.th v2; have h2 := smsHf_sz t3.el (smsHf t3.th v2); omega⟩
     have hmn : l.length - (i + 1) < l.length - i := by omega
     exact ⟨(i + 1, v2), hK.sub ⟨rfl, rfl, rfl, rfl, trivial⟩, hM, hRn, hmn⟩
  ·refine sP hK 13 (.bool false) (by kernel_rfl) (oB (b := (decide ((0 : Int) ≤ v))) (by kernel_rfl) (decide_eq_false h2)) fun a hK => ?_
   refine sP hK 14 (.bool false) (by kernel_rfl) (by kernel_rfl) fun a hK => ?_
   refine rps ?_
   refine wp_cond_false (hK.get rfl) ?_
   refine wp_exit (exit_then (exit_then (exit_here 0 ?_)))
   refine wp_seq ?_
   refine rg2 (by kernel_rfl) ?_
   refine sM hK 77 1 (by kernel_rfl) (.inl rfl) rfl fun a hK => ?_
   refine sM hK 4 77 (by kernel_rfl) (.inr rfl) rfl fun a hK => ?_
   refine rps ?_
   refine wp_ret ?_
   exact ret_t hK rfl (u := (.int .i64 v)) rfl (⟨by rw [← hR.2.1]; first | rw [smsHf_neg _ (by omega)] | (rw [List.drop_of_length_le (by omega), smsHf]), hM.below⟩)
 ·refine sP hK 10 (.bool false) (by kernel_rfl) (oB (b := (decide ((((i : Nat) : Int) : Int) < ((l.length : Nat) : Int)))) (by kernel_rfl) (decide_eq_false h1)) fun a hK => ?_
  refine sM hK 11 10 (by kernel_rfl) (.inl rfl) rfl fun a hK => ?_
  refine sN hK 12 (by kernel_rfl) fun a hK => ?_
  refine sN hK 13 (by kernel_rfl) fun a hK => ?_
  refine sP hK 14 (.bool false) (by kernel_rfl) (by kernel_rfl) fun a hK => ?_
  refine rps ?_
  refine wp_cond_false (hK.get rfl) ?_
  refine wp_exit (exit_then (exit_then (exit_here 0 ?_)))
  refine wp_seq ?_
  refine rg2 (by kernel_rfl) ?_
  refine sM hK 77 1 (by kernel_rfl) (.inl rfl) rfl fun a hK => ?_
  refine sM hK 4 77 (by kernel_rfl) (.inr rfl) rfl fun a hK => ?_
  refine rps ?_
  refine wp_ret ?_
  exact ret_t hK rfl (u := (.int .i64 v)) rfl (⟨by rw [← hR.2.1]; first | rw [smsHf_neg _ (by omega)] | (rw [List.drop_of_length_le (by omega), smsHf]), hM.below⟩)
set_option maxRecDepth 100000 in
set_option maxHeartbeats 4000000 in
theorem kit_Light (e : Ex) (n : Int) (w0 : World) (he : ExAt w0 e) (hn0 : 0 ≤ n) (hn1 : n ≤ 1000000) : Calls Tryz.prog 6 #[vE e, .int .i64 n] w0 (Ret w0 (.bool (decide ((0 : Int) ≤ e.hf n)))) := by
 refine calls_K (args := [vE e, .int .i64 n]) (n := 9) (env := [(0, vE e), (1, .int .i64 n)]) Tryz.func6 rfl rfl rfl ⟨rfl, rfl, trivial⟩ fun a w hK hM => ?_
 refine wp_seq ?_
 refine rg2 (by kernel_rfl) ?_
 refine sA hK hM 2 28 (cE e) (fun b => pA b 0) (by kernel_rfl) (by kernel_rfl) fun b1 a w hK hM => ?_
 refine sP hK 4 (.bool false) (by kernel_rfl) (by kernel_rfl) fun a hK => ?_
 refine rps ?_
 refine wp_seq ?_
 refine rg5 (by kernel_rfl) ?_
 refine sL hK 5 (vE e) (by kernel_rfl) rfl rfl ((hM.row 0 rfl).cells 0 4) (by kernel_rfl) fun a hK => ?_
 refine sM hK 6 1 (by kernel_rfl) (.inl rfl) rfl fun a hK => ?_
 refine sR hK hM 7 #[vE e, .int .i64 n] (.int .i64 (e.hf n)) (by kernel_rfl) (rC en_cantileverkit_heft rfl rfl (by kernel_rfl)) (kit_heft e n _ (he.on hM.below) (by omega) (by omega)) fun a w hK hM => ?_
 by_cases h2 : (0 : Int) ≤ (e.hf n)
 ·refine sP hK 8 (.bool true) (by kernel_rfl) (oB (b := (decide ((0 : Int) ≤ (e.hf n)))) (by kernel_rfl) (decide_eq_true h2)) fun a hK => ?_
  refine sM hK 4 8 (by kernel_rfl) (.inr rfl) rfl fun a hK => ?_
  refine rps ?_
  refine wp_ret ?_
  exact ret_t hK rfl (u := (.bool true)) rfl (⟨congrArg (fun b => Ending.returned (Value.bool b)) (decide_eq_true h2).symm, hM.below⟩)
 ·refine sP hK 8 (.bool false) (by kernel_rfl) (oB (b := (decide ((0 : Int) ≤ (e.hf n)))) (by kernel_rfl) (decide_eq_false h2)) fun a hK => ?_
  refine sM hK 4 8 (by kernel_rfl) (.inr rfl) rfl fun a hK => ?_
  refine rps ?_
  refine wp_ret ?_
  exact ret_t hK rfl (u := (.bool false)) rfl (⟨congrArg (fun b => Ending.returned (Value.bool b)) (decide_eq_false h2).symm, hM.below⟩)
end Go.Proofs.YtiigncmpbkfhmaaGreatDoor
namespace Go.Proofs.YtiigncmpbkfhmaaGreatDoor
open Go Go.RowKit
def kidsI (op : Int) : Int := if (decide (op = 1) || decide (op = 2)) = true then 0 else if (decide (op = 3) || decide (op = 4)) = true then 1 else if (decide ((5 : Int) ≤ op) && decide (op ≤ 16)) = true then 2 else -1
end Go.Proofs.YtiigncmpbkfhmaaGreatDoor
namespace Go.Proofs.YtiigncmpbkfhmaaGreatDoor
open Go Go.RowKit
def isLetter (c : UInt8) : Bool := (decide ((97 : Int) ≤ ((c.toNat : Nat) : Int)) && decide (((c.toNat : Nat) : Int) ≤ 122)) || (decide ((65 : Int) ≤ ((c.toNat : Nat) : Int)) && decide (((c.toNat : Nat) : Int) ≤ 90))
def isDigit (c : UInt8) : Bool := decide ((48 : Int) ≤ ((c.toNat : Nat) : Int)) && decide (((c.toNat : Nat) : Int) ≤ 57)
def keyL : List (List UInt8) := [[115, 104, 97, 114, 101, 100], [112, 108, 97, 105, 110], [116, 104, 114, 101, 97, 100], [105, 102], [101, 108, 115, 101], [119, 104, 105, 108, 101], [108, 111, 97, 100], [115, 116, 111, 114, 101], [99, 97, 115], [97, 100, 100], [115, 119, 97, 112], [102, 101, 110, 99, 101], [97, 115, 115, 117, 109, 101], [97, 115, 115, 101, 114, 116], [110, 97], [114, 108, 120], [97, 99, 113], [114, 101, 108], [97, 114], [115, 99]]
def kindOf (l : List UInt8) : Nat := if l ∈ keyL then 2 else 1
def badAt (i : Nat) (c : UInt8) : Bool := !isLetter c && ((((i : Nat) : Int) == 0) || (!isDigit c && (((c.toNat : Nat) : Int) != 95)))
def wordOf (l : List UInt8) : Nat × Bool := if ((List.range l.length).any (fun i => badAt i (l.getD i 0)) || l.isEmpty) = true then (0, false) else (kindOf l, true)
end Go.Proofs.YtiigncmpbkfhmaaGreatDoor
