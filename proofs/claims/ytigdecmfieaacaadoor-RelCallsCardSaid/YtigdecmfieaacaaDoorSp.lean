/-
  Regions that draw their order, over relations: what lies in a slot, and how each kind of operation is paid.
-/
import Derived.Test.YtigdecmfieaacaaDoorEng2
import Derived.Test.YtigdecmfieaacaaDoorRels2
namespace Go.Proofs.YtigdecmfieaacaaDoor
open Go Go.RowKit

/-- What is known of what an operation left. -/
inductive Sp where
  | top
  | val (v : Value)
  | rel (r : PR)
  | rels (l : List PR)
  | ints (l : List Int)
  | prsl (l : List (Int × Int))
  | box (B : Nat)
  | stored (k : Nat) (r : PR)
def Short (r : PR) : Prop := r.rows.length ≤ 9223372036854775807
def ARel (v : Value) (r : PR) (w : World) : Prop := ∃ a : RA, v = a.val ∧ a.pr = r ∧ a.good w ∧ Short r
def ARels (v : Value) (l : List PR) (w : World) : Prop := ∃ (L : List RA) (g : Nat), v = .slice (some ⟨g, 0, none⟩) L.length L.length ∧ L.map RA.pr = l ∧ RowT w g 26 (L.flatMap RA.cells) ∧ ∀ a ∈ L, a.good w
def AInts (v : Value) (l : List Int) (w : World) : Prop := ∃ A c, v = .slice A l.length c ∧ Reads w w.heap.size 1 A l.length (l.map I)
def APrs (v : Value) (l : List (Int × Int)) (w : World) : Prop := ∃ A c, v = .slice A l.length c ∧ Reads w w.heap.size 2 A l.length (prs l)
def ABox (B : Nat) (v : Value) (w : World) : Prop := ∃ b n A l c, v = .pointer (some ⟨b, 0, none⟩) ∧ B ≤ b ∧ RowT w b 26 [.int .i64 n, .slice A l c]
def AStored (v : Value) (r : PR) (w : World) : Prop := ∃ (b : Nat) (a : RA), v = .pointer (some ⟨b, 0, none⟩) ∧ RowT w b 26 a.cells ∧ a.pr = r ∧ a.good w ∧ Short r
def Sp.holds (s : Sp) (v : Value) (ρ : Nat → Value) (w : World) : Prop := match s with
  | .top => True
  | .val u => v = u
  | .rel r => ARel v r w
  | .rels l => ARels v l w
  | .ints l => AInts v l w
  | .prsl l => APrs v l w
  | .box B => ABox B v w
  | .stored k r => AStored (ρ k) r w
def TS (sps : List Sp) (i : Nat) (ρ : Nat → Value) (w : World) : Prop := (sps.getD i .top).holds (ρ i) ρ w
def Sp.deps : Sp → List Nat
  | .stored k _ => [k]
  | _ => []
theorem Sp.on {s : Sp} {v : Value} {ρ : Nat → Value} {w w' : World} (h : s.holds v ρ w) (hb : Below w.heap.size w w') : s.holds v ρ w' := by
  cases s with
  | top => trivial
  | val u => exact h
  | rel r => obtain ⟨a, h1, h2, h3, h4⟩ := h; exact ⟨a, h1, h2, h3.on hb, h4⟩
  | rels l => obtain ⟨L, g, h1, h2, h3, h4⟩ := h; exact ⟨L, g, h1, h2, h3.below hb h3.lt, fun a ha => (h4 a ha).on hb⟩
  | ints l => obtain ⟨A, c, h1, h2⟩ := h; exact ⟨A, c, h1, h2.into hb⟩
  | prsl l => obtain ⟨A, c, h1, h2⟩ := h; exact ⟨A, c, h1, h2.into hb⟩
  | box B => obtain ⟨b, n, A, l, c, h1, h0, h2⟩ := h; exact ⟨b, n, A, l, c, h1, h0, h2.below hb h2.lt⟩
  | stored k r => obtain ⟨b, a, h1, h2, h3, h4, h5⟩ := h; exact ⟨b, a, h1, h2.below hb h2.lt, h3, h4.on hb, h5⟩
def depsOk (ops : Array Oper) (sps : List Sp) : Bool := (List.range ops.size).all fun i => match sps.getD i .top with
  | .stored k _ => match ops[i]? with
    | some o => o.after.any fun e => e.on == k
    | none => false
  | .top => true
  | _ => (slotOf ops i).isSome
theorem ts_deps {ops : Array Oper} {sps : List Sp} (h : depsOk ops sps = true) (hl : sps.length = ops.size) : Deps ops (TS sps) (fun i => (sps.getD i .top).deps) := by
  have key : ∀ i, i < ops.size → _ := fun i hi => List.all_eq_true.1 h i (by simpa using hi)
  have out : ∀ i, ops.size ≤ i → sps.getD i .top = .top := fun i hi => by
    rw [List.getD_eq_getElem?_getD, List.getElem?_eq_none (by omega)]; rfl
  constructor
  · intro i ρ ρ' w h1 h2 hT
    unfold TS at hT ⊢
    rcases Nat.lt_or_ge i ops.size with hi | hi
    · have k := key i hi
      cases hs : sps.getD i .top with
      | stored n r =>
        rw [hs] at hT h2
        have := h2 n (by simp [Sp.deps])
        simp only [Sp.holds] at hT ⊢
        rwa [← this]
      | top => trivial
      | _ =>
        simp only [hs] at k
        rcases h1 with h1 | h1
        · rw [hs] at hT
          simp only [Sp.holds] at hT ⊢
          rwa [← h1]
        · rw [h1] at k; cases k
    · rw [out i hi]; trivial
  · intro i o ho j hj
    have hi : i < ops.size := (Array.getElem?_eq_some_iff.1 ho).1
    have k := key i hi
    cases hs : sps.getD i .top with
    | stored n r =>
      rw [hs] at hj
      obtain rfl : j = n := by simpa [Sp.deps] using hj
      simp only [hs, ho] at k
      obtain ⟨m, hm, he⟩ := Array.any_eq_true.1 k
      exact ⟨o.after[m], Array.getElem_mem hm, by simpa using he⟩
    | _ => rw [hs] at hj; simp [Sp.deps] at hj

section
variable {ops : Array Oper} {Q : Exit → Act → World → Prop} {sps : List Sp} {a0 : Act} {w0 : World} {L : Nat → Bool} {i : Nat} {o : Oper} {a : Act} {w : World}
/-- What the region keeps: all that lay there at its start. -/
abbrev GB (w0 : World) : World → Prop := fun w => Below w0.heap.size w0 w
/-- What was left by an operation ahead. -/
theorem St.arg {j : Nat} {d : Tmp} {s : Sp} (st : St ops (TS sps) (GB w0) a0 L a w) (hl : L j = true) (hs : slotOf ops j = some d) (hsp : sps.getD j .top = s) : s.holds (a.eval (.tmp d)) (vat ops a) w := by
  have := st.t j hl
  unfold TS at this
  rwa [hsp, ← eval_slot hs] at this
theorem St.arg_stored {j k : Nat} {d : Tmp} {r : PR} (st : St ops (TS sps) (GB w0) a0 L a w) (hl : L j = true) (hsp : sps.getD j .top = .stored k r) (hs : slotOf ops k = some d) : AStored (a.eval (.tmp d)) r w := by
  have := st.t j hl
  unfold TS at this
  rw [hsp] at this
  rw [eval_slot hs]
  exact this
theorem St.keep {s : Tmp} (st : St ops (TS sps) (GB w0) a0 L a w) (hs : ((List.range ops.size).all fun j => slotOf ops j != some s) = true) : a.tmps[s]? = a0.tmps[s]? :=
  st.outer s (fun j hj => by
    rcases Nat.lt_or_ge j ops.size with h | h
    · have := List.all_eq_true.1 hs j (by simpa using h)
      rw [hj] at this; simp at this
    · unfold slotOf at hj; rw [Array.getElem?_eq_none h] at hj; cases hj)
theorem get_of_eval {s : Tmp} {p : Option Addr} (h : a.eval (.tmp s) = .pointer p) : a.tmps[s]? = some (.pointer p) := by
  have h' : a.tmps.getD s undef = .pointer p := h
  rw [Array.getD_eq_getD_getElem?] at h'
  cases e : a.tmps[s]? with
  | none => rw [e] at h'; cases h'
  | some v => rw [e] at h'; obtain rfl : v = .pointer p := h'; rfl
theorem get_of_bool {s : Tmp} {p : Bool} (h : a.eval (.tmp s) = .bool p) : a.tmps[s]? = some (.bool p) := by
  have h' : a.tmps.getD s undef = .bool p := h
  rw [Array.getD_eq_getD_getElem?] at h'
  cases e : a.tmps[s]? with
  | none => rw [e] at h'; cases h'
  | some v => rw [e] at h'; obtain rfl : v = .bool p := h'; rfl
theorem St.out {s : Tmp} {v : Value} (st : St ops (TS sps) (GB w0) a0 L a w) (hs : ((List.range ops.size).all fun j => slotOf ops j != some s) = true) (hv : a0.tmps[s]? = some v) : a.eval (.tmp s) = v := by
  have h := st.outer s (fun j hj => by
    rcases Nat.lt_or_ge j ops.size with h | h
    · have := List.all_eq_true.1 hs j (by simpa using h)
      rw [hj] at this; simp at this
    · unfold slotOf at hj; rw [Array.getElem?_eq_none h] at hj; cases hj)
  show a.tmps.getD s undef = v
  rw [Array.getD_eq_getD_getElem?, h, hv]; rfl
theorem TS.self {v : Value} {s : Sp} {ρ : Nat → Value} (hsp : sps.getD i .top = s) (hk : s.deps = []) (h : s.holds v ρ w) : TS sps i (fun j => if j = i then v else ρ j) w := by
  unfold TS
  rw [hsp]
  show s.holds (if i = i then v else ρ i) _ w
  rw [if_pos rfl]
  cases s with
  | stored k r => cases hk
  | _ => exact h
/-- An operation that answers and leaves the world as it is. -/
theorem pay_pure {v : Value} {s : Sp} (st : St ops (TS sps) (GB w0) a0 L a w) (hw : Region.wanted o (yielded ops a.tmps) = true) (hrun : (execOp a.eval o).run Tryd.prog w = .ok (.value v) w) (hsp : sps.getD i .top = s) (hk : s.deps = []) (h : s.holds v (vat ops a) w) :
    Owes Tryd.prog ops Q (TS sps) (GB w0) L i o a w := Owes.pure hw hrun (TS.self hsp hk h) st.g
/-- An operation that answers and leaves all that lies there as it is. -/
theorem pay_new {v : Value} {s : Sp} {w' : World} (st : St ops (TS sps) (GB w0) a0 L a w) (hw : Region.wanted o (yielded ops a.tmps) = true) (hrun : (execOp a.eval o).run Tryd.prog w = .ok (.value v) w') (hb : Below w.heap.size w w') (hsp : sps.getD i .top = s) (hk : s.deps = []) (h : s.holds v (vat ops a) w') :
    Owes Tryd.prog ops Q (TS sps) (GB w0) L i o a w := Owes.value hw hrun (TS.self hsp hk h) (Below.next st.g hb) (fun _ _ _ h => Sp.on h hb)
theorem pay_call {f : FuncId} {xs : Array Operand} {ts : Array TypeId} {args : Array Value} {s : Sp} (st : St ops (TS sps) (GB w0) a0 L a w) (hw : Region.wanted o (yielded ops a.tmps) = true) (he : Enters Tryd.prog f) (hop : o.op = .call { callee := .value (.func f), args := xs, argTypes := ts })
    (hargs : xs.map a.eval = args) (hsp : sps.getD i .top = s) (hk : s.deps = []) (hc : Calls Tryd.prog f args w fun e w' => ∃ v, e = .returned v ∧ (∀ ρ, s.holds v ρ w') ∧ Below w.heap.size w w') : Owes Tryd.prog ops Q (TS sps) (GB w0) L i o a w := by
  subst hargs
  refine Owes.call hw (run_call_fn he hop) (hc.mono ?_)
  rintro e w' ⟨v, rfl, h, hb⟩
  exact ⟨v, rfl, TS.self hsp hk (h _), Below.next st.g hb, fun _ _ _ h => Sp.on h hb⟩
theorem GB.tab (hT : Tab w0) (h : GB w0 w) : Tab w := hT.on h
theorem retR_holds {r : PR} (hs : Short r) {e : Ending} {w w' : World} (h : RetR w r e w') : ∃ v, e = .returned v ∧ (∀ ρ, (Sp.rel r).holds v ρ w') ∧ Below w.heap.size w w' := by
  obtain ⟨a, h1, h2, h3, h4⟩ := h
  exact ⟨_, h1, fun _ => ⟨a, rfl, h2.out, h3.out, hs⟩, h4⟩
theorem ret_holds {v : Value} {e : Ending} {w w' : World} (h : Ret w v e w') : ∃ u, e = .returned u ∧ (∀ ρ, (Sp.val v).holds u ρ w') ∧ Below w.heap.size w w' := ⟨v, h.1, fun _ => rfl, h.2⟩

/-! #### calls -/
def CallRR (f : FuncId) (F : PR → PR) : Prop := ∀ (a : RA) (w : World), Tab w → a.good w → Short a.pr → Calls Tryd.prog f #[a.val] w (RetR w (F a.pr))
def CallLR (f : FuncId) (F : List PR → PR) : Prop := ∀ (L : List RA) (g : Nat) (w : World), Tab w → L.length < 1000 → RowT w g 26 (L.flatMap RA.cells) → (∀ a ∈ L, a.good w) → Calls Tryd.prog f #[.slice (some ⟨g, 0, none⟩) L.length L.length] w (RetR w (F (L.map RA.pr)))
def CallRRR (f : FuncId) (F : PR → PR → PR) : Prop := ∀ (a b : RA) (w : World), Tab w → a.good w → b.good w → Short a.pr → Short b.pr → Calls Tryd.prog f #[a.val, b.val] w (RetR w (F a.pr b.pr))
def CallRRB (f : FuncId) (F : PR → PR → Bool) : Prop := ∀ (a b : RA) (w : World), a.good w → b.good w → Short a.pr → Short b.pr → Calls Tryd.prog f #[a.val, b.val] w (Ret w (.bool (F a.pr b.pr)))
def CallRV (f : FuncId) (F : PR → Value) : Prop := ∀ (a : RA) (w : World), Tab w → a.good w → Short a.pr → Calls Tryd.prog f #[a.val] w (Ret w (F a.pr))
def CallIR (f : FuncId) (F : Int → PR) : Prop := ∀ (n : Int) (w : World), Calls Tryd.prog f #[.int .i64 n] w (RetR w (F n))

theorem call_RR {f : FuncId} {F : PR → PR} {x : Operand} {ts : Array TypeId} {p r : PR} (C : CallRR f F) (he : Enters Tryd.prog f) (hT : Tab w0) (st : St ops (TS sps) (GB w0) a0 L a w) (hw : Region.wanted o (yielded ops a.tmps) = true)
    (hop : o.op = .call { callee := .value (.func f), args := #[x], argTypes := ts }) (hx : ARel (a.eval x) p w) (hsp : sps.getD i .top = .rel r) (hF : F p = r) (hs : Short r) : Owes Tryd.prog ops Q (TS sps) (GB w0) L i o a w := by
  obtain ⟨b, h1, rfl, h3, h4⟩ := hx
  refine pay_call st hw he hop (by simp [h1]) hsp rfl ((C b w (hT.on st.g) h3 h4).mono ?_)
  rw [hF]
  exact fun _ _ h => retR_holds hs h
theorem call_LR {f : FuncId} {F : List PR → PR} {x : Operand} {ts : Array TypeId} {l : List PR} {r : PR} (C : CallLR f F) (he : Enters Tryd.prog f) (hT : Tab w0) (st : St ops (TS sps) (GB w0) a0 L a w) (hw : Region.wanted o (yielded ops a.tmps) = true)
    (hop : o.op = .call { callee := .value (.func f), args := #[x], argTypes := ts }) (hx : ARels (a.eval x) l w) (hll : l.length < 1000) (hsp : sps.getD i .top = .rel r) (hF : F l = r) (hs : Short r) : Owes Tryd.prog ops Q (TS sps) (GB w0) L i o a w := by
  obtain ⟨M, g, h1, rfl, h3, h4⟩ := hx
  refine pay_call st hw he hop (by simp [h1]) hsp rfl ((C M g w (hT.on st.g) (by simpa using hll) h3 h4).mono ?_)
  rw [hF]
  exact fun _ _ h => retR_holds hs h
theorem call_RRR {f : FuncId} {F : PR → PR → PR} {x y : Operand} {ts : Array TypeId} {p q r : PR} (C : CallRRR f F) (he : Enters Tryd.prog f) (hT : Tab w0) (st : St ops (TS sps) (GB w0) a0 L a w) (hw : Region.wanted o (yielded ops a.tmps) = true)
    (hop : o.op = .call { callee := .value (.func f), args := #[x, y], argTypes := ts }) (hx : ARel (a.eval x) p w) (hy : ARel (a.eval y) q w) (hsp : sps.getD i .top = .rel r) (hF : F p q = r) (hs : Short r) : Owes Tryd.prog ops Q (TS sps) (GB w0) L i o a w := by
  obtain ⟨b, h1, rfl, h3, h4⟩ := hx
  obtain ⟨c, k1, rfl, k3, k4⟩ := hy
  refine pay_call st hw he hop (by simp [h1, k1]) hsp rfl ((C b c w (hT.on st.g) h3 k3 h4 k4).mono ?_)
  rw [hF]
  exact fun _ _ h => retR_holds hs h
theorem call_RRB {f : FuncId} {F : PR → PR → Bool} {x y : Operand} {ts : Array TypeId} {p q : PR} {t : Bool} (C : CallRRB f F) (he : Enters Tryd.prog f) (st : St ops (TS sps) (GB w0) a0 L a w) (hw : Region.wanted o (yielded ops a.tmps) = true)
    (hop : o.op = .call { callee := .value (.func f), args := #[x, y], argTypes := ts }) (hx : ARel (a.eval x) p w) (hy : ARel (a.eval y) q w) (hsp : sps.getD i .top = .val (.bool t)) (hF : F p q = t) : Owes Tryd.prog ops Q (TS sps) (GB w0) L i o a w := by
  obtain ⟨b, h1, rfl, h3, h4⟩ := hx
  obtain ⟨c, k1, rfl, k3, k4⟩ := hy
  refine pay_call st hw he hop (by simp [h1, k1]) hsp rfl ((C b c w h3 k3 h4 k4).mono ?_)
  rw [hF]
  exact fun _ _ h => ret_holds h
theorem call_RV {f : FuncId} {F : PR → Value} {x : Operand} {ts : Array TypeId} {p : PR} {v : Value} (C : CallRV f F) (he : Enters Tryd.prog f) (hT : Tab w0) (st : St ops (TS sps) (GB w0) a0 L a w) (hw : Region.wanted o (yielded ops a.tmps) = true)
    (hop : o.op = .call { callee := .value (.func f), args := #[x], argTypes := ts }) (hx : ARel (a.eval x) p w) (hsp : sps.getD i .top = .val v) (hF : F p = v) : Owes Tryd.prog ops Q (TS sps) (GB w0) L i o a w := by
  obtain ⟨b, h1, rfl, h3, h4⟩ := hx
  refine pay_call st hw he hop (by simp [h1]) hsp rfl ((C b w (hT.on st.g) h3 h4).mono ?_)
  rw [hF]
  exact fun _ _ h => ret_holds h
theorem call_IR {f : FuncId} {F : Int → PR} {x : Operand} {ts : Array TypeId} {n : Int} {r : PR} (C : CallIR f F) (he : Enters Tryd.prog f) (st : St ops (TS sps) (GB w0) a0 L a w) (hw : Region.wanted o (yielded ops a.tmps) = true)
    (hop : o.op = .call { callee := .value (.func f), args := #[x], argTypes := ts }) (hx : a.eval x = .int .i64 n) (hsp : sps.getD i .top = .rel r) (hF : F n = r) (hs : Short r) : Owes Tryd.prog ops Q (TS sps) (GB w0) L i o a w := by
  refine pay_call st hw he hop (by simp [hx]) hsp rfl ((C n w).mono ?_)
  rw [hF]
  exact fun _ _ h => retR_holds hs h
end
end Go.Proofs.YtigdecmfieaacaaDoor
