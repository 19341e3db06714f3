/-
  Regions of plain values with calls that answer plain values, in any order.
-/
import Derived.Test.YtmfiiapmkidmkaaDoorGen
namespace Go.Proofs.YtmfiiapmkidmkaaDoor
open Go Go.RowKit

/-- All that lay there lies there. -/
abbrev GBw (w0 : World) : World → Prop := fun w => Below w0.heap.size w0 w
section
variable {P : Program} {ops : Array Oper} {Q : Exit → Act → World → Prop} {vs : List (Option Value)} {a0 : Act} {w0 : World} {L : Nat → Bool} {i : Nat} {o : Oper} {a : Act} {w : World}
theorem payB {v : Value} (st : St ops (TV vs) (GBw w0) a0 L a w) (hw : Region.wanted o (yielded ops a.tmps) = true) (hrun : ∀ w, Below w0.heap.size w0 w → (execOp a.eval o).run P w = .ok (.value v) w) (hv : vs.getD i none = some v) : Owes P ops Q (TV vs) (GBw w0) L i o a w :=
  Owes.pure hw (hrun w st.g) (TV.self hv) st.g
theorem payB_move {x : Operand} {v : Value} (st : St ops (TV vs) (GBw w0) a0 L a w) (hw : Region.wanted o (yielded ops a.tmps) = true) (hop : o.op = .move x) (hx : a.eval x = v) (hv : vs.getD i none = some v) : Owes P ops Q (TV vs) (GBw w0) L i o a w :=
  payB st hw (fun _ _ => (run_move hop).trans (by rw [hx])) hv
theorem payB_pick {c x y : Operand} {b : Bool} {v : Value} (st : St ops (TV vs) (GBw w0) a0 L a w) (hw : Region.wanted o (yielded ops a.tmps) = true) (hop : o.op = .pick c x y) (hc : a.eval c = .bool b) (hx : (if b then a.eval x else a.eval y) = v) (hv : vs.getD i none = some v) : Owes P ops Q (TV vs) (GBw w0) L i o a w :=
  payB st hw (fun _ _ => (run_pick hop hc).trans (by rw [hx])) hv
theorem callT {f : FuncId} {args : Array Value} {b c : Bool} (h : b = c) (hc : ∀ w, Calls P f args w (Ret w (.bool b))) : ∀ w, Below w0.heap.size w0 w → Calls P f args w (Ret w (.bool c)) := by
  subst h; exact fun w _ => hc w
theorem callB {f : FuncId} {xs : Array Operand} {ts : Array TypeId} {args : Array Value} {v : Value} (st : St ops (TV vs) (GBw w0) a0 L a w) (hw : Region.wanted o (yielded ops a.tmps) = true) (he : Enters P f) (hop : o.op = .call { callee := .value (.func f), args := xs, argTypes := ts }) (hargs : xs.map a.eval = args)
    (hc : ∀ w, Below w0.heap.size w0 w → Calls P f args w (Ret w v)) (hv : vs.getD i none = some v) : Owes P ops Q (TV vs) (GBw w0) L i o a w := by
  subst hargs
  refine Owes.call hw (run_call_fn he hop) ((hc w st.g).mono ?_)
  rintro e w' ⟨rfl, hb⟩
  exact ⟨v, rfl, TV.self hv, Below.trans st.g (hb.mono (Below.size st.g)), fun _ _ _ h => h⟩
theorem St.skipB {g : Nat} {b : Bool} {u : Value} (st : St ops (TV vs) (GBw w0) a0 L a w) (haft : ∀ e ∈ o.after, L e.on = true) (hg : o.guard = some (g, b)) (hl : (o.after.any fun e => e.on == g) = true) (hv : vs.getD g none = some u) (hu : u = .bool (!b) ∨ u = undef) (hn : vs.getD i none = some undef) : Owes P ops Q (TV vs) (GBw w0) L i o a w := by
  have := st.t g (aft_of haft hl)
  unfold TV at this
  rw [hv] at this
  have hw : Region.wanted o (yielded ops a.tmps) = false := by
    rcases hu with rfl | rfl
    · exact want_not hg this
    · exact want_undef hg this
  exact Owes.skipped hw (TV.self hn) st.g
theorem region_c {id n : Nat} (vs : List (Option Value)) (w0 : World) (hm : P.follows .mixedOrders = true) (hwf : wfR ops a0.tmps.size = true) (hb : bindsAll ops = true) (hd : okV ops vs = true) (hl : vs.length = ops.size) (hn : ops.size = n)
    (steps : AllS n fun i => ∀ (o : Oper) (a : Act) (w : World) (L : Nat → Bool), ops[i]? = some o → L i = false → (∀ e ∈ o.after, L e.on = true) → St ops (TV vs) (GBw w0) a0 L a w → Owes P ops Q (TV vs) (GBw w0) L i o a w)
    (fin : ∀ L a w, (∀ i, i < n → L i = true) → St ops (TV vs) (GBw w0) a0 L a w → Q .normal a w) : (Code.region id ops true).wp P Q a0 w0 :=
  region_steps (G := GBw w0) hm hwf hb (tv_deps hd hl) (Below.refl _ _).drew hn steps fin
theorem region_cs {id n : Nat} (vs : List (Option Value)) (w0 : World) (hwf : wfR ops a0.tmps.size = true) (hd : okV ops vs = true) (hl : vs.length = ops.size) (hn : ops.size = n)
    (steps : AllS n fun i => ∀ (o : Oper) (a : Act) (w : World) (L : Nat → Bool), ops[i]? = some o → L i = false → (∀ e ∈ o.after, L e.on = true) → St ops (TV vs) (GBw w0) a0 L a w → Owes P ops Q (TV vs) (GBw w0) L i o a w)
    (fin : ∀ L a w, (∀ i, i < n → L i = true) → St ops (TV vs) (GBw w0) a0 L a w → Q .normal a w) : (Code.region id ops false).wp P Q a0 w0 :=
  region_steps_seq (G := GBw w0) hwf (tv_deps hd hl) (Below.refl _ _) hn steps fin
end
end Go.Proofs.YtmfiiapmkidmkaaDoor
