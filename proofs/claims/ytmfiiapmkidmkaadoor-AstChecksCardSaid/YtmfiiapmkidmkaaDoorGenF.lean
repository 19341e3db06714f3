/-
  Regions with calls, facts of memory, and one store at most, in any order.
-/
import Derived.Test.YtmfiiapmkidmkaaDoorGenC
namespace Go.Proofs.YtmfiiapmkidmkaaDoor
open Go Go.RowKit

/-- Facts that calls leave alone. -/
def Calm (F : World → Prop) : Prop := ∀ w w', Below w.heap.size w w' → F w → F w'
/-- The facts, and what lies in the stored row: before, and behind, operation s. -/
def GF (s : Nat) (F : World → Prop) (X : Bool → World → Prop) (L : Nat → Bool) (w : World) : Prop := F w ∧ X (L s) w
section
variable {P : Program} {ops : Array Oper} {Q : Exit → Act → World → Prop} {vs : List (Option Value)} {a0 : Act} {F : World → Prop} {X : Bool → World → Prop} {L : Nat → Bool} {i s : Nat} {o : Oper} {a : Act} {w : World}
theorem StW.argF {G : (Nat → Bool) → World → Prop} {j : Nat} {d : Tmp} {v : Value} (st : StW ops (TV vs) G a0 L a w) (hl : L j = true) (hs : slotOf ops j = some d) (hv : vs.getD j none = some v) : a.eval (.tmp d) = v := by
  have := st.t j hl
  unfold TV at this
  rw [hv] at this
  rw [eval_slot hs]; exact this
theorem StW.wantF {G : (Nat → Bool) → World → Prop} {g : Nat} {b : Bool} (st : StW ops (TV vs) G a0 L a w) (haft : ∀ e ∈ o.after, L e.on = true) (hg : o.guard = some (g, b)) (hl : (o.after.any fun e => e.on == g) = true) (hv : vs.getD g none = some (.bool b)) : Region.wanted o (yielded ops a.tmps) = true := by
  have := st.t g (aft_of haft hl)
  unfold TV at this
  rw [hv] at this
  exact want_of hg this
theorem gf_on (h : GF s F X L w) (hi : (decide (i ≠ s)) = true) : GF s F X (fun j => decide (j = i) || L j) w := by
  have e : s ≠ i := fun e => of_decide_eq_true hi e.symm
  unfold GF at h ⊢
  simpa [e] using h
theorem payF {v : Value} (st : StW ops (TV vs) (GF s F X) a0 L a w) (hi : (decide (i ≠ s)) = true) (hw : Region.wanted o (yielded ops a.tmps) = true) (hrun : ∀ w, F w → (execOp a.eval o).run P w = .ok (.value v) w) (hv : vs.getD i none = some v) : OwesW P ops Q (TV vs) (GF s F X) L i o a w := fun K hK => by
  rw [if_pos hw]
  unfold Oper.wp
  rw [hrun w st.g.1]
  exact hK v w (TV.self hv) (gf_on st.g hi) (fun _ _ _ h => h)
theorem payF_move {x : Operand} {v : Value} (st : StW ops (TV vs) (GF s F X) a0 L a w) (hi : (decide (i ≠ s)) = true) (hw : Region.wanted o (yielded ops a.tmps) = true) (hop : o.op = .move x) (hx : a.eval x = v) (hv : vs.getD i none = some v) : OwesW P ops Q (TV vs) (GF s F X) L i o a w :=
  payF st hi hw (fun _ _ => (run_move hop).trans (by rw [hx])) hv
theorem payF_pick {c x y : Operand} {b : Bool} {v : Value} (st : StW ops (TV vs) (GF s F X) a0 L a w) (hi : (decide (i ≠ s)) = true) (hw : Region.wanted o (yielded ops a.tmps) = true) (hop : o.op = .pick c x y) (hc : a.eval c = .bool b) (hx : (if b then a.eval x else a.eval y) = v) (hv : vs.getD i none = some v) : OwesW P ops Q (TV vs) (GF s F X) L i o a w :=
  payF st hi hw (fun _ _ => (run_pick hop hc).trans (by rw [hx])) hv
theorem StW.skipF {g : Nat} {b : Bool} {u : Value} (st : StW ops (TV vs) (GF s F X) a0 L a w) (hi : (decide (i ≠ s)) = true) (haft : ∀ e ∈ o.after, L e.on = true) (hg : o.guard = some (g, b)) (hl : (o.after.any fun e => e.on == g) = true) (hv : vs.getD g none = some u) (hu : u = .bool (!b) ∨ u = undef) (hn : vs.getD i none = some undef) : OwesW P ops Q (TV vs) (GF s F X) L i o a w := fun K hK => by
  have := st.t g (aft_of haft hl)
  unfold TV at this
  rw [hv] at this
  have hw : Region.wanted o (yielded ops a.tmps) = false := by
    rcases hu with rfl | rfl
    · exact want_not hg this
    · exact want_undef hg this
  rw [if_neg (by rw [hw]; decide)]
  exact hK undef w (TV.self hn) (gf_on st.g hi) (fun _ _ _ h => h)
theorem callTF {f : FuncId} {args : Array Value} {b c : Bool} (h : b = c) (hc : ∀ w, F w → Calls P f args w (Ret w (.bool b))) : ∀ w, F w → Calls P f args w (Ret w (.bool c)) := by
  subst h; exact hc
theorem callF {f : FuncId} {xs : Array Operand} {ts : Array TypeId} {args : Array Value} {v : Value} (st : StW ops (TV vs) (GF s F X) a0 L a w) (hi : (decide (i ≠ s)) = true) (hF : Calm F) (hX : ∀ b, Calm (X b)) (hw : Region.wanted o (yielded ops a.tmps) = true) (he : Enters P f) (hop : o.op = .call { callee := .value (.func f), args := xs, argTypes := ts }) (hargs : xs.map a.eval = args)
    (hc : ∀ w, F w → Calls P f args w (Ret w v)) (hv : vs.getD i none = some v) : OwesW P ops Q (TV vs) (GF s F X) L i o a w := fun K hK => by
  subst hargs
  rw [if_pos hw]
  unfold Oper.wp
  rw [run_call_fn he hop]
  refine (hc w st.g.1).mono ?_
  rintro e w' ⟨rfl, hb⟩
  exact hK v w' (TV.self hv) (gf_on ⟨hF w w' hb st.g.1, hX _ w w' hb st.g.2⟩ hi) (fun _ _ _ h => h)
theorem storeF (st : StW ops (TV vs) (GF i F X) a0 L a w) (hL : L i = false) (hw : Region.wanted o (yielded ops a.tmps) = true) (hrun : ∀ w, F w → X false w → ∃ w', (execOp a.eval o).run P w = .ok .skip w' ∧ F w' ∧ X true w') (hv : vs.getD i none = none) : OwesW P ops Q (TV vs) (GF i F X) L i o a w := fun K hK => by
  have g := st.g
  unfold GF at g
  rw [hL] at g
  obtain ⟨w', h1, h2, h3⟩ := hrun w g.1 g.2
  rw [if_pos hw]
  unfold Oper.wp
  rw [h1]
  refine hK undef w' (TV.none hv) ?_ (fun _ _ _ h => h)
  unfold GF
  simpa using ⟨h2, h3⟩
theorem region_f {id n : Nat} (vs : List (Option Value)) (s : Nat) (F : World → Prop) (X : Bool → World → Prop) {w0 : World} (hF : Calm F) (hX : Calm (X false)) (h0 : F w0) (h1 : X false w0) (hm : P.follows .mixedOrders = true) (hwf : wfR ops a0.tmps.size = true) (hb : bindsAll ops = true) (hd : okV ops vs = true) (hl : vs.length = ops.size) (hn : ops.size = n)
    (steps : AllS n fun i => ∀ (o : Oper) (a : Act) (w : World) (L : Nat → Bool), ops[i]? = some o → L i = false → (∀ e ∈ o.after, L e.on = true) → StW ops (TV vs) (GF s F X) a0 L a w → OwesW P ops Q (TV vs) (GF s F X) L i o a w)
    (fin : ∀ L a w, (∀ i, i < n → L i = true) → StW ops (TV vs) (GF s F X) a0 L a w → Q .normal a w) : (Code.region id ops true).wp P Q a0 w0 :=
  region_stepsW (G := GF s F X) hm hwf hb (tv_deps hd hl) ⟨hF _ _ (Below.refl _ _).drew h0, hX _ _ (Below.refl _ _).drew h1⟩ hn steps fin
theorem region_fs {id n : Nat} (vs : List (Option Value)) (s : Nat) (F : World → Prop) (X : Bool → World → Prop) {w0 : World} (h0 : F w0) (h1 : X false w0) (hwf : wfR ops a0.tmps.size = true) (hd : okV ops vs = true) (hl : vs.length = ops.size) (hn : ops.size = n)
    (steps : AllS n fun i => ∀ (o : Oper) (a : Act) (w : World) (L : Nat → Bool), ops[i]? = some o → L i = false → (∀ e ∈ o.after, L e.on = true) → StW ops (TV vs) (GF s F X) a0 L a w → OwesW P ops Q (TV vs) (GF s F X) L i o a w)
    (fin : ∀ L a w, (∀ i, i < n → L i = true) → StW ops (TV vs) (GF s F X) a0 L a w → Q .normal a w) : (Code.region id ops false).wp P Q a0 w0 :=
  region_seqW (G := GF s F X) hwf (tv_deps hd hl) ⟨h0, h1⟩ hn steps fin
end
/-- Values stored one behind the other. -/
def setCells (w : World) (b k : Nat) : List Value → World
  | [] => w
  | v :: vs => setCells (w.setCell ⟨b, k, none⟩ v) b (k + 1) vs
theorem RowT.setCells {w : World} {g b : Nat} {t : TypeId} {cs : List Value} (h : RowT w g t cs) (hne : g ≠ b) : ∀ (vs : List Value) (k : Nat), RowT (Proofs.YtmfiiapmkidmkaaDoor.setCells w b k vs) g t cs := by
  intro vs
  induction vs generalizing w with
  | nil => exact fun _ => h
  | cons v vs ih => exact fun k => ih (h.far (p := ⟨b, k, none⟩) hne v) (k + 1)
theorem below_setCells {B b : Nat} {w w' : World} (h : Below B w w') (hb : B ≤ b) : ∀ (vs : List Value) (k : Nat), Below B w (setCells w' b k vs) := by
  intro vs
  induction vs generalizing w' with
  | nil => exact fun _ => h
  | cons v vs ih => exact fun k => ih (h.setCell (p := ⟨b, k, none⟩) hb v) (k + 1)
theorem RowT.ne_ty {w : World} {g b : Nat} {t u : TypeId} {cs ds : List Value} (h : RowT w g t cs) (k : RowT w b u ds) (htu : t ≠ u) : g ≠ b := by
  rintro rfl
  unfold RowT at h k
  rw [h] at k
  injection k with k
  injection k with _ k _
  exact htu k
end Go.Proofs.YtmfiiapmkidmkaaDoor
