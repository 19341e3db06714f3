/-
  Regions whose order is drawn, order by order: plain operations first, then each of those that are ready.
-/
import Derived.Test.YtmfiiapmkidmkaaDoorElem
namespace Go.Proofs.YtmfiiapmkidmkaaDoor
open Go Go.RowKit

/-- It ends as it should, and then R holds. -/
def Nrm (R : Act → World → Prop) : Exit → Act → World → Prop := fun e a w => e = .normal ∧ R a w
def AllL : List Nat → (Nat → Prop) → Prop
  | [], _ => True
  | i :: r, p => p i ∧ AllL r p
theorem AllL.mem {p : Nat → Prop} : ∀ {l : List Nat}, AllL l p → ∀ i ∈ l, p i := by
  intro l
  induction l with
  | nil => intro _ i hi; cases hi
  | cons j r ih =>
    intro h i hi
    rcases List.mem_cons.1 hi with rfl | hi
    · exact h.1
    · exact ih h.2 i hi
section
variable {P : Program} {ops : Array Oper} {Q : Exit → Act → World → Prop} {R K : Act → World → Prop} {a : Act} {n fuel i : Nat} {env : List (Nat × Value)} {w w0 : World} {its : List It} {listed : Array Bool}
theorem wp_cut {c : Code} (R : Act → World → Prop) (h : c.wp P (Nrm R) a w) (h2 : ∀ a w, R a w → Q .normal a w) : c.wp P Q a w :=
  Code.wp_mono (by rintro e a w ⟨rfl, h⟩; exact h2 a w h) h
theorem not_lets : ¬ LetsOut (Nrm R) := by
  rintro ⟨a, w, h, _⟩; cases h
theorem wpOps_one (h : wpOps P ops (Nrm K) [i] a w) : wpOp P ops (Nrm R) i K a w := by
  rw [wpOps_cons] at h
  replace h : wpOp P ops (Nrm K) i K a w := wpOp_mono (fun a w h => h.2) h
  unfold wpOp at h ⊢
  split
  · simpa [*] using h
  · rename_i o ho
    simp only [ho] at h
    split
    · rename_i hw
      rw [if_pos hw] at h
      rcases h with h | ⟨_, h⟩
      · refine .inl ?_
        unfold Oper.wp at h ⊢
        generalize (execOp a.eval o).run P w = r at h ⊢
        cases r with
        | ok x w' =>
          cases x <;> simp only [Oper.upon] at h ⊢ <;> first
            | exact h
            | exact Calls.mono h (fun e w'' he => by
                cases e with
                | returned v => exact he
                | panicked c => cases he.1
                | outgrown => exact absurd he not_lets)
        | halt x w' => cases x <;> simp only [Oper.upon] at h ⊢ <;> first | exact h | cases h.1
      · exact absurd h not_lets
    · rename_i hw
      rw [if_neg hw] at h; exact h
theorem region_tree {id : Nat} (hM : Mem w0 w its) (hm : P.follows .mixedOrders = true) (k : Nat) (hk : ops.size = k) (ls : Array Bool) (hl : Array.replicate k false = ls) (h : ∀ w, Mem w0 w its → wpAny P .any ops (Nrm R) k ls a w) : (Code.region id ops true).wp P (Nrm R) a w := by
  subst hk; subst hl
  exact wp_region_any hm (h _ hM.drew)
/-- A plain operation first. -/
theorem treeP (hK : Knows a n env) (i d : Nat) (v : Value) (hs : Region.noSelect ops = true) (hc : chk ops env i n d = true) (hf : (Region.free .any ops listed i && (Region.ready .any ops listed).contains i) = true) (hrun : ∀ w, (execOp (evE env) (opAt ops i)).run P w = .ok (.value v) w) (ls : Array Bool) (hl : listed.setIfInBounds i true = ls)
    (h : ∀ a', Knows a' n ((d, v) :: env) → wpAny P .any ops (Nrm R) fuel ls a' w) : wpAny P .any ops (Nrm R) (fuel + 1) listed a w := by
  subst hl
  rw [Bool.and_eq_true] at hf
  obtain ⟨o, ho, h0, hd, hb, hg, hcov⟩ := chk_parts hc
  rw [h0] at hrun
  refine wpAny_take ho hs hf.1 hf.2 (fun c a w h => by cases h.1) (.inl ⟨wanted_of hK hg, fun w => by rw [hK.exec hcov]; exact hrun w⟩) ?_
  rw [hd]; exact h _ (hK.put hb)
/-- An operation that is left out. -/
theorem treeN (hK : Knows a n env) (i d : Nat) (hs : Region.noSelect ops = true) (hc : chkN ops env i n d = true) (hf : (Region.free .any ops listed i && (Region.ready .any ops listed).contains i) = true) (ls : Array Bool) (hl : listed.setIfInBounds i true = ls)
    (h : ∀ a', Knows a' n ((d, undef) :: env) → wpAny P .any ops (Nrm R) fuel ls a' w) : wpAny P .any ops (Nrm R) (fuel + 1) listed a w := by
  subst hl
  rw [Bool.and_eq_true] at hf
  obtain ⟨o, ho, hd, hb, hg⟩ := chkN_parts hc
  refine wpAny_take ho hs hf.1 hf.2 (fun c a w h => by cases h.1) (.inr ⟨wanted_of hK hg, rfl⟩) ?_
  rw [hd]; exact h _ (hK.put hb)
/-- Each of those that are ready. -/
theorem treeM (lst : List Nat) (hr : Region.ready .any ops listed = lst) (hne : lst.isEmpty = false) (h : AllL lst fun i => wpOps P ops (Nrm (wpAny P .any ops (Nrm R) fuel (listed.setIfInBounds i true))) [i] a w) : wpAny P .any ops (Nrm R) (fuel + 1) listed a w :=
  wpAny_all hr (by intro e; rw [e] at hne; cases hne) fun i hi => wpOps_one (AllL.mem h i hi)
theorem tree_next (ls : Array Bool) (hl : listed.setIfInBounds i true = ls) (h : wpAny P .any ops (Nrm R) fuel ls a w) : wpOps P ops (Nrm (wpAny P .any ops (Nrm R) fuel (listed.setIfInBounds i true))) [] a w := by
  subst hl; exact ⟨rfl, h⟩
theorem treeE (hr : Region.ready .any ops listed = []) (h : R a w) : wpAny P .any ops (Nrm R) fuel listed a w := wpAny_done hr ⟨rfl, h⟩ fuel
end
/-- The items in another order. -/
theorem Mem.order {w0 w : World} {its : List It} (hM : Mem w0 w its) (segs : List (List It)) (idx : List Nat) (n : Nat) (hn : segs.length = n) (h : its = segs.flatten) (hp : idx.Perm (List.range n)) (its' : List It) (h' : its' = (idx.map fun k => segs.getD k []).flatten) : Mem w0 w its' := by
  subst h; subst h'; subst hn
  refine hM.perm ?_
  have h2 : (idx.map fun k => segs.getD k []).Perm ((List.range segs.length).map fun k => segs.getD k []) := hp.map _
  have h3 : (List.range segs.length).map (fun k => segs.getD k []) = segs := by
    apply List.ext_getElem
    · simp
    · intro i h1 h2; simp [List.getD_eq_getElem?_getD, h2]
  rw [h3] at h2
  exact h2.symm.flatten
/-- What a call gave, told in another order. -/
theorem Gives.perm {τ : Type} {w0 : World} {f : τ → Value} {g g' : τ → List It} {R : τ → Prop} {e : Ending} {w' : World} (hp : ∀ x, (g x).Perm (g' x)) (h : Gives w0 f g R e w') : Gives w0 f g' R e w' := by
  obtain ⟨x, h1, h2, h3⟩ := h
  exact ⟨x, h1, h2.perm (hp x), h3⟩
end Go.Proofs.YtmfiiapmkidmkaaDoor
