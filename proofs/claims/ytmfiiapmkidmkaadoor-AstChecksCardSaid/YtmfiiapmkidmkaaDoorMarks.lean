/-
  Ranges over functions that stand in a loop: the marks that they leave on the function's deferred calls. No program is named here.
-/
import Derived.Test.YtmfiiapmkidmkaaDoorBase
import Derived.RangeFuncNested
import Derived.RangeFuncBound
import Derived.RangeFuncCalls
import Derived.RangeFuncLeaves
import Derived.RangeFuncBox
namespace Go.Proofs.YtmfiiapmkidmkaaDoor
open Go Go.RowKit

/-- A block of cells abides what a range over a function turns. -/
theorem RowT.ownFrom {β : Type} (B g : Nat) (t : TypeId) (cs : β → List Value) : OwnFrom B (fun (s : β) W => RowT W g t (cs s)) := by
  intro s W W' row h hg hr
  refine RowT.grown h hg ?_
  intro e
  obtain ⟨_, o, ho, hc⟩ := hr g e.symm
  have h' : W.heap[g]? = some (.cells (cs s).toArray t (0, 0)) := h
  rw [h'] at ho
  cases ho
  cases hc

def mark (D : Nat) : Deferred := { target := .collected D, args := #[] }
/-- The marks that lie on the deferred calls, from block B on. -/
structure Marked (B : Nat) (Ds : List Nat) (W : World) : Prop where
  nodup : Ds.Nodup
  each : ∀ D ∈ Ds, B ≤ D ∧ W.heap[D]? = some (.deferred (some []))
theorem Marked.nil (B : Nat) (W : World) : Marked B [] W := ⟨List.nodup_nil, fun _ h => by cases h⟩
theorem Marked.lt {B : Nat} {Ds : List Nat} {W : World} (h : Marked B Ds W) : ∀ D ∈ Ds, D < W.heap.size := fun D hD => (Array.getElem?_eq_some_iff.1 (h.each D hD).2).1
theorem Marked.keeps {B : Nat} {Ds : List Nat} {W W' : World} (h : Marked B Ds W) (hk : KeepsOthers W W') : Marked B Ds W' :=
  ⟨h.nodup, fun D hD => ⟨(h.each D hD).1, hk.same D _ (h.each D hD).2 rfl⟩⟩
theorem Marked.below {B C : Nat} {Ds : List Nat} {W W' : World} (h : Marked B Ds W) (hb : Below C W W') (hC : ∀ D ∈ Ds, D < C) : Marked B Ds W' :=
  ⟨h.nodup, fun D hD => ⟨(h.each D hD).1, (hb.block D (hC D hD)).trans (h.each D hD).2⟩⟩
theorem Marked.ownFrom {β : Type} {B C : Nat} {Ds : List Nat} (hC : ∀ D ∈ Ds, D < C) : OwnFrom C (fun (_ : β) W => Marked B Ds W) := by
  intro s W W' row h hg hr
  refine ⟨h.nodup, fun D hD => ⟨(h.each D hD).1, ?_⟩⟩
  refine (hg.block D (h.lt D hD) ?_).trans (h.each D hD).2
  intro e
  have := (hr D e.symm).1
  have := hC D hD
  omega
theorem Marked.cons {B D : Nat} {Ds : List Nat} {W : World} (h : Marked B Ds W) (hn : D ∉ Ds) (hB : B ≤ D) (hD : W.heap[D]? = some (.deferred (some []))) : Marked B (D :: Ds) W :=
  ⟨List.nodup_cons.2 ⟨hn, h.nodup⟩, fun E hE => by
    rcases List.mem_cons.1 hE with rfl | hE
    · exact ⟨hB, hD⟩
    · exact h.each E hE⟩
theorem RowT.putObj {W : World} {g D : Nat} {t : TypeId} {cs : List Value} {ds : Option (List Deferred)} (h : RowT W g t cs) (hD : W.heap[D]? = some (.deferred ds)) (o : Obj) : RowT (W.putObj D o) g t cs := by
  have h' : W.heap[g]? = some (.cells cs.toArray t (0, 0)) := h
  have hne : g ≠ D := fun e => by rw [e, hD] at h'; cases h'
  exact (World.putObj_heap_other hne).trans h
theorem leaves_marked {F : Fence} {n : Nat} {P : Program} {fn : Func} {tmps : Array Value} {R : Ending → World → Prop} {B : Nat} : ∀ (Ds : List Nat) (W : World), Marked B Ds W →
    (∀ W', Below B W W' → (∀ g t cs, RowT W g t cs → RowT W' g t cs) → LeavesIn F n P fn tmps R [] .returning W') → LeavesInM F n P fn tmps R (Ds.map mark) .returning W
  | [], W, _, h => h W (Below.refl _ _) (fun _ _ _ h => h)
  | D :: Ds, W, hm, h => by
    obtain ⟨hB, hD⟩ := hm.each D (by simp)
    have hlt := (Array.getElem?_eq_some_iff.1 hD).1
    have hnd := List.nodup_cons.1 hm.nodup
    have hb : Below B W (W.putObj D (.deferred none)) := ⟨rfl, rfl, rfl, by simp [World.putObj], fun k hk => World.putObj_heap_other (by omega)⟩
    have hrow : ∀ g t cs, RowT W g t cs → RowT (W.putObj D (.deferred none)) g t cs := fun g t cs hr => by
      have h' : W.heap[g]? = some (.cells cs.toArray t (0, 0)) := hr
      have hne : g ≠ D := fun e => by rw [e, hD] at h'; cases h'
      exact (World.putObj_heap_other hne).trans hr
    refine ⟨by simp, .inl ⟨D, _, rfl, run_takeDeferred hD, leaves_marked Ds _ ⟨hnd.2, fun E hE => ⟨(hm.each E (by simp [hE])).1, ?_⟩⟩ fun W' hb' hr' => h W' (hb.trans hb') fun g t cs hg => hr' g t cs (hrow g t cs hg)⟩⟩
    exact (World.putObj_heap_other (fun e => hnd.1 (by rw [← e]; exact hE))).trans (hm.each E (by simp [hE])).2
end Go.Proofs.YtmfiiapmkidmkaaDoor
