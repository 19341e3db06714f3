/-
  When statements are the same.
-/
import Derived.Test.YtmfiiapmkidmkaaDoorTreeC
namespace Go.Proofs.YtmfiiapmkidmkaaDoor
open Go Go.RowKit

/-- A statement but for its lists; how many expressions they have. -/
def smNe (s t : Sm) : Bool := (((neI s.kind t.kind || neS s.nm t.nm) || neS s.loc t.loc) || neI s.ord t.ord) || neI ((s.es.length : Nat) : Int) ((t.es.length : Nat) : Int)
mutual
def Sm.same : Sm → Sm → Bool
  | .mk k n o d A1 c1 es A2 c2 th A3 c3 el, t => !((smNe (.mk k n o d A1 c1 es A2 c2 th A3 c3 el) t || !(!(neI ((th.length : Nat) : Int) ((t.th.length : Nat) : Int)) && smsSame th t.th)) || !(!(neI ((el.length : Nat) : Int) ((t.el.length : Nat) : Int)) && smsSame el t.el)) && exsSame es t.es
def smsSame : List Sm → List Sm → Bool
  | x :: r, y :: s => x.same y && smsSame r s
  | _, _ => true
end
def smsEq (l m : List Sm) : Bool := !(neI ((l.length : Nat) : Int) ((m.length : Nat) : Int)) && smsSame l m
theorem sm_same (s t : Sm) : s.same t = (!((smNe s t || !(smsEq s.th t.th)) || !(smsEq s.el t.el)) && exsSame s.es t.es) := by cases s; rw [Sm.same]; rfl
theorem smsSame_step {l m : List Sm} {i : Nat} {x y : Sm} (h : l[i]? = some x) (h2 : m[i]? = some y) : smsSame (l.drop i) (m.drop i) = (x.same y && smsSame (l.drop (i + 1)) (m.drop (i + 1))) := by
  obtain ⟨hi, rfl⟩ := List.getElem?_eq_some_iff.1 h
  obtain ⟨hj, rfl⟩ := List.getElem?_eq_some_iff.1 h2
  rw [List.drop_eq_getElem_cons hi, List.drop_eq_getElem_cons hj, smsSame]
theorem smsSame_end {l m : List Sm} {i : Nat} (h : l.length ≤ i) : smsSame (l.drop i) (m.drop i) = true := by
  rw [List.drop_of_length_le h]; unfold smsSame; rfl
end Go.Proofs.YtmfiiapmkidmkaaDoor
