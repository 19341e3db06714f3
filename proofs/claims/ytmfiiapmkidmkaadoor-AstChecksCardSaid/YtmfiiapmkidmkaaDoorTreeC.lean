/-
  When trees are the same.
-/
import Derived.Test.YtmfiiapmkidmkaaDoorTreeB
namespace Go.Proofs.YtmfiiapmkidmkaaDoor
open Go Go.RowKit

def neI (x y : Int) : Bool := !(decide (x = y))
def neS (x y : List UInt8) : Bool := !(decide (x = y))
/-- An expression but for its kids; how many they are. -/
def exNe (x y : Ex) : Bool := ((neI x.op y.op || neI x.num y.num) || neS x.nm y.nm) || neI ((x.ks.length : Nat) : Int) ((y.ks.length : Nat) : Int)
mutual
def Ex.same : Ex → Ex → Bool
  | .mk o n m A c ks, y => !(exNe (.mk o n m A c ks) y) && exsSame ks y.ks
def exsSame : List Ex → List Ex → Bool
  | x :: r, y :: s => x.same y && exsSame r s
  | _, _ => true
end
theorem same_eq (x y : Ex) : x.same y = (!(exNe x y) && exsSame x.ks y.ks) := by cases x; rw [Ex.same]; rfl
theorem exsSame_step {l m : List Ex} {i : Nat} {x y : Ex} (h : l[i]? = some x) (h2 : m[i]? = some y) : exsSame (l.drop i) (m.drop i) = (x.same y && exsSame (l.drop (i + 1)) (m.drop (i + 1))) := by
  obtain ⟨hi, rfl⟩ := List.getElem?_eq_some_iff.1 h
  obtain ⟨hj, rfl⟩ := List.getElem?_eq_some_iff.1 h2
  rw [List.drop_eq_getElem_cons hi, List.drop_eq_getElem_cons hj, exsSame]
theorem exsSame_end {l m : List Ex} {i : Nat} (h : l.length ≤ i) : exsSame (l.drop i) (m.drop i) = true := by
  rw [List.drop_of_length_le h]; unfold exsSame; rfl
end Go.Proofs.YtmfiiapmkidmkaaDoor
