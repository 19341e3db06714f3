/-
  Elements of slices: where they lie, and what lies there.
-/
import Derived.Test.YtmfiiapmkidmkaaDoorDrawnM
namespace Go.Proofs.YtmfiiapmkidmkaaDoor
open Go Go.RowKit
section
variable {o : Oper} {ρ : Operand → Value} {w : World}
/-- An element's address. -/
theorem run_ixA {P : Program} {t e : TypeId} {x y : Operand} {A : Option Addr} {a : Addr} {n c k s : Nat} (hop : o.op = .indexAddr t x y) (hx : ρ x = .slice A n c) (hA : A = some a) (hy : ρ y = .int .i64 ((k : Nat) : Int)) (ht : P.underlying t = some (.slice e)) (hs : (P.info? e).map (·.size) = some s) (hk : k < n) : (execOp ρ o).run P w = .ok (.value (.pointer (some (a.add (k * s))))) w := by
  subst hA
  obtain ⟨i, hi, hs⟩ := Option.map_eq_some_iff.1 hs
  simp [execOp, hop, hx, hy, Instr.indexAt, asIntOf, run_underlying ht, sizeOf, typeInfo, hi, hs, hk]
theorem run_ixG {P : Program} {t e : TypeId} {x y : Operand} {g n c k s : Nat} (hop : o.op = .indexAddr t x y) (hx : ρ x = .slice (some ⟨g, 0, none⟩) n c) (hy : ρ y = .int .i64 ((k : Nat) : Int)) (ht : P.underlying t = some (.slice e)) (hs : (P.info? e).map (·.size) = some s) (hk : k < n) : (execOp ρ o).run P w = .ok (.value (.pointer (some ⟨g, k * s, none⟩))) w := by
  rw [run_ixA hop hx rfl hy ht hs hk, add0]
theorem run_quoN {P : Program} {x y : Operand} {i j : Nat} {t u : TypeId} (hop : o.op = .binOp .quo t x y u) (hx : ρ x = .int .i64 ((i : Nat) : Int)) (hy : ρ y = .int .i64 ((j : Nat) : Int)) (hj : 0 < j) (hi : i < 9223372036854775808) : (execOp ρ o).run P w = .ok (.value (.int .i64 ((i / j : Nat) : Int))) w := by
  have h1 : i / j ≤ i := Nat.div_le_self i j
  have e : IntKind.i64.wrap ((i : Int) / (j : Int)) = (i : Int) / (j : Int) := by
    rw [← Int.natCast_ediv, IntKind.wrap_i64]
    generalize i / j = d at h1 ⊢
    omega
  have hj' : ¬ (j : Int) = 0 := by omega
  have hj2 : ¬ j = 0 := by omega
  simp [execOp, hop, hx, hy, go_sem, hj', hj2, e]
end
theorem CellsAt.sub {w : World} {g o : Nat} {cs : List Value} (h : CellsAt w ⟨g, o, none⟩ cs) (i m : Nat) : CellsAt w ⟨g, o + i, none⟩ ((cs.drop i).take m) := by
  intro j v hj
  rw [List.getElem?_take] at hj
  split at hj
  · rw [List.getElem?_drop] at hj
    have := h (i + j) v hj
    rw [Addr.add_mid] at this ⊢
    rw [Nat.add_assoc]; exact this
  · cases hj
theorem add_add (a : Addr) {m n : Nat} (hm : 0 < m) : (a.add m).add n = a.add (m + n) := by
  unfold Addr.add
  rw [if_neg (show ¬ m = 0 by omega), if_neg (show ¬ m + n = 0 by omega)]
  by_cases hn : n = 0
  · subst hn; simp
  · rw [if_neg hn]; simp [Nat.add_assoc]
theorem CellsAt.addA {w : World} {a : Addr} {cs : List Value} (h : CellsAt w a cs) (i m : Nat) (hi : 0 < i) : CellsAt w (a.add i) ((cs.drop i).take m) := by
  intro j v hj
  rw [List.getElem?_take] at hj
  split at hj
  · rw [List.getElem?_drop] at hj
    rw [add_add a hi]; exact h (i + j) v hj
  · cases hj
theorem CellsAt.addZ {w : World} {a : Addr} {cs : List Value} (h : CellsAt w a cs) (m : Nat) : CellsAt w (a.add 0) ((cs.drop 0).take m) := by
  intro j v hj
  rw [List.getElem?_take] at hj
  split at hj
  · rw [show a.add 0 = a from if_pos rfl]; exact h j v (by simpa using hj)
  · cases hj
theorem CellsAt.subA {w : World} {a : Addr} {b : Nat} {cs : List Value} (h : CellsAt w (a.add b) cs) (i m : Nat) (hi : 0 < b + i) : CellsAt w (a.add (b + i)) ((cs.drop i).take m) := by
  intro j v hj
  rw [List.getElem?_take] at hj
  split at hj
  · rw [List.getElem?_drop] at hj
    have := h (i + j) v hj
    rw [add_add a hi, Nat.add_assoc]
    rcases Nat.eq_zero_or_pos b with hb | hb
    · subst hb
      rw [show a.add 0 = a from if_pos rfl] at this
      rw [Nat.zero_add]; exact this
    · rw [add_add a hb] at this; exact this
  · cases hj
section
variable {w0 w : World} {its : List It}
theorem Mem.ownCells (hM : Mem w0 w its) (j : Nat) {e : TypeId} {s g n n' c : Nat} {xs : List Value} (hj : its[j]? = some (.own e s (.slice (some ⟨g, 0, none⟩) n c) n' xs)) (k m : Nat) : CellsAt w ⟨g, k, none⟩ ((xs.drop k).take m) := by
  have ho := hM.own j hj
  intro i v hi
  rw [List.getElem?_take] at hi
  split at hi
  · rw [List.getElem?_drop] at hi
    have := ho.cells (g := g) rfl (k + i) v hi
    rw [Addr.add_mid, Nat.zero_add] at this
    rw [Addr.add_mid]; exact this
  · cases hi
end
end Go.Proofs.YtmfiiapmkidmkaaDoor
