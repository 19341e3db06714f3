/-
  Single operations on texts and bytes, on frames that are not written out.
-/
import Derived.Test.YtmfiiapmkidmkaaDoorGen
namespace Go.Proofs.YtmfiiapmkidmkaaDoor
open Go Go.RowKit

/-- A text of these bytes. -/
def Str (l : List UInt8) : Value := .string ⟨l.toArray⟩
section
variable {o : Oper} {ρ : Operand → Value} {w : World}
theorem run_lenS {x : Operand} {l : List UInt8} (hop : o.op = .call { callee := .builtin .len, args := #[x], argTypes := #[9] }) (hx : ρ x = Str l) : (execOp ρ o).run Tryd.prog w = .ok (.value (.int .i64 ((l.length : Nat) : Int))) w := by
  simp [execOp, hop, hx, go_sem, Str]
theorem run_idxS {x y : Operand} {l : List UInt8} {k : Nat} {c : UInt8} (hop : o.op = .index 9 x y) (hx : ρ x = Str l) (hy : ρ y = .int .i64 ((k : Nat) : Int)) (hc : l[k]? = some c) : (execOp ρ o).run Tryd.prog w = .ok (.value (.int .u8 ((c.toNat : Nat) : Int))) w := by
  obtain ⟨hk, he⟩ := List.getElem?_eq_some_iff.1 hc
  have hk' : k < (ByteArray.mk l.toArray).size := by show k < l.toArray.size; simpa using hk
  have e : (ByteArray.mk l.toArray)[k]'hk' = c := by
    show l.toArray[k]'(by simpa using hk) = c
    simpa using he
  simp [execOp, hop, hx, hy, go_sem, Str, hk, e]
theorem run_slcS {x y z : Operand} {l : List UInt8} {i j : Nat} (hop : o.op = .slice 9 x (some y) (some z) none) (hx : ρ x = Str l) (hy : ρ y = .int .i64 ((i : Nat) : Int)) (hz : ρ z = .int .i64 ((j : Nat) : Int)) (hij : i ≤ j) (hj : j ≤ l.length) : (execOp ρ o).run Tryd.prog w = .ok (.value (Str ((l.drop i).take (j - i)))) w := by
  have hj' : j ≤ (ByteArray.mk l.toArray).size := by show j ≤ l.toArray.size; simpa using hj
  have e : (ByteArray.mk l.toArray).extract i j = ByteArray.mk ((l.drop i).take (j - i)).toArray := by
    apply ByteArray.ext
    simp
  have hr := run_slice_string (P := Tryd.prog) w 9 (ByteArray.mk l.toArray) .i64 .i64 (i : Int) (j : Int) Tryd.underlying9 (by omega) (by omega) (by omega)
  simp only [Int.toNat_natCast, e] at hr
  simp [execOp, hop, hx, hy, hz, go_sem, Str, hr]
theorem run_catS {x y : Operand} {l m : List UInt8} {t : TypeId} (hop : o.op = .binOp .add 9 x y t) (hx : ρ x = Str l) (hy : ρ y = Str m) (hl : l.length + m.length ≤ 9223372036854775807) : (execOp ρ o).run Tryd.prog w = .ok (.value (Str (l ++ m))) w := by
  have h : ¬ 9223372036854775807 < l.length + m.length := by omega
  have e : (ByteArray.mk l.toArray) ++ (ByteArray.mk m.toArray) = ByteArray.mk (l ++ m).toArray := by
    apply ByteArray.ext; simp
  simp [execOp, hop, hx, hy, go_sem, Str, h, e]
theorem run_eqS {x y : Operand} {l m : List UInt8} {t : TypeId} (hop : o.op = .binOp .eql 9 x y t) (hx : ρ x = Str l) (hy : ρ y = Str m) : (execOp ρ o).run Tryd.prog w = .ok (.value (.bool (decide (l = m)))) w := by
  have e : (l == m) = decide (l = m) := by rw [Bool.eq_iff_iff]; simp
  simp [execOp, hop, hx, hy, go_sem, Str, e]
theorem run_incI {x y : Operand} {i : Nat} {t : TypeId} (hop : o.op = .binOp .add 3 x y t) (hx : ρ x = .int .i64 (i : Nat)) (hy : ρ y = .int .i64 1) (hi : i < 9223372036854775807) : (execOp ρ o).run Tryd.prog w = .ok (.value (.int .i64 ((i + 1 : Nat) : Int))) w := by
  have e : IntKind.i64.wrap ((i : Int) + 1) = ((i + 1 : Nat) : Int) := by rw [IntKind.wrap_i64]; omega
  simp [execOp, hop, hx, hy, go_sem, e]
theorem run_ltI {x y : Operand} {i j : Int} {t : TypeId} (hop : o.op = .binOp .lss 3 x y t) (hx : ρ x = .int .i64 i) (hy : ρ y = .int .i64 j) : (execOp ρ o).run Tryd.prog w = .ok (.value (.bool (decide (i < j)))) w := by
  simp [execOp, hop, hx, hy, go_sem]
theorem run_gtI {x y : Operand} {i j : Int} {t : TypeId} (hop : o.op = .binOp .gtr 3 x y t) (hx : ρ x = .int .i64 i) (hy : ρ y = .int .i64 j) : (execOp ρ o).run Tryd.prog w = .ok (.value (.bool (decide (j < i)))) w := by
  simp [execOp, hop, hx, hy, go_sem]
theorem run_geI {x y : Operand} {i j : Int} {t : TypeId} (hop : o.op = .binOp .geq 3 x y t) (hx : ρ x = .int .i64 i) (hy : ρ y = .int .i64 j) : (execOp ρ o).run Tryd.prog w = .ok (.value (.bool (decide (j ≤ i)))) w := by
  simp [execOp, hop, hx, hy, go_sem]
theorem run_eqI {x y : Operand} {i j : Int} {t : TypeId} (hop : o.op = .binOp .eql 3 x y t) (hx : ρ x = .int .i64 i) (hy : ρ y = .int .i64 j) : (execOp ρ o).run Tryd.prog w = .ok (.value (.bool (i == j))) w := by
  simp [execOp, hop, hx, hy, go_sem]
theorem run_not {x : Operand} {b : Bool} {t : TypeId} (hop : o.op = .unOp .not t x) (hx : ρ x = .bool b) : (execOp ρ o).run Tryd.prog w = .ok (.value (.bool (!b))) w := by
  simp [execOp, hop, hx, go_sem]
theorem run_eq8 {x y : Operand} {i j : Int} {t : TypeId} (hop : o.op = .binOp .eql 5 x y t) (hx : ρ x = .int .u8 i) (hy : ρ y = .int .u8 j) : (execOp ρ o).run Tryd.prog w = .ok (.value (.bool (i == j))) w := by
  simp [execOp, hop, hx, hy, go_sem]
theorem run_ne8 {x y : Operand} {i j : Int} {t : TypeId} (hop : o.op = .binOp .neq 5 x y t) (hx : ρ x = .int .u8 i) (hy : ρ y = .int .u8 j) : (execOp ρ o).run Tryd.prog w = .ok (.value (.bool (i != j))) w := by
  simp [execOp, hop, hx, hy, go_sem]
theorem run_ge8 {x y : Operand} {i j : Int} {t : TypeId} (hop : o.op = .binOp .geq 5 x y t) (hx : ρ x = .int .u8 i) (hy : ρ y = .int .u8 j) : (execOp ρ o).run Tryd.prog w = .ok (.value (.bool (decide (j ≤ i)))) w := by
  simp [execOp, hop, hx, hy, go_sem]
theorem run_le8 {x y : Operand} {i j : Int} {t : TypeId} (hop : o.op = .binOp .leq 5 x y t) (hx : ρ x = .int .u8 i) (hy : ρ y = .int .u8 j) : (execOp ρ o).run Tryd.prog w = .ok (.value (.bool (decide (i ≤ j)))) w := by
  simp [execOp, hop, hx, hy, go_sem]
theorem run_minI {x y : Operand} {i j : Int} (hop : o.op = .call { callee := .builtin .min, args := #[x, y], argTypes := #[3, 3] }) (hx : ρ x = .int .i64 i) (hy : ρ y = .int .i64 j) : (execOp ρ o).run Tryd.prog w = .ok (.value (.int .i64 (min i j))) w := by
  have e : (if j < i then j else i) = min i j := by split <;> omega
  simp [execOp, hop, hx, hy, go_sem, e]
theorem run_maxI {x y : Operand} {i j : Int} (hop : o.op = .call { callee := .builtin .max, args := #[x, y], argTypes := #[3, 3] }) (hx : ρ x = .int .i64 i) (hy : ρ y = .int .i64 j) : (execOp ρ o).run Tryd.prog w = .ok (.value (.int .i64 (max i j))) w := by
  have e : (if i < j then j else i) = max i j := by split <;> omega
  simp [execOp, hop, hx, hy, go_sem, e]
theorem run_ext0 {x : Operand} {u v : Value} (hop : o.op = .extract x 0) (hx : ρ x = .tuple #[u, v]) : (execOp ρ o).run Tryd.prog w = .ok (.value u) w := by
  simp [execOp, hop, hx, go_sem]
theorem run_ext1 {x : Operand} {u v : Value} (hop : o.op = .extract x 1) (hx : ρ x = .tuple #[u, v]) : (execOp ρ o).run Tryd.prog w = .ok (.value v) w := by
  simp [execOp, hop, hx, go_sem]
theorem run_subI {x y : Operand} {i j : Nat} {t : TypeId} (hop : o.op = .binOp .sub 3 x y t) (hx : ρ x = .int .i64 (i : Nat)) (hy : ρ y = .int .i64 (j : Nat)) (h : j ≤ i) (hi : i < 9223372036854775808) : (execOp ρ o).run Tryd.prog w = .ok (.value (.int .i64 ((i - j : Nat) : Int))) w := by
  have e : IntKind.i64.wrap ((i : Int) - (j : Int)) = ((i - j : Nat) : Int) := by rw [IntKind.wrap_i64]; omega
  simp [execOp, hop, hx, hy, go_sem, e]
theorem run_addI {x y : Operand} {i j : Nat} {t : TypeId} (hop : o.op = .binOp .add 3 x y t) (hx : ρ x = .int .i64 (i : Nat)) (hy : ρ y = .int .i64 (j : Nat)) (hi : i + j < 9223372036854775808) : (execOp ρ o).run Tryd.prog w = .ok (.value (.int .i64 ((i + j : Nat) : Int))) w := by
  have e : IntKind.i64.wrap ((i : Int) + (j : Int)) = ((i + j : Nat) : Int) := by rw [IntKind.wrap_i64]; omega
  simp [execOp, hop, hx, hy, go_sem, e]
end
end Go.Proofs.YtmfiiapmkidmkaaDoor
