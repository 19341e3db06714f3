/-
  Single operations on plain values.
-/
import Derived.Test.YtigdecmfieaacaaDoorVal
import Derived.Test.YtigdecmfieaacaaDoorSp4
namespace Go.Proofs.YtigdecmfieaacaaDoor
open Go Go.RowKit

section
variable {o : Oper} {ρ : Operand → Value} {w : World}
theorem run_ix1 {x y : Operand} {ad : Addr} {n c k : Nat} (hop : o.op = .indexAddr 38 x y) (hx : ρ x = .slice (some ad) n c) (hy : ρ y = .int .i64 (k : Nat)) (hk : k < n) : (execOp ρ o).run Tryd.prog w = .ok (.value (.pointer (some (ad.add k)))) w := by
  simp [execOp, hop, hx, hy, go_sem, hk]
theorem run_ix2 {x y : Operand} {ad : Addr} {n c k : Nat} (hop : o.op = .indexAddr 34 x y) (hx : ρ x = .slice (some ad) n c) (hy : ρ y = .int .i64 (k : Nat)) (hk : k < n) : (execOp ρ o).run Tryd.prog w = .ok (.value (.pointer (some (ad.add (k * 2))))) w := by
  simp [execOp, hop, hx, hy, go_sem, hk]
theorem run_ixa0 {x y : Operand} {ad : Addr} (hop : o.op = .indexAddr 28 x y) (hx : ρ x = .pointer (some ad)) (hy : ρ y = .int .i64 0) : (execOp ρ o).run Tryd.prog w = .ok (.value (.pointer (some ad))) w := by
  simp [execOp, hop, hx, hy, go_sem]
theorem run_ixa1 {x y : Operand} {ad : Addr} (hop : o.op = .indexAddr 28 x y) (hx : ρ x = .pointer (some ad)) (hy : ρ y = .int .i64 1) : (execOp ρ o).run Tryd.prog w = .ok (.value (.pointer (some (ad.add 1)))) w := by
  simp [execOp, hop, hx, hy, go_sem]
theorem run_ltI {x y : Operand} {i j : Int} {t : TypeId} (hop : o.op = .binOp .lss 3 x y t) (hx : ρ x = .int .i64 i) (hy : ρ y = .int .i64 j) : (execOp ρ o).run Tryd.prog w = .ok (.value (.bool (decide (i < j)))) w := by
  simp [execOp, hop, hx, hy, go_sem]
theorem run_geI {x y : Operand} {i j : Int} {t : TypeId} (hop : o.op = .binOp .geq 3 x y t) (hx : ρ x = .int .i64 i) (hy : ρ y = .int .i64 j) : (execOp ρ o).run Tryd.prog w = .ok (.value (.bool (decide (j ≤ i)))) w := by
  simp [execOp, hop, hx, hy, go_sem]
theorem run_eqI {x y : Operand} {i j : Int} {t : TypeId} (hop : o.op = .binOp .eql 3 x y t) (hx : ρ x = .int .i64 i) (hy : ρ y = .int .i64 j) : (execOp ρ o).run Tryd.prog w = .ok (.value (.bool (i == j))) w := by
  simp [execOp, hop, hx, hy, go_sem]
theorem run_eqU {x y : Operand} {i j : Int} {t : TypeId} (hop : o.op = .binOp .eql 37 x y t) (hx : ρ x = .int .u64 i) (hy : ρ y = .int .u64 j) : (execOp ρ o).run Tryd.prog w = .ok (.value (.bool (i == j))) w := by
  simp [execOp, hop, hx, hy, go_sem]
theorem run_incI {x y : Operand} {i : Nat} {t : TypeId} (hop : o.op = .binOp .add 3 x y t) (hx : ρ x = .int .i64 (i : Nat)) (hy : ρ y = .int .i64 1) (hi : i < 9223372036854775807) : (execOp ρ o).run Tryd.prog w = .ok (.value (.int .i64 ((i + 1 : Nat) : Int))) w := by
  have e : IntKind.i64.wrap ((i : Int) + 1) = ((i + 1 : Nat) : Int) := by rw [IntKind.wrap_i64]; omega
  simp [execOp, hop, hx, hy, go_sem, e]
theorem run_cvU {x : Operand} {i : Nat} (hop : o.op = .convert 3 50 x) (hx : ρ x = .int .i64 (i : Nat)) (hi : i < 64) : (execOp ρ o).run Tryd.prog w = .ok (.value (.int .u64 (i : Nat))) w := by
  have e : IntKind.u64.wrap (i : Int) = (i : Int) := wrap_u64_nat i (by omega)
  simp [execOp, hop, hx, go_sem, e]
theorem run_shr {x y : Operand} {m i : Nat} (hop : o.op = .binOp .shr 37 x y 50) (hx : ρ x = .int .u64 (m : Nat)) (hy : ρ y = .int .u64 (i : Nat)) (hi : i < 64) : (execOp ρ o).run Tryd.prog w = .ok (.value (.int .u64 ((m / 2 ^ i : Nat) : Int))) w := by
  simp [execOp, hop, hx, hy, go_sem]
theorem run_rem2 {x y : Operand} {m : Nat} {t : TypeId} (hop : o.op = .binOp .rem 37 x y t) (hx : ρ x = .int .u64 (m : Nat)) (hy : ρ y = .int .u64 2) : (execOp ρ o).run Tryd.prog w = .ok (.value (.int .u64 ((m % 2 : Nat) : Int))) w := by
  have e : (m : Int).tmod 2 = ((m % 2 : Nat) : Int) := rfl
  simp [execOp, hop, hx, hy, go_sem, e]
theorem run_shl1 {x y : Operand} {i : Nat} (hop : o.op = .binOp .shl 37 x y 50) (hx : ρ x = .int .u64 1) (hy : ρ y = .int .u64 (i : Nat)) (hi : i < 64) : (execOp ρ o).run Tryd.prog w = .ok (.value (.int .u64 ((2 ^ i : Nat) : Int))) w := by
  have e : IntKind.u64.wrap ((2 : Int) ^ i) = (2 : Int) ^ i := by rw [pow_cast, wrap_u64_nat _ (pow_lt_64 i hi)]
  simp [execOp, hop, hx, hy, go_sem, e]
theorem run_orU {x y : Operand} {i j : Nat} {t : TypeId} (hop : o.op = .binOp .or 37 x y t) (hx : ρ x = .int .u64 (i : Nat)) (hy : ρ y = .int .u64 (j : Nat)) (hi : i < 18446744073709551616) (hj : j < 18446744073709551616) : (execOp ρ o).run Tryd.prog w = .ok (.value (.int .u64 ((i ||| j : Nat) : Int))) w := by
  simp [execOp, hop, hx, hy, go_sem, u64_or_nat i j hi hj]
theorem run_lenI {x : Operand} {A : Option Addr} {n c : Nat} (hop : o.op = .call { callee := .builtin .len, args := #[x], argTypes := #[38] }) (hx : ρ x = .slice A n c) : (execOp ρ o).run Tryd.prog w = .ok (.value (.int .i64 (n : Nat))) w := by
  simp [execOp, hop, hx, go_sem]
theorem run_lenP {x : Operand} {A : Option Addr} {n c : Nat} (hop : o.op = .call { callee := .builtin .len, args := #[x], argTypes := #[34] }) (hx : ρ x = .slice A n c) : (execOp ρ o).run Tryd.prog w = .ok (.value (.int .i64 (n : Nat))) w := by
  simp [execOp, hop, hx, go_sem]
theorem run_makeI {x y : Operand} {n : Nat} (hop : o.op = .makeSlice 38 x y) (hx : ρ x = .int .i64 (n : Nat)) (hy : ρ y = .int .i64 (n : Nat)) (hn : n ≤ 64) : (execOp ρ o).run Tryd.prog w = .ok (.value (.slice (some ⟨w.heap.size, 0, none⟩) n n)) (w.alloc (.cells (madeCells #[.int .i64 0] n) 3)) := by
  obtain ⟨i0, hi, hz0, hz1, hz2⟩ := info_parts infoInt
  have hmk : (Instr.makeSlice 38 (.int .i64 (n : Nat)) (.int .i64 (n : Nat))).run Tryd.prog w = .ok (.slice (some ⟨w.heap.size, 0, none⟩) n n) (w.alloc (.cells (madeCells #[.int .i64 0] n) 3)) := by
    have := run_make (P := Tryd.prog) (w := w) 38 3 i0 (.int .i64 0) Tryd.underlying38 hi hz0 .i64 .i64 n n (by omega) (by omega) (by rw [hz2]; omega) (by omega)
    simpa [hz1, Value.cells] using this
  simp [execOp, hop, hx, hy, go_sem, hmk]
theorem run_storeI {x y : Operand} {p : Addr} {u : Int} {v : Value} (hop : o.op = .store 3 x y) (hx : ρ x = .pointer (some p)) (hy : ρ y = .int .i64 u) (hc : w.cell? p = some v) (hf : w.frozen? p = false) : (execOp ρ o).run Tryd.prog w = .ok .skip (w.setCell p (.int .i64 u)) := by
  simp [execOp, hop, hx, hy, go_sem, hc, hf]
theorem run_neE {x y : Operand} {i j : Int} {t : TypeId} (hop : o.op = .binOp .neq 32 x y t) (hx : ρ x = .int .i64 i) (hy : ρ y = .int .i64 j) : (execOp ρ o).run Tryd.prog w = .ok (.value (.bool (i != j))) w := by
  simp [execOp, hop, hx, hy, go_sem]
theorem run_boxR {x : Operand} {r : RA} (hop : o.op = .box 26 x) (hx : ρ x = r.val) : (execOp ρ o).run Tryd.prog w = .ok (.value (.pointer (some ⟨w.heap.size, 0, none⟩))) (w.alloc (.cells r.cells.toArray 26)) := by
  unfold RA.val at hx
  simp [execOp, hop, hx, go_sem, RA.cells]
theorem run_ext0 {x : Operand} {u v : Value} (hop : o.op = .extract x 0) (hx : ρ x = .tuple #[u, v]) : (execOp ρ o).run Tryd.prog w = .ok (.value u) w := by
  simp [execOp, hop, hx, go_sem]
theorem run_ext1 {x : Operand} {u v : Value} (hop : o.op = .extract x 1) (hx : ρ x = .tuple #[u, v]) : (execOp ρ o).run Tryd.prog w = .ok (.value v) w := by
  simp [execOp, hop, hx, go_sem]
end
end Go.Proofs.YtigdecmfieaacaaDoor
