/-
  Single operations on numbers, texts, slices; how a function hands back its results.
-/
import Derived.Test.YtmfiiapmkidmkaaDoorMem
import Derived.Test.YtmfiiapmkidmkaaDoorStr
namespace Go.Proofs.YtmfiiapmkidmkaaDoor
open Go Go.RowKit

theorem okBool {r : Result Next} {b c : Bool} {w : World} (h : r = .ok (.value (.bool b)) w) (e : b = c) : r = .ok (.value (.bool c)) w := by rw [h, e]
theorem okVal {r : Result Next} {u v : Value} {w : World} (h : r = .ok (.value u) w) (e : u = v) : r = .ok (.value v) w := by rw [h, e]
theorem ret_eq {P : Program} {f : FuncId} {args : Array Value} {w : World} {v v' : Value} (h : Calls P f args w (Ret w v)) (e : v = v') : Calls P f args w (Ret w v') := e ▸ h
section
variable {P : Program} {o : Oper} {ρ : Operand → Value} {w : World}
theorem run_addN {x y : Operand} {i j : Nat} {t u : TypeId} (hop : o.op = .binOp .add t x y u) (hx : ρ x = .int .i64 (i : Nat)) (hy : ρ y = .int .i64 (j : Nat)) (hi : i + j < 9223372036854775808) : (execOp ρ o).run P w = .ok (.value (.int .i64 ((i + j : Nat) : Int))) w := by
  have e : IntKind.i64.wrap ((i : Int) + (j : Int)) = ((i + j : Nat) : Int) := by rw [IntKind.wrap_i64]; omega
  simp [execOp, hop, hx, hy, go_sem, e]
theorem run_subN {x y : Operand} {i j : Nat} {t u : TypeId} (hop : o.op = .binOp .sub t x y u) (hx : ρ x = .int .i64 (i : Nat)) (hy : ρ y = .int .i64 (j : Nat)) (hij : j ≤ i) (hi : i < 9223372036854775808) : (execOp ρ o).run P w = .ok (.value (.int .i64 ((i - j : Nat) : Int))) w := by
  have e : IntKind.i64.wrap ((i : Int) - (j : Int)) = ((i - j : Nat) : Int) := by rw [IntKind.wrap_i64]; omega
  simp [execOp, hop, hx, hy, go_sem, e]
theorem run_addZ {x y : Operand} {i j : Int} {t u : TypeId} (hop : o.op = .binOp .add t x y u) (hx : ρ x = .int .i64 i) (hy : ρ y = .int .i64 j) (h1 : -9223372036854775808 ≤ i + j) (h2 : i + j < 9223372036854775808) : (execOp ρ o).run P w = .ok (.value (.int .i64 (i + j))) w := by
  have e : IntKind.i64.wrap (i + j) = i + j := by rw [IntKind.wrap_i64]; omega
  simp [execOp, hop, hx, hy, go_sem, e]
theorem run_subZ {x y : Operand} {i j : Int} {t u : TypeId} (hop : o.op = .binOp .sub t x y u) (hx : ρ x = .int .i64 i) (hy : ρ y = .int .i64 j) (h1 : -9223372036854775808 ≤ i - j) (h2 : i - j < 9223372036854775808) : (execOp ρ o).run P w = .ok (.value (.int .i64 (i - j))) w := by
  have e : IntKind.i64.wrap (i - j) = i - j := by rw [IntKind.wrap_i64]; omega
  simp [execOp, hop, hx, hy, go_sem, e]
theorem run_slcLo {x y : Operand} {l : List UInt8} {i : Nat} (hop : o.op = .slice 9 x (some y) none none) (hx : ρ x = Str l) (hy : ρ y = .int .i64 ((i : Nat) : Int)) (hi : i ≤ l.length) : (execOp ρ o).run Tryd.prog w = .ok (.value (Str (l.drop i))) w := by
  have hi' : i ≤ (ByteArray.mk l.toArray).size := by show i ≤ l.toArray.size; simpa using hi
  have e : (ByteArray.mk l.toArray).extract i (ByteArray.mk l.toArray).size = ByteArray.mk (l.drop i).toArray := by
    apply ByteArray.ext; simp
    exact List.take_of_length_le (by rw [List.length_drop]; exact Nat.le_refl _)
  have hr := run_slice_string_l (P := Tryd.prog) w 9 (ByteArray.mk l.toArray) Tryd.underlying9 .i64 (i : Int) (by omega) (by omega)
  simp only [Int.toNat_natCast, e] at hr
  simp [execOp, hop, hx, hy, go_sem, Str, hr]
theorem run_slcHi {x y : Operand} {l : List UInt8} {j : Nat} (hop : o.op = .slice 9 x none (some y) none) (hx : ρ x = Str l) (hy : ρ y = .int .i64 ((j : Nat) : Int)) (hj : j ≤ l.length) : (execOp ρ o).run Tryd.prog w = .ok (.value (Str (l.take j))) w := by
  have hj' : j ≤ (ByteArray.mk l.toArray).size := by show j ≤ l.toArray.size; simpa using hj
  have e : (ByteArray.mk l.toArray).extract 0 j = ByteArray.mk (l.take j).toArray := by
    apply ByteArray.ext; simp
  have hr := run_slice_string_h (P := Tryd.prog) w 9 (ByteArray.mk l.toArray) Tryd.underlying9 .i64 (j : Int) (by omega) (by omega)
  simp only [Int.toNat_natCast, e] at hr
  simp [execOp, hop, hx, hy, go_sem, Str, hr]
theorem run_neS {x y : Operand} {l m : List UInt8} {t : TypeId} (hop : o.op = .binOp .neq 9 x y t) (hx : ρ x = Str l) (hy : ρ y = Str m) : (execOp ρ o).run Tryd.prog w = .ok (.value (.bool (!(decide (l = m))))) w := by
  have e : (l == m) = decide (l = m) := by rw [Bool.eq_iff_iff]; simp
  simp [execOp, hop, hx, hy, go_sem, Str, e]
/-- A call of a function value. -/
theorem run_callE {f : FuncId} {x : Operand} {xs : Array Operand} {ts : Array TypeId} {first lb args : Array Value} (he : Enters P f) (hop : o.op = .call { callee := .value x, args := xs, argTypes := ts }) (hx : ρ x = .func (.func f) first lb) (ha : first ++ xs.map ρ ++ lb = args) : (execOp ρ o).run P w = .ok (.enter f args) w := by
  subst ha
  have h := he (first ++ xs.map ρ ++ lb) w
  simp only [execOp, hop, resolve, hx, Deferred.ofValue, invoke]
  simpa using h
end
theorem Knows.getq {a : Act} {n : Nat} {env : List (Nat × Value)} (h : Knows a n env) {k : Nat} {v : Value} (e : look k env = some v) : a.tmps[k]?.getD undef = v := by
  rw [← Array.getD_eq_getD_getElem?]; exact h.get e
theorem asAddr_some (P : Program) (w : World) (a : Addr) : (asAddr (.pointer (some a))).run P w = .ok a w := rfl
section
variable {P : Program} {fn : Func} {R : Ending → World → Prop} {a : Act} {w : World} {n : Nat} {env : List (Nat × Value)}
theorem ret_t (hK : Knows a n env) {k : Tmp} {u : Value} (hf : fn.results = #[.tmp k]) (h0 : look k env = some u) (h : R (.returned u) w) : bodyPost P fn R .ret a w :=
  bodyPost_ret (by simp [results, hf, go_sem, hK.getq h0]) hK.defers h
theorem ret_tt (hK : Knows a n env) {k m : Tmp} {u v : Value} (hf : fn.results = #[.tmp k, .tmp m]) (h0 : look k env = some u) (h1 : look m env = some v) (h : R (.returned (.tuple #[u, v])) w) : bodyPost P fn R .ret a w :=
  bodyPost_ret (by simp [results, hf, go_sem, hK.getq h0, hK.getq h1]) hK.defers h
theorem ret_c (hK : Knows a n env) {k : Tmp} {t : TypeId} {ad : Addr} {cs : List Value} {u : Value} (hf : fn.results = #[.cell k t]) (h0 : look k env = some (.pointer (some ad))) (c0 : CellsAt w ad cs) (l0 : loadV P t cs = some u) (h : R (.returned u) w) : bodyPost P fn R .ret a w :=
  bodyPost_ret (by simp [results, hf, hK.getq h0, asAddr, run_loadVarE c0 l0]) hK.defers h
theorem ret_ct (hK : Knows a n env) {k m : Tmp} {t : TypeId} {ad : Addr} {cs : List Value} {u v : Value} (hf : fn.results = #[.cell k t, .tmp m]) (h0 : look k env = some (.pointer (some ad))) (c0 : CellsAt w ad cs) (l0 : loadV P t cs = some u) (h1 : look m env = some v) (h : R (.returned (.tuple #[u, v])) w) : bodyPost P fn R .ret a w :=
  bodyPost_ret (by simp [results, hf, hK.getq h0, asAddr, run_loadVarE c0 l0, hK.getq h1]) hK.defers h
theorem ret_tc (hK : Knows a n env) {k m : Tmp} {t : TypeId} {ad : Addr} {cs : List Value} {u v : Value} (hf : fn.results = #[.tmp m, .cell k t]) (h1 : look m env = some v) (h0 : look k env = some (.pointer (some ad))) (c0 : CellsAt w ad cs) (l0 : loadV P t cs = some u) (h : R (.returned (.tuple #[v, u])) w) : bodyPost P fn R .ret a w :=
  bodyPost_ret (by simp [results, hf, hK.getq h0, asAddr, run_loadVarE c0 l0, hK.getq h1]) hK.defers h
end
end Go.Proofs.YtmfiiapmkidmkaaDoor
