/-
  Single operations on tokens and faults, on frames that are not written out.
-/
import Derived.Test.YtbcfggdifljacaaDoorGenF
import Derived.Test.YtbcfggdifljacaaDoorStr
namespace Go.Proofs.YtbcfggdifljacaaDoor
open Go Go.RowKit

/-- A token's cells. -/
def tokC (k : Int) (l : List UInt8) (n at_ : Int) : List Value := [.int .i64 k, Str l, .int .i64 n, .int .i64 at_]
section
variable {o : Oper} {ρ : Operand → Value} {w : World}
theorem run_allocTok (hop : o.op = .alloc 35) : (execOp ρ o).run Tryd.prog w = .ok (.value (.pointer (some ⟨w.heap.size, 0, none⟩))) (w.alloc (.cells (tokC 0 [] 0 0).toArray 35)) := by
  simp [execOp, hop, go_sem, tokC, Str]
theorem run_stTok {x y : Operand} {b : Nat} {k n at_ : Int} {l : List UInt8} {cs : List Value} (hop : o.op = .store 35 x y) (hx : ρ x = .pointer (some ⟨b, 0, none⟩)) (hy : ρ y = .agg (tokC k l n at_).toArray) (hr : RowT w b 35 cs) (hc : cs.length = 4) :
    (execOp ρ o).run Tryd.prog w = .ok .skip (setCells w b 0 (tokC k l n at_)) := by
  match cs, hc with
  | [u0, u1, u2, u3], _ =>
    have h0 := hr.cell 0; have h1 := hr.cell 1; have h2 := hr.cell 2; have h3 := hr.cell 3
    have f0 := hr.frozen 0; have f1 := hr.frozen 1; have f2 := hr.frozen 2; have f3 := hr.frozen 3
    simp [tokC] at hy
    simp [execOp, hop, hx, hy, go_sem, h0, h1, h2, h3, f0, f1, f2, f3, setCells, tokC, Str]
theorem RowT.setTok {b : Nat} {cs : List Value} {t : TypeId} (h : RowT w b t cs) (hc : cs.length = 4) (k : Int) (l : List UInt8) (n at_ : Int) : RowT (Proofs.YtbcfggdifljacaaDoor.setCells w b 0 (tokC k l n at_)) b t (tokC k l n at_) := by
  match cs, hc with
  | [u0, u1, u2, u3], _ => exact (((h.set_ 0 _).set_ 1 _).set_ 2 _).set_ 3 _
theorem run_ldTok {x : Operand} {b f : Nat} {k n at_ : Int} {l : List UInt8} (hop : o.op = .load 35 x) (hx : ρ x = .pointer (some ⟨b, f, none⟩)) (h : ∀ i, i < 4 → w.cell? ⟨b, f + i, none⟩ = (tokC k l n at_)[i]?) : (execOp ρ o).run Tryd.prog w = .ok (.value (.agg (tokC k l n at_).toArray)) w := by
  have h0 := h 0 (by decide); have h1 := h 1 (by decide); have h2 := h 2 (by decide); have h3 := h 3 (by decide)
  simp [tokC] at h0 h1 h2 h3
  simp [execOp, hop, hx, go_sem, h0, h1, h2, h3, tokC]
theorem run_tok0 (hop : o.op = .build 35 #[]) : (execOp ρ o).run Tryd.prog w = .ok (.value (.agg (tokC 0 [] 0 0).toArray)) w := by
  simp [execOp, hop, go_sem, tokC, Str]
theorem run_tok013 {x y z : Operand} {k at_ : Int} {l : List UInt8} (hop : o.op = .build 35 #[(0, x), (1, y), (3, z)]) (hx : ρ x = .int .i64 k) (hy : ρ y = Str l) (hz : ρ z = .int .i64 at_) : (execOp ρ o).run Tryd.prog w = .ok (.value (.agg (tokC k l 0 at_).toArray)) w := by
  simp [execOp, hop, hx, hy, hz, go_sem, tokC, Str]
theorem run_tok0123 {x y z u : Operand} {k n at_ : Int} {l : List UInt8} (hop : o.op = .build 35 #[(0, x), (1, y), (2, z), (3, u)]) (hx : ρ x = .int .i64 k) (hy : ρ y = Str l) (hz : ρ z = .int .i64 n) (hu : ρ u = .int .i64 at_) : (execOp ρ o).run Tryd.prog w = .ok (.value (.agg (tokC k l n at_).toArray)) w := by
  simp [execOp, hop, hx, hy, hz, hu, go_sem, tokC, Str]
theorem run_tok03 {x z : Operand} {k at_ : Int} (hop : o.op = .build 35 #[(0, x), (3, z)]) (hx : ρ x = .int .i64 k) (hz : ρ z = .int .i64 at_) : (execOp ρ o).run Tryd.prog w = .ok (.value (.agg (tokC k [] 0 at_).toArray)) w := by
  simp [execOp, hop, hx, hz, go_sem, tokC, Str]
theorem run_fpT0 {x : Operand} {p : Addr} (hop : o.op = .fieldAddr 35 x 0) (hx : ρ x = .pointer (some p)) : (execOp ρ o).run Tryd.prog w = .ok (.value (.pointer (some p))) w := by
  simp [execOp, hop, hx, go_sem]
theorem run_fpT {x : Operand} {b f k : Nat} (hk : k = 1 ∨ k = 2 ∨ k = 3) (hop : o.op = .fieldAddr 35 x k) (hx : ρ x = .pointer (some ⟨b, f, none⟩)) : (execOp ρ o).run Tryd.prog w = .ok (.value (.pointer (some ⟨b, f + k, none⟩))) w := by
  rcases hk with rfl | rfl | rfl <;> simp [execOp, hop, hx, go_sem]
theorem run_ixTok {x y : Operand} {g n c k : Nat} (hop : o.op = .indexAddr 29 x y) (hx : ρ x = .slice (some ⟨g, 0, none⟩) n c) (hy : ρ y = .int .i64 (k : Nat)) (hk : k < n) : (execOp ρ o).run Tryd.prog w = .ok (.value (.pointer (some ⟨g, k * 4, none⟩))) w := by
  simp [execOp, hop, hx, hy, go_sem, hk]
theorem run_lenTok {x : Operand} {A : Option Addr} {n c : Nat} (hop : o.op = .call { callee := .builtin .len, args := #[x], argTypes := #[29] }) (hx : ρ x = .slice A n c) : (execOp ρ o).run Tryd.prog w = .ok (.value (.int .i64 (n : Nat))) w := by
  simp [execOp, hop, hx, go_sem]
theorem run_allocFlt (hop : o.op = .alloc 24) : (execOp ρ o).run Tryd.prog w = .ok (.value (.pointer (some ⟨w.heap.size, 0, none⟩))) (w.alloc (.cells ([.int .i64 0, .int .i64 0] : List Value).toArray 24)) := by
  simp [execOp, hop, go_sem]
theorem run_stFlt {x y : Operand} {b : Nat} {k n : Int} {u v : Value} (hop : o.op = .store 24 x y) (hx : ρ x = .pointer (some ⟨b, 0, none⟩)) (hy : ρ y = .agg #[.int .i64 k, .int .i64 n]) (hr : RowT w b 24 [u, v]) :
    (execOp ρ o).run Tryd.prog w = .ok .skip (setCells w b 0 [.int .i64 k, .int .i64 n]) := by
  obtain ⟨h0, h1, h2, h3⟩ := hr.two
  simp [execOp, hop, hx, hy, go_sem, h0, h1, h2, h3, setCells]
theorem run_flt0 (hop : o.op = .build 24 #[]) : (execOp ρ o).run Tryd.prog w = .ok (.value (.agg #[.int .i64 0, .int .i64 0])) w := by
  simp [execOp, hop, go_sem]
theorem run_flt_0 {x : Operand} {k : Int} (hop : o.op = .build 24 #[(0, x)]) (hx : ρ x = .int .i64 k) : (execOp ρ o).run Tryd.prog w = .ok (.value (.agg #[.int .i64 k, .int .i64 0])) w := by
  simp [execOp, hop, hx, go_sem]
theorem run_flt_01 {x y : Operand} {k n : Int} (hop : o.op = .build 24 #[(0, x), (1, y)]) (hx : ρ x = .int .i64 k) (hy : ρ y = .int .i64 n) : (execOp ρ o).run Tryd.prog w = .ok (.value (.agg #[.int .i64 k, .int .i64 n])) w := by
  simp [execOp, hop, hx, hy, go_sem]
end
theorem post_tokB {fn : Func} {R : Ending → World → Prop} {a : Act} {w : World} {k m : Tmp} {b : Nat} {t n at_ : Int} {l : List UInt8} {v : Value} (hf : fn.results = #[.cell k 35, .tmp m]) (hd : a.defers = []) (hp : a.eval (.tmp k) = .pointer (some ⟨b, 0, none⟩)) (hrow : RowT w b 35 (tokC t l n at_)) (h1 : a.eval (.tmp m) = v) (hu : v ≠ undef) (h : R (.returned (.tuple #[.agg (tokC t l n at_).toArray, v])) w) : bodyPost Tryd.prog fn R .ret a w := by
  have hp' := get_of_eval hp
  have hm' := get_of h1 hu
  have c0 := hrow.cell 0; have c1 := hrow.cell 1; have c2 := hrow.cell 2; have c3 := hrow.cell 3
  simp [tokC] at c0 c1 c2 c3 h
  exact bodyPost_ret (v := .tuple #[.agg (tokC t l n at_).toArray, v]) (by simp [results, hf, go_sem, hp', hm', c0, c1, c2, c3, tokC]) hd (by simpa [tokC] using h)
theorem post_Sflt {fn : Func} {R : Ending → World → Prop} {a : Act} {w : World} {k m : Tmp} {b : Nat} {u v s : Value} (hf : fn.results = #[.tmp m, .cell k 24]) (hd : a.defers = []) (hp : a.eval (.tmp k) = .pointer (some ⟨b, 0, none⟩)) (hrow : RowT w b 24 [u, v]) (h1 : a.eval (.tmp m) = s) (hu : s ≠ undef) (h : R (.returned (.tuple #[s, .agg #[u, v]])) w) : bodyPost Tryd.prog fn R .ret a w := by
  have hp' := get_of_eval hp
  have hm' := get_of h1 hu
  have c0 := hrow.cell 0; have c1 := hrow.cell 1
  simp at c0 c1
  exact bodyPost_ret (v := .tuple #[s, .agg #[u, v]]) (by simp [results, hf, go_sem, hp', hm', c0, c1]) hd h
end Go.Proofs.YtbcfggdifljacaaDoor
