/-
  Regions over relations: literals, pairs, tests; the call of the statements' own examples.
-/
import Derived.Test.YtigdecmfieaacaaDoorSpC
import Derived.Test.YtigdecmfieaacaaDoorLives
namespace Go.Proofs.YtigdecmfieaacaaDoor
open Go Go.RowKit

section
variable {o : Oper} {ρ : Operand → Value} {w : World}
theorem run_arr2 {x y : Operand} {i j : Int} (hop : o.op = .build 28 #[(0, x), (1, y)]) (hx : ρ x = .int .i64 i) (hy : ρ y = .int .i64 j) : (execOp ρ o).run Tryd.prog w = .ok (.value (.agg #[.int .i64 i, .int .i64 j])) w := by
  simp [execOp, hop, hx, hy, go_sem]
theorem run_rel1 {x : Operand} {n : Int} (hop : o.op = .build 26 #[(0, x)]) (hx : ρ x = .int .i64 n) : (execOp ρ o).run Tryd.prog w = .ok (.value (.agg #[.int .i64 n, .slice none 0 0])) w := by
  simp [execOp, hop, hx, go_sem]
theorem run_rel0 (hop : o.op = .build 26 #[]) : (execOp ρ o).run Tryd.prog w = .ok (.value (.agg #[.int .i64 0, .slice none 0 0])) w := by
  simp [execOp, hop, go_sem]
theorem run_prs1 {x : Operand} {i j : Int} (hop : o.op = .buildSlice 34 1 #[(0, x)]) (hx : ρ x = .agg #[.int .i64 i, .int .i64 j]) :
    (execOp ρ o).run Tryd.prog w = .ok (.value (.slice (some ⟨w.heap.size, 0, none⟩) 1 1)) (w.alloc (.cells (prs [(i, j)]).toArray 28)) := by
  simp [execOp, hop, hx, go_sem, prs]
theorem run_prs2 {x y : Operand} {i j k l : Int} (hop : o.op = .buildSlice 34 2 #[(0, x), (1, y)]) (hx : ρ x = .agg #[.int .i64 i, .int .i64 j]) (hy : ρ y = .agg #[.int .i64 k, .int .i64 l]) :
    (execOp ρ o).run Tryd.prog w = .ok (.value (.slice (some ⟨w.heap.size, 0, none⟩) 2 2)) (w.alloc (.cells (prs [(i, j), (k, l)]).toArray 28)) := by
  simp [execOp, hop, hx, hy, go_sem, prs]
theorem run_eqE {x y : Operand} {i j : Int} {t : TypeId} (hop : o.op = .binOp .eql 32 x y t) (hx : ρ x = .int .i64 i) (hy : ρ y = .int .i64 j) : (execOp ρ o).run Tryd.prog w = .ok (.value (.bool (i == j))) w := by
  simp [execOp, hop, hx, hy, go_sem]
theorem run_eqB {x y : Operand} {i j : Bool} {t : TypeId} (hop : o.op = .binOp .eql 4 x y t) (hx : ρ x = .bool i) (hy : ρ y = .bool j) : (execOp ρ o).run Tryd.prog w = .ok (.value (.bool (i == j))) w := by
  simp [execOp, hop, hx, hy, go_sem]
theorem run_neB {x y : Operand} {i j : Bool} {t : TypeId} (hop : o.op = .binOp .neq 4 x y t) (hx : ρ x = .bool i) (hy : ρ y = .bool j) : (execOp ρ o).run Tryd.prog w = .ok (.value (.bool (i != j))) w := by
  simp [execOp, hop, hx, hy, go_sem]
  cases i <;> cases j <;> rfl
theorem run_neU {x y : Operand} {i j : Int} {t : TypeId} (hop : o.op = .binOp .neq 37 x y t) (hx : ρ x = .int .u64 i) (hy : ρ y = .int .u64 j) : (execOp ρ o).run Tryd.prog w = .ok (.value (.bool (i != j))) w := by
  simp [execOp, hop, hx, hy, go_sem]
end
section
variable {ops : Array Oper} {Q : Exit → Act → World → Prop} {sps : List Sp} {a0 : Act} {w0 : World} {L : Nat → Bool} {i : Nat} {o : Oper} {a : Act} {w : World}
theorem pay_arr2 {x y : Operand} {m n : Int} (st : St ops (TS sps) (GB w0) a0 L a w) (hw : Region.wanted o (yielded ops a.tmps) = true) (hop : o.op = .build 28 #[(0, x), (1, y)]) (hx : a.eval x = .int .i64 m) (hy : a.eval y = .int .i64 n) (hsp : sps.getD i .top = .val (.agg #[.int .i64 m, .int .i64 n])) :
    Owes Tryd.prog ops Q (TS sps) (GB w0) L i o a w := pay_pure st hw (run_arr2 hop hx hy) hsp rfl rfl
theorem pay_rel1 {x : Operand} {n : Int} (st : St ops (TS sps) (GB w0) a0 L a w) (hw : Region.wanted o (yielded ops a.tmps) = true) (hop : o.op = .build 26 #[(0, x)]) (hx : a.eval x = .int .i64 n) (hsp : sps.getD i .top = .rel ⟨n, []⟩) :
    Owes Tryd.prog ops Q (TS sps) (GB w0) L i o a w := pay_pure st hw (run_rel1 hop hx) hsp rfl ⟨⟨n, none, 0, []⟩, rfl, rfl, ⟨by simp, Reads.none_⟩, by unfold Short; simp⟩
theorem pay_rel0 (st : St ops (TS sps) (GB w0) a0 L a w) (hw : Region.wanted o (yielded ops a.tmps) = true) (hop : o.op = .build 26 #[]) (hsp : sps.getD i .top = .rel PR.zero) :
    Owes Tryd.prog ops Q (TS sps) (GB w0) L i o a w := pay_pure st hw (run_rel0 hop) hsp rfl ⟨⟨0, none, 0, []⟩, rfl, rfl, ⟨by simp, Reads.none_⟩, short_zero⟩
theorem pay_prs1 {x : Operand} {m n : Int} (st : St ops (TS sps) (GB w0) a0 L a w) (hw : Region.wanted o (yielded ops a.tmps) = true) (hop : o.op = .buildSlice 34 1 #[(0, x)]) (hx : a.eval x = .agg #[.int .i64 m, .int .i64 n]) (hsp : sps.getD i .top = .prsl [(m, n)]) :
    Owes Tryd.prog ops Q (TS sps) (GB w0) L i o a w := pay_new st hw (run_prs1 hop hx) (below_alloc w _) hsp rfl ⟨_, _, rfl, (RowT.new w 28 (prs [(m, n)])).reads2⟩
theorem pay_prs2 {x y : Operand} {m n k l : Int} (st : St ops (TS sps) (GB w0) a0 L a w) (hw : Region.wanted o (yielded ops a.tmps) = true) (hop : o.op = .buildSlice 34 2 #[(0, x), (1, y)]) (hx : a.eval x = .agg #[.int .i64 m, .int .i64 n]) (hy : a.eval y = .agg #[.int .i64 k, .int .i64 l]) (hsp : sps.getD i .top = .prsl [(m, n), (k, l)]) :
    Owes Tryd.prog ops Q (TS sps) (GB w0) L i o a w := pay_new st hw (run_prs2 hop hx hy) (below_alloc w _) hsp rfl ⟨_, _, rfl, (RowT.new w 28 (prs [(m, n), (k, l)])).reads2⟩
theorem pay_run {v : Value} (st : St ops (TS sps) (GB w0) a0 L a w) (hw : Region.wanted o (yielded ops a.tmps) = true) (hrun : (execOp a.eval o).run Tryd.prog w = .ok (.value v) w) (hsp : sps.getD i .top = .val v) : Owes Tryd.prog ops Q (TS sps) (GB w0) L i o a w := pay_pure st hw hrun hsp rfl rfl

def CallOf (f : FuncId) : Prop := ∀ (n : Int) (A : Option Addr) (cap : Nat) (l : List (Int × Int)) (w : World), l.length ≤ 5000 → Reads w w.heap.size 2 A l.length (prs l) → Calls Tryd.prog f #[.int .i64 n, .slice A l.length cap] w (RetR w (Pof n l))
theorem en_Of : Enters Tryd.prog 11 := enters_of Tryd.func11 (by kernel_rfl) rfl
theorem C_Of : CallOf 11 := fun _ _ cap _ w hl hr => of_c cap w rfl hl hr
theorem short_of_ (n : Int) (l : List (Int × Int)) : Short (Pof n l) := by
  unfold Pof
  split
  · refine short_of ?_; simp only [ofL_length]; omega
  · exact short_zero
theorem call_Of {f : FuncId} {x y : Operand} {ts : Array TypeId} {n : Int} {l : List (Int × Int)} {r : PR} (C : CallOf f) (he : Enters Tryd.prog f) (st : St ops (TS sps) (GB w0) a0 L a w) (hw : Region.wanted o (yielded ops a.tmps) = true)
    (hop : o.op = .call { callee := .value (.func f), args := #[x, y], argTypes := ts }) (hx : a.eval x = .int .i64 n) (hy : APrs (a.eval y) l w) (hl : l.length ≤ 5000) (hsp : sps.getD i .top = .rel r) (hF : Pof n l = r) (hs : Short r) : Owes Tryd.prog ops Q (TS sps) (GB w0) L i o a w := by
  obtain ⟨A, c, h1, h2⟩ := hy
  refine pay_call st hw he hop (by simp [hx, h1]) hsp rfl ((C n A c l w hl h2).mono ?_)
  rw [hF]
  exact fun _ _ h => retR_holds hs h
theorem en_lives : Enters Tryd.prog 9 := enters_of Tryd.func9 (by kernel_rfl) rfl
theorem call_lives {ts : Array TypeId} (hT : Tab w0) (st : St ops (TS sps) (GB w0) a0 L a w) (hw : Region.wanted o (yielded ops a.tmps) = true) (hop : o.op = .call { callee := .value (.func 9), args := #[], argTypes := ts }) (hsp : sps.getD i .top = .val (.bool true)) :
    Owes Tryd.prog ops Q (TS sps) (GB w0) L i o a w :=
  pay_call st hw en_lives hop (by simp) hsp rfl ((lives_yes w (hT.on st.g)).mono fun _ _ h => ret_holds h)
end
end Go.Proofs.YtigdecmfieaacaaDoor
