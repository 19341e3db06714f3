/-
  The document's answers for layer 1, as the engine takes them: Of, None, Self, Check, Has.
-/
import Derived.Test.YtigdecmfieaacaaDoorSp3
import Derived.Test.YtigdecmfieaacaaDoorRefD
namespace Go.Proofs.YtigdecmfieaacaaDoor
open Go Go.RowKit

theorem en_rOf : Enters Tryd.prog 17 := enters_of Tryd.func17 (by kernel_rfl) rfl
theorem en_rNone : Enters Tryd.prog 18 := enters_of Tryd.func18 (by kernel_rfl) rfl
theorem en_rSelf : Enters Tryd.prog 19 := enters_of Tryd.func19 (by kernel_rfl) rfl
theorem en_rCheck : Enters Tryd.prog 20 := enters_of Tryd.func20 (by kernel_rfl) rfl
theorem en_rHas : Enters Tryd.prog 22 := enters_of Tryd.func22 (by kernel_rfl) rfl
theorem en_Has : Enters Tryd.prog 21 := enters_of Tryd.func21 (by kernel_rfl) rfl
theorem C_rOf : CallOf 17 := fun n A cap l w hl hr => by
  unfold Pof
  by_cases h : 0 ≤ n ∧ n ≤ 64
  · rw [if_pos h]
    obtain ⟨k, rfl⟩ : ∃ k : Nat, n = k := ⟨n.toNat, by omega⟩
    refine RetR.of (rof_ok k A cap l w (by omega) hl hr) ?_
    rintro v w' ⟨g, rfl, _, h2⟩
    exact GR.row (ofL_length k l).symm (lt64_of (by omega) (ofL_lt k l)) h2
  · rw [if_neg h]
    exact RetR.zero (rof_bad n A cap l w h hl hr)
theorem C_rNone : CallIR 18 Pnone := fun n w => by
  unfold Pnone
  by_cases h : 0 ≤ n ∧ n ≤ 64
  · rw [if_pos h]
    obtain ⟨k, rfl⟩ : ∃ k : Nat, n = k := ⟨n.toNat, by omega⟩
    refine RetR.of (rnone_ok k w (by omega)) ?_
    rintro v w' ⟨g, rfl, _, hr⟩
    refine GR.row (by simp) (fun x hx => ?_) hr
    rw [(List.mem_replicate.1 hx).2]; decide
  · rw [if_neg h]
    exact RetR.zero (rnone_bad n w h)
theorem C_rSelf : CallIR 19 Pself := fun n w => by
  unfold Pself
  by_cases h : 0 ≤ n ∧ n ≤ 64
  · rw [if_pos h]
    obtain ⟨k, rfl⟩ : ∃ k : Nat, n = k := ⟨n.toNat, by omega⟩
    refine RetR.of (rself_ok k w (by omega)) ?_
    rintro v w' ⟨g, rfl, _, hr⟩
    refine GR.row (by simp) (fun x hx => ?_) hr
    obtain ⟨i, hi, rfl⟩ := List.mem_map.1 hx
    exact pow_lt_64 i (by simp at hi; omega)
  · rw [if_neg h]
    exact RetR.zero (rself_bad n w h)
theorem C_rCheck : CallRV 20 (fun r => .int .i64 (chk r.n r.rows)) := fun a w _ hg _ => rcheck_any a.n a.A a.cap a.rows w hg.1 hg.2
def CallHas (f : FuncId) : Prop := ∀ (a : RA) (i j : Int) (w : World), a.good w → Calls Tryd.prog f #[a.val, .int .i64 i, .int .i64 j] w (Ret w (.bool (Phas a.pr i j)))
theorem C_Has : CallHas 21 := fun a i j w hg => has_any a i j w hg
theorem C_rHas : CallHas 22 := fun a i j w hg => rhas_any a i j w hg

section
variable {ops : Array Oper} {Q : Exit → Act → World → Prop} {sps : List Sp} {a0 : Act} {w0 : World} {L : Nat → Bool} {i : Nat} {o : Oper} {a : Act} {w : World}
theorem call_Has {f : FuncId} {x y z : Operand} {ts : Array TypeId} {p : PR} {m n : Int} (C : CallHas f) (he : Enters Tryd.prog f) (st : St ops (TS sps) (GB w0) a0 L a w) (hw : Region.wanted o (yielded ops a.tmps) = true)
    (hop : o.op = .call { callee := .value (.func f), args := #[x, y, z], argTypes := ts }) (hx : ARel (a.eval x) p w) (hy : a.eval y = .int .i64 m) (hz : a.eval z = .int .i64 n) (hsp : sps.getD i .top = .val (.bool (Phas p m n))) : Owes Tryd.prog ops Q (TS sps) (GB w0) L i o a w := by
  obtain ⟨b, h1, rfl, h3, h4⟩ := hx
  exact pay_call st hw he hop (by simp [h1, hy, hz]) hsp rfl ((C b m n w h3).mono fun _ _ h => ret_holds h)
theorem St.outP {s : Tmp} {A : Option Addr} {cap : Nat} {l : List (Int × Int)} (st : St ops (TS sps) (GB w0) a0 L a w) (hs : ((List.range ops.size).all fun j => slotOf ops j != some s) = true) (hv : a0.tmps[s]? = some (.slice A l.length cap)) (hr : Reads w0 w0.heap.size 2 A l.length (prs l)) : APrs (a.eval (.tmp s)) l w :=
  ⟨A, cap, st.out hs hv, hr.into st.g⟩
end
end Go.Proofs.YtigdecmfieaacaaDoor
