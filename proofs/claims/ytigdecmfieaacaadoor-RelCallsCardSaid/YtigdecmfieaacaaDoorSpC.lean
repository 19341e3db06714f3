/-
  The calls of package rel and of the kit, as the engine takes them.
-/
import Derived.Test.YtigdecmfieaacaaDoorSp2
namespace Go.Proofs.YtigdecmfieaacaaDoor
open Go Go.RowKit

theorem en_Then : Enters Tryd.prog 15 := enters_of Tryd.func15 (by kernel_rfl) rfl
theorem en_Or : Enters Tryd.prog 34 := enters_of Tryd.func34 (by kernel_rfl) rfl
theorem en_And : Enters Tryd.prog 36 := enters_of Tryd.func36 (by kernel_rfl) rfl
theorem en_Less : Enters Tryd.prog 38 := enters_of Tryd.func38 (by kernel_rfl) rfl
theorem en_Turn : Enters Tryd.prog 41 := enters_of Tryd.func41 (by kernel_rfl) rfl
theorem en_Plus : Enters Tryd.prog 43 := enters_of Tryd.func43 (by kernel_rfl) rfl
theorem en_Self : Enters Tryd.prog 12 := enters_of Tryd.func12 (by kernel_rfl) rfl
theorem en_None : Enters Tryd.prog 13 := enters_of Tryd.func13 (by kernel_rfl) rfl
theorem en_Same : Enters Tryd.prog 29 := enters_of Tryd.func29 (by kernel_rfl) rfl
theorem en_kitRel : Enters Tryd.prog 14 := enters_of Tryd.func14 (by kernel_rfl) rfl
theorem en_Acyclic : Enters Tryd.prog 10 := enters_of Tryd.func10 (by kernel_rfl) rfl
theorem en_Check : Enters Tryd.prog 16 := enters_of Tryd.func16 (by kernel_rfl) rfl

def PkitRel (a b : PR) : Bool := decide (a.n = b.n) && decide (a.rows = b.rows)
theorem C_Then : CallLR 15 Pthen := fun _ _ w hT hlen hL hg => then_c w rfl hT hlen hL hg
theorem C_Or : CallLR 34 Por := fun _ _ w _ hlen hL hg => or_c w rfl hlen hL hg
theorem C_And : CallRRR 36 Pand := fun _ _ w _ ha hb _ _ => and_c w rfl ha hb
theorem C_Less : CallRRR 38 Pless := fun _ _ w _ ha hb _ _ => less_c w rfl ha hb
theorem C_Turn : CallRR 41 Pturn := fun _ w hT hg _ => turn_c w rfl hT hg
theorem C_Plus : CallRR 43 Pplus := fun _ w _ hg _ => plus_c w rfl hg
theorem C_Self : CallIR 12 Pself := fun _ w => self_c w rfl
theorem C_None : CallIR 13 Pnone := fun _ w => none_c w rfl
theorem C_Same : CallRRB 29 Psame := fun _ _ w ha hb hs _ => same_c w rfl hs ha hb
theorem C_kitRel : CallRRB 14 PkitRel := fun a b w ha hb hs _ => kitRel_any a b w hs ha hb
theorem C_Acyclic : CallRV 10 (fun r => .bool (Pacyclic r)) := fun _ w _ hg _ => acyclic_c w rfl hg
theorem C_Check : CallRV 16 (fun r => .int .i64 (chk r.n r.rows)) := fun a w _ hg _ => check_any a.n a.A a.cap a.rows w hg.1 hg.2

theorem short_of {r : PR} (h : r.rows.length ≤ 64) : Short r := by unfold Short; omega
theorem short_zero : Short PR.zero := by unfold Short PR.zero; simp
theorem short_ok {r : PR} (h : r.ok = true) : Short r := short_of (ok_rows h).2.1
theorem short_head {L : List PR} (h : Palike L = true) : (L.headD PR.zero).rows.length ≤ 64 := by
  cases L with
  | nil => cases h
  | cons a L => exact (ok_rows (Palike_ok h a (by simp)).1).2.1
theorem short_then (L : List PR) : Short (Pthen L) := by
  unfold Pthen
  split
  · rename_i h; refine short_of ?_; rw [PthenF_length]; exact short_head h
  · exact short_zero
theorem short_or (L : List PR) : Short (Por L) := by
  unfold Por
  split
  · rename_i h; refine short_of ?_; simpa using short_head h
  · exact short_zero
theorem short_and (a b : PR) : Short (Pand a b) := by
  unfold Pand
  split
  · rename_i h; refine short_of ?_; simpa using short_head h
  · exact short_zero
theorem short_less (a b : PR) : Short (Pless a b) := by
  unfold Pless
  split
  · rename_i h; refine short_of ?_; simpa using short_head h
  · exact short_zero
theorem short_turn (a : PR) : Short (Pturn a) := by
  unfold Pturn
  split
  · rename_i h; refine short_of ?_; rw [turnR_length]; exact (ok_rows h).2.1
  · exact short_zero
theorem short_plus (a : PR) : Short (Pplus a) := by
  unfold Pplus
  split
  · rename_i h; refine short_of ?_; rw [plusL_length]; exact (ok_rows h).2.1
  · exact short_zero
theorem short_self (n : Int) : Short (Pself n) := by
  unfold Pself
  split
  · refine short_of ?_; simp; omega
  · exact short_zero
theorem short_none (n : Int) : Short (Pnone n) := by
  unfold Pnone
  split
  · refine short_of ?_; simp; omega
  · exact short_zero
end Go.Proofs.YtigdecmfieaacaaDoor
