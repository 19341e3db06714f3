/-
  What may be an expression, statements, a program: as the document says.
-/
import Derived.Test.YtmfiiapmkidmkaaDoorTreeE
import Derived.Test.YtmfiiapmkidmkaaDoorAsG
import Derived.Test.YtmfiiapmkidmkaaDoorWdL
namespace Go.Proofs.YtmfiiapmkidmkaaDoor
open Go Go.RowKit

theorem run_neB {o : Oper} {ρ : Operand → Value} {w : World} {x y : Operand} {b c : Bool} {u : TypeId} (hop : o.op = .binOp .neq 4 x y u) (hx : ρ x = .bool b) (hy : ρ y = .bool c) : (execOp ρ o).run Tryd.prog w = .ok (.value (.bool (b != c))) w := by
  have h : (binOp .neq 4 (.bool b) (.bool c)).run Tryd.prog w = .ok (.bool (b != c)) w := by cases b <;> cases c <;> kernel_rfl
  have g : (eqGuard .neq 4 x y (.bool b) (.bool c)).run Tryd.prog w = .ok () w := by first | kernel_rfl | simp [go_sem] | (cases b <;> cases c <;> kernel_rfl)
  simp [execOp, hop, hx, hy, g, h, Result.andThen]
/-- Is a text a word (no keyword)? -/
def isWd (l : List UInt8) : Bool := (wordOf l).2 && decide ((((wordOf l).1 : Nat) : Int) = 1)
/-- What is wrong with an expression, its kids aside. -/
def exBad (e : Ex) : Bool := !(decide ((kidsI e.op : Int) = ((e.ks.length : Nat) : Int))) || (decide ((e.op : Int) = 2) != isWd e.nm) || (!(decide ((e.op : Int) = 2)) && !(decide (e.nm = []))) || decide ((e.num : Int) < 0) || (!(decide ((e.op : Int) = 1)) && !(decide ((e.num : Int) = 0)))
mutual
def Ex.ok : Ex → Bool
  | .mk o n m A c ks => !(exBad (.mk o n m A c ks)) && exsOk ks
def exsOk : List Ex → Bool
  | [] => true
  | x :: r => x.ok && exsOk r
end
theorem ex_ok (e : Ex) : e.ok = (!(exBad e) && exsOk e.ks) := by cases e; rw [Ex.ok]; rfl
theorem exsOk_step {ks : List Ex} {i : Nat} {x : Ex} (h : ks[i]? = some x) : exsOk (ks.drop i) = (x.ok && exsOk (ks.drop (i + 1))) := by
  obtain ⟨hi, rfl⟩ := List.getElem?_eq_some_iff.1 h
  rw [List.drop_eq_getElem_cons hi, exsOk]
theorem exsOk_end {ks : List Ex} {i : Nat} (h : ks.length ≤ i) : exsOk (ks.drop i) = true := by rw [List.drop_of_length_le h, exsOk]
/-- What a kind of statements has. -/
def ptIs (k : Int) : Bool := decide ((1 : Int) ≤ k) && decide (k ≤ 11)
def ptNm (k : Int) : Bool := k == 1 || k == 2 || k == 4 || k == 5 || k == 6
def ptLc (k : Int) : Bool := k == 2 || k == 3 || k == 4 || k == 5 || k == 6
def ptOr (k : Int) : Bool := k == 2 || k == 3 || k == 4 || k == 5 || k == 6 || k == 7
def ptEx (k : Int) : Int := if k = 4 then 2 else if k = 2 ∨ k = 7 then 0 else if 1 ≤ k ∧ k ≤ 11 then 1 else 0
def ptTh (k : Int) : Bool := k == 10 || k == 11
def ptEl (k : Int) : Bool := k == 10
theorem pt_none {k : Int} (h : ¬ (1 ≤ k ∧ k ≤ 11)) : ptIs k = false ∧ ptNm k = false ∧ ptLc k = false ∧ ptOr k = false ∧ ptEx k = 0 ∧ ptTh k = false ∧ ptEl k = false := by
  unfold ptIs ptNm ptLc ptOr ptEx ptTh ptEl
  refine ⟨?_, ?_, ?_, ?_, ?_, ?_, ?_⟩
  · simp; omega
  · simp; omega
  · simp; omega
  · simp; omega
  · rw [if_neg (by omega), if_neg (by omega), if_neg (by omega)]
  · simp; omega
  · simp; omega
def smBad1 (s : Sm) : Bool := !(ptIs s.kind) || (ptNm s.kind != isWd s.nm) || (!(ptNm s.kind) && !(decide (s.nm = []))) || (ptLc s.kind != isWd s.loc) || (!(ptLc s.kind) && !(decide (s.loc = []))) || !(decide ((((s.es.length : Nat) : Int) : Int) = ptEx s.kind)) || (!(ptTh s.kind) && decide ((0 : Int) < ((s.th.length : Nat) : Int))) || (!(ptEl s.kind) && decide ((0 : Int) < ((s.el.length : Nat) : Int)))
def smBad2 (s : Sm) : Bool := (ptOr s.kind && (decide ((s.ord : Int) < 1) || decide ((6 : Int) < s.ord))) || (!(ptOr s.kind) && !(decide ((s.ord : Int) = 0)))
mutual
def Sm.ok : Sm → Bool
  | .mk k n l o A1 c1 es A2 c2 th A3 c3 el => !(smBad1 (.mk k n l o A1 c1 es A2 c2 th A3 c3 el)) && !(smBad2 (.mk k n l o A1 c1 es A2 c2 th A3 c3 el)) && smsOk th && smsOk el && exsOk es
def smsOk : List Sm → Bool
  | [] => true
  | x :: r => x.ok && smsOk r
end
theorem sm_ok (s : Sm) : s.ok = (!(smBad1 s) && !(smBad2 s) && smsOk s.th && smsOk s.el && exsOk s.es) := by cases s; rw [Sm.ok]; rfl
theorem sm_no1 {s : Sm} (h : smBad1 s = true) : s.ok = false := by rw [sm_ok, h]; rfl
theorem sm_no2 {s : Sm} (h1 : smBad1 s = false) (h : (smBad2 s || !(smsOk s.th) || !(smsOk s.el)) = true) : s.ok = false := by
  rw [sm_ok, h1]
  revert h
  cases smBad2 s <;> cases smsOk s.th <;> cases smsOk s.el <;> simp
theorem sm_go {s : Sm} (h1 : smBad1 s = false) (h : (smBad2 s || !(smsOk s.th) || !(smsOk s.el)) = false) : s.ok = exsOk s.es := by
  rw [sm_ok, h1]
  revert h
  cases smBad2 s <;> cases smsOk s.th <;> cases smsOk s.el <;> simp
theorem smsOk_step {ks : List Sm} {i : Nat} {x : Sm} (h : ks[i]? = some x) : smsOk (ks.drop i) = (x.ok && smsOk (ks.drop (i + 1))) := by
  obtain ⟨hi, rfl⟩ := List.getElem?_eq_some_iff.1 h
  rw [List.drop_eq_getElem_cons hi, smsOk]
theorem smsOk_end {ks : List Sm} {i : Nat} (h : ks.length ≤ i) : smsOk (ks.drop i) = true := by rw [List.drop_of_length_le h, smsOk]
def dcOk (d : Dc) : Bool := isWd d.nm && !(decide ((d.val : Int) < 0))
def dcsOk (l : List Dc) : Bool := l.all dcOk
def thsOk (l : List Th) : Bool := l.all fun t => smsOk t.l
theorem dcsOk_step {ks : List Dc} {i : Nat} {x : Dc} (h : ks[i]? = some x) : dcsOk (ks.drop i) = (dcOk x && dcsOk (ks.drop (i + 1))) := by
  obtain ⟨hi, rfl⟩ := List.getElem?_eq_some_iff.1 h
  rw [List.drop_eq_getElem_cons hi]; rfl
theorem thsOk_step {ks : List Th} {i : Nat} {x : Th} (h : ks[i]? = some x) : thsOk (ks.drop i) = (smsOk x.l && thsOk (ks.drop (i + 1))) := by
  obtain ⟨hi, rfl⟩ := List.getElem?_eq_some_iff.1 h
  rw [List.drop_eq_getElem_cons hi]; rfl
theorem dcsOk_end {ks : List Dc} {i : Nat} (h : ks.length ≤ i) : dcsOk (ks.drop i) = true := by rw [List.drop_of_length_le h]; rfl
theorem thsOk_end {ks : List Th} {i : Nat} (h : ks.length ≤ i) : thsOk (ks.drop i) = true := by rw [List.drop_of_length_le h]; rfl
/-- What Check answers. -/
def chkP (p : Pg) : Int := if (decide ((2000 : Int) < ((thsSz p.ts : Nat) : Int)) || decide ((32 : Int) < ((thsDp p.ts : Nat) : Int))) = true then 3 else if dcsOk p.ds = true then (if thsOk p.ts = true then 0 else 2) else 2
def chkE (e : Ex) : Int := if (decide ((2000 : Int) < ((e.sz : Nat) : Int)) || decide ((32 : Int) < ((e.dp : Nat) : Int))) = true then 3 else if e.ok = true then 0 else 2
end Go.Proofs.YtmfiiapmkidmkaaDoor
