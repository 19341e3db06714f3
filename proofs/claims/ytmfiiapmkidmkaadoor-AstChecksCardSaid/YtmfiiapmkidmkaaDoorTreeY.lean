/-
  The tables of what operators and statements have; what package ast asks of each node.
-/
import Derived.Test.YtmfiiapmkidmkaaDoorTreeX
namespace Go.Proofs.YtmfiiapmkidmkaaDoor
open Go Go.RowKit

def exN (k : Int) : Bool := decide (k = 1)
def exR (k : Int) : Bool := decide (k = 2)
def tabE : List Value := (List.range 17).flatMap fun k : Nat => [.bool (exN (k : Int)), .bool (exR (k : Int)), .int .i64 (if k = 0 then 0 else kidsI (k : Int))]
def tabS : List Value := (List.range 12).flatMap fun k : Nat => [.bool (ptNm (k : Int)), .bool (ptLc (k : Int)), .bool (ptOr (k : Int)), .int .i64 (ptEx (k : Int)), .bool (ptTh (k : Int)), .bool (ptEl (k : Int))]
structure TabOk (w : World) : Prop where
  e : CellsAt w ⟨0, 0, none⟩ tabE
  s : CellsAt w ⟨1, 0, none⟩ tabS
theorem TabOk.on {w w' : World} (h : TabOk w) (hb : Below w.heap.size w w') : TabOk w' := ⟨h.e.on hb, h.s.on hb⟩
theorem TabOk.exprs {w : World} (h : TabOk w) {op : Int} (h1 : 1 ≤ op) (h2 : op ≤ 16) : CellsAt w ((⟨0, 0, none⟩ : Addr).add (op.toNat * 3)) [.bool (exN op), .bool (exR op), .int .i64 (kidsI op)] := by
  obtain ⟨k, rfl⟩ : ∃ k : Nat, op = k := ⟨op.toNat, by omega⟩
  have hk : k = 1 ∨ k = 2 ∨ k = 3 ∨ k = 4 ∨ k = 5 ∨ k = 6 ∨ k = 7 ∨ k = 8 ∨ k = 9 ∨ k = 10 ∨ k = 11 ∨ k = 12 ∨ k = 13 ∨ k = 14 ∨ k = 15 ∨ k = 16 := by omega
  rcases hk with rfl | rfl | rfl | rfl | rfl | rfl | rfl | rfl | rfl | rfl | rfl | rfl | rfl | rfl | rfl | rfl
  · exact h.e.addA 3 3 (by decide)
  · exact h.e.addA 6 3 (by decide)
  · exact h.e.addA 9 3 (by decide)
  · exact h.e.addA 12 3 (by decide)
  · exact h.e.addA 15 3 (by decide)
  · exact h.e.addA 18 3 (by decide)
  · exact h.e.addA 21 3 (by decide)
  · exact h.e.addA 24 3 (by decide)
  · exact h.e.addA 27 3 (by decide)
  · exact h.e.addA 30 3 (by decide)
  · exact h.e.addA 33 3 (by decide)
  · exact h.e.addA 36 3 (by decide)
  · exact h.e.addA 39 3 (by decide)
  · exact h.e.addA 42 3 (by decide)
  · exact h.e.addA 45 3 (by decide)
  · exact h.e.addA 48 3 (by decide)
theorem TabOk.stmts {w : World} (h : TabOk w) {k : Int} (hk : ptIs k = true) : CellsAt w ((⟨1, 0, none⟩ : Addr).add (k.toNat * 6)) [.bool (ptNm k), .bool (ptLc k), .bool (ptOr k), .int .i64 (ptEx k), .bool (ptTh k), .bool (ptEl k)] := by
  unfold ptIs at hk
  rw [Bool.and_eq_true, decide_eq_true_iff, decide_eq_true_iff] at hk
  obtain ⟨k, rfl⟩ : ∃ j : Nat, k = j := ⟨k.toNat, by omega⟩
  have hk : k = 1 ∨ k = 2 ∨ k = 3 ∨ k = 4 ∨ k = 5 ∨ k = 6 ∨ k = 7 ∨ k = 8 ∨ k = 9 ∨ k = 10 ∨ k = 11 := by omega
  rcases hk with rfl | rfl | rfl | rfl | rfl | rfl | rfl | rfl | rfl | rfl | rfl
  · exact h.s.addA 6 6 (by decide)
  · exact h.s.addA 12 6 (by decide)
  · exact h.s.addA 18 6 (by decide)
  · exact h.s.addA 24 6 (by decide)
  · exact h.s.addA 30 6 (by decide)
  · exact h.s.addA 36 6 (by decide)
  · exact h.s.addA 42 6 (by decide)
  · exact h.s.addA 48 6 (by decide)
  · exact h.s.addA 54 6 (by decide)
  · exact h.s.addA 60 6 (by decide)
  · exact h.s.addA 66 6 (by decide)
theorem run_ixArr {P : Program} {o : Oper} {ρ : Operand → Value} {w : World} {t e : TypeId} {x y : Operand} {a : Addr} {n k s : Nat} {i : Int} (hop : o.op = .indexAddr t x y) (hx : ρ x = .pointer (some a)) (hy : ρ y = .int .i64 i) (hi : i = ((k : Nat) : Int)) (ht : P.underlying t = some (.array n e)) (hs : (P.info? e).map (·.size) = some s) (hk : k < n) : (execOp ρ o).run P w = .ok (.value (.pointer (some (a.add (k * s))))) w := by
  subst hi
  obtain ⟨j, hj, hs⟩ := Option.map_eq_some_iff.1 hs
  simp [execOp, hop, hx, hy, Instr.indexAt, Instr.sureAddr, asIntOf, run_underlying ht, sizeOf, typeInfo, hj, hs, hk]
def numOk (n : Int) (b : Bool) : Bool := if b = true then decide ((0 : Int) ≤ n) else decide ((n : Int) = 0)
def nameOk (l : List UInt8) (b : Bool) : Bool := if b = true then isWd l else decide (l = [])
def ordOk (o : Int) (b : Bool) : Bool := if b = true then (decide ((1 : Int) ≤ o) && decide (o ≤ 6)) else decide ((o : Int) = 0)
theorem isWd_nil : isWd [] = false := by decide
theorem name_bad (l : List UInt8) (b : Bool) : ((b != isWd l) || (!b && !(decide (l = [])))) = !(nameOk l b) := by
  unfold nameOk
  cases b with
  | true => cases isWd l <;> rfl
  | false =>
    by_cases h : l = []
    · subst h; rw [isWd_nil]; rfl
    · rw [decide_eq_false h]; cases isWd l <;> rfl
theorem num_bad (e : Ex) : (decide ((e.num : Int) < 0) || (!(decide ((e.op : Int) = 1)) && !(decide ((e.num : Int) = 0)))) = !(numOk e.num (exN e.op)) := by
  unfold numOk exN
  by_cases h : e.op = 1
  · rw [decide_eq_true h, if_pos rfl]
    by_cases h2 : e.num < 0
    · rw [decide_eq_true h2, decide_eq_false (show ¬ 0 ≤ e.num by omega)]; rfl
    · rw [decide_eq_false h2, decide_eq_true (show 0 ≤ e.num by omega)]; rfl
  · rw [decide_eq_false h, if_neg (by decide)]
    by_cases h2 : e.num = 0
    · rw [decide_eq_true h2, decide_eq_false (show ¬ e.num < 0 by omega)]; rfl
    · rw [decide_eq_false h2]; cases decide (e.num < 0) <;> rfl
theorem ord_bad (s : Sm) : smBad2 s = !(ordOk s.ord (ptOr s.kind)) := by
  unfold smBad2 ordOk
  cases ptOr s.kind with
  | false => rw [if_neg (by decide)]; cases decide (s.ord = 0) <;> rfl
  | true =>
    rw [if_pos rfl]
    by_cases h : s.ord < 1
    · rw [decide_eq_true h, decide_eq_false (show ¬ 1 ≤ s.ord by omega)]; rfl
    · by_cases h2 : 6 < s.ord
      · rw [decide_eq_false h, decide_eq_true h2, decide_eq_true (show 1 ≤ s.ord by omega), decide_eq_false (show ¬ s.ord ≤ 6 by omega)]; rfl
      · rw [decide_eq_false h, decide_eq_false h2, decide_eq_true (show 1 ≤ s.ord by omega), decide_eq_true (show s.ord ≤ 6 by omega)]; rfl
theorem ex_out {e : Ex} (h : e.op < 1 ∨ 16 < e.op) : exBad e = true := by
  unfold exBad kidsI
  rw [decide_eq_false (show ¬ e.op = 1 by omega), decide_eq_false (show ¬ e.op = 2 by omega), decide_eq_false (show ¬ e.op = 3 by omega), decide_eq_false (show ¬ e.op = 4 by omega)]
  have h2 : (decide ((5 : Int) ≤ e.op) && decide (e.op ≤ 16)) = false := by
    rcases h with h | h
    · rw [decide_eq_false (show ¬ 5 ≤ e.op by omega)]; rfl
    · rw [decide_eq_false (show ¬ e.op ≤ 16 by omega), Bool.and_false]
  rw [h2]
  have h3 : decide ((-1 : Int) = ((e.ks.length : Nat) : Int)) = false := decide_eq_false (by omega)
  simp only [Bool.or_self, Bool.false_eq_true, if_false, h3]
  rfl
theorem ex_in (e : Ex) : exBad e = !(numOk e.num (exN e.op) && nameOk e.nm (exR e.op) && decide ((((e.ks.length : Nat) : Int) : Int) = kidsI e.op)) := by
  have h1 := num_bad e
  have h2 := name_bad e.nm (exR e.op)
  have h3 : decide ((kidsI e.op : Int) = ((e.ks.length : Nat) : Int)) = decide ((((e.ks.length : Nat) : Int) : Int) = kidsI e.op) := by
    by_cases h : kidsI e.op = ((e.ks.length : Nat) : Int)
    · rw [decide_eq_true h, decide_eq_true h.symm]
    · rw [decide_eq_false h, decide_eq_false fun h' => h h'.symm]
  unfold exBad
  rw [h3]
  unfold exR at *
  revert h1 h2
  generalize decide ((((e.ks.length : Nat) : Int) : Int) = kidsI e.op) = a1
  generalize decide ((e.op : Int) = 2) = a2
  generalize isWd e.nm = a3
  generalize decide (e.nm = []) = a4
  generalize decide ((e.num : Int) < 0) = a5
  generalize decide ((e.op : Int) = 1) = a6
  generalize decide ((e.num : Int) = 0) = a7
  generalize numOk e.num (exN e.op) = a8
  generalize nameOk e.nm a2 = a9
  revert a1 a2 a3 a4 a5 a6 a7 a8 a9
  decide
theorem sm_out {s : Sm} (h : ptIs s.kind = false) : smBad1 s = true := by unfold smBad1; rw [h]; rfl
theorem len_zero (n : Nat) : decide ((0 : Int) < ((n : Nat) : Int)) = !(decide (((n : Nat) : Int) = 0)) := by
  by_cases h : n = 0
  · subst h; rfl
  · rw [decide_eq_true (show (0 : Int) < ((n : Nat) : Int) by omega), decide_eq_false (show ¬ ((n : Nat) : Int) = 0 by omega)]; rfl
theorem sm_in {s : Sm} (h : ptIs s.kind = true) : (!(smBad1 s) && !(smBad2 s)) = (nameOk s.nm (ptNm s.kind) && nameOk s.loc (ptLc s.kind) && ordOk s.ord (ptOr s.kind) && decide ((((s.es.length : Nat) : Int) : Int) = ptEx s.kind) && (ptTh s.kind || decide ((((s.th.length : Nat) : Int) : Int) = 0)) && (ptEl s.kind || decide ((((s.el.length : Nat) : Int) : Int) = 0))) := by
  rw [ord_bad]
  have h1 := name_bad s.nm (ptNm s.kind)
  have h2 := name_bad s.loc (ptLc s.kind)
  unfold smBad1
  rw [h, len_zero, len_zero]
  generalize ordOk s.ord (ptOr s.kind) = a1
  generalize decide ((((s.es.length : Nat) : Int) : Int) = ptEx s.kind) = a2
  generalize ptTh s.kind = a3
  generalize ptEl s.kind = a4
  generalize decide ((((s.th.length : Nat) : Int) : Int) = 0) = a5
  generalize decide ((((s.el.length : Nat) : Int) : Int) = 0) = a6
  generalize nameOk s.nm (ptNm s.kind) = n1 at *
  generalize nameOk s.loc (ptLc s.kind) = n2 at *
  generalize (ptNm s.kind != isWd s.nm) = b1 at *
  generalize (!(ptNm s.kind) && !(decide (s.nm = []))) = b2 at *
  generalize (ptLc s.kind != isWd s.loc) = b3 at *
  generalize (!(ptLc s.kind) && !(decide (s.loc = []))) = b4 at *
  have e1 : n1 = !(b1 || b2) := by rw [h1, Bool.not_not]
  have e2 : n2 = !(b3 || b4) := by rw [h2, Bool.not_not]
  subst e1 e2
  clear h1 h2 h
  cases b1 <;> cases b2 <;> cases b3 <;> cases b4 <;> cases a1 <;> cases a2 <;> cases a3 <;> cases a4 <;> cases a5 <;> cases a6 <;> rfl
theorem lim_chk {l : List Th} {r : Bool} {q : Nat} (h : (r, q) = thsWk (fun _ d s => limD d s) (fun _ d s => limD d s) l 0) : (decide ((2000 : Int) < ((thsSz l : Nat) : Int)) || decide ((32 : Int) < ((thsDp l : Nat) : Int))) = !r := by
  have h1 := (lim_ths l 0 (by omega)).1
  rw [show thsWk (fun _ => limD) (fun _ => limD) l 0 = (r, q) from h.symm] at h1
  cases r with
  | true =>
    have h2 := h1.1 rfl
    rw [decide_eq_false (show ¬ (2000 : Int) < ((thsSz l : Nat) : Int) by omega), decide_eq_false (show ¬ (32 : Int) < ((thsDp l : Nat) : Int) by omega)]; rfl
  | false =>
    have h2 : ¬ (0 + thsSz l ≤ 2000 ∧ 1 + thsDp l ≤ 33) := fun h => by cases h1.2 h
    by_cases h3 : (2000 : Int) < ((thsSz l : Nat) : Int)
    · rw [decide_eq_true h3]; rfl
    · rw [decide_eq_true (show (32 : Int) < ((thsDp l : Nat) : Int) by omega), Bool.or_true]; rfl
theorem lim_che {e : Ex} {r : Bool} {q : Nat} (h : (r, q) = walkW (fun _ d s => limD d s) (fun _ d s => limD d s) [e] [] 1 0) : (decide ((2000 : Int) < ((e.sz : Nat) : Int)) || decide ((32 : Int) < ((e.dp : Nat) : Int))) = !r := by
  rw [walkW_e] at h
  have h1 := (lim_exs [e] 1 0 (by omega) (by omega)).1
  rw [show exsWk (fun _ => limD) [e] 1 0 = (r, q) from h.symm] at h1
  simp only [exsSz, exsDp] at h1
  cases r with
  | true =>
    have h2 := h1.1 rfl
    rw [decide_eq_false (show ¬ (2000 : Int) < ((e.sz : Nat) : Int) by omega), decide_eq_false (show ¬ (32 : Int) < ((e.dp : Nat) : Int) by omega)]; rfl
  | false =>
    have h2 : ¬ (0 + (e.sz + 0) ≤ 2000 ∧ 1 + max e.dp 0 ≤ 33) := fun h => by cases h1.2 h
    by_cases h3 : (2000 : Int) < ((e.sz : Nat) : Int)
    · rw [decide_eq_true h3]; rfl
    · rw [decide_eq_true (show (32 : Int) < ((e.dp : Nat) : Int) by omega), Bool.or_true]; rfl
theorem may_che {e : Ex} {r : Bool} {q : Unit} (h : (r, q) = walkW mayE mayS [e] [] 1 ()) : r = e.ok := by
  rw [walkW_e, may_exs] at h
  have := congrArg Prod.fst h
  simpa [exsOk] using this
end Go.Proofs.YtmfiiapmkidmkaaDoor
