/-
  What strings.Builder's methods do, over what a caller owns.
-/
import Derived.Test.YtbcfggdifljacaaDoorLpH
import Derived.Lib.Builder
import Derived.Lib.AppendStr
namespace Go.Proofs.YtbcfggdifljacaaDoor
open Go Go.RowKit

section
variable {o : Oper} {ρ : Operand → Value} {w : World}
theorem shape_of_row {b : Nat} {t : TypeId} {cs : List Value} (h : RowT w b t cs) : w.shape? b = some (t, cs.length) := by
  have h' : w.heap[b]? = some (.cells cs.toArray t (0, 0)) := h
  simp [World.shape?, h']
theorem run_cvTo {x : Operand} {b : Nat} {p v : Value} (hop : o.op = .convert 52 75 x) (hx : ρ x = .pointer (some ⟨b, 0, none⟩)) (hr : RowT w b 55 [p, v]) : (execOp ρ o).run Tryd.prog w = .ok (.value (.pointer (some ⟨b, 0, none⟩))) w := by
  have hj : (Tryd.prog.info? 55).map (fun i => decide (i.size ≠ 0)) = some true := by kernel_rfl
  obtain ⟨j, hj1, hj2⟩ := Option.map_eq_some_iff.1 hj
  have := Lib.run_to_unsafe (P := Tryd.prog) (w := w) ⟨b, 0, none⟩ Tryd.underlying52 Tryd.underlying75 hj1 (by simpa using hj2) (shape_of_row hr) (Nat.zero_lt_two)
  simp [execOp, hop, hx, this]
theorem run_cvFrom {x : Operand} {b : Nat} {p v : Value} (hop : o.op = .convert 75 52 x) (hx : ρ x = .pointer (some ⟨b, 0, none⟩)) (hr : RowT w b 55 [p, v]) : (execOp ρ o).run Tryd.prog w = .ok (.value (.pointer (some ⟨b, 0, none⟩))) w := by
  have hj : ((Tryd.prog.info? 55).map fun _ => ()) = some () := by kernel_rfl
  obtain ⟨j, hj1, _⟩ := Option.map_eq_some_iff.1 hj
  have := Lib.run_from_unsafe (P := Tryd.prog) (w := w) ⟨b, 0, none⟩ Tryd.underlying75 Tryd.underlying52 hj1 (shape_of_row hr) (by kernel_rfl)
  simp [execOp, hop, hx, this]
theorem run_neqP {x y : Operand} {b : Nat} {u : TypeId} (hop : o.op = .binOp .neq 52 x y u) (hx : ρ x = .pointer (some ⟨b, 0, none⟩)) (hy : ρ y = .pointer (some ⟨b, 0, none⟩)) : (execOp ρ o).run Tryd.prog w = .ok (.value (.bool false)) w := by
  have hj : ((Tryd.prog.info? 55).map fun _ => ()) = some () := by kernel_rfl
  obtain ⟨j, hj1, _⟩ := Option.map_eq_some_iff.1 hj
  have := Lib.run_neq_ptr_same (P := Tryd.prog) w ⟨b, 0, none⟩ Tryd.underlying52 hj1
  simp [execOp, hop, hx, hy, eqGuard, this]
theorem elem_u8 : Elem Tryd.prog 5 (.int .u8 0) 1 1 := by
  refine ⟨?_, rfl, by decide⟩
  have h : (Tryd.prog.info? 5).map (fun i => (i.zero, i.size, i.bytes)) = some (some (.int .u8 0), 1, 1) := by kernel_rfl
  obtain ⟨i, hi, he⟩ := Option.map_eq_some_iff.1 h
  simp only [Prod.mk.injEq] at he
  exact ⟨i, hi, he.1, he.2.1, he.2.2⟩
end
/-- The type of a block's cells. -/
def It.tag : It → Option TypeId
  | .row _ t _ => some t
  | .own e _ _ _ _ => some e
  | .obj _ _ => none
def NoTag (t : TypeId) : List It → Prop
  | [] => True
  | y :: r => (∃ u, y.tag = some u ∧ u ≠ t) ∧ NoTag t r
theorem NoTag.at {t : TypeId} : ∀ {l : List It}, NoTag t l → ∀ y ∈ l, ∃ u, y.tag = some u ∧ u ≠ t := by
  intro l
  induction l with
  | nil => intro _ y hy; cases hy
  | cons x l ih =>
    intro h y hy
    rcases List.mem_cons.1 hy with rfl | hy
    · exact h.1
    · exact ih h.2 y hy
theorem It.tagged {base : Nat} {w : World} {it : It} (h : it.holds base w) {k : Nat} (hk : it.blk = some k) {t : TypeId} (ht : it.tag = some t) : ∃ c fz, w.heap[k]? = some (.cells c t fz) := by
  cases it with
  | row b u cs =>
    obtain rfl := Option.some.inj hk
    obtain rfl := Option.some.inj ht
    exact ⟨_, _, h.2⟩
  | own e s v n xs =>
    obtain rfl := Option.some.inj ht
    rcases h.2 with ⟨rfl, _⟩ | ⟨g, cap, cur, rfl, _, hh, _⟩
    · cases hk
    · obtain rfl := Option.some.inj hk
      exact ⟨_, _, hh⟩
  | obj b o => cases ht
section
variable {P : Program} {ops : Array Oper} {Q : Exit → Act → World → Prop} {a : Act} {n i : Nat} {env : List (Nat × Value)} {l : List Nat} {w0 w : World} {its : List It}
theorem stepAppendStr {t u ety : TypeId} (hK : Knows a n env) (hM : Mem w0 w its) (d j : Nat) {k : Nat} {x y : Operand} {v : Value} {xs : List Value} {s : List UInt8} (ht : P.underlying t = some (.slice ety)) (hu : P.underlying u = some .string) (he : Elem P ety (.int .u8 0) 1 1) (hc : chk ops env i n d = true)
    (hop : (opAt ops i).op = .call { callee := .builtin .append, args := #[x, y], argTypes := #[t, u] }) (hx : evE env x = v) (hy : evE env y = Str s)
    (hj : its[j]? = some (.own ety 1 v k xs)) (hlim : k + s.length ≤ 1000000000) (htag : NoTag ety (its.eraseIdx j))
    (h : ∀ v' a' w', Knows a' n ((d, v') :: env) → Mem w0 w' (its.set j (.own ety 1 v' (k + s.length) (xs ++ Lib.byteCells s))) → wpOps P ops Q l a' w') : wpOps P ops Q (i :: l) a w := by
  obtain ⟨ti, hi, hz, hs, hb⟩ := he.info
  have hown := hM.own j hj
  have hsz : (ByteArray.mk s.toArray).size = s.length := by show s.toArray.size = _; simp
  obtain ⟨v', w', hr, ho, hg, _⟩ := Lib.run_append_own_string (P := P) w w0.heap.size t u (opAt ops i).type ety ti ht hu hi hz hs hb v k xs hown ⟨s.toArray⟩ (by unfold maxLen; rw [hsz]; omega) (by rw [hsz]; omega) hM.size
  have hcells : Lib.strCells (ByteArray.mk s.toArray) = Lib.byteCells s := by simp [Lib.strCells, Lib.byteCells]
  rw [hsz, hcells] at ho
  have hk : ∀ q, q < w.heap.size → (It.own ety 1 v k xs).blk ≠ some q → w'.heap[q]? = w.heap[q]? := fun q hq hne => hg.block q hq fun e => hne e.symm
  have hM' : Mem w0 w' (its.set j (.own ety 1 v' (k + s.length) (xs ++ Lib.byteCells s))) := by
    refine hM.turnD j hj ho (hM.below.grown hg hM.size fun q hq => (hown.lt q hq).1) hk fun q z hq hz2 => ?_
    cases e1 : (It.own ety 1 v' (k + s.length) (xs ++ Lib.byteCells s)).blk with
    | none => exact .inl rfl
    | some g =>
      cases e2 : z.blk with
      | none => exact .inr (.inl rfl)
      | some g2 =>
        refine .inr (.inr fun e => ?_)
        obtain rfl := Option.some.inj e
        have hzin : z ∈ its.eraseIdx j := List.mem_eraseIdx_iff_getElem?.2 ⟨q, hq, hz2⟩
        obtain ⟨ut, hut, hne⟩ := htag.at z hzin
        have hzh := hM.each z (List.mem_of_getElem? hz2)
        have hzh' : z.holds w0.heap.size w' := It.stay hzh fun q2 e3 hlt => hk q2 hlt fun e4 => by
          have := hM.far (Ne.symm hq) hj hz2
          rcases this with h5 | h5 | h5
          · rw [h5] at e4; cases e4
          · rw [h5] at e3; cases e3
          · exact h5 (e4.trans e3.symm)
        obtain ⟨c1, f1, h6⟩ := It.tagged hzh' e2 hut
        obtain ⟨c2, f2, h7⟩ := It.tagged (it := .own ety 1 v' (k + s.length) (xs ++ Lib.byteCells s)) ho e1 rfl
        rw [h6] at h7
        injection h7 with h7
        injection h7 with _ h8 _
        exact hne h8
  refine stepV hK d v' hc ?_ fun a' hK' => h v' a' w' hK' hM'
  have hy' : evE env y = .string ⟨s.toArray⟩ := hy
  simp [execOp, hop, resolve, invoke, builtin, hx, hy', hr, Result.andThen]
end
theorem ret_0 {P : Program} {fn : Func} {R : Ending → World → Prop} {a : Act} {w : World} {n : Nat} {env : List (Nat × Value)} (hK : Knows a n env) (hf : fn.results = #[]) (h : R (.returned (.tuple #[])) w) : bodyPost P fn R .ret a w :=
  bodyPost_ret (by simp [results, hf]) hK.defers h
end Go.Proofs.YtbcfggdifljacaaDoor
