/-
  From a contract to a card: a slice of tokens that is handed in.
-/
import Derived.Test.YtbcfggdifljacaaDoorCd
import Derived.Test.YtbcfggdifljacaaDoorLpN
namespace Go.Proofs.YtbcfggdifljacaaDoor
open Go Go.ChangeShapes Go.WideShapes Go.ChangeAt Go.RowKit Go.Joins

theorem cellsTok : Tryd.prog.cellsOf 35 = 4 := by kernel_rfl
theorem cellsI : Tryd.prog.cellsOf 3 = 1 := by kernel_rfl
theorem list_gets {α : Type} {n : Nat} {p : Nat → α → Prop} (h : ∀ i, i < n → ∃ x, p i x) : ∃ l : List α, l.length = n ∧ ∀ (i : Nat) (x : α), l[i]? = some x → p i x := by
  induction n with
  | zero => exact ⟨[], rfl, by simp⟩
  | succ n ih =>
    obtain ⟨l, hl, hp⟩ := ih (fun i hi => h i (by omega))
    obtain ⟨x, hx⟩ := h n (by omega)
    refine ⟨l ++ [x], by simp [hl], fun i y hy => ?_⟩
    rcases Nat.lt_or_ge i l.length with hi | hi
    · exact hp i y (by rwa [List.getElem?_append_left hi] at hy)
    · rw [List.getElem?_append_right hi] at hy
      have : i = n := by
        have := (List.getElem?_eq_some_iff.1 hy).1
        simp at this; omega
      subst this
      rw [hl, Nat.sub_self] at hy
      obtain rfl : x = y := by simpa using hy
      exact hx
section
variable {H : Type} {enc : TypeId × Value → H}
set_option maxRecDepth 100000 in
/-- A token that was read from four cells. -/
theorem open_tok {W : World} {fuel : Nat} {cs : List Value} {y : DataW H × List MemPlace} (h : DataW.trod enc Tryd.prog W 0 (fun _ => true) true fuel 35 cs = some y) : ∃ t : Tk4, cs = c4 t := by
  obtain ⟨xs, m, _, _, hl, hlen, hf⟩ := DataW.trod_struct Tryd.underlying35 h
  have g0 := hf 0 _ rfl
  have g1 := hf 1 _ rfl
  have g2 := hf 2 _ rfl
  have g3 := hf 3 _ rfl
  have hlen : xs.length = 4 := hlen
  rw [cellsTok] at hl
  match xs, hlen, g0, g1, g2, g3 with
  | [x0, x1, x2, x3], _, g0, g1, g2, g3 =>
    obtain ⟨k, q0, _, _⟩ := DataW.trod_int Tryd.underlying3 g0
    obtain ⟨s, q1, _, _⟩ := DataW.trod_string Tryd.underlying9 g1
    obtain ⟨u, q2, _, _⟩ := DataW.trod_int Tryd.underlying2 g2
    obtain ⟨z, q3, _, _⟩ := DataW.trod_int Tryd.underlying3 g3
    match cs, hl, q0, q1, q2, q3 with
    | [c0, c1, c2, c3], _, q0, q1, q2, q3 =>
      refine ⟨(k, s.data.toList, u, z), ?_⟩
      have e0 : c0 = .int .i64 k := by simpa [cellsI] using q0
      have e1 : c1 = .string s := by simpa [cellsStr] using q1
      have e2 : c2 = .int .i64 u := by simpa [show Tryd.prog.cellsOf 2 = 1 by kernel_rfl] using q2
      have e3 : c3 = .int .i64 z := by simpa [cellsI] using q3
      rw [e0, e1, e2, e3]; rfl
set_option maxRecDepth 100000 in
/-- An argument that is a list of tokens. -/
theorem open_toks {r : Reach} {W : World} {b0 : Nat} {v : Value} {d : DataW H} {p : List MemPlace} (hv : Value.okWide Tryd.prog W r b0 29 v) (h : DataW.Trod enc Tryd.prog W 0 (fun _ => true) true 29 v d p) :
    ∃ (A : Option Addr) (n c : Nat) (ta : List Tk4), v = .slice A n c ∧ n = ta.length ∧ n ≤ 9223372036854775807 ∧ ∀ k t, ta[k]? = some t → ∃ a, A = some a ∧ CellsAt W (a.add (k * 4)) (c4 t) := by
  obtain ⟨A, len, cap, rfl⟩ := okWide_slice Tryd.underlying29 hv
  obtain ⟨fuel, hf⟩ := h
  rcases DataW.trod_slice Tryd.underlying29 hf with ⟨e1, _⟩ | ⟨a, len', cap', elems, rest, n, _, e1, hx, hb, hl, hm, hlen, hel, _, _⟩
  · simp only [Value.cells, List.cons.injEq, and_true] at e1
    injection e1 with e2 e3 e4
    subst e2 e3 e4
    exact ⟨none, 0, 0, [], rfl, rfl, by omega, fun k t ht => by simp at ht⟩
  · simp only [Value.cells, List.cons.injEq, and_true] at e1
    injection e1 with e2 e3 e4
    subst e2 e3 e4
    have key : ∀ i, i < len → ∃ t : Tk4, CellsAt W (a.add (i * 4)) (c4 t) := by
      intro i hi
      have h1 := hel i hi
      rw [cellsTok, List.getElem?_eq_getElem (by omega)] at h1
      obtain ⟨cs, hcs, hy⟩ := Option.bind_eq_some_iff.1 h1
      obtain ⟨_, hcl, hcc⟩ := World.cells?_some hcs
      obtain ⟨t, rfl⟩ := open_tok hy
      refine ⟨t, fun j u hj => ?_⟩
      have hj4 : j < 4 := (List.getElem?_eq_some_iff.1 hj).1
      rw [hcc j hj4]; exact hj
    obtain ⟨l, hll, hp⟩ := list_gets key
    unfold maxLen at hm
    exact ⟨some a, len, cap, l, rfl, hll.symm, by omega, fun k t ht => ⟨a, rfl, hp k t ht⟩⟩
end
end Go.Proofs.YtbcfggdifljacaaDoor
