/-
  Programs as trees in memory: what is read of an expression.
-/
import Derived.Test.YtmfiiapmkidmkaaDoorElem
namespace Go.Proofs.YtmfiiapmkidmkaaDoor
open Go Go.RowKit

/-- An expression, and where its kids lie. -/
inductive Ex where
  | mk (op num : Int) (nm : List UInt8) (A : Option Addr) (c : Nat) (ks : List Ex)
namespace Ex
def op : Ex → Int | .mk x _ _ _ _ _ => x
def num : Ex → Int | .mk _ x _ _ _ _ => x
def nm : Ex → List UInt8 | .mk _ _ x _ _ _ => x
def A : Ex → Option Addr | .mk _ _ _ x _ _ => x
def c : Ex → Nat | .mk _ _ _ _ x _ => x
def ks : Ex → List Ex | .mk _ _ _ _ _ x => x
end Ex
abbrev cE (e : Ex) : List Value := [.int .i64 e.op, .int .i64 e.num, Str e.nm, .slice e.A e.ks.length e.c]
theorem ks_lt {e x : Ex} (h : x ∈ e.ks) : SizeOf.sizeOf x < SizeOf.sizeOf e := by
  cases e with
  | mk o n m A c ks =>
    have := List.sizeOf_lt_of_mem (show x ∈ ks from h)
    simp; omega
inductive ExAt (w : World) : Ex → Prop
  | mk (e : Ex) (hn : e.nm.length ≤ 9223372036854775807 ∧ e.ks.length ≤ 9223372036854775807) (h : ∀ (k : Nat) (x : Ex), e.ks[k]? = some x → ∃ a, e.A = some a ∧ CellsAt w (a.add (k * 4)) (cE x)) (h2 : ∀ (k : Nat) (x : Ex), e.ks[k]? = some x → ExAt w x) : ExAt w e
def ExsAt (w : World) (A : Option Addr) (l : List Ex) : Prop := ∀ (k : Nat) (x : Ex), l[k]? = some x → (∃ a, A = some a ∧ CellsAt w (a.add (k * 4)) (cE x)) ∧ ExAt w x
theorem ExAt.kids {w : World} {e : Ex} (h : ExAt w e) : ExsAt w e.A e.ks := by
  cases h with
  | mk _ _ h1 h2 => exact fun k x hx => ⟨h1 k x hx, h2 k x hx⟩
theorem ExAt.len {w : World} {e : Ex} (h : ExAt w e) : e.nm.length ≤ 9223372036854775807 ∧ e.ks.length ≤ 9223372036854775807 := by
  cases h with
  | mk _ h _ _ => exact h
theorem ExAt.on {w w' : World} {e : Ex} (h : ExAt w e) (hb : Below w.heap.size w w') : ExAt w' e := by
  induction h with
  | mk e hn h1 h2 ih => exact .mk e hn (fun k x hx => (by obtain ⟨a, e1, e2⟩ := h1 k x hx; exact ⟨a, e1, e2.on hb⟩)) ih
theorem ExsAt.on {w w' : World} {A : Option Addr} {l : List Ex} (h : ExsAt w A l) (hb : Below w.heap.size w w') : ExsAt w' A l := fun k x hx => (by
  obtain ⟨⟨a, e1, e2⟩, e3⟩ := h k x hx
  exact ⟨⟨a, e1, e2.on hb⟩, e3.on hb⟩)
/-- Strong induction over expressions. -/
theorem Ex.rec_on {p : Ex → Prop} (h : ∀ e, (∀ x ∈ e.ks, p x) → p e) (e : Ex) : p e := by
  have : ∀ (n : Nat) (e : Ex), SizeOf.sizeOf e < n → p e := by
    intro n
    induction n with
    | zero => intro e he; omega
    | succ n ih => intro e he; exact h e fun x hx => ih x (by have := ks_lt hx; omega)
  exact this _ e (Nat.lt_succ_self _)
mutual
/-- How many expressions it has. -/
def Ex.sz : Ex → Nat
  | .mk _ _ _ _ _ ks => exsSz ks + 1
def exsSz : List Ex → Nat
  | [] => 0
  | x :: r => x.sz + exsSz r
end
mutual
/-- How deep it is nested. -/
def Ex.dp : Ex → Nat
  | .mk _ _ _ _ _ ks => exsDp ks + 1
def exsDp : List Ex → Nat
  | [] => 0
  | x :: r => max x.dp (exsDp r)
end
theorem sz_eq (e : Ex) : e.sz = exsSz e.ks + 1 := by cases e; rw [Ex.sz]; rfl
theorem dp_eq (e : Ex) : e.dp = exsDp e.ks + 1 := by cases e; rw [Ex.dp]; rfl
theorem exsSz_take {l : List Ex} {i : Nat} {x : Ex} (h : l[i]? = some x) : exsSz (l.take (i + 1)) = exsSz (l.take i) + x.sz := by
  induction l generalizing i with
  | nil => simp at h
  | cons y r ih =>
    cases i with
    | zero => obtain rfl := Option.some.inj h; simp [exsSz]
    | succ i => have := ih (i := i) (by simpa using h); simp only [List.take_succ_cons, exsSz]; omega
theorem exsDp_take {l : List Ex} {i : Nat} {x : Ex} (h : l[i]? = some x) : exsDp (l.take (i + 1)) = max (exsDp (l.take i)) x.dp := by
  induction l generalizing i with
  | nil => simp at h
  | cons y r ih =>
    cases i with
    | zero => obtain rfl := Option.some.inj h; simp [exsDp]
    | succ i => have := ih (i := i) (by simpa using h); simp only [List.take_succ_cons, exsDp]; omega
theorem exsSz_le {l : List Ex} {i : Nat} : exsSz (l.take i) ≤ exsSz l := by
  induction l generalizing i with
  | nil => simp
  | cons y r ih =>
    cases i with
    | zero => simp [exsSz]
    | succ i => have := ih (i := i); simp only [List.take_succ_cons, exsSz]; omega
theorem exsSz_mem {l : List Ex} {x : Ex} (h : x ∈ l) : x.sz ≤ exsSz l := by
  induction l with
  | nil => cases h
  | cons y r ih =>
    rcases List.mem_cons.1 h with rfl | h
    · simp only [exsSz]; omega
    · have := ih h; simp only [exsSz]; omega
theorem exsSz_len (l : List Ex) : l.length ≤ exsSz l := by
  induction l with
  | nil => exact Nat.zero_le _
  | cons y r ih => have := sz_eq y; simp only [exsSz, List.length_cons]; omega
theorem exsDp_mem {l : List Ex} {x : Ex} (h : x ∈ l) : x.dp ≤ exsDp l := by
  induction l with
  | nil => cases h
  | cons y r ih =>
    rcases List.mem_cons.1 h with rfl | h
    · simp only [exsDp]; omega
    · have := ih h; simp only [exsDp]; omega
theorem dp_sz (e : Ex) : e.dp ≤ e.sz := by
  induction e using Ex.rec_on with
  | h e ih =>
    rw [dp_eq, sz_eq]
    have : ∀ l : List Ex, (∀ x ∈ l, x.dp ≤ x.sz) → exsDp l ≤ exsSz l := by
      intro l
      induction l with
      | nil => intro _; exact Nat.le_refl _
      | cons y r ih2 =>
        intro h
        have h1 := h y List.mem_cons_self
        have h2 := ih2 fun x hx => h x (List.mem_cons_of_mem _ hx)
        simp only [exsDp, exsSz]; omega
    have := this e.ks ih; omega
mutual
/-- What is left of some weight behind an expression (it stops where nothing is left). -/
def Ex.hf : Ex → Int → Int
  | .mk _ _ m _ _ ks, l => exsHf ks (l - 1 - ((m.length / 20 : Nat) : Int))
def exsHf : List Ex → Int → Int
  | [], l => l
  | x :: r, l => if l < 0 then l else exsHf r (x.hf l)
end
theorem hf_eq (e : Ex) (l : Int) : e.hf l = exsHf e.ks (l - 1 - ((e.nm.length / 20 : Nat) : Int)) := by cases e; rw [Ex.hf]; rfl
theorem exsHf_step {ks : List Ex} {i : Nat} {x : Ex} {l : Int} (h : ks[i]? = some x) (hl : 0 ≤ l) : exsHf (ks.drop i) l = exsHf (ks.drop (i + 1)) (x.hf l) := by
  obtain ⟨hi, rfl⟩ := List.getElem?_eq_some_iff.1 h
  rw [List.drop_eq_getElem_cons hi, exsHf, if_neg (by omega)]
theorem exsHf_neg (ks : List Ex) {l : Int} (h : l < 0) : exsHf ks l = l := by
  cases ks with
  | nil => rw [exsHf]
  | cons x r => rw [exsHf, if_pos h]
theorem hf_sz (e : Ex) : ∀ l : Int, 0 ≤ e.hf l → e.hf l + e.sz ≤ l := by
  induction e using Ex.rec_on with
  | h e ih =>
    intro l h
    rw [hf_eq] at h ⊢
    rw [sz_eq]
    have key : ∀ (ks : List Ex) (l : Int), (∀ x ∈ ks, ∀ l : Int, 0 ≤ x.hf l → x.hf l + x.sz ≤ l) → 0 ≤ exsHf ks l → exsHf ks l + exsSz ks ≤ l := by
      intro ks
      induction ks with
      | nil => intro l _ _; rw [exsHf, exsSz]; omega
      | cons x r ih2 =>
        intro l hx h0
        rw [exsHf] at h0 ⊢
        split at h0
        · omega
        · rename_i hl
          rw [if_neg hl, exsSz]
          have h1 := ih2 _ (fun y hy => hx y (List.mem_cons_of_mem _ hy)) h0
          have h2 := hx x List.mem_cons_self l (by omega)
          omega
    have := key e.ks _ ih h
    omega
end Go.Proofs.YtmfiiapmkidmkaaDoor
