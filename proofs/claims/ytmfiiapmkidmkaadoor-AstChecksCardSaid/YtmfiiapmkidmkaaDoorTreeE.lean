/-
  Programs in memory.
-/
import Derived.Test.YtmfiiapmkidmkaaDoorTreeD
namespace Go.Proofs.YtmfiiapmkidmkaaDoor
open Go Go.RowKit

structure Dc where
  nm : List UInt8
  plain : Bool
  val : Int
structure Th where
  A : Option Addr
  c : Nat
  l : List Sm
structure Pg where
  A1 : Option Addr
  c1 : Nat
  ds : List Dc
  A2 : Option Addr
  c2 : Nat
  ts : List Th
abbrev cD (d : Dc) : List Value := [Str d.nm, .bool d.plain, .int .i64 d.val]
abbrev cT (t : Th) : List Value := [.slice t.A t.l.length t.c]
structure PgAt (w : World) (p : Pg) : Prop where
  decls : ∀ (k : Nat) (d : Dc), p.ds[k]? = some d → (∃ a, p.A1 = some a ∧ CellsAt w (a.add (k * 3)) (cD d)) ∧ d.nm.length ≤ 9223372036854775807
  threads : ∀ (k : Nat) (t : Th), p.ts[k]? = some t → (∃ a, p.A2 = some a ∧ CellsAt w (a.add (k * 1)) (cT t)) ∧ SmsAt w t.A t.l ∧ t.l.length ≤ 9223372036854775807
  len : p.ds.length ≤ 9223372036854775807 ∧ p.ts.length ≤ 9223372036854775807
theorem PgAt.on {w w' : World} {p : Pg} (h : PgAt w p) (hb : Below w.heap.size w w') : PgAt w' p where
  decls := fun k d hd => (by obtain ⟨⟨a, e1, e2⟩, e3⟩ := h.decls k d hd; exact ⟨⟨a, e1, e2.on hb⟩, e3⟩)
  threads := fun k t ht => (by obtain ⟨⟨a, e1, e2⟩, e3, e4⟩ := h.threads k t ht; exact ⟨⟨a, e1, e2.on hb⟩, e3.on hb, e4⟩)
  len := h.len
def thsSz (l : List Th) : Nat := (l.map fun t => smsSz t.l).sum
def thsDp : List Th → Nat
  | [] => 0
  | t :: r => max (smsDp t.l) (thsDp r)
theorem thsSz_take {l : List Th} {i : Nat} {t : Th} (h : l[i]? = some t) : thsSz (l.take (i + 1)) = thsSz (l.take i) + smsSz t.l := by
  unfold thsSz; rw [List.take_add_one, h]; simp
theorem thsSz_le {l : List Th} {i : Nat} : thsSz (l.take i) ≤ thsSz l := by
  have h : thsSz l = thsSz (l.take i) + thsSz (l.drop i) := by
    unfold thsSz; rw [← List.sum_append_nat, ← List.map_append, List.take_append_drop]
  omega
theorem thsSz_mem {l : List Th} {i : Nat} {t : Th} (h : l[i]? = some t) : smsSz t.l ≤ thsSz l := by
  have h1 := thsSz_take h
  have h2 := thsSz_le (l := l) (i := i + 1)
  omega
theorem thsDp_take {l : List Th} {i : Nat} {x : Th} (h : l[i]? = some x) : thsDp (l.take (i + 1)) = max (thsDp (l.take i)) (smsDp x.l) := by
  induction l generalizing i with
  | nil => simp at h
  | cons y r ih =>
    cases i with
    | zero => obtain rfl := Option.some.inj h; simp [thsDp]
    | succ i => have := ih (i := i) (by simpa using h); simp only [List.take_succ_cons, thsDp]; omega
theorem thsDp_sz (l : List Th) : thsDp l ≤ thsSz l := by
  induction l with
  | nil => exact Nat.le_refl _
  | cons y r ih =>
    have h1 := smsDp_sz y.l
    have h2 : thsSz (y :: r) = smsSz y.l + thsSz r := by unfold thsSz; simp
    simp only [thsDp]; omega
/-- What is left of a weight behind declarations, and behind threads. -/
def dcsHf : List Dc → Int → Int
  | [], l => l
  | x :: r, l => if l < 0 then l else dcsHf r (l - ((x.nm.length / 20 : Nat) : Int))
def thsHf : List Th → Int → Int
  | [], l => l
  | x :: r, l => if l < 0 then l else thsHf r (smsHf x.l l)
theorem dcsHf_step {ks : List Dc} {i : Nat} {x : Dc} {l : Int} (h : ks[i]? = some x) (hl : 0 ≤ l) : dcsHf (ks.drop i) l = dcsHf (ks.drop (i + 1)) (l - ((x.nm.length / 20 : Nat) : Int)) := by
  obtain ⟨hi, rfl⟩ := List.getElem?_eq_some_iff.1 h
  rw [List.drop_eq_getElem_cons hi, dcsHf, if_neg (by omega)]
theorem dcsHf_neg (ks : List Dc) {l : Int} (h : l < 0) : dcsHf ks l = l := by
  cases ks with
  | nil => rw [dcsHf]
  | cons x r => rw [dcsHf, if_pos h]
theorem thsHf_step {ks : List Th} {i : Nat} {x : Th} {l : Int} (h : ks[i]? = some x) (hl : 0 ≤ l) : thsHf (ks.drop i) l = thsHf (ks.drop (i + 1)) (smsHf x.l l) := by
  obtain ⟨hi, rfl⟩ := List.getElem?_eq_some_iff.1 h
  rw [List.drop_eq_getElem_cons hi, thsHf, if_neg (by omega)]
theorem thsHf_neg (ks : List Th) {l : Int} (h : l < 0) : thsHf ks l = l := by
  cases ks with
  | nil => rw [thsHf]
  | cons x r => rw [thsHf, if_pos h]
theorem dcsHf_le (l : List Dc) : ∀ n : Int, dcsHf l n ≤ n := by
  induction l with
  | nil => intro n; rw [dcsHf]; omega
  | cons x r ih =>
    intro n
    rw [dcsHf]
    split
    · omega
    · have := ih (n - ((x.nm.length / 20 : Nat) : Int)); omega
theorem thsHf_sz (l : List Th) : ∀ n : Int, 0 ≤ thsHf l n → thsHf l n + thsSz l ≤ n := by
  induction l with
  | nil => intro n _; rw [thsHf]; unfold thsSz; simp
  | cons x r ih =>
    intro n h0
    have h2 : thsSz (x :: r) = smsSz x.l + thsSz r := by unfold thsSz; simp
    rw [thsHf] at h0 ⊢
    split at h0
    · omega
    · rename_i hl
      rw [if_neg hl, h2]
      have h1 := ih _ h0
      have h3 := smsHf_sz x.l n (by omega)
      omega
def pgHf (p : Pg) (n : Int) : Int := thsHf p.ts (dcsHf p.ds (n - min (n + 1) ((p.ds.length : Nat) : Int) - min (n + 1) ((p.ts.length : Nat) : Int)))
end Go.Proofs.YtmfiiapmkidmkaaDoor
