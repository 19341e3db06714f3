/-
  Package rel: all calls in one form.
-/
import Derived.Test.YtigdecmfieaacaaDoorSort
import Derived.Test.YtigdecmfieaacaaDoorOf2
import Derived.Test.YtigdecmfieaacaaDoorAcyc
import Derived.Test.YtigdecmfieaacaaDoorRelH
import Derived.Test.YtigdecmfieaacaaDoorKit
namespace Go.Proofs.YtigdecmfieaacaaDoor
open Go Go.RowKit

/-- A relation: its number, its rows. -/
structure PR where
  n : Int
  rows : List Nat
def PR.ok (r : PR) : Bool := okR r.n r.rows
def PR.zero : PR := ⟨0, []⟩
def RA.pr (a : RA) : PR := ⟨a.n, a.rows⟩
/-- The value v holds the relation r in world w. -/
def GR (w : World) (v : Value) (r : PR) : Prop := ∃ a : RA, v = a.val ∧ a.pr = r ∧ a.good w
theorem GR.on {w w' : World} {v : Value} {r : PR} (h : GR w v r) (hb : Below w.heap.size w w') : GR w' v r := by
  obtain ⟨a, h1, h2, h3⟩ := h
  exact ⟨a, h1, h2, h3.on hb⟩
theorem GR.zero (w : World) : GR w zeroR PR.zero := ⟨⟨0, none, 0, []⟩, rfl, rfl, by simp, Reads.none_⟩
theorem PR.ok_iff (r : PR) : r.ok = true ↔ (r.n = r.rows.length ∧ r.rows.length ≤ 64 ∧ ∀ x ∈ r.rows, x < 2 ^ r.rows.length) := by
  simp only [PR.ok, okR, Bool.and_eq_true, decide_eq_true_eq, List.all_eq_true]
  constructor
  · rintro ⟨⟨⟨h1, h2⟩, h3⟩, h4⟩
    refine ⟨h3.symm, by omega, fun x hx => ?_⟩
    have := h4 x hx
    rwa [show r.n.toNat = r.rows.length from by omega] at this
  · rintro ⟨h1, h2, h3⟩
    refine ⟨⟨⟨by omega, by omega⟩, h1.symm⟩, fun x hx => ?_⟩
    rw [show r.n.toNat = r.rows.length from by omega]
    exact h3 x hx
theorem PR.bad {a : RA} (h : ¬ a.pr.ok = true) : a.ok = false := by
  have : a.pr.ok = false := Bool.eq_false_iff.2 h
  exact this
theorem GR.row {w : World} {g : Nat} {rows : List Nat} {n : Nat} (hn : n = rows.length) (hu : ∀ x ∈ rows, x < 18446744073709551616) (h : RowT w g 37 (rows.map U)) :
    GR w (.agg #[.int .i64 n, .slice (some ⟨g, 0, none⟩) n n]) ⟨n, rows⟩ := by
  subst hn
  refine ⟨⟨rows.length, some ⟨g, 0, none⟩, rows.length, rows⟩, rfl, rfl, hu, ?_⟩
  have := h.reads
  simpa using this
theorem GR.newR {w : World} {B : Nat} {rows : List Nat} {v : Value} (hu : ∀ x ∈ rows, x < 18446744073709551616) (h : NewR B rows v w) : GR w v ⟨rows.length, rows⟩ := by
  obtain ⟨g, rfl, _, h⟩ := h
  exact GR.row rfl hu h
theorem lt64_of {rows : List Nat} {N : Nat} (h : N ≤ 64) (hl : ∀ x ∈ rows, x < 2 ^ N) : ∀ x ∈ rows, x < 18446744073709551616 := fun x hx => Nat.lt_of_lt_of_le (hl x hx) (pow_le_64 N h)

def Pof (n : Int) (l : List (Int × Int)) : PR := if 0 ≤ n ∧ n ≤ 64 then ⟨n, ofL n.toNat l⟩ else PR.zero
def Pplus (r : PR) : PR := if r.ok = true then ⟨r.n, plusL r.rows⟩ else PR.zero
def Pimage (r : PR) (m : Nat) : Nat := if r.ok = true then img r.rows (m &&& (2 ^ r.rows.length - 1)) else 0
def Psort (r : PR) : List Int × Bool := if r.ok = true then sortR r.rows else ([], false)
/-- A call answers a relation. -/
def RetR (w : World) (r : PR) (e : Ending) (w' : World) : Prop := ∃ a : RA, e = .returned (.agg #[.int .i64 a.n, .slice a.A a.rows.length a.cap]) ∧ Hid (a.pr = r) ∧ Hid (a.good w') ∧ Below w.heap.size w w'
theorem RetR.of {w : World} {r : PR} {Q : Value → World → Prop} {args : Array Value} {f : Nat} (h : Calls Tryd.prog f args w (RetQ w Q)) (hQ : ∀ v w', Q v w' → GR w' v r) : Calls Tryd.prog f args w (RetR w r) := by
  refine h.mono ?_
  rintro e w' ⟨v, rfl, hq, hb⟩
  obtain ⟨a, rfl, h2, h3⟩ := hQ v w' hq
  exact ⟨a, rfl, Lib.hid h2, Lib.hid h3, hb⟩
theorem RetR.zero {w : World} {args : Array Value} {f : Nat} (h : Calls Tryd.prog f args w (Ret w zeroR)) : Calls Tryd.prog f args w (RetR w PR.zero) := by
  refine h.mono ?_
  rintro e w' ⟨rfl, hb⟩
  obtain ⟨a, h1, h2, h3⟩ := GR.zero w'
  exact ⟨a, by rw [h1]; rfl, Lib.hid h2, Lib.hid h3, hb⟩

theorem of_c {n : Int} {A : Option Addr} {l : List (Int × Int)} {p : PR} (cap : Nat) (w : World) (hp : Pof n l = p) (hl : l.length ≤ 5000) (hr : Reads w w.heap.size 2 A l.length (prs l)) :
    Calls Tryd.prog 11 #[.int .i64 n, .slice A l.length cap] w (RetR w p) := by
  subst hp
  unfold Pof
  by_cases h : 0 ≤ n ∧ n ≤ 64
  · rw [if_pos h]
    obtain ⟨k, rfl⟩ : ∃ k : Nat, n = k := ⟨n.toNat, by omega⟩
    refine RetR.of (of_ok k A cap l w (by omega) hl hr) ?_
    rintro v w' ⟨g, rfl, _, h2⟩
    exact GR.row (ofL_length k l).symm (lt64_of (by omega) (ofL_lt k l)) h2
  · rw [if_neg h]
    exact RetR.zero (of_bad n A cap l w h hl hr)
theorem plus_c {a : RA} {p : PR} (w : World) (hp : Pplus a.pr = p) (hg : a.good w) : Calls Tryd.prog 43 #[a.val] w (RetR w p) := by
  subst hp
  unfold Pplus
  by_cases h : a.pr.ok = true
  · rw [if_pos h]
    obtain ⟨h1, h2, h3⟩ := (PR.ok_iff a.pr).1 h
    refine RetR.of (plus_ok a w hg h) ?_
    intro v w' hq
    have := GR.newR (rows := plusL a.rows) (lt64_of h2 (wks_lt h3 a.rows.length)) hq
    rw [plusL_length] at this
    rw [h1]
    exact this
  · rw [if_neg h]
    exact RetR.zero (plus_bad a w hg (PR.bad h))
theorem image_c {a : RA} {m t : Nat} (w : World) (ht : Pimage a.pr m = t) (hT : Tab w) (hm : m < 18446744073709551616) (hg : a.good w) : Calls Tryd.prog 27 #[a.val, .int .u64 m] w (Ret w (.int .u64 t)) := by
  subst ht
  unfold Pimage
  by_cases h : a.pr.ok = true
  · rw [if_pos h]
    exact Image_ok a m w hT hm hg h
  · rw [if_neg h]
    exact Image_bad a m w hg (PR.bad h)
def RetS (w : World) (l : List Int) (b : Bool) (e : Ending) (w' : World) : Prop := ∃ A c, e = .returned (.tuple #[.slice A l.length c, .bool b]) ∧ Hid (Reads w' w'.heap.size 1 A l.length (l.map I)) ∧ Below w.heap.size w w'
theorem sort_c {a : RA} {l : List Int} {b : Bool} (w : World) (hp : Psort a.pr = (l, b)) (hT : Tab w) (hg : a.good w) : Calls Tryd.prog 23 #[a.val] w (RetS w l b) := by
  unfold Psort at hp
  by_cases h : a.pr.ok = true
  · rw [if_pos h] at hp
    refine (sort_ok a w hT hg h).mono ?_
    rintro e w' ⟨v, rfl, ⟨A, c, rfl, hr⟩, hb⟩
    have e1 : (sortR a.rows).1 = l := by rw [show sortR a.rows = (l, b) from hp]
    have e2 : (sortR a.rows).2 = b := by rw [show sortR a.rows = (l, b) from hp]
    rw [e1] at hr ⊢
    rw [e2]
    exact ⟨A, c, rfl, Lib.hid hr, hb⟩
  · rw [if_neg h] at hp
    obtain ⟨rfl, rfl⟩ := Prod.mk.inj hp
    refine (sort_bad a w hg (PR.bad h)).mono ?_
    rintro e w' ⟨rfl, hb⟩
    exact ⟨none, 0, rfl, Lib.hid Reads.none_, hb⟩
theorem kitRel_yes {a b : RA} (w : World) (h : a.pr = b.pr) (hl : a.rows.length ≤ 9223372036854775807) (ha : a.good w) (hb : b.good w) :
    Calls Tryd.prog 14 #[a.val, b.val] w (Ret w (.bool true)) := by
  have := kitRel_any a b w hl ha hb
  have e : sameV a b = true := by
    simp only [RA.pr, PR.mk.injEq] at h
    simp [sameV, h.1, h.2]
  rwa [e] at this
theorem ints_yes {xs ys : List Int} (A B : Option Addr) (c d : Nat) (w : World) (h : xs = ys) (hl : xs.length ≤ 9223372036854775807) (hx : Reads w w.heap.size 1 A xs.length (xs.map I)) (hy : Reads w w.heap.size 1 B ys.length (ys.map I)) :
    Calls Tryd.prog 25 #[.slice A xs.length c, .slice B ys.length d] w (Ret w (.bool true)) := by
  have := ints_any xs ys A B c d w hl hx hy
  rwa [decide_eq_true h] at this
theorem _root_.Go.RowKit.Below.al {B : Nat} {w W : World} (h : Below B w W) (hB : B ≤ w.heap.size := by exact Nat.le_refl _) {o : Obj} : Below B w (W.alloc o) := h.alloc (Nat.le_trans hB h.size) o
theorem _root_.Go.RowKit.Below.next {B : Nat} {w W W' : World} (h : Below B w W) (hb : Below W.heap.size W W') (hB : B ≤ w.heap.size := by exact Nat.le_refl _) : Below B w W' := h.trans (hb.mono (Nat.le_trans hB h.size))
theorem RowT.newAt {w : World} {g : Nat} (h : w.heap.size = g) (t : TypeId) (cs : List Value) : RowT (w.alloc (.cells cs.toArray t)) g t cs := by
  subst h; exact RowT.new w t cs
theorem RowT.reads2 {w : World} {g : Nat} {t : TypeId} {l : List (Int × Int)} (h : RowT w g t (prs l)) : Reads w w.heap.size 2 (some ⟨g, 0, none⟩) l.length (prs l) :=
  ⟨prs_length l, fun _ => ⟨⟨g, 0, none⟩, rfl, h.lt, fun j u hj => by
    have := h.cell j
    rw [hj] at this
    rw [show (⟨g, 0, none⟩ : Addr).add j = ⟨g, j, none⟩ from by unfold Addr.add; split <;> simp_all]
    exact this⟩⟩
end Go.Proofs.YtigdecmfieaacaaDoor
