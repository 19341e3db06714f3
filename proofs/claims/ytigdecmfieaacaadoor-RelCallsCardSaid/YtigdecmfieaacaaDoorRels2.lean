/-
  Package rel: the calls that put relations together, in one form.
-/
import Derived.Test.YtigdecmfieaacaaDoorRels
namespace Go.Proofs.YtigdecmfieaacaaDoor
open Go Go.RowKit

def Palike (L : List PR) : Bool := match L with
  | [] => false
  | r :: _ => L.all fun x => x.ok && decide (x.n = r.n)
def PorF (L : List PR) (i : Nat) : Nat := L.foldl (fun acc r => acc ||| r.rows.getD i 0) 0
def Por (L : List PR) : PR := if Palike L = true then ⟨(L.headD PR.zero).n, (List.range (L.headD PR.zero).rows.length).map (PorF L)⟩ else PR.zero
def PthenF (N : Nat) (L : List PR) : List Nat := L.foldl (fun ws r => ws.map (img r.rows)) ((List.range N).map (2 ^ ·))
def Pthen (L : List PR) : PR := if Palike L = true then ⟨(L.headD PR.zero).n, PthenF (L.headD PR.zero).rows.length L⟩ else PR.zero
def Pand (a b : PR) : PR := if Palike [a, b] = true then ⟨a.n, (List.range a.rows.length).map fun i => a.rows.getD i 0 &&& b.rows.getD i 0⟩ else PR.zero
def Pless (a b : PR) : PR := if Palike [a, b] = true then ⟨a.n, (List.range a.rows.length).map fun i => a.rows.getD i 0 &&& (18446744073709551615 - b.rows.getD i 0)⟩ else PR.zero
def Pturn (a : PR) : PR := if a.ok = true then ⟨a.n, turnR a.rows⟩ else PR.zero
def Pself (n : Int) : PR := if 0 ≤ n ∧ n ≤ 64 then ⟨n, (List.range n.toNat).map (2 ^ ·)⟩ else PR.zero
def Pnone (n : Int) : PR := if 0 ≤ n ∧ n ≤ 64 then ⟨n, List.replicate n.toNat 0⟩ else PR.zero
def Psame (a b : PR) : Bool := Palike [a, b] && decide (a.rows = b.rows)
def Pacyclic (a : PR) : Bool := a.ok && noLoop (plusL a.rows)
def Phas (a : PR) (i j : Int) : Bool := a.ok && decide (0 ≤ i ∧ i < a.n) && decide (0 ≤ j ∧ j < a.n) && (a.rows.getD i.toNat 0).testBit j.toNat

theorem alike_pr (L : List RA) : alikeL L = Palike (L.map RA.pr) := by
  cases L with
  | nil => rfl
  | cons a L =>
    show ((a :: L).all fun b => b.ok && decide (b.n = a.n)) = ((a :: L).map RA.pr).all fun x => x.ok && decide (x.n = a.n)
    rw [List.all_map]
    rfl
theorem Palike_ok {L : List PR} (h : Palike L = true) : ∀ r ∈ L, r.ok = true ∧ r.n = (L.headD PR.zero).n := by
  cases L with
  | nil => cases h
  | cons a L =>
    unfold Palike at h
    rw [List.all_eq_true] at h
    intro r hr
    have := h r hr
    rw [Bool.and_eq_true, decide_eq_true_iff] at this
    exact this
theorem orF_pr (L : List RA) (i : Nat) : orF L L.length i = PorF (L.map RA.pr) i := by
  unfold orF PorF
  rw [List.take_length, List.foldl_map]; rfl
theorem thenL_pr (N : Nat) (L : List RA) : thenL N L L.length = PthenF N (L.map RA.pr) := by
  unfold thenL PthenF
  rw [List.take_length, List.foldl_map]; rfl
theorem PorF_lt {L : List PR} {N : Nat} (h : ∀ r ∈ L, ∀ x ∈ r.rows, x < 2 ^ N) (i : Nat) : PorF L i < 2 ^ N := by
  unfold PorF
  suffices hh : ∀ (l : List PR) (a : Nat), (∀ r ∈ l, ∀ x ∈ r.rows, x < 2 ^ N) → a < 2 ^ N → l.foldl (fun acc r => acc ||| r.rows.getD i 0) a < 2 ^ N from hh L 0 h (Nat.two_pow_pos N)
  intro l
  induction l with
  | nil => intro a _ h; exact h
  | cons r l ih =>
    intro a hl ha
    refine ih _ (fun r hr => hl r (by simp [hr])) (Nat.or_lt_two_pow ha ?_)
    rw [List.getD_eq_getElem?_getD]
    cases e : r.rows[i]? with
    | none => exact Nat.two_pow_pos N
    | some x => exact hl r (by simp) x (List.mem_of_getElem? e)
theorem RetR.newR {w : World} {rows : List Nat} {n : Int} {args : Array Value} {f : Nat} (h : Calls Tryd.prog f args w (RetQ w fun v w' => NewR w.heap.size rows v w')) (hn : n = rows.length) (hu : ∀ x ∈ rows, x < 18446744073709551616) : Calls Tryd.prog f args w (RetR w ⟨n, rows⟩) := by
  subst hn
  exact RetR.of h fun v w' hq => GR.newR hu hq
theorem ok_rows {r : PR} (h : r.ok = true) : r.n = r.rows.length ∧ r.rows.length ≤ 64 ∧ ∀ x ∈ r.rows, x < 18446744073709551616 := by
  obtain ⟨h1, h2, h3⟩ := (PR.ok_iff r).1 h
  exact ⟨h1, h2, lt64_of h2 h3⟩
theorem alike_lt {L : List PR} {r0 : PR} (h : Palike (r0 :: L) = true) : ∀ r ∈ r0 :: L, r.rows.length = r0.rows.length ∧ ∀ x ∈ r.rows, x < 2 ^ r0.rows.length := by
  intro r hr
  have h1 := Palike_ok h r hr
  have h0 := Palike_ok h r0 (by simp)
  obtain ⟨e1, _, l1⟩ := (PR.ok_iff r).1 h1.1
  obtain ⟨e0, _, _⟩ := (PR.ok_iff r0).1 h0.1
  have hn : r.n = r0.n := h1.2
  have : r.rows.length = r0.rows.length := by omega
  exact ⟨this, by rw [← this]; exact l1⟩

theorem getD_u {rows : List Nat} (h : ∀ x ∈ rows, x < 18446744073709551616) (i : Nat) : rows.getD i 0 < 18446744073709551616 := by
  rw [List.getD_eq_getElem?_getD]
  cases e : rows[i]? with
  | none => decide
  | some x => exact h x (List.mem_of_getElem? e)
theorem or_c {L : List RA} {gl : Nat} {p : PR} (w : World) (hp : Por (L.map RA.pr) = p) (hlen : L.length < 1000) (hL : RowT w gl 26 (L.flatMap RA.cells)) (hg : ∀ a ∈ L, a.good w) :
    Calls Tryd.prog 34 #[.slice (some ⟨gl, 0, none⟩) L.length L.length] w (RetR w p) := by
  subst hp
  unfold Por
  by_cases h : Palike (L.map RA.pr) = true
  · rw [if_pos h]
    cases L with
    | nil => cases h
    | cons a L =>
      have h0 := ok_rows (Palike_ok h a.pr (by simp)).1
      have hlt := alike_lt (L := L.map RA.pr) (r0 := a.pr) h
      have := or_ok (a :: L) a gl w hlen hL hg ((alike_pr _).trans h) rfl
      rw [show orF (a :: L) (a :: L).length = PorF ((a :: L).map RA.pr) from funext (orF_pr _)] at this
      refine RetR.newR this (by simp; exact h0.1) fun x hx => ?_
      obtain ⟨i, _, rfl⟩ := List.mem_map.1 hx
      exact Nat.lt_of_lt_of_le (PorF_lt (fun r hr => (hlt r hr).2) i) (pow_le_64 _ h0.2.1)
  · rw [if_neg h]
    exact RetR.zero (or_bad L gl w hlen hL hg (by rw [alike_pr]; exact Bool.eq_false_iff.2 h))
theorem or_c0 (w : World) : Calls Tryd.prog 34 #[.slice none 0 0] w (RetR w PR.zero) := RetR.zero (or_none w)
theorem PthenF_lt {L : List PR} {N : Nat} (h : ∀ r ∈ L, ∀ x ∈ r.rows, x < 2 ^ N) : ∀ x ∈ PthenF N L, x < 2 ^ N := by
  unfold PthenF
  suffices hh : ∀ (l : List PR) (ws : List Nat), (∀ r ∈ l, ∀ x ∈ r.rows, x < 2 ^ N) → (∀ x ∈ ws, x < 2 ^ N) → ∀ x ∈ l.foldl (fun ws r => ws.map (img r.rows)) ws, x < 2 ^ N from
    hh L _ h (fun x hx => by
      obtain ⟨i, hi, rfl⟩ := List.mem_map.1 hx
      exact Nat.pow_lt_pow_right (by decide) (by simpa using hi))
  intro l
  induction l with
  | nil => intro ws _ h; exact h
  | cons r l ih =>
    intro ws hl hws
    refine ih _ (fun r hr => hl r (by simp [hr])) fun x hx => ?_
    obtain ⟨y, _, rfl⟩ := List.mem_map.1 hx
    exact img_lt (hl r (by simp)) y
theorem PthenF_length (N : Nat) (L : List PR) : (PthenF N L).length = N := by
  unfold PthenF
  suffices hh : ∀ (l : List PR) (ws : List Nat), (l.foldl (fun ws r => ws.map (img r.rows)) ws).length = ws.length by rw [hh]; simp
  intro l
  induction l with
  | nil => intro ws; rfl
  | cons r l ih => intro ws; rw [List.foldl_cons, ih]; simp
theorem then_c {L : List RA} {gl : Nat} {p : PR} (w : World) (hp : Pthen (L.map RA.pr) = p) (hT : Tab w) (hlen : L.length < 1000) (hL : RowT w gl 26 (L.flatMap RA.cells)) (hg : ∀ a ∈ L, a.good w) :
    Calls Tryd.prog 15 #[.slice (some ⟨gl, 0, none⟩) L.length L.length] w (RetR w p) := by
  subst hp
  unfold Pthen
  by_cases h : Palike (L.map RA.pr) = true
  · rw [if_pos h]
    cases L with
    | nil => cases h
    | cons a L =>
      have h0 := ok_rows (Palike_ok h a.pr (by simp)).1
      have hlt := alike_lt (L := L.map RA.pr) (r0 := a.pr) h
      have := then_ok (a :: L) a gl w hT hlen hL hg ((alike_pr _).trans h) rfl
      rw [thenL_pr] at this
      refine RetR.newR this (by rw [PthenF_length]; exact h0.1) fun x hx => ?_
      exact Nat.lt_of_lt_of_le (PthenF_lt (fun r hr => (hlt r hr).2) x hx) (pow_le_64 _ h0.2.1)
  · rw [if_neg h]
    exact RetR.zero (then_bad L gl w hlen hL hg (by rw [alike_pr]; exact Bool.eq_false_iff.2 h))
theorem and_c {a b : RA} {p : PR} (w : World) (hp : Pand a.pr b.pr = p) (ha : a.good w) (hb : b.good w) : Calls Tryd.prog 36 #[a.val, b.val] w (RetR w p) := by
  subst hp
  unfold Pand
  by_cases h : Palike [a.pr, b.pr] = true
  · rw [if_pos h]
    have h0 := ok_rows (Palike_ok h a.pr (by simp)).1
    refine RetR.newR (and_ok a b w ha hb ((alike_pr [a, b]).trans h)) (by simp; exact h0.1) fun x hx => ?_
    obtain ⟨i, hi, rfl⟩ := List.mem_map.1 hx
    exact Nat.lt_of_le_of_lt Nat.and_le_left (getD_u h0.2.2 i)
  · rw [if_neg h]
    exact RetR.zero (and_bad a b w ha hb ((alike_pr [a, b]).trans (Bool.eq_false_iff.2 h)))
theorem less_c {a b : RA} {p : PR} (w : World) (hp : Pless a.pr b.pr = p) (ha : a.good w) (hb : b.good w) : Calls Tryd.prog 38 #[a.val, b.val] w (RetR w p) := by
  subst hp
  unfold Pless
  by_cases h : Palike [a.pr, b.pr] = true
  · rw [if_pos h]
    have h0 := ok_rows (Palike_ok h a.pr (by simp)).1
    refine RetR.newR (less_ok a b w ha hb ((alike_pr [a, b]).trans h)) (by simp; exact h0.1) fun x hx => ?_
    obtain ⟨i, hi, rfl⟩ := List.mem_map.1 hx
    exact Nat.lt_of_le_of_lt Nat.and_le_left (getD_u h0.2.2 i)
  · rw [if_neg h]
    exact RetR.zero (less_bad a b w ha hb ((alike_pr [a, b]).trans (Bool.eq_false_iff.2 h)))
theorem turn_c {a : RA} {p : PR} (w : World) (hp : Pturn a.pr = p) (hT : Tab w) (hg : a.good w) : Calls Tryd.prog 41 #[a.val] w (RetR w p) := by
  subst hp
  unfold Pturn
  by_cases h : a.pr.ok = true
  · rw [if_pos h]
    have h0 := ok_rows h
    obtain ⟨N, hN⟩ : ∃ N, a.rows.length = N := ⟨_, rfl⟩
    have := turn_row a N w hN hT hg h
    rw [show a.pr.n = (N : Int) from by rw [← hN]; exact h0.1]
    refine RetR.of this ?_
    rintro v w' ⟨g, rfl, _, hr⟩
    exact GR.row (by rw [← hN]; exact (turnR_length _).symm) (turn_lt _ h0.2.1) hr
  · rw [if_neg h]
    exact RetR.zero (turn_bad a w hg (PR.bad h))
theorem self_c {n : Int} {p : PR} (w : World) (hp : Pself n = p) : Calls Tryd.prog 12 #[.int .i64 n] w (RetR w p) := by
  subst hp
  unfold Pself
  by_cases h : 0 ≤ n ∧ n ≤ 64
  · rw [if_pos h]
    obtain ⟨k, rfl⟩ : ∃ k : Nat, n = k := ⟨n.toNat, by omega⟩
    refine RetR.of (self_ok k w (by omega)) ?_
    rintro v w' ⟨g, rfl, _, hr⟩
    refine GR.row (by simp) (fun x hx => ?_) hr
    obtain ⟨i, hi, rfl⟩ := List.mem_map.1 hx
    exact pow_lt_64 i (by simp at hi; omega)
  · rw [if_neg h]
    exact RetR.zero (self_bad n w h)
theorem none_c {n : Int} {p : PR} (w : World) (hp : Pnone n = p) : Calls Tryd.prog 13 #[.int .i64 n] w (RetR w p) := by
  subst hp
  unfold Pnone
  by_cases h : 0 ≤ n ∧ n ≤ 64
  · rw [if_pos h]
    obtain ⟨k, rfl⟩ : ∃ k : Nat, n = k := ⟨n.toNat, by omega⟩
    refine RetR.of (none_ok k w (by omega)) ?_
    rintro v w' ⟨g, rfl, _, hr⟩
    refine GR.row (by simp) (fun x hx => ?_) hr
    rw [(List.mem_replicate.1 hx).2]; decide
  · rw [if_neg h]
    exact RetR.zero (none_bad n w h)
theorem same_c {a b : RA} {t : Bool} (w : World) (ht : Psame a.pr b.pr = t) (hl : a.rows.length ≤ 9223372036854775807) (ha : a.good w) (hb : b.good w) : Calls Tryd.prog 29 #[a.val, b.val] w (Ret w (.bool t)) := by
  subst ht
  have := same_any a b w hl ha hb
  rwa [alike_pr] at this
theorem acyclic_c {a : RA} {t : Bool} (w : World) (ht : Pacyclic a.pr = t) (ha : a.good w) : Calls Tryd.prog 10 #[a.val] w (Ret w (.bool t)) := by
  subst ht; exact acyclic_any a w ha
theorem has_c {a : RA} {t : Bool} {i j : Int} (w : World) (ht : Phas a.pr i j = t) (ha : a.good w) : Calls Tryd.prog 21 #[a.val, .int .i64 i, .int .i64 j] w (Ret w (.bool t)) := by
  subst ht; exact has_any a i j w ha
end Go.Proofs.YtigdecmfieaacaaDoor
