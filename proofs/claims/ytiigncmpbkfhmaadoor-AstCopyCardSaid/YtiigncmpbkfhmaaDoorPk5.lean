/-
  What AstCopyCard stands on, part 5.
-/
import Derived.Test.YtiigncmpbkfhmaaDoorPk4
namespace Go.Proofs.YtiigncmpbkfhmaaDoor
open Go Go.RowKit
section
variable {o : Oper} {ρ : Operand → Value} {w : World}
theorem run_neqDcl {x y : Operand} {n n' : Int} {l l' : List UInt8} {p p' : Bool} {u : TypeId} (hop : o.op = .binOp .neq 45 x y u) (hx : ρ x = .agg #[Str l, .bool p, .int .i64 n]) (hy : ρ y = .agg #[Str l', .bool p', .int .i64 n']) : (execOp ρ o).run Tryd.prog w = .ok (.value (.bool (!(decide (l = l') && decide (p = p') && decide (n = n'))))) w := by
 by_cases h1 : l = l'
 ·by_cases h2 : p = p'
  ·by_cases h3 : n = n' <;> simp [execOp, hop, hx, hy, go_sem, Str, h1, h2, h3]
  ·simp [execOp, hop, hx, hy, go_sem, Str, h1, h2]
 ·simp [execOp, hop, hx, hy, go_sem, Str, h1]
end
def dcSame (d e : Dc) : Bool := decide (d.nm = e.nm) && decide (d.plain = e.plain) && decide (d.val = e.val)
def dcsSame : List Dc → List Dc → Bool
 | x :: r, y :: s => dcSame x y && dcsSame r s
 | _, _ => true
def dcsEq (l m : List Dc) : Bool := !(neI ((l.length : Nat) : Int) ((m.length : Nat) : Int)) && dcsSame l m
theorem dcsSame_step {l m : List Dc} {i : Nat} {x y : Dc} (h : l[i]? = some x) (h2 : m[i]? = some y) : dcsSame (l.drop i) (m.drop i) = (dcSame x y && dcsSame (l.drop (i + 1)) (m.drop (i + 1))) := by
 obtain ⟨hi, rfl⟩ := List.getElem?_eq_some_iff.1 h
 obtain ⟨hj, rfl⟩ := List.getElem?_eq_some_iff.1 h2
 rw [List.drop_eq_getElem_cons hi, List.drop_eq_getElem_cons hj, dcsSame]
theorem dcsSame_end {l m : List Dc} {i : Nat} (h : l.length ≤ i) : dcsSame (l.drop i) (m.drop i) = true := by
 rw [List.drop_of_length_le h]; unfold dcsSame; rfl
def thsSame : List Th → List Th → Bool
 | x :: r, y :: s => smsEq x.l y.l && thsSame r s
 | _, _ => true
def thsEq (l m : List Th) : Bool := !(neI ((l.length : Nat) : Int) ((m.length : Nat) : Int)) && thsSame l m
theorem thsSame_step {l m : List Th} {i : Nat} {x y : Th} (h : l[i]? = some x) (h2 : m[i]? = some y) : thsSame (l.drop i) (m.drop i) = (smsEq x.l y.l && thsSame (l.drop (i + 1)) (m.drop (i + 1))) := by
 obtain ⟨hi, rfl⟩ := List.getElem?_eq_some_iff.1 h
 obtain ⟨hj, rfl⟩ := List.getElem?_eq_some_iff.1 h2
 rw [List.drop_eq_getElem_cons hi, List.drop_eq_getElem_cons hj, thsSame]
theorem thsSame_end {l m : List Th} {i : Nat} (h : l.length ≤ i) : thsSame (l.drop i) (m.drop i) = true := by
 rw [List.drop_of_length_le h]; unfold thsSame; rfl
def pgSame (p q : Pg) : Bool := dcsEq p.ds q.ds && thsEq p.ts q.ts
def DcsAt (w : World) (A : Option Addr) (l : List Dc) : Prop := ∀ (k : Nat) (d : Dc), l[k]? = some d → (∃ a, A = some a ∧ CellsAt w (a.add (k * 3)) (cD d)) ∧ d.nm.length ≤ 9223372036854775807
def ThsAt (w : World) (A : Option Addr) (l : List Th) : Prop := ∀ (k : Nat) (t : Th), l[k]? = some t → (∃ a, A = some a ∧ CellsAt w (a.add (k * 1)) (cT t)) ∧ SmsAt w t.A t.l ∧ t.l.length ≤ 9223372036854775807
theorem en_eq_Decl : Enters Tryd.prog 51 := enters_of Tryd.func51 (by kernel_rfl) rfl
theorem en_eq_Thread : Enters Tryd.prog 52 := enters_of Tryd.func52 (by kernel_rfl) rfl
theorem en_ast_Same : Enters Tryd.prog 20 := enters_of Tryd.func20 (by kernel_rfl) rfl
theorem en_cantileverkit_Program : Enters Tryd.prog 21 := enters_of Tryd.func21 (by kernel_rfl) rfl
set_option maxRecDepth 100000 in
set_option maxHeartbeats 4000000 in
theorem ast_eqDc (l : List Dc) : ∀ (m : List Dc) (A : Option Addr) (c : Nat) (B : Option Addr) (d : Nat) (w0 : World), DcsAt w0 A l → DcsAt w0 B m → l.length ≤ 9223372036854775807 → m.length ≤ 9223372036854775807 → Calls Tryd.prog 51 #[.slice A l.length c, .slice B m.length d] w0 (Ret w0 (.bool (dcsEq l m))) := by
 intro m A c B d w0 hl hm hln hmn
 refine calls_K (args := [.slice A l.length c, .slice B m.length d]) (n := 26) (env := [(0, .slice A l.length c), (1, .slice B m.length d)]) Tryd.func51 rfl rfl rfl ⟨rfl, rfl, trivial⟩ fun a w hK hM => ?_
 refine wp_seq ?_
 refine region_go (lst := [0]) (by kernel_rfl) ?_
 refine stepP hK 4 (.bool false) (by kernel_rfl) (by kernel_rfl) fun a hK => ?_
 refine region_done hK [(4, .bool false), (0, .slice A l.length c), (1, .slice B m.length d)] ⟨rfl, rfl, rfl, trivial⟩ fun a hK => ?_
 refine wp_seq ?_
 refine wp_seq ?_
 refine region_go (lst := [0, 1, 2, 3, 4]) (by kernel_rfl) ?_
 refine stepM hK 6 0 (by kernel_rfl) (.inl rfl) rfl fun a hK => ?_
 refine stepP hK 7 (.int .i64 ((l.length : Nat) : Int)) (by kernel_rfl) (by kernel_rfl) fun a hK => ?_
 refine stepM hK 8 1 (by kernel_rfl) (.inl rfl) rfl fun a hK => ?_
 refine stepP hK 9 (.int .i64 ((m.length : Nat) : Int)) (by kernel_rfl) (by kernel_rfl) fun a hK => ?_
 rcases Bool.eq_false_or_eq_true (!(decide ((((l.length : Nat) : Int) : Int) = ((m.length : Nat) : Int)))) with h1 | h1
 ·refine stepP hK 10 (.bool true) (by kernel_rfl) (okBool (b := (!(decide ((((l.length : Nat) : Int) : Int) = ((m.length : Nat) : Int))))) (by kernel_rfl) h1) fun a hK => ?_
  refine region_done hK [(10, .bool true), (4, .bool false), (0, .slice A l.length c), (1, .slice B m.length d)] ⟨rfl, rfl, rfl, rfl, trivial⟩ fun a hK => ?_
  refine wp_cond_true (hK.get rfl) ?_
  refine wp_seq ?_
  refine region_go (lst := [0]) (by kernel_rfl) ?_
  refine stepP hK 4 (.bool false) (by kernel_rfl) (by kernel_rfl) fun a hK => ?_
  refine region_done hK [(4, .bool false), (10, .bool true), (0, .slice A l.length c), (1, .slice B m.length d)] ⟨rfl, rfl, rfl, rfl, trivial⟩ fun a hK => ?_
  refine wp_ret ?_
  exact ret_t hK rfl (u := (.bool false)) rfl (⟨by unfold dcsEq neI; rw [h1]; rfl, hM.below⟩)
 ·refine stepP hK 10 (.bool false) (by kernel_rfl) (okBool (b := (!(decide ((((l.length : Nat) : Int) : Int) = ((m.length : Nat) : Int))))) (by kernel_rfl) h1) fun a hK => ?_
  refine region_done hK [(10, .bool false), (4, .bool false), (0, .slice A l.length c), (1, .slice B m.length d)] ⟨rfl, rfl, rfl, rfl, trivial⟩ fun a hK => ?_
  refine wp_cond_false (hK.get rfl) ?_
  refine wp_skip ?_
  refine wp_seq ?_
  refine wp_seq ?_
  have hne : neI ((l.length : Nat) : Int) ((m.length : Nat) : Int) = false := by unfold neI; rw [h1]
  have hlen : l.length = m.length := by have q := h1; simp at q; omega
  refine region_go (lst := [0, 1, 2]) (by kernel_rfl) ?_
  refine stepM hK 11 0 (by kernel_rfl) (.inl rfl) rfl fun a hK => ?_
  refine stepP hK 12 (.int .i64 ((l.length : Nat) : Int)) (by kernel_rfl) (by kernel_rfl) fun a hK => ?_
  refine stepP hK 13 (.int .i64 0) (by kernel_rfl) (by kernel_rfl) fun a hK => ?_
  refine region_done hK [(13, .int .i64 0), (12, .int .i64 ((l.length : Nat) : Int)), (10, .bool false), (4, .bool false), (0, .slice A l.length c), (1, .slice B m.length d)] ⟨rfl, rfl, rfl, rfl, rfl, rfl, trivial⟩ fun a hK => ?_
  refine wp_block ?_
  refine wp_loopX (fun x : Nat => [(12, .int .i64 ((l.length : Nat) : Int)), (10, .bool false), (4, .bool false), (0, .slice A l.length c), (1, .slice B m.length d), (13, vN x)]) (fun x : Nat => []) (fun x : Nat => x ≤ l.length ∧ dcsSame (l.drop x) (m.drop x) = dcsSame l m) (fun x : Nat => l.length - x) 0 (hK.sub ⟨rfl, rfl, rfl, rfl, rfl, rfl, trivial⟩) hM ⟨Nat.zero_le _, rfl⟩ ?_
  rintro i a w hK hM hR
  replace hK : Knows a 26 [(12, .int .i64 ((l.length : Nat) : Int)), (10, .bool false), (4, .bool false), (0, .slice A l.length c), (1, .slice B m.length d), (13, vN i)] := hK
  replace hM : Mem w0 w [] := hM
  replace hR : i ≤ l.length ∧ dcsSame (l.drop i) (m.drop i) = dcsSame l m := hR
  refine wp_seq ?_
  refine region_go (lst := [0]) (by kernel_rfl) ?_
  by_cases h2 : (((i : Nat) : Int) : Int) < ((l.length : Nat) : Int)
  ·refine stepP hK 14 (.bool true) (by kernel_rfl) (okBool (b := (decide ((((i : Nat) : Int) : Int) < ((l.length : Nat) : Int)))) (by kernel_rfl) (decide_eq_true h2)) fun a hK => ?_
   refine region_done hK [(14, .bool true), (12, .int .i64 ((l.length : Nat) : Int)), (10, .bool false), (4, .bool false), (0, .slice A l.length c), (1, .slice B m.length d), (13, vN i)] ⟨rfl, rfl, rfl, rfl, rfl, rfl, rfl, trivial⟩ fun a hK => ?_
   refine wp_seq ?_
   refine wp_cond_true (hK.get rfl) ?_
   refine wp_skip ?_
   refine wp_seq ?_
   refine wp_block ?_
   refine wp_seq ?_
   refine region_go (lst := [0, 1]) (by kernel_rfl) ?_
   refine stepM hK 15 13 (by kernel_rfl) (.inl rfl) rfl fun a hK => ?_
   refine stepM hK 5 15 (by kernel_rfl) (.inr rfl) rfl fun a hK => ?_
   refine region_done hK [(5, vN i), (14, .bool true), (12, .int .i64 ((l.length : Nat) : Int)), (10, .bool false), (4, .bool false), (0, .slice A l.length c), (1, .slice B m.length d), (13, vN i)] ⟨rfl, rfl, rfl, rfl, rfl, rfl, rfl, rfl, trivial⟩ fun a hK => ?_
   refine wp_seq ?_
   obtain ⟨t3, ht3⟩ : ∃ t, l[(i : Nat)]? = some t := ⟨_, List.getElem?_eq_getElem (by omega)⟩
   obtain ⟨⟨at3, At3, ct3⟩, et3⟩ := hl _ _ ht3; have nt3 := et3
   obtain ⟨t4, ht4⟩ : ∃ t, m[(i : Nat)]? = some t := ⟨_, List.getElem?_eq_getElem (by omega)⟩
   obtain ⟨⟨at4, At4, ct4⟩, et4⟩ := hm _ _ ht4; have nt4 := et4
   rcases Bool.eq_false_or_eq_true (!(decide (t3.nm = t4.nm) && decide (t3.plain = t4.plain) && decide ((t3.val : Int) = t4.val))) with h5 | h5
   ·refine region_any (F := fun w => Mem w0 w []) hK [some (.slice A l.length c), some (vN i), some (.pointer (some (at3.add (i * 3)))), some (.agg #[Str t3.nm, .bool t3.plain, .int .i64 t3.val]), some (.slice B m.length d), some (vN i), some (.pointer (some (at4.add (i * 3)))), some (.agg #[Str t4.nm, .bool t4.plain, .int .i64 t4.val]), some (.bool true)] 9 (fun _ _ hb hm => hm.go hb) hM (by kernel_rfl) (by kernel_rfl) ⟨⟨⟨⟨⟨⟨⟨⟨⟨trivial, ?_⟩, ?_⟩, ?_⟩, ?_⟩, ?_⟩, ?_⟩, ?_⟩, ?_⟩, ?_⟩ [(24, .bool true), (5, vN i), (14, .bool true), (12, .int .i64 ((l.length : Nat) : Int)), (10, .bool false), (4, .bool false), (0, .slice A l.length c), (1, .slice B m.length d), (13, vN i)] (by kernel_rfl) fun a w hK hM => ?_
    ·exact .val (.slice A l.length c) rfl (by kernel_rfl) (fun w hM => (by kernel_rfl))
    ·exact .val (vN i) rfl (by kernel_rfl) (fun w hM => (by kernel_rfl))
    ·exact .val (.pointer (some (at3.add (i * 3)))) rfl (by kernel_rfl) (fun w hM => (run_ixA (k := i) (s := 3) rfl rfl At3 rfl Tryd.underlying22 (by kernel_rfl) (by omega)))
    ·exact .val (.agg #[Str t3.nm, .bool t3.plain, .int .i64 t3.val]) rfl (by kernel_rfl) (fun w hM => run_loadE rfl rfl ((ct3.on hM.below)) (by kernel_rfl))
    ·exact .val (.slice B m.length d) rfl (by kernel_rfl) (fun w hM => (by kernel_rfl))
    ·exact .val (vN i) rfl (by kernel_rfl) (fun w hM => (by kernel_rfl))
    ·exact .val (.pointer (some (at4.add (i * 3)))) rfl (by kernel_rfl) (fun w hM => (run_ixA (k := i) (s := 3) rfl rfl At4 rfl Tryd.underlying22 (by kernel_rfl) (by omega)))
    ·exact .val (.agg #[Str t4.nm, .bool t4.plain, .int .i64 t4.val]) rfl (by kernel_rfl) (fun w hM => run_loadE rfl rfl ((ct4.on hM.below)) (by kernel_rfl))
    ·exact .val (.bool true) rfl (by kernel_rfl) (fun w hM => (okBool (b := (!(decide (t3.nm = t4.nm) && decide (t3.plain = t4.plain) && decide ((t3.val : Int) = t4.val)))) (run_neqDcl rfl rfl rfl) h5))
    refine wp_cond_true (hK.get rfl) ?_
    refine wp_seq ?_
    refine region_go (lst := [0]) (by kernel_rfl) ?_
    refine stepP hK 4 (.bool false) (by kernel_rfl) (by kernel_rfl) fun a hK => ?_
    refine region_done hK [(4, .bool false), (24, .bool true), (5, vN i), (14, .bool true), (12, .int .i64 ((l.length : Nat) : Int)), (10, .bool false), (0, .slice A l.length c), (1, .slice B m.length d), (13, vN i)] ⟨rfl, rfl, rfl, rfl, rfl, rfl, rfl, rfl, rfl, trivial⟩ fun a hK => ?_
    refine wp_ret ?_
    exact ret_t hK rfl (u := (.bool false)) rfl (⟨by have hs : dcSame t3 t4 = false := (by have h9 := h5; unfold dcSame; revert h9; cases (decide (t3.nm = t4.nm) && decide (t3.plain = t4.plain) && decide (t3.val = t4.val)) <;> decide); unfold dcsEq; rw [hne, ← hR.2, dcsSame_step ht3 ht4, hs]; rfl, hM.below⟩)
   ·refine region_any (F := fun w => Mem w0 w []) hK [some (.slice A l.length c), some (vN i), some (.pointer (some (at3.add (i * 3)))), some (.agg #[Str t3.nm, .bool t3.plain, .int .i64 t3.val]), some (.slice B m.length d), some (vN i), some (.pointer (some (at4.add (i * 3)))), some (.agg #[Str t4.nm, .bool t4.plain, .int .i64 t4.val]), some (.bool false)] 9 (fun _ _ hb hm => hm.go hb) hM (by kernel_rfl) (by kernel_rfl) ⟨⟨⟨⟨⟨⟨⟨⟨⟨trivial, ?_⟩, ?_⟩, ?_⟩, ?_⟩, ?_⟩, ?_⟩, ?_⟩, ?_⟩, ?_⟩ [(24, .bool false), (5, vN i), (14, .bool true), (12, .int .i64 ((l.length : Nat) : Int)), (10, .bool false), (4, .bool false), (0, .slice A l.length c), (1, .slice B m.length d), (13, vN i)] (by kernel_rfl) fun a w hK hM => ?_
    ·exact .val (.slice A l.length c) rfl (by kernel_rfl) (fun w hM => (by kernel_rfl))
    ·exact .val (vN i) rfl (by kernel_rfl) (fun w hM => (by kernel_rfl))
    ·exact .val (.pointer (some (at3.add (i * 3)))) rfl (by kernel_rfl) (fun w hM => (run_ixA (k := i) (s := 3) rfl rfl At3 rfl Tryd.underlying22 (by kernel_rfl) (by omega)))
    ·exact .val (.agg #[Str t3.nm, .bool t3.plain, .int .i64 t3.val]) rfl (by kernel_rfl) (fun w hM => run_loadE rfl rfl ((ct3.on hM.below)) (by kernel_rfl))
    ·exact .val (.slice B m.length d) rfl (by kernel_rfl) (fun w hM => (by kernel_rfl))
    ·exact .val (vN i) rfl (by kernel_rfl) (fun w hM => (by kernel_rfl))
    ·exact .val (.pointer (some (at4.add (i * 3)))) rfl (by kernel_rfl) (fun w hM => (run_ixA (k := i) (s := 3) rfl rfl At4 rfl Tryd.underlying22 (by kernel_rfl) (by omega)))
    ·exact .val (.agg #[Str t4.nm, .bool t4.plain, .int .i64 t4.val]) rfl (by kernel_rfl) (fun w hM => run_loadE rfl rfl ((ct4.on hM.below)) (by kernel_rfl))
    ·exact .val (.bool false) rfl (by kernel_rfl) (fun w hM => (okBool (b := (!(decide (t3.nm = t4.nm) && decide (t3.plain = t4.plain) && decide ((t3.val : Int) = t4.val)))) (run_neqDcl rfl rfl rfl) h5))
    refine wp_cond_false (hK.get rfl) ?_
    refine wp_skip ?_
    refine region_go (lst := [0, 1]) (by kernel_rfl) ?_
    refine stepP hK 25 (.int .i64 (((i + 1) : Nat) : Int)) (by kernel_rfl) (run_addN (i := i) (j := 1) rfl rfl rfl (by omega)) fun a hK => ?_
    refine stepM hK 13 25 (by kernel_rfl) (.inl rfl) rfl fun a hK => ?_
    refine region_done hK [(13, .int .i64 (((i + 1) : Nat) : Int)), (24, .bool false), (5, vN i), (14, .bool true), (12, .int .i64 ((l.length : Nat) : Int)), (10, .bool false), (4, .bool false), (0, .slice A l.length c), (1, .slice B m.length d)] ⟨rfl, rfl, rfl, rfl, rfl, rfl, rfl, rfl, rfl, trivial⟩ fun a hK => ?_
    have hRn : (i + 1) ≤ l.length ∧ dcsSame (l.drop (i + 1)) (m.drop (i + 1)) = dcsSame l m := ⟨by omega, by have hs : dcSame t3 t4 = true := (by have h9 := h5; unfold dcSame; revert h9; cases (decide (t3.nm = t4.nm) && decide (t3.plain = t4.plain) && decide (t3.val = t4.val)) <;> decide); rw [← hR.2, dcsSame_step ht3 ht4, hs, Bool.true_and]⟩
    have hmn : l.length - (i + 1) < l.length - i := by omega
    exact ⟨i + 1, hK.sub ⟨rfl, rfl, rfl, rfl, rfl, rfl, trivial⟩, hM, hRn, hmn⟩
  ·refine stepP hK 14 (.bool false) (by kernel_rfl) (okBool (b := (decide ((((i : Nat) : Int) : Int) < ((l.length : Nat) : Int)))) (by kernel_rfl) (decide_eq_false h2)) fun a hK => ?_
   refine region_done hK [(14, .bool false), (12, .int .i64 ((l.length : Nat) : Int)), (10, .bool false), (4, .bool false), (0, .slice A l.length c), (1, .slice B m.length d), (13, vN i)] ⟨rfl, rfl, rfl, rfl, rfl, rfl, rfl, trivial⟩ fun a hK => ?_
   refine wp_seq ?_
   refine wp_cond_false (hK.get rfl) ?_
   refine wp_exit (exit_then (exit_then (exit_here 0 ?_)))
   refine wp_seq ?_
   refine region_go (lst := [0]) (by kernel_rfl) ?_
   refine stepP hK 4 (.bool true) (by kernel_rfl) (by kernel_rfl) fun a hK => ?_
   refine region_done hK [(4, .bool true), (14, .bool false), (12, .int .i64 ((l.length : Nat) : Int)), (10, .bool false), (0, .slice A l.length c), (1, .slice B m.length d), (13, vN i)] ⟨rfl, rfl, rfl, rfl, rfl, rfl, rfl, trivial⟩ fun a hK => ?_
   refine wp_ret ?_
   exact ret_t hK rfl (u := (.bool true)) rfl (⟨by unfold dcsEq; rw [hne, ← hR.2, dcsSame_end (by omega)]; rfl, hM.below⟩)
set_option maxRecDepth 100000 in
set_option maxHeartbeats 4000000 in
theorem ast_eqTh (l : List Th) : ∀ (m : List Th) (A : Option Addr) (c : Nat) (B : Option Addr) (d : Nat) (w0 : World), ThsAt w0 A l → ThsAt w0 B m → l.length ≤ 9223372036854775807 → m.length ≤ 9223372036854775807 → Calls Tryd.prog 52 #[.slice A l.length c, .slice B m.length d, .func (.func 53) #[] #[]] w0 (Ret w0 (.bool (thsEq l m))) := by
 intro m A c B d w0 hl hm hln hmn
 refine calls_K (args := [.slice A l.length c, .slice B m.length d, .func (.func 53) #[] #[]]) (n := 32) (env := [(0, .slice A l.length c), (1, .slice B m.length d), (2, .func (.func 53) #[] #[])]) Tryd.func52 rfl rfl rfl ⟨rfl, rfl, rfl, trivial⟩ fun a w hK hM => ?_
 refine wp_seq ?_
 refine region_go (lst := [0]) (by kernel_rfl) ?_
 refine stepP hK 6 (.bool false) (by kernel_rfl) (by kernel_rfl) fun a hK => ?_
 refine region_done hK [(6, .bool false), (0, .slice A l.length c), (1, .slice B m.length d), (2, .func (.func 53) #[] #[])] ⟨rfl, rfl, rfl, rfl, trivial⟩ fun a hK => ?_
 refine wp_seq ?_
 refine wp_seq ?_
 refine region_go (lst := [0, 1, 2, 3, 4]) (by kernel_rfl) ?_
 refine stepM hK 10 0 (by kernel_rfl) (.inl rfl) rfl fun a hK => ?_
 refine stepP hK 11 (.int .i64 ((l.length : Nat) : Int)) (by kernel_rfl) (by kernel_rfl) fun a hK => ?_
 refine stepM hK 12 1 (by kernel_rfl) (.inl rfl) rfl fun a hK => ?_
 refine stepP hK 13 (.int .i64 ((m.length : Nat) : Int)) (by kernel_rfl) (by kernel_rfl) fun a hK => ?_
 rcases Bool.eq_false_or_eq_true (!(decide ((((l.length : Nat) : Int) : Int) = ((m.length : Nat) : Int)))) with h1 | h1
 ·refine stepP hK 14 (.bool true) (by kernel_rfl) (okBool (b := (!(decide ((((l.length : Nat) : Int) : Int) = ((m.length : Nat) : Int))))) (by kernel_rfl) h1) fun a hK => ?_
  refine region_done hK [(14, .bool true), (6, .bool false), (0, .slice A l.length c), (1, .slice B m.length d), (2, .func (.func 53) #[] #[])] ⟨rfl, rfl, rfl, rfl, rfl, trivial⟩ fun a hK => ?_
  refine wp_cond_true (hK.get rfl) ?_
  refine wp_seq ?_
  refine region_go (lst := [0]) (by kernel_rfl) ?_
  refine stepP hK 6 (.bool false) (by kernel_rfl) (by kernel_rfl) fun a hK => ?_
  refine region_done hK [(6, .bool false), (14, .bool true), (0, .slice A l.length c), (1, .slice B m.length d), (2, .func (.func 53) #[] #[])] ⟨rfl, rfl, rfl, rfl, rfl, trivial⟩ fun a hK => ?_
  refine wp_ret ?_
  exact ret_t hK rfl (u := (.bool false)) rfl (⟨by unfold thsEq neI; rw [h1]; rfl, hM.below⟩)
 ·refine stepP hK 14 (.bool false) (by kernel_rfl) (okBool (b := (!(decide ((((l.length : Nat) : Int) : Int) = ((m.length : Nat) : Int))))) (by kernel_rfl) h1) fun a hK => ?_
  refine region_done hK [(14, .bool false), (6, .bool false), (0, .slice A l.length c), (1, .slice B m.length d), (2, .func (.func 53) #[] #[])] ⟨rfl, rfl, rfl, rfl, rfl, trivial⟩ fun a hK => ?_
  refine wp_cond_false (hK.get rfl) ?_
  refine wp_skip ?_
  refine wp_seq ?_
  refine wp_seq ?_
  have hne : neI ((l.length : Nat) : Int) ((m.length : Nat) : Int) = false := by unfold neI; rw [h1]
  have hlen : l.length = m.length := by have q := h1; simp at q; omega
  refine region_go (lst := [0, 1, 2]) (by kernel_rfl) ?_
  refine stepM hK 15 0 (by kernel_rfl) (.inl rfl) rfl fun a hK => ?_
  refine stepP hK 16 (.int .i64 ((l.length : Nat) : Int)) (by kernel_rfl) (by kernel_rfl) fun a hK => ?_
  refine stepP hK 17 (.int .i64 0) (by kernel_rfl) (by kernel_rfl) fun a hK => ?_
  refine region_done hK [(17, .int .i64 0), (16, .int .i64 ((l.length : Nat) : Int)), (15, .slice A l.length c), (14, .bool false), (6, .bool false), (0, .slice A l.length c), (1, .slice B m.length d), (2, .func (.func 53) #[] #[])] ⟨rfl, rfl, rfl, rfl, rfl, rfl, rfl, rfl, trivial⟩ fun a hK => ?_
  refine wp_block ?_
  refine wp_loopX (fun x : Nat => [(16, .int .i64 ((l.length : Nat) : Int)), (15, .slice A l.length c), (14, .bool false), (6, .bool false), (0, .slice A l.length c), (1, .slice B m.length d), (2, .func (.func 53) #[] #[]), (17, vN x)]) (fun x : Nat => []) (fun x : Nat => x ≤ l.length ∧ thsSame (l.drop x) (m.drop x) = thsSame l m) (fun x : Nat => l.length - x) 0 (hK.sub ⟨rfl, rfl, rfl, rfl, rfl, rfl, rfl, rfl, trivial⟩) hM ⟨Nat.zero_le _, rfl⟩ ?_
  rintro i a w hK hM hR
  replace hK : Knows a 32 [(16, .int .i64 ((l.length : Nat) : Int)), (15, .slice A l.length c), (14, .bool false), (6, .bool false), (0, .slice A l.length c), (1, .slice B m.length d), (2, .func (.func 53) #[] #[]), (17, vN i)] := hK
  replace hM : Mem w0 w [] := hM
  replace hR : i ≤ l.length ∧ thsSame (l.drop i) (m.drop i) = thsSame l m := hR
  refine wp_seq ?_
  refine region_go (lst := [0]) (by kernel_rfl) ?_
  by_cases h2 : (((i : Nat) : Int) : Int) < ((l.length : Nat) : Int)
  ·refine stepP hK 18 (.bool true) (by kernel_rfl) (okBool (b := (decide ((((i : Nat) : Int) : Int) < ((l.length : Nat) : Int)))) (by kernel_rfl) (decide_eq_true h2)) fun a hK => ?_
   refine region_done hK [(18, .bool true), (16, .int .i64 ((l.length : Nat) : Int)), (15, .slice A l.length c), (14, .bool false), (6, .bool false), (0, .slice A l.length c), (1, .slice B m.length d), (2, .func (.func 53) #[] #[]), (17, vN i)] ⟨rfl, rfl, rfl, rfl, rfl, rfl, rfl, rfl, rfl, trivial⟩ fun a hK => ?_
   refine wp_seq ?_
   refine wp_cond_true (hK.get rfl) ?_
   refine wp_skip ?_
   refine wp_seq ?_
   refine wp_block ?_
   refine wp_seq ?_
   refine region_go (lst := [0, 1, 2, 3, 4]) (by kernel_rfl) ?_
   refine stepM hK 19 17 (by kernel_rfl) (.inl rfl) rfl fun a hK => ?_
   obtain ⟨t3, ht3⟩ : ∃ t, l[(i : Nat)]? = some t := ⟨_, List.getElem?_eq_getElem (by omega)⟩
   obtain ⟨⟨at3, At3, ct3⟩, et3⟩ := hl _ _ ht3; have nt3 := et3.2
   refine stepP hK 20 (.pointer (some (at3.add (i * 1)))) (by kernel_rfl) (run_ixA (k := i) (s := 1) rfl rfl At3 rfl Tryd.underlying23 (by kernel_rfl) (by omega)) fun a hK => ?_
   refine stepLoad hK 21 (.slice t3.A t3.l.length t3.c) (by kernel_rfl) rfl rfl ((ct3.on hM.below)) (by kernel_rfl) fun a hK => ?_
   refine stepM hK 7 19 (by kernel_rfl) (.inr rfl) rfl fun a hK => ?_
   refine stepM hK 8 21 (by kernel_rfl) (.inr rfl) rfl fun a hK => ?_
   refine region_done hK [(8, .slice t3.A t3.l.length t3.c), (7, vN i), (18, .bool true), (16, .int .i64 ((l.length : Nat) : Int)), (15, .slice A l.length c), (14, .bool false), (6, .bool false), (0, .slice A l.length c), (1, .slice B m.length d), (2, .func (.func 53) #[] #[]), (17, vN i)] ⟨rfl, rfl, rfl, rfl, rfl, rfl, rfl, rfl, rfl, rfl, rfl, trivial⟩ fun a hK => ?_
   refine wp_seq ?_
   refine region_go (lst := [0, 1, 2, 3, 4]) (by kernel_rfl) ?_
   refine stepM hK 22 1 (by kernel_rfl) (.inl rfl) rfl fun a hK => ?_
   refine stepM hK 23 7 (by kernel_rfl) (.inl rfl) rfl fun a hK => ?_
   obtain ⟨t4, ht4⟩ : ∃ t, m[(i : Nat)]? = some t := ⟨_, List.getElem?_eq_getElem (by omega)⟩
   obtain ⟨⟨at4, At4, ct4⟩, et4⟩ := hm _ _ ht4; have nt4 := et4.2
   refine stepP hK 24 (.pointer (some (at4.add (i * 1)))) (by kernel_rfl) (run_ixA (k := i) (s := 1) rfl rfl At4 rfl Tryd.underlying23 (by kernel_rfl) (by omega)) fun a hK => ?_
   refine stepLoad hK 25 (.slice t4.A t4.l.length t4.c) (by kernel_rfl) rfl rfl ((ct4.on hM.below)) (by kernel_rfl) fun a hK => ?_
   refine stepM hK 9 25 (by kernel_rfl) (.inr rfl) rfl fun a hK => ?_
   refine region_done hK [(9, .slice t4.A t4.l.length t4.c), (8, .slice t3.A t3.l.length t3.c), (7, vN i), (18, .bool true), (16, .int .i64 ((l.length : Nat) : Int)), (15, .slice A l.length c), (14, .bool false), (6, .bool false), (0, .slice A l.length c), (1, .slice B m.length d), (2, .func (.func 53) #[] #[]), (17, vN i)] ⟨rfl, rfl, rfl, rfl, rfl, rfl, rfl, rfl, rfl, rfl, rfl, rfl, trivial⟩ fun a hK => ?_
   refine wp_seq ?_
   refine region_go (lst := [0, 1, 2, 3, 4]) (by kernel_rfl) ?_
   refine stepM hK 26 2 (by kernel_rfl) (.inl rfl) rfl fun a hK => ?_
   refine stepM hK 27 8 (by kernel_rfl) (.inl rfl) rfl fun a hK => ?_
   refine stepM hK 28 9 (by kernel_rfl) (.inl rfl) rfl fun a hK => ?_
   rcases Bool.eq_false_or_eq_true (smsEq t3.l t4.l) with h5 | h5
   ·refine stepRet hK hM 29 #[.slice t3.A t3.l.length t3.c, .slice t4.A t4.l.length t4.c] (.bool true) (by kernel_rfl) (run_callE en_ast_sameStmts rfl rfl (by kernel_rfl)) (ret_eq (ast_sameStmts t3.l t4.l _ _ _ _ _ (et3.1.on hM.below) (et4.1.on hM.below) (by omega) (by omega)) (congrArg Value.bool h5)) fun a w hK hM => ?_
    refine stepP hK 30 (.bool false) (by kernel_rfl) (by kernel_rfl) fun a hK => ?_
    refine region_done hK [(30, .bool false), (9, .slice t4.A t4.l.length t4.c), (8, .slice t3.A t3.l.length t3.c), (7, vN i), (18, .bool true), (16, .int .i64 ((l.length : Nat) : Int)), (15, .slice A l.length c), (14, .bool false), (6, .bool false), (0, .slice A l.length c), (1, .slice B m.length d), (2, .func (.func 53) #[] #[]), (17, vN i)] ⟨rfl, rfl, rfl, rfl, rfl, rfl, rfl, rfl, rfl, rfl, rfl, rfl, rfl, trivial⟩ fun a hK => ?_
    refine wp_cond_false (hK.get rfl) ?_
    refine wp_skip ?_
    refine region_go (lst := [0, 1]) (by kernel_rfl) ?_
    refine stepP hK 31 (.int .i64 (((i + 1) : Nat) : Int)) (by kernel_rfl) (run_addN (i := i) (j := 1) rfl rfl rfl (by omega)) fun a hK => ?_
    refine stepM hK 17 31 (by kernel_rfl) (.inl rfl) rfl fun a hK => ?_
    refine region_done hK [(17, .int .i64 (((i + 1) : Nat) : Int)), (30, .bool false), (9, .slice t4.A t4.l.length t4.c), (8, .slice t3.A t3.l.length t3.c), (7, vN i), (18, .bool true), (16, .int .i64 ((l.length : Nat) : Int)), (15, .slice A l.length c), (14, .bool false), (6, .bool false), (0, .slice A l.length c), (1, .slice B m.length d), (2, .func (.func 53) #[] #[])] ⟨rfl, rfl, rfl, rfl, rfl, rfl, rfl, rfl, rfl, rfl, rfl, rfl, rfl, trivial⟩ fun a hK => ?_
    have hRn : (i + 1) ≤ l.length ∧ thsSame (l.drop (i + 1)) (m.drop (i + 1)) = thsSame l m := ⟨by omega, by have hs : smsEq t3.l t4.l = true := (by have h9 := h5; simpa using h9); rw [← hR.2, thsSame_step ht3 ht4, hs, Bool.true_and]⟩
    have hmn : l.length - (i + 1) < l.length - i := by omega
    exact ⟨i + 1, hK.sub ⟨rfl, rfl, rfl, rfl, rfl, rfl, rfl, rfl, trivial⟩, hM, hRn, hmn⟩
   ·refine stepRet hK hM 29 #[.slice t3.A t3.l.length t3.c, .slice t4.A t4.l.length t4.c] (.bool false) (by kernel_rfl) (run_callE en_ast_sameStmts rfl rfl (by kernel_rfl)) (ret_eq (ast_sameStmts t3.l t4.l _ _ _ _ _ (et3.1.on hM.below) (et4.1.on hM.below) (by omega) (by omega)) (congrArg Value.bool h5)) fun a w hK hM => ?_
    refine stepP hK 30 (.bool true) (by kernel_rfl) (by kernel_rfl) fun a hK => ?_
    refine region_done hK [(30, .bool true), (9, .slice t4.A t4.l.length t4.c), (8, .slice t3.A t3.l.length t3.c), (7, vN i), (18, .bool true), (16, .int .i64 ((l.length : Nat) : Int)), (15, .slice A l.length c), (14, .bool false), (6, .bool false), (0, .slice A l.length c), (1, .slice B m.length d), (2, .func (.func 53) #[] #[]), (17, vN i)] ⟨rfl, rfl, rfl, rfl, rfl, rfl, rfl, rfl, rfl, rfl, rfl, rfl, rfl, trivial⟩ fun a hK => ?_
    refine wp_cond_true (hK.get rfl) ?_
    refine wp_seq ?_
    refine region_go (lst := [0]) (by kernel_rfl) ?_
    refine stepP hK 6 (.bool false) (by kernel_rfl) (by kernel_rfl) fun a hK => ?_
    refine region_done hK [(6, .bool false), (30, .bool true), (9, .slice t4.A t4.l.length t4.c), (8, .slice t3.A t3.l.length t3.c), (7, vN i), (18, .bool true), (16, .int .i64 ((l.length : Nat) : Int)), (15, .slice A l.length c), (14, .bool false), (0, .slice A l.length c), (1, .slice B m.length d), (2, .func (.func 53) #[] #[]), (17, vN i)] ⟨rfl, rfl, rfl, rfl, rfl, rfl, rfl, rfl, rfl, rfl, rfl, rfl, rfl, trivial⟩ fun a hK => ?_
    refine wp_ret ?_
    exact ret_t hK rfl (u := (.bool false)) rfl (⟨by have hs : smsEq t3.l t4.l = false := (by have h9 := h5; simpa using h9); unfold thsEq; rw [hne, ← hR.2, thsSame_step ht3 ht4, hs]; rfl, hM.below⟩)
  ·refine stepP hK 18 (.bool false) (by kernel_rfl) (okBool (b := (decide ((((i : Nat) : Int) : Int) < ((l.length : Nat) : Int)))) (by kernel_rfl) (decide_eq_false h2)) fun a hK => ?_
   refine region_done hK [(18, .bool false), (16, .int .i64 ((l.length : Nat) : Int)), (15, .slice A l.length c), (14, .bool false), (6, .bool false), (0, .slice A l.length c), (1, .slice B m.length d), (2, .func (.func 53) #[] #[]), (17, vN i)] ⟨rfl, rfl, rfl, rfl, rfl, rfl, rfl, rfl, rfl, trivial⟩ fun a hK => ?_
   refine wp_seq ?_
   refine wp_cond_false (hK.get rfl) ?_
   refine wp_exit (exit_then (exit_then (exit_here 0 ?_)))
   refine wp_seq ?_
   refine region_go (lst := [0]) (by kernel_rfl) ?_
   refine stepP hK 6 (.bool true) (by kernel_rfl) (by kernel_rfl) fun a hK => ?_
   refine region_done hK [(6, .bool true), (18, .bool false), (16, .int .i64 ((l.length : Nat) : Int)), (15, .slice A l.length c), (14, .bool false), (0, .slice A l.length c), (1, .slice B m.length d), (2, .func (.func 53) #[] #[]), (17, vN i)] ⟨rfl, rfl, rfl, rfl, rfl, rfl, rfl, rfl, rfl, trivial⟩ fun a hK => ?_
   refine wp_ret ?_
   exact ret_t hK rfl (u := (.bool true)) rfl (⟨by unfold thsEq; rw [hne, ← hR.2, thsSame_end (by omega)]; rfl, hM.below⟩)
set_option maxRecDepth 100000 in
set_option maxHeartbeats 4000000 in
theorem ast_Same (p q : Pg) (w0 : World) (hp : PgAt w0 p) (hq : PgAt w0 q) : Calls Tryd.prog 20 #[vG p, vG q] w0 (Ret w0 (.bool (pgSame p q))) := by
 have hpl := hp.len; have hql := hq.len
 refine calls_K (args := [vG p, vG q]) (n := 17) (env := [(0, vG p), (1, vG q)]) Tryd.func20 rfl rfl rfl ⟨rfl, rfl, trivial⟩ fun a w hK hM => ?_
 refine wp_seq ?_
 refine region_go (lst := [0, 1, 2]) (by kernel_rfl) ?_
 refine stepAlloc hK hM 2 25 [.slice p.A1 p.ds.length p.c1, .slice p.A2 p.ts.length p.c2] (fun b => pA b 0) (by kernel_rfl) (by kernel_rfl) fun b1 a w hK hM => ?_
 refine stepAlloc hK hM 3 25 [.slice q.A1 q.ds.length q.c1, .slice q.A2 q.ts.length q.c2] (fun b => pA b 0) (by kernel_rfl) (by kernel_rfl) fun b2 a w hK hM => ?_
 refine stepP hK 4 (.bool false) (by kernel_rfl) (by kernel_rfl) fun a hK => ?_
 refine region_done hK [(4, .bool false), (3, pA b2 0), (2, pA b1 0), (0, vG p), (1, vG q)] ⟨rfl, rfl, rfl, rfl, rfl, trivial⟩ fun a hK => ?_
 refine wp_seq ?_
 refine region_go (lst := [0, 1, 2, 3, 4, 5, 6, 7, 8, 9, 10, 11, 12]) (by kernel_rfl) ?_
 refine stepP hK 5 (pA b1 0) (by kernel_rfl) (by kernel_rfl) fun a hK => ?_
 refine stepLoad hK 6 (.slice p.A1 p.ds.length p.c1) (by kernel_rfl) rfl rfl ((hM.row 1 rfl).cells 0 1) (by kernel_rfl) fun a hK => ?_
 refine stepP hK 7 (pA b2 0) (by kernel_rfl) (by kernel_rfl) fun a hK => ?_
 refine stepLoad hK 8 (.slice q.A1 q.ds.length q.c1) (by kernel_rfl) rfl rfl ((hM.row 0 rfl).cells 0 1) (by kernel_rfl) fun a hK => ?_
 rcases Bool.eq_false_or_eq_true (dcsEq p.ds q.ds) with h3 | h3
 ·refine stepRet hK hM 9 #[.slice p.A1 p.ds.length p.c1, .slice q.A1 q.ds.length q.c1] (.bool true) (by kernel_rfl) (run_callE en_eq_Decl rfl rfl (by kernel_rfl)) (ret_eq (ast_eqDc p.ds q.ds _ _ _ _ _ (hp.on hM.below).decls (hq.on hM.below).decls hpl.1 hql.1) (congrArg Value.bool h3)) fun a w hK hM => ?_
  refine stepM hK 10 9 (by kernel_rfl) (.inl rfl) rfl fun a hK => ?_
  refine stepP hK 11 (pA b1 1) (by kernel_rfl) (by kernel_rfl) fun a hK => ?_
  refine stepLoad hK 12 (.slice p.A2 p.ts.length p.c2) (by kernel_rfl) rfl rfl ((hM.row 1 rfl).cells 1 1) (by kernel_rfl) fun a hK => ?_
  refine stepP hK 13 (pA b2 1) (by kernel_rfl) (by kernel_rfl) fun a hK => ?_
  refine stepLoad hK 14 (.slice q.A2 q.ts.length q.c2) (by kernel_rfl) rfl rfl ((hM.row 0 rfl).cells 1 1) (by kernel_rfl) fun a hK => ?_
  rcases Bool.eq_false_or_eq_true (thsEq p.ts q.ts) with h4 | h4
  ·refine stepRet hK hM 15 #[.slice p.A2 p.ts.length p.c2, .slice q.A2 q.ts.length q.c2, .func (.func 53) #[] #[]] (.bool true) (by kernel_rfl) (run_callE en_eq_Thread rfl rfl (by kernel_rfl)) (ret_eq (ast_eqTh p.ts q.ts _ _ _ _ _ (hp.on hM.below).threads (hq.on hM.below).threads hpl.2 hql.2) (congrArg Value.bool h4)) fun a w hK hM => ?_
   refine stepP hK 16 (.bool true) (by kernel_rfl) (by kernel_rfl) fun a hK => ?_
   refine stepM hK 4 16 (by kernel_rfl) (.inr rfl) rfl fun a hK => ?_
   refine region_done hK [(4, .bool true), (3, pA b2 0), (2, pA b1 0), (0, vG p), (1, vG q)] ⟨rfl, rfl, rfl, rfl, rfl, trivial⟩ fun a hK => ?_
   refine wp_ret ?_
   exact ret_t hK rfl (u := (.bool true)) rfl (⟨by unfold pgSame; rw [h3, h4]; rfl, hM.below⟩)
  ·refine stepRet hK hM 15 #[.slice p.A2 p.ts.length p.c2, .slice q.A2 q.ts.length q.c2, .func (.func 53) #[] #[]] (.bool false) (by kernel_rfl) (run_callE en_eq_Thread rfl rfl (by kernel_rfl)) (ret_eq (ast_eqTh p.ts q.ts _ _ _ _ _ (hp.on hM.below).threads (hq.on hM.below).threads hpl.2 hql.2) (congrArg Value.bool h4)) fun a w hK hM => ?_
   refine stepP hK 16 (.bool false) (by kernel_rfl) (by kernel_rfl) fun a hK => ?_
   refine stepM hK 4 16 (by kernel_rfl) (.inr rfl) rfl fun a hK => ?_
   refine region_done hK [(4, .bool false), (3, pA b2 0), (2, pA b1 0), (0, vG p), (1, vG q)] ⟨rfl, rfl, rfl, rfl, rfl, trivial⟩ fun a hK => ?_
   refine wp_ret ?_
   exact ret_t hK rfl (u := (.bool false)) rfl (⟨by unfold pgSame; rw [h3, h4]; rfl, hM.below⟩)
 ·refine stepRet hK hM 9 #[.slice p.A1 p.ds.length p.c1, .slice q.A1 q.ds.length q.c1] (.bool false) (by kernel_rfl) (run_callE en_eq_Decl rfl rfl (by kernel_rfl)) (ret_eq (ast_eqDc p.ds q.ds _ _ _ _ _ (hp.on hM.below).decls (hq.on hM.below).decls hpl.1 hql.1) (congrArg Value.bool h3)) fun a w hK hM => ?_
  refine stepM hK 10 9 (by kernel_rfl) (.inl rfl) rfl fun a hK => ?_
  refine stepN hK 11 (by kernel_rfl) fun a hK => ?_
  refine stepN hK 12 (by kernel_rfl) fun a hK => ?_
  refine stepN hK 13 (by kernel_rfl) fun a hK => ?_
  refine stepN hK 14 (by kernel_rfl) fun a hK => ?_
  refine stepN hK 15 (by kernel_rfl) fun a hK => ?_
  refine stepP hK 16 (.bool false) (by kernel_rfl) (by kernel_rfl) fun a hK => ?_
  refine stepM hK 4 16 (by kernel_rfl) (.inr rfl) rfl fun a hK => ?_
  refine region_done hK [(4, .bool false), (3, pA b2 0), (2, pA b1 0), (0, vG p), (1, vG q)] ⟨rfl, rfl, rfl, rfl, rfl, trivial⟩ fun a hK => ?_
  refine wp_ret ?_
  exact ret_t hK rfl (u := (.bool false)) rfl (⟨by unfold pgSame; rw [h3]; rfl, hM.below⟩)
set_option maxRecDepth 100000 in
set_option maxHeartbeats 4000000 in
theorem kit_Program (p q : Pg) (w0 : World) (hp : PgAt w0 p) (hq : PgAt w0 q) : Calls Tryd.prog 21 #[vG p, vG q] w0 (Ret w0 (.bool (pgSame p q))) := by
 have hpl := hp.len; have hql := hq.len
 refine calls_K (args := [vG p, vG q]) (n := 60) (env := [(0, vG p), (1, vG q)]) Tryd.func21 rfl rfl rfl ⟨rfl, rfl, trivial⟩ fun a w hK hM => ?_
 refine wp_seq ?_
 refine region_go (lst := [0, 1, 2]) (by kernel_rfl) ?_
 refine stepAlloc hK hM 2 25 [.slice p.A1 p.ds.length p.c1, .slice p.A2 p.ts.length p.c2] (fun b => pA b 0) (by kernel_rfl) (by kernel_rfl) fun b1 a w hK hM => ?_
 refine stepAlloc hK hM 3 25 [.slice q.A1 q.ds.length q.c1, .slice q.A2 q.ts.length q.c2] (fun b => pA b 0) (by kernel_rfl) (by kernel_rfl) fun b2 a w hK hM => ?_
 refine stepP hK 4 (.bool false) (by kernel_rfl) (by kernel_rfl) fun a hK => ?_
 refine region_done hK [(4, .bool false), (3, pA b2 0), (2, pA b1 0), (0, vG p), (1, vG q)] ⟨rfl, rfl, rfl, rfl, rfl, trivial⟩ fun a hK => ?_
 refine wp_seq ?_
 refine wp_seq ?_
 refine region_go (lst := [0, 1, 2, 3, 4, 5, 6, 7, 8, 9, 10, 11, 12, 13, 14, 15]) (by kernel_rfl) ?_
 refine stepP hK 7 (pA b1 0) (by kernel_rfl) (by kernel_rfl) fun a hK => ?_
 refine stepLoad hK 8 (.slice p.A1 p.ds.length p.c1) (by kernel_rfl) rfl rfl ((hM.row 1 rfl).cells 0 1) (by kernel_rfl) fun a hK => ?_
 refine stepP hK 9 (.int .i64 ((p.ds.length : Nat) : Int)) (by kernel_rfl) (by kernel_rfl) fun a hK => ?_
 refine stepP hK 10 (pA b2 0) (by kernel_rfl) (by kernel_rfl) fun a hK => ?_
 refine stepLoad hK 11 (.slice q.A1 q.ds.length q.c1) (by kernel_rfl) rfl rfl ((hM.row 0 rfl).cells 0 1) (by kernel_rfl) fun a hK => ?_
 refine stepP hK 12 (.int .i64 ((q.ds.length : Nat) : Int)) (by kernel_rfl) (by kernel_rfl) fun a hK => ?_
 rcases Bool.eq_false_or_eq_true (!(decide ((((p.ds.length : Nat) : Int) : Int) = ((q.ds.length : Nat) : Int)))) with h3 | h3
 ·refine stepP hK 13 (.bool true) (by kernel_rfl) (okBool (b := (!(decide ((((p.ds.length : Nat) : Int) : Int) = ((q.ds.length : Nat) : Int))))) (by kernel_rfl) h3) fun a hK => ?_
  refine stepM hK 14 13 (by kernel_rfl) (.inl rfl) rfl fun a hK => ?_
  refine stepN hK 15 (by kernel_rfl) fun a hK => ?_
  refine stepN hK 16 (by kernel_rfl) fun a hK => ?_
  refine stepN hK 17 (by kernel_rfl) fun a hK => ?_
  refine stepN hK 18 (by kernel_rfl) fun a hK => ?_
  refine stepN hK 19 (by kernel_rfl) fun a hK => ?_
  refine stepN hK 20 (by kernel_rfl) fun a hK => ?_
  refine stepN hK 21 (by kernel_rfl) fun a hK => ?_
  refine stepP hK 22 (.bool true) (by kernel_rfl) (by kernel_rfl) fun a hK => ?_
  refine region_done hK [(22, .bool true), (4, .bool false), (3, pA b2 0), (2, pA b1 0), (0, vG p), (1, vG q)] ⟨rfl, rfl, rfl, rfl, rfl, rfl, trivial⟩ fun a hK => ?_
  refine wp_cond_true (hK.get rfl) ?_
  refine wp_seq ?_
  refine region_go (lst := [0]) (by kernel_rfl) ?_
  refine stepP hK 4 (.bool false) (by kernel_rfl) (by kernel_rfl) fun a hK => ?_
  refine region_done hK [(4, .bool false), (22, .bool true), (3, pA b2 0), (2, pA b1 0), (0, vG p), (1, vG q)] ⟨rfl, rfl, rfl, rfl, rfl, rfl, trivial⟩ fun a hK => ?_
  refine wp_ret ?_
  exact ret_t hK rfl (u := (.bool false)) rfl (⟨by unfold pgSame dcsEq thsEq neI; rw [h3]; first | rfl | exact (Bool.and_false _).symm ▸ rfl, hM.below⟩)
 ·refine stepP hK 13 (.bool false) (by kernel_rfl) (okBool (b := (!(decide ((((p.ds.length : Nat) : Int) : Int) = ((q.ds.length : Nat) : Int))))) (by kernel_rfl) h3) fun a hK => ?_
  refine stepM hK 14 13 (by kernel_rfl) (.inl rfl) rfl fun a hK => ?_
  refine stepP hK 15 (pA b1 1) (by kernel_rfl) (by kernel_rfl) fun a hK => ?_
  refine stepLoad hK 16 (.slice p.A2 p.ts.length p.c2) (by kernel_rfl) rfl rfl ((hM.row 1 rfl).cells 1 1) (by kernel_rfl) fun a hK => ?_
  refine stepP hK 17 (.int .i64 ((p.ts.length : Nat) : Int)) (by kernel_rfl) (by kernel_rfl) fun a hK => ?_
  refine stepP hK 18 (pA b2 1) (by kernel_rfl) (by kernel_rfl) fun a hK => ?_
  refine stepLoad hK 19 (.slice q.A2 q.ts.length q.c2) (by kernel_rfl) rfl rfl ((hM.row 0 rfl).cells 1 1) (by kernel_rfl) fun a hK => ?_
  refine stepP hK 20 (.int .i64 ((q.ts.length : Nat) : Int)) (by kernel_rfl) (by kernel_rfl) fun a hK => ?_
  rcases Bool.eq_false_or_eq_true (!(decide ((((p.ts.length : Nat) : Int) : Int) = ((q.ts.length : Nat) : Int)))) with h4 | h4
  ·refine stepP hK 21 (.bool true) (by kernel_rfl) (okBool (b := (!(decide ((((p.ts.length : Nat) : Int) : Int) = ((q.ts.length : Nat) : Int))))) (by kernel_rfl) h4) fun a hK => ?_
   refine stepP hK 22 (.bool true) (by kernel_rfl) (by kernel_rfl) fun a hK => ?_
   refine region_done hK [(22, .bool true), (4, .bool false), (3, pA b2 0), (2, pA b1 0), (0, vG p), (1, vG q)] ⟨rfl, rfl, rfl, rfl, rfl, rfl, trivial⟩ fun a hK => ?_
   refine wp_cond_true (hK.get rfl) ?_
   refine wp_seq ?_
   refine region_go (lst := [0]) (by kernel_rfl) ?_
   refine stepP hK 4 (.bool false) (by kernel_rfl) (by kernel_rfl) fun a hK => ?_
   refine region_done hK [(4, .bool false), (22, .bool true), (3, pA b2 0), (2, pA b1 0), (0, vG p), (1, vG q)] ⟨rfl, rfl, rfl, rfl, rfl, rfl, trivial⟩ fun a hK => ?_
   refine wp_ret ?_
   exact ret_t hK rfl (u := (.bool false)) rfl (⟨by unfold pgSame dcsEq thsEq neI; rw [h3, h4]; first | rfl | exact (Bool.and_false _).symm ▸ rfl, hM.below⟩)
  ·refine stepP hK 21 (.bool false) (by kernel_rfl) (okBool (b := (!(decide ((((p.ts.length : Nat) : Int) : Int) = ((q.ts.length : Nat) : Int))))) (by kernel_rfl) h4) fun a hK => ?_
   refine stepP hK 22 (.bool false) (by kernel_rfl) (by kernel_rfl) fun a hK => ?_
   refine region_done hK [(22, .bool false), (4, .bool false), (3, pA b2 0), (2, pA b1 0), (0, vG p), (1, vG q)] ⟨rfl, rfl, rfl, rfl, rfl, rfl, trivial⟩ fun a hK => ?_
   refine wp_cond_false (hK.get rfl) ?_
   refine wp_skip ?_
   refine wp_seq ?_
   refine wp_seq ?_
   have hnd : neI ((p.ds.length : Nat) : Int) ((q.ds.length : Nat) : Int) = false := by unfold neI; rw [h3]
   have hnt : neI ((p.ts.length : Nat) : Int) ((q.ts.length : Nat) : Int) = false := by unfold neI; rw [h4]
   have hld : p.ds.length = q.ds.length := by have q9 := h3; simp at q9; omega
   have hlt : p.ts.length = q.ts.length := by have q9 := h4; simp at q9; omega
   refine region_go (lst := [0]) (by kernel_rfl) ?_
   refine stepP hK 5 (.int .i64 0) (by kernel_rfl) (by kernel_rfl) fun a hK => ?_
   refine region_done hK [(5, .int .i64 0), (22, .bool false), (4, .bool false), (3, pA b2 0), (2, pA b1 0), (0, vG p), (1, vG q)] ⟨rfl, rfl, rfl, rfl, rfl, rfl, rfl, trivial⟩ fun a hK => ?_
   refine wp_block ?_
   refine wp_loopX (fun x : Nat => [(22, .bool false), (4, .bool false), (3, pA b2 0), (2, pA b1 0), (0, vG p), (1, vG q), (5, vN x)]) (fun x : Nat => [.row b2 25 [.slice q.A1 q.ds.length q.c1, .slice q.A2 q.ts.length q.c2], .row b1 25 [.slice p.A1 p.ds.length p.c1, .slice p.A2 p.ts.length p.c2]]) (fun x : Nat => x ≤ p.ds.length ∧ dcsSame (p.ds.drop x) (q.ds.drop x) = dcsSame p.ds q.ds) (fun x : Nat => p.ds.length - x) 0 (hK.sub ⟨rfl, rfl, rfl, rfl, rfl, rfl, rfl, trivial⟩) hM ⟨Nat.zero_le _, rfl⟩ ?_
   rintro i a w hK hM hR
   replace hK : Knows a 60 [(22, .bool false), (4, .bool false), (3, pA b2 0), (2, pA b1 0), (0, vG p), (1, vG q), (5, vN i)] := hK
   replace hM : Mem w0 w [.row b2 25 [.slice q.A1 q.ds.length q.c1, .slice q.A2 q.ts.length q.c2], .row b1 25 [.slice p.A1 p.ds.length p.c1, .slice p.A2 p.ts.length p.c2]] := hM
   replace hR : i ≤ p.ds.length ∧ dcsSame (p.ds.drop i) (q.ds.drop i) = dcsSame p.ds q.ds := hR
   refine wp_seq ?_
   refine wp_seq ?_
   refine region_go (lst := [0, 1, 2, 3, 4]) (by kernel_rfl) ?_
   refine stepM hK 23 5 (by kernel_rfl) (.inl rfl) rfl fun a hK => ?_
   refine stepP hK 24 (pA b1 0) (by kernel_rfl) (by kernel_rfl) fun a hK => ?_
   refine stepLoad hK 25 (.slice p.A1 p.ds.length p.c1) (by kernel_rfl) rfl rfl ((hM.row 1 rfl).cells 0 1) (by kernel_rfl) fun a hK => ?_
   refine stepP hK 26 (.int .i64 ((p.ds.length : Nat) : Int)) (by kernel_rfl) (by kernel_rfl) fun a hK => ?_
   by_cases h5 : (((i : Nat) : Int) : Int) < ((p.ds.length : Nat) : Int)
   ·refine stepP hK 27 (.bool true) (by kernel_rfl) (okBool (b := (decide ((((i : Nat) : Int) : Int) < ((p.ds.length : Nat) : Int)))) (by kernel_rfl) (decide_eq_true h5)) fun a hK => ?_
    refine region_done hK [(27, .bool true), (22, .bool false), (4, .bool false), (3, pA b2 0), (2, pA b1 0), (0, vG p), (1, vG q), (5, vN i)] ⟨rfl, rfl, rfl, rfl, rfl, rfl, rfl, rfl, trivial⟩ fun a hK => ?_
    refine wp_cond_true (hK.get rfl) ?_
    refine wp_skip ?_
    refine wp_seq ?_
    refine wp_block ?_
    refine wp_seq ?_
    obtain ⟨t6, ht6⟩ : ∃ t, p.ds[(i : Nat)]? = some t := ⟨_, List.getElem?_eq_getElem (by omega)⟩
    obtain ⟨⟨at6, At6, ct6⟩, et6⟩ := hp.decls _ _ ht6; have nt6 := et6
    obtain ⟨t7, ht7⟩ : ∃ t, q.ds[(i : Nat)]? = some t := ⟨_, List.getElem?_eq_getElem (by omega)⟩
    obtain ⟨⟨at7, At7, ct7⟩, et7⟩ := hq.decls _ _ ht7; have nt7 := et7
    rcases Bool.eq_false_or_eq_true (!(decide (t6.nm = t7.nm) && decide (t6.plain = t7.plain) && decide ((t6.val : Int) = t7.val))) with h8 | h8
    ·refine region_any (F := fun w => Mem w0 w [.row b2 25 [.slice q.A1 q.ds.length q.c1, .slice q.A2 q.ts.length q.c2], .row b1 25 [.slice p.A1 p.ds.length p.c1, .slice p.A2 p.ts.length p.c2]]) hK [some (pA b1 0), some (.slice p.A1 p.ds.length p.c1), some (vN i), some (.pointer (some (at6.add (i * 3)))), some (.agg #[Str t6.nm, .bool t6.plain, .int .i64 t6.val]), some (pA b2 0), some (.slice q.A1 q.ds.length q.c1), some (vN i), some (.pointer (some (at7.add (i * 3)))), some (.agg #[Str t7.nm, .bool t7.plain, .int .i64 t7.val]), some (.bool true)] 11 (fun _ _ hb hm => hm.go hb) hM (by kernel_rfl) (by kernel_rfl) ⟨⟨⟨⟨⟨⟨⟨⟨⟨⟨⟨trivial, ?_⟩, ?_⟩, ?_⟩, ?_⟩, ?_⟩, ?_⟩, ?_⟩, ?_⟩, ?_⟩, ?_⟩, ?_⟩ [(40, .bool true), (27, .bool true), (22, .bool false), (4, .bool false), (3, pA b2 0), (2, pA b1 0), (0, vG p), (1, vG q), (5, vN i)] (by kernel_rfl) fun a w hK hM => ?_
     ·exact .val (pA b1 0) rfl (by kernel_rfl) (fun w hM => (by kernel_rfl))
     ·exact .val (.slice p.A1 p.ds.length p.c1) rfl (by kernel_rfl) (fun w hM => run_loadE rfl rfl ((hM.row 1 rfl).cells 0 1) (by kernel_rfl))
     ·exact .val (vN i) rfl (by kernel_rfl) (fun w hM => (by kernel_rfl))
     ·exact .val (.pointer (some (at6.add (i * 3)))) rfl (by kernel_rfl) (fun w hM => (run_ixA (k := i) (s := 3) rfl rfl At6 rfl Tryd.underlying22 (by kernel_rfl) (by omega)))
     ·exact .val (.agg #[Str t6.nm, .bool t6.plain, .int .i64 t6.val]) rfl (by kernel_rfl) (fun w hM => run_loadE rfl rfl ((ct6.on hM.below)) (by kernel_rfl))
     ·exact .val (pA b2 0) rfl (by kernel_rfl) (fun w hM => (by kernel_rfl))
     ·exact .val (.slice q.A1 q.ds.length q.c1) rfl (by kernel_rfl) (fun w hM => run_loadE rfl rfl ((hM.row 0 rfl).cells 0 1) (by kernel_rfl))
     ·exact .val (vN i) rfl (by kernel_rfl) (fun w hM => (by kernel_rfl))
     ·exact .val (.pointer (some (at7.add (i * 3)))) rfl (by kernel_rfl) (fun w hM => (run_ixA (k := i) (s := 3) rfl rfl At7 rfl Tryd.underlying22 (by kernel_rfl) (by omega)))
     ·exact .val (.agg #[Str t7.nm, .bool t7.plain, .int .i64 t7.val]) rfl (by kernel_rfl) (fun w hM => run_loadE rfl rfl ((ct7.on hM.below)) (by kernel_rfl))
     ·exact .val (.bool true) rfl (by kernel_rfl) (fun w hM => (okBool (b := (!(decide (t6.nm = t7.nm) && decide (t6.plain = t7.plain) && decide ((t6.val : Int) = t7.val)))) (run_neqDcl rfl rfl rfl) h8))
     refine wp_cond_true (hK.get rfl) ?_
     refine wp_seq ?_
     refine region_go (lst := [0]) (by kernel_rfl) ?_
     refine stepP hK 4 (.bool false) (by kernel_rfl) (by kernel_rfl) fun a hK => ?_
     refine region_done hK [(4, .bool false), (40, .bool true), (27, .bool true), (22, .bool false), (3, pA b2 0), (2, pA b1 0), (0, vG p), (1, vG q), (5, vN i)] ⟨rfl, rfl, rfl, rfl, rfl, rfl, rfl, rfl, rfl, trivial⟩ fun a hK => ?_
     refine wp_ret ?_
     exact ret_t hK rfl (u := (.bool false)) rfl (⟨by have hs : dcSame t6 t7 = false := (by have h9 := h8; unfold dcSame; revert h9; cases (decide (t6.nm = t7.nm) && decide (t6.plain = t7.plain) && decide (t6.val = t7.val)) <;> decide); unfold pgSame dcsEq; rw [hnd, ← hR.2, dcsSame_step ht6 ht7, hs]; rfl, hM.below⟩)
    ·refine region_any (F := fun w => Mem w0 w [.row b2 25 [.slice q.A1 q.ds.length q.c1, .slice q.A2 q.ts.length q.c2], .row b1 25 [.slice p.A1 p.ds.length p.c1, .slice p.A2 p.ts.length p.c2]]) hK [some (pA b1 0), some (.slice p.A1 p.ds.length p.c1), some (vN i), some (.pointer (some (at6.add (i * 3)))), some (.agg #[Str t6.nm, .bool t6.plain, .int .i64 t6.val]), some (pA b2 0), some (.slice q.A1 q.ds.length q.c1), some (vN i), some (.pointer (some (at7.add (i * 3)))), some (.agg #[Str t7.nm, .bool t7.plain, .int .i64 t7.val]), some (.bool false)] 11 (fun _ _ hb hm => hm.go hb) hM (by kernel_rfl) (by kernel_rfl) ⟨⟨⟨⟨⟨⟨⟨⟨⟨⟨⟨trivial, ?_⟩, ?_⟩, ?_⟩, ?_⟩, ?_⟩, ?_⟩, ?_⟩, ?_⟩, ?_⟩, ?_⟩, ?_⟩ [(40, .bool false), (27, .bool true), (22, .bool false), (4, .bool false), (3, pA b2 0), (2, pA b1 0), (0, vG p), (1, vG q), (5, vN i)] (by kernel_rfl) fun a w hK hM => ?_
     ·exact .val (pA b1 0) rfl (by kernel_rfl) (fun w hM => (by kernel_rfl))
     ·exact .val (.slice p.A1 p.ds.length p.c1) rfl (by kernel_rfl) (fun w hM => run_loadE rfl rfl ((hM.row 1 rfl).cells 0 1) (by kernel_rfl))
     ·exact .val (vN i) rfl (by kernel_rfl) (fun w hM => (by kernel_rfl))
     ·exact .val (.pointer (some (at6.add (i * 3)))) rfl (by kernel_rfl) (fun w hM => (run_ixA (k := i) (s := 3) rfl rfl At6 rfl Tryd.underlying22 (by kernel_rfl) (by omega)))
     ·exact .val (.agg #[Str t6.nm, .bool t6.plain, .int .i64 t6.val]) rfl (by kernel_rfl) (fun w hM => run_loadE rfl rfl ((ct6.on hM.below)) (by kernel_rfl))
     ·exact .val (pA b2 0) rfl (by kernel_rfl) (fun w hM => (by kernel_rfl))
     ·exact .val (.slice q.A1 q.ds.length q.c1) rfl (by kernel_rfl) (fun w hM => run_loadE rfl rfl ((hM.row 0 rfl).cells 0 1) (by kernel_rfl))
     ·exact .val (vN i) rfl (by kernel_rfl) (fun w hM => (by kernel_rfl))
     ·exact .val (.pointer (some (at7.add (i * 3)))) rfl (by kernel_rfl) (fun w hM => (run_ixA (k := i) (s := 3) rfl rfl At7 rfl Tryd.underlying22 (by kernel_rfl) (by omega)))
     ·exact .val (.agg #[Str t7.nm, .bool t7.plain, .int .i64 t7.val]) rfl (by kernel_rfl) (fun w hM => run_loadE rfl rfl ((ct7.on hM.below)) (by kernel_rfl))
     ·exact .val (.bool false) rfl (by kernel_rfl) (fun w hM => (okBool (b := (!(decide (t6.nm = t7.nm) && decide (t6.plain = t7.plain) && decide ((t6.val : Int) = t7.val)))) (run_neqDcl rfl rfl rfl) h8))
     refine wp_cond_false (hK.get rfl) ?_
     refine wp_skip ?_
     refine region_go (lst := [0, 1, 2]) (by kernel_rfl) ?_
     refine stepM hK 28 5 (by kernel_rfl) (.inl rfl) rfl fun a hK => ?_
     refine stepP hK 29 (.int .i64 (((i + 1) : Nat) : Int)) (by kernel_rfl) (run_addN (i := i) (j := 1) rfl rfl rfl (by omega)) fun a hK => ?_
     refine stepM hK 5 29 (by kernel_rfl) (.inr rfl) rfl fun a hK => ?_
     refine region_done hK [(5, .int .i64 (((i + 1) : Nat) : Int)), (40, .bool false), (27, .bool true), (22, .bool false), (4, .bool false), (3, pA b2 0), (2, pA b1 0), (0, vG p), (1, vG q)] ⟨rfl, rfl, rfl, rfl, rfl, rfl, rfl, rfl, rfl, trivial⟩ fun a hK => ?_
     have hRn : (i + 1) ≤ p.ds.length ∧ dcsSame (p.ds.drop (i + 1)) (q.ds.drop (i + 1)) = dcsSame p.ds q.ds := ⟨by omega, by have hs : dcSame t6 t7 = true := (by have h9 := h8; unfold dcSame; revert h9; cases (decide (t6.nm = t7.nm) && decide (t6.plain = t7.plain) && decide (t6.val = t7.val)) <;> decide); rw [← hR.2, dcsSame_step ht6 ht7, hs, Bool.true_and]⟩
     have hmn : p.ds.length - (i + 1) < p.ds.length - i := by omega
     exact ⟨i + 1, hK.sub ⟨rfl, rfl, rfl, rfl, rfl, rfl, rfl, trivial⟩, hM, hRn, hmn⟩
   ·refine stepP hK 27 (.bool false) (by kernel_rfl) (okBool (b := (decide ((((i : Nat) : Int) : Int) < ((p.ds.length : Nat) : Int)))) (by kernel_rfl) (decide_eq_false h5)) fun a hK => ?_
    refine region_done hK [(27, .bool false), (22, .bool false), (4, .bool false), (3, pA b2 0), (2, pA b1 0), (0, vG p), (1, vG q), (5, vN i)] ⟨rfl, rfl, rfl, rfl, rfl, rfl, rfl, rfl, trivial⟩ fun a hK => ?_
    refine wp_cond_false (hK.get rfl) ?_
    refine wp_exit (exit_then (exit_then (exit_here 0 ?_)))
    refine wp_seq ?_
    refine wp_seq ?_
    refine region_go (lst := [0]) (by kernel_rfl) ?_
    refine stepP hK 6 (.int .i64 0) (by kernel_rfl) (by kernel_rfl) fun a hK => ?_
    refine region_done hK [(6, .int .i64 0), (27, .bool false), (22, .bool false), (4, .bool false), (3, pA b2 0), (2, pA b1 0), (0, vG p), (1, vG q), (5, vN i)] ⟨rfl, rfl, rfl, rfl, rfl, rfl, rfl, rfl, rfl, trivial⟩ fun a hK => ?_
    refine wp_block ?_
    have hd : dcsSame p.ds q.ds = true := by rw [← hR.2, dcsSame_end (by omega)]
    refine wp_loopX (fun x : Nat => [(27, .bool false), (22, .bool false), (4, .bool false), (3, pA b2 0), (2, pA b1 0), (0, vG p), (1, vG q), (5, vN i), (6, vN x)]) (fun x : Nat => [.row b2 25 [.slice q.A1 q.ds.length q.c1, .slice q.A2 q.ts.length q.c2], .row b1 25 [.slice p.A1 p.ds.length p.c1, .slice p.A2 p.ts.length p.c2]]) (fun x : Nat => x ≤ p.ts.length ∧ thsSame (p.ts.drop x) (q.ts.drop x) = thsSame p.ts q.ts) (fun x : Nat => p.ts.length - x) 0 (hK.sub ⟨rfl, rfl, rfl, rfl, rfl, rfl, rfl, rfl, rfl, trivial⟩) hM ⟨Nat.zero_le _, rfl⟩ ?_
    rintro k a w hK hM hR
    replace hK : Knows a 60 [(27, .bool false), (22, .bool false), (4, .bool false), (3, pA b2 0), (2, pA b1 0), (0, vG p), (1, vG q), (5, vN i), (6, vN k)] := hK
    replace hM : Mem w0 w [.row b2 25 [.slice q.A1 q.ds.length q.c1, .slice q.A2 q.ts.length q.c2], .row b1 25 [.slice p.A1 p.ds.length p.c1, .slice p.A2 p.ts.length p.c2]] := hM
    replace hR : k ≤ p.ts.length ∧ thsSame (p.ts.drop k) (q.ts.drop k) = thsSame p.ts q.ts := hR
    refine wp_seq ?_
    refine wp_seq ?_
    refine region_go (lst := [0, 1, 2, 3, 4]) (by kernel_rfl) ?_
    refine stepM hK 41 6 (by kernel_rfl) (.inl rfl) rfl fun a hK => ?_
    refine stepP hK 42 (pA b1 1) (by kernel_rfl) (by kernel_rfl) fun a hK => ?_
    refine stepLoad hK 43 (.slice p.A2 p.ts.length p.c2) (by kernel_rfl) rfl rfl ((hM.row 1 rfl).cells 1 1) (by kernel_rfl) fun a hK => ?_
    refine stepP hK 44 (.int .i64 ((p.ts.length : Nat) : Int)) (by kernel_rfl) (by kernel_rfl) fun a hK => ?_
    by_cases h9 : (((k : Nat) : Int) : Int) < ((p.ts.length : Nat) : Int)
    ·refine stepP hK 45 (.bool true) (by kernel_rfl) (okBool (b := (decide ((((k : Nat) : Int) : Int) < ((p.ts.length : Nat) : Int)))) (by kernel_rfl) (decide_eq_true h9)) fun a hK => ?_
     refine region_done hK [(45, .bool true), (27, .bool false), (22, .bool false), (4, .bool false), (3, pA b2 0), (2, pA b1 0), (0, vG p), (1, vG q), (5, vN i), (6, vN k)] ⟨rfl, rfl, rfl, rfl, rfl, rfl, rfl, rfl, rfl, rfl, trivial⟩ fun a hK => ?_
     refine wp_cond_true (hK.get rfl) ?_
     refine wp_skip ?_
     refine wp_seq ?_
     refine wp_block ?_
     refine wp_seq ?_
     obtain ⟨t10, ht10⟩ : ∃ t, p.ts[(k : Nat)]? = some t := ⟨_, List.getElem?_eq_getElem (by omega)⟩
     obtain ⟨⟨at10, At10, ct10⟩, et10⟩ := hp.threads _ _ ht10; have nt10 := et10.2
     obtain ⟨t11, ht11⟩ : ∃ t, q.ts[(k : Nat)]? = some t := ⟨_, List.getElem?_eq_getElem (by omega)⟩
     obtain ⟨⟨at11, At11, ct11⟩, et11⟩ := hq.threads _ _ ht11; have nt11 := et11.2
     rcases Bool.eq_false_or_eq_true (smsEq t10.l t11.l) with h12 | h12
     ·refine region_any (F := fun w => Mem w0 w [.row b2 25 [.slice q.A1 q.ds.length q.c1, .slice q.A2 q.ts.length q.c2], .row b1 25 [.slice p.A1 p.ds.length p.c1, .slice p.A2 p.ts.length p.c2]]) hK [some (pA b1 1), some (.slice p.A2 p.ts.length p.c2), some (vN k), some (.pointer (some (at10.add (k * 1)))), some (.slice t10.A t10.l.length t10.c), some (pA b2 1), some (.slice q.A2 q.ts.length q.c2), some (vN k), some (.pointer (some (at11.add (k * 1)))), some (.slice t11.A t11.l.length t11.c), some (.bool true), some (.bool false)] 12 (fun _ _ hb hm => hm.go hb) hM (by kernel_rfl) (by kernel_rfl) ⟨⟨⟨⟨⟨⟨⟨⟨⟨⟨⟨⟨trivial, ?_⟩, ?_⟩, ?_⟩, ?_⟩, ?_⟩, ?_⟩, ?_⟩, ?_⟩, ?_⟩, ?_⟩, ?_⟩, ?_⟩ [(59, .bool false), (45, .bool true), (27, .bool false), (22, .bool false), (4, .bool false), (3, pA b2 0), (2, pA b1 0), (0, vG p), (1, vG q), (5, vN i), (6, vN k)] (by kernel_rfl) fun a w hK hM => ?_
      ·exact .val (pA b1 1) rfl (by kernel_rfl) (fun w hM => (by kernel_rfl))
      ·exact .val (.slice p.A2 p.ts.length p.c2) rfl (by kernel_rfl) (fun w hM => run_loadE rfl rfl ((hM.row 1 rfl).cells 1 1) (by kernel_rfl))
      ·exact .val (vN k) rfl (by kernel_rfl) (fun w hM => (by kernel_rfl))
      ·exact .val (.pointer (some (at10.add (k * 1)))) rfl (by kernel_rfl) (fun w hM => (run_ixA (k := k) (s := 1) rfl rfl At10 rfl Tryd.underlying23 (by kernel_rfl) (by omega)))
      ·exact .val (.slice t10.A t10.l.length t10.c) rfl (by kernel_rfl) (fun w hM => run_loadE rfl rfl ((ct10.on hM.below)) (by kernel_rfl))
      ·exact .val (pA b2 1) rfl (by kernel_rfl) (fun w hM => (by kernel_rfl))
      ·exact .val (.slice q.A2 q.ts.length q.c2) rfl (by kernel_rfl) (fun w hM => run_loadE rfl rfl ((hM.row 0 rfl).cells 1 1) (by kernel_rfl))
      ·exact .val (vN k) rfl (by kernel_rfl) (fun w hM => (by kernel_rfl))
      ·exact .val (.pointer (some (at11.add (k * 1)))) rfl (by kernel_rfl) (fun w hM => (run_ixA (k := k) (s := 1) rfl rfl At11 rfl Tryd.underlying23 (by kernel_rfl) (by omega)))
      ·exact .val (.slice t11.A t11.l.length t11.c) rfl (by kernel_rfl) (fun w hM => run_loadE rfl rfl ((ct11.on hM.below)) (by kernel_rfl))
      ·exact .call _ #[.slice t10.A t10.l.length t10.c, .slice t11.A t11.l.length t11.c] (.bool true) rfl (by kernel_rfl) (fun w => (run_callE en_cantileverkit_Stmts rfl rfl (by kernel_rfl))) (fun w hM => ret_eq (kit_Stmts t10.l t11.l _ _ _ _ _ (et10.1.on hM.below) (et11.1.on hM.below) (by omega) (by omega)) (congrArg Value.bool h12))
      ·exact .val (.bool false) rfl (by kernel_rfl) (fun w hM => (by kernel_rfl))
      refine wp_cond_false (hK.get rfl) ?_
      refine wp_skip ?_
      refine region_go (lst := [0, 1, 2]) (by kernel_rfl) ?_
      refine stepM hK 46 6 (by kernel_rfl) (.inl rfl) rfl fun a hK => ?_
      refine stepP hK 47 (.int .i64 (((k + 1) : Nat) : Int)) (by kernel_rfl) (run_addN (i := k) (j := 1) rfl rfl rfl (by omega)) fun a hK => ?_
      refine stepM hK 6 47 (by kernel_rfl) (.inr rfl) rfl fun a hK => ?_
      refine region_done hK [(6, .int .i64 (((k + 1) : Nat) : Int)), (59, .bool false), (45, .bool true), (27, .bool false), (22, .bool false), (4, .bool false), (3, pA b2 0), (2, pA b1 0), (0, vG p), (1, vG q), (5, vN i)] ⟨rfl, rfl, rfl, rfl, rfl, rfl, rfl, rfl, rfl, rfl, rfl, trivial⟩ fun a hK => ?_
      have hRn : (k + 1) ≤ p.ts.length ∧ thsSame (p.ts.drop (k + 1)) (q.ts.drop (k + 1)) = thsSame p.ts q.ts := ⟨by omega, by have hs : smsEq t10.l t11.l = true := (by have h9 := h12; simpa using h9); rw [← hR.2, thsSame_step ht10 ht11, hs, Bool.true_and]⟩
      have hmn : p.ts.length - (k + 1) < p.ts.length - k := by omega
      exact ⟨k + 1, hK.sub ⟨rfl, rfl, rfl, rfl, rfl, rfl, rfl, rfl, rfl, trivial⟩, hM, hRn, hmn⟩
     ·refine region_any (F := fun w => Mem w0 w [.row b2 25 [.slice q.A1 q.ds.length q.c1, .slice q.A2 q.ts.length q.c2], .row b1 25 [.slice p.A1 p.ds.length p.c1, .slice p.A2 p.ts.length p.c2]]) hK [some (pA b1 1), some (.slice p.A2 p.ts.length p.c2), some (vN k), some (.pointer (some (at10.add (k * 1)))), some (.slice t10.A t10.l.length t10.c), some (pA b2 1), some (.slice q.A2 q.ts.length q.c2), some (vN k), some (.pointer (some (at11.add (k * 1)))), some (.slice t11.A t11.l.length t11.c), some (.bool false), some (.bool true)] 12 (fun _ _ hb hm => hm.go hb) hM (by kernel_rfl) (by kernel_rfl) ⟨⟨⟨⟨⟨⟨⟨⟨⟨⟨⟨⟨trivial, ?_⟩, ?_⟩, ?_⟩, ?_⟩, ?_⟩, ?_⟩, ?_⟩, ?_⟩, ?_⟩, ?_⟩, ?_⟩, ?_⟩ [(59, .bool true), (45, .bool true), (27, .bool false), (22, .bool false), (4, .bool false), (3, pA b2 0), (2, pA b1 0), (0, vG p), (1, vG q), (5, vN i), (6, vN k)] (by kernel_rfl) fun a w hK hM => ?_
      ·exact .val (pA b1 1) rfl (by kernel_rfl) (fun w hM => (by kernel_rfl))
      ·exact .val (.slice p.A2 p.ts.length p.c2) rfl (by kernel_rfl) (fun w hM => run_loadE rfl rfl ((hM.row 1 rfl).cells 1 1) (by kernel_rfl))
      ·exact .val (vN k) rfl (by kernel_rfl) (fun w hM => (by kernel_rfl))
      ·exact .val (.pointer (some (at10.add (k * 1)))) rfl (by kernel_rfl) (fun w hM => (run_ixA (k := k) (s := 1) rfl rfl At10 rfl Tryd.underlying23 (by kernel_rfl) (by omega)))
      ·exact .val (.slice t10.A t10.l.length t10.c) rfl (by kernel_rfl) (fun w hM => run_loadE rfl rfl ((ct10.on hM.below)) (by kernel_rfl))
      ·exact .val (pA b2 1) rfl (by kernel_rfl) (fun w hM => (by kernel_rfl))
      ·exact .val (.slice q.A2 q.ts.length q.c2) rfl (by kernel_rfl) (fun w hM => run_loadE rfl rfl ((hM.row 0 rfl).cells 1 1) (by kernel_rfl))
      ·exact .val (vN k) rfl (by kernel_rfl) (fun w hM => (by kernel_rfl))
      ·exact .val (.pointer (some (at11.add (k * 1)))) rfl (by kernel_rfl) (fun w hM => (run_ixA (k := k) (s := 1) rfl rfl At11 rfl Tryd.underlying23 (by kernel_rfl) (by omega)))
      ·exact .val (.slice t11.A t11.l.length t11.c) rfl (by kernel_rfl) (fun w hM => run_loadE rfl rfl ((ct11.on hM.below)) (by kernel_rfl))
      ·exact .call _ #[.slice t10.A t10.l.length t10.c, .slice t11.A t11.l.length t11.c] (.bool false) rfl (by kernel_rfl) (fun w => (run_callE en_cantileverkit_Stmts rfl rfl (by kernel_rfl))) (fun w hM => ret_eq (kit_Stmts t10.l t11.l _ _ _ _ _ (et10.1.on hM.below) (et11.1.on hM.below) (by omega) (by omega)) (congrArg Value.bool h12))
      ·exact .val (.bool true) rfl (by kernel_rfl) (fun w hM => (by kernel_rfl))
      refine wp_cond_true (hK.get rfl) ?_
      refine wp_seq ?_
      refine region_go (lst := [0]) (by kernel_rfl) ?_
      refine stepP hK 4 (.bool false) (by kernel_rfl) (by kernel_rfl) fun a hK => ?_
      refine region_done hK [(4, .bool false), (59, .bool true), (45, .bool true), (27, .bool false), (22, .bool false), (3, pA b2 0), (2, pA b1 0), (0, vG p), (1, vG q), (5, vN i), (6, vN k)] ⟨rfl, rfl, rfl, rfl, rfl, rfl, rfl, rfl, rfl, rfl, rfl, trivial⟩ fun a hK => ?_
      refine wp_ret ?_
      exact ret_t hK rfl (u := (.bool false)) rfl (⟨by have hs : smsEq t10.l t11.l = false := (by have h9 := h12; simpa using h9); unfold pgSame thsEq; rw [hnt, ← hR.2, thsSame_step ht10 ht11, hs]; exact (Bool.and_false _).symm ▸ rfl, hM.below⟩)
    ·refine stepP hK 45 (.bool false) (by kernel_rfl) (okBool (b := (decide ((((k : Nat) : Int) : Int) < ((p.ts.length : Nat) : Int)))) (by kernel_rfl) (decide_eq_false h9)) fun a hK => ?_
     refine region_done hK [(45, .bool false), (27, .bool false), (22, .bool false), (4, .bool false), (3, pA b2 0), (2, pA b1 0), (0, vG p), (1, vG q), (5, vN i), (6, vN k)] ⟨rfl, rfl, rfl, rfl, rfl, rfl, rfl, rfl, rfl, rfl, trivial⟩ fun a hK => ?_
     refine wp_cond_false (hK.get rfl) ?_
     refine wp_exit (exit_then (exit_then (exit_here 2 ?_)))
     refine wp_seq ?_
     refine region_go (lst := [0]) (by kernel_rfl) ?_
     refine stepP hK 4 (.bool true) (by kernel_rfl) (by kernel_rfl) fun a hK => ?_
     refine region_done hK [(4, .bool true), (45, .bool false), (27, .bool false), (22, .bool false), (3, pA b2 0), (2, pA b1 0), (0, vG p), (1, vG q), (5, vN i), (6, vN k)] ⟨rfl, rfl, rfl, rfl, rfl, rfl, rfl, rfl, rfl, rfl, trivial⟩ fun a hK => ?_
     refine wp_ret ?_
     exact ret_t hK rfl (u := (.bool true)) rfl (⟨by unfold pgSame dcsEq thsEq; rw [hnd, hnt, hd, ← hR.2, thsSame_end (by omega)]; rfl, hM.below⟩)
end Go.Proofs.YtiigncmpbkfhmaaDoor
namespace Go.Proofs.YtiigncmpbkfhmaaDoor
open Go Go.RowKit
theorem smsSz_one {l : List Sm} {x : Sm} (h : x ∈ l) : x.sz ≤ smsSz l := by
 induction l with
 | nil => cases h
 | cons y r ih =>
  rcases List.mem_cons.1 h with rfl | h
  ·rw [smsSz]; omega
  ·have := ih h; rw [smsSz]; omega
theorem smsSz_th {l : List Sm} {x : Sm} (h : x ∈ l) : smsSz x.th ≤ smsSz l := by have h1 := smsSz_one h; have h2 := sm_sz x; omega
theorem smsSz_el {l : List Sm} {x : Sm} (h : x ∈ l) : smsSz x.el ≤ smsSz l := by have h1 := smsSz_one h; have h2 := sm_sz x; omega
theorem smsSz_es {l : List Sm} {x : Sm} (h : x ∈ l) : exsSz x.es ≤ smsSz l := by have h1 := smsSz_one h; have h2 := sm_sz x; omega
theorem smsSh_th {l : List Sm} (h : smsSh l = true) {x : Sm} (hx : x ∈ l) : smsSh x.th = true := (sm_sh (smsSh_mem h hx)).2.2.2.1
theorem smsSh_el {l : List Sm} (h : smsSh l = true) {x : Sm} (hx : x ∈ l) : smsSh x.el = true := (sm_sh (smsSh_mem h hx)).2.2.2.2
set_option maxRecDepth 100000 in
set_option maxHeartbeats 4000000 in
theorem ast_copyStmts (l : List Sm) : smsSh l = true → smsSz l ≤ 1000000 → ∀ (A : Option Addr) (c : Nat) (w0 : World), SmsAt w0 A l → Calls Tryd.prog 50 #[.slice A l.length c] w0 (GivesSs w0 l) := by
 induction l using sms_rec
 rename_i l ih
 intro hsh hsz A c w0 hl
 have hln := smsSz_len l
 refine calls_K (args := [.slice A l.length c]) (n := 5) (env := [(0, .slice A l.length c)]) Tryd.func50 rfl rfl rfl ⟨rfl, trivial⟩ fun a w hK hM => ?_
 refine wp_seq ?_
 refine region_go (lst := [0]) (by kernel_rfl) ?_
 refine stepP hK 2 (.slice none 0 0) (by kernel_rfl) (by kernel_rfl) fun a hK => ?_
 refine region_done hK [(2, .slice none 0 0), (0, .slice A l.length c)] ⟨rfl, rfl, trivial⟩ fun a hK => ?_
 refine wp_seq ?_
 refine region_go (lst := [0, 1, 2]) (by kernel_rfl) ?_
 refine stepM hK 3 0 (by kernel_rfl) (.inl rfl) rfl fun a hK => ?_
 refine stepCall hK hM 4 #[.slice A l.length c, .func (.func 76) #[] #[]] (by kernel_rfl) (run_callE en_each_Stmt rfl rfl (by kernel_rfl)) (ast_eachSm l (fun x hx w1 h1 => ast_copyStmt0 x (fun A c w2 h2 h3 => (ih x hx).1 (smsSh_th hsh hx) (by have h8 := smsSz_th hx; omega) A c w2 h2) (fun A c w2 h2 h3 => (ih x hx).2 (smsSh_el hsh hx) (by have h8 := smsSz_el hx; omega) A c w2 h2) w1 h1 (smsSh_mem hsh hx) (by have h8 := smsSz_es hx; omega) (by have h8 := smsSz_th hx; have h9 := smsSz_len x.th; omega) (by have h8 := smsSz_el hx; have h9 := smsSz_len x.el; omega)) _ _ _ (hl.on hM.below) (by omega)) ?_
 rintro ⟨K1, A1, c1, G1⟩ a w ⟨hq1, hi1, hr1⟩ hK hM
 replace hM := (Mem.comm hM).to (G1) (by kernel_rfl)
 refine stepM hK 2 4 (by kernel_rfl) (.inr rfl) rfl fun a hK => ?_
 refine region_done hK [(2, .slice A1 K1.length c1), (0, .slice A l.length c)] ⟨rfl, rfl, trivial⟩ fun a hK => ?_
 refine wp_ret ?_
 exact ret_t hK rfl (u := (.slice A1 K1.length c1)) rfl (⟨(K1, A1, c1, G1), rfl, hM.drop 0, hq1, hi1, hr1⟩)
theorem en_ast_copyDecl : Enters Tryd.prog 48 := enters_of Tryd.func48 (by kernel_rfl) rfl
theorem en_ast_Copy : Enters Tryd.prog 19 := enters_of Tryd.func19 (by kernel_rfl) rfl
theorem en_each_Decl : Enters Tryd.prog 47 := enters_of Tryd.func47 (by kernel_rfl) rfl
theorem en_each_Thread : Enters Tryd.prog 49 := enters_of Tryd.func49 (by kernel_rfl) rfl
set_option maxRecDepth 100000 in
set_option maxHeartbeats 4000000 in
theorem ast_copyDecl (d : Dc) (w0 : World) (hln : d.nm.length ≤ 65536) : Calls Tryd.prog 48 #[.agg #[Str d.nm, .bool d.plain, .int .i64 d.val]] w0 (Ret w0 (.agg #[Str d.nm, .bool d.plain, .int .i64 d.val])) := by
 refine calls_K (args := [.agg #[Str d.nm, .bool d.plain, .int .i64 d.val]]) (n := 8) (env := [(0, .agg #[Str d.nm, .bool d.plain, .int .i64 d.val])]) Tryd.func48 rfl rfl rfl ⟨rfl, trivial⟩ fun a w hK hM => ?_
 refine wp_seq ?_
 refine region_go (lst := [0, 1]) (by kernel_rfl) ?_
 refine stepAlloc hK hM 1 45 [Str d.nm, .bool d.plain, .int .i64 d.val] (fun b => pA b 0) (by kernel_rfl) (by kernel_rfl) fun b1 a w hK hM => ?_
 refine stepAlloc hK hM 2 45 [Str [], .bool false, .int .i64 0] (fun b => pA b 0) (by kernel_rfl) (by kernel_rfl) fun b2 a w hK hM => ?_
 refine region_done hK [(2, pA b2 0), (1, pA b1 0), (0, .agg #[Str d.nm, .bool d.plain, .int .i64 d.val])] ⟨rfl, rfl, rfl, trivial⟩ fun a hK => ?_
 refine wp_seq ?_
 refine region_go (lst := [0, 1, 2, 3, 4]) (by kernel_rfl) ?_
 refine stepP hK 3 (pA b1 0) (by kernel_rfl) (by kernel_rfl) fun a hK => ?_
 refine stepLoad hK 4 (Str d.nm) (by kernel_rfl) rfl rfl ((hM.row 1 rfl).cells 0 1) (by kernel_rfl) fun a hK => ?_
 refine stepRet hK hM 5 #[Str d.nm] (Str d.nm) (by kernel_rfl) (run_callE en_strings_Clone rfl rfl (by kernel_rfl)) (lib_Clone d.nm _ (by omega)) fun a w hK hM => ?_
 refine stepP hK 6 (pA b1 0) (by kernel_rfl) (by kernel_rfl) fun a hK => ?_
 refine stepStore hK hM 1 [Str d.nm, .bool d.plain, .int .i64 d.val] (by kernel_rfl) rfl rfl rfl rfl (by kernel_rfl) fun w hM => ?_
 replace hM := hM.to [.row b2 45 [Str [], .bool false, .int .i64 0], .row b1 45 [Str d.nm, .bool d.plain, .int .i64 d.val]] (by kernel_rfl)
 refine region_done hK [(2, pA b2 0), (1, pA b1 0), (0, .agg #[Str d.nm, .bool d.plain, .int .i64 d.val])] ⟨rfl, rfl, rfl, trivial⟩ fun a hK => ?_
 refine wp_seq ?_
 refine region_go (lst := [0, 1]) (by kernel_rfl) ?_
 refine stepLoad hK 7 (.agg #[Str d.nm, .bool d.plain, .int .i64 d.val]) (by kernel_rfl) rfl rfl ((hM.row 1 rfl).cells 0 3) (by kernel_rfl) fun a hK => ?_
 refine stepStore hK hM 0 [Str d.nm, .bool d.plain, .int .i64 d.val] (by kernel_rfl) rfl rfl rfl rfl (by kernel_rfl) fun w hM => ?_
 replace hM := hM.to [.row b2 45 [Str d.nm, .bool d.plain, .int .i64 d.val], .row b1 45 [Str d.nm, .bool d.plain, .int .i64 d.val]] (by kernel_rfl)
 refine region_done hK [(2, pA b2 0), (1, pA b1 0), (0, .agg #[Str d.nm, .bool d.plain, .int .i64 d.val])] ⟨rfl, rfl, rfl, trivial⟩ fun a hK => ?_
 refine wp_ret ?_
 exact ret_c hK rfl rfl ((hM.row 0 rfl).cells 0 3) (u := (.agg #[Str d.nm, .bool d.plain, .int .i64 d.val])) (by kernel_rfl) (⟨rfl, hM.below⟩)
theorem dcs_none {w : World} {A : Option Addr} {l : List Dc} (h : DcsAt w A l) (hA : A.isNone = true) : l = [] := by
 cases l with
 | nil => rfl
 | cons x r => obtain ⟨⟨a, e, _⟩, _⟩ := h 0 x rfl; rw [e] at hA; simp at hA
theorem ths_none {w : World} {A : Option Addr} {l : List Th} (h : ThsAt w A l) (hA : A.isNone = true) : l = [] := by
 cases l with
 | nil => rfl
 | cons x r => obtain ⟨⟨a, e, _⟩, _⟩ := h 0 x rfl; rw [e] at hA; simp at hA
set_option maxRecDepth 100000 in
set_option maxHeartbeats 4000000 in
theorem ast_eachD (l : List Dc) : ∀ (A : Option Addr) (c : Nat) (w0 : World), DcsAt w0 A l → (∀ x ∈ l, x.nm.length ≤ 65536) → l.length ≤ 1000000 → Calls Tryd.prog 47 #[.slice A l.length c, .func (.func 48) #[] #[]] w0 (Gives w0 (fun x : Option Addr × Nat × List It => (.slice x.1 l.length x.2.1 : Value)) (fun x => x.2.2) fun x => RowIn x.2.2 45 x.1 (l.flatMap cD)) := by
 intro A c w0 hl hs hln
 refine calls_K (args := [.slice A l.length c, .func (.func 48) #[] #[]]) (n := 28) (env := [(0, .slice A l.length c), (1, .func (.func 48) #[] #[])]) Tryd.func47 rfl rfl rfl ⟨rfl, rfl, trivial⟩ fun a w hK hM => ?_
 refine wp_seq ?_
 refine region_go (lst := [0]) (by kernel_rfl) ?_
 refine stepP hK 4 (.slice none 0 0) (by kernel_rfl) (by kernel_rfl) fun a hK => ?_
 refine region_done hK [(4, .slice none 0 0), (0, .slice A l.length c), (1, .func (.func 48) #[] #[])] ⟨rfl, rfl, rfl, trivial⟩ fun a hK => ?_
 refine wp_seq ?_
 refine wp_seq ?_
 refine region_go (lst := [0, 1]) (by kernel_rfl) ?_
 refine stepM hK 8 0 (by kernel_rfl) (.inl rfl) rfl fun a hK => ?_
 rcases Bool.eq_false_or_eq_true (A).isNone with h1 | h1
 ·refine stepP hK 9 (.bool true) (by kernel_rfl) (okBool (b := (A).isNone) (run_eqNil rfl rfl rfl Tryd.underlying22) h1) fun a hK => ?_
  refine region_done hK [(9, .bool true), (4, .slice none 0 0), (0, .slice A l.length c), (1, .func (.func 48) #[] #[])] ⟨rfl, rfl, rfl, rfl, trivial⟩ fun a hK => ?_
  refine wp_cond_true (hK.get rfl) ?_
  refine wp_seq ?_
  refine region_go (lst := [0]) (by kernel_rfl) ?_
  refine stepP hK 4 (.slice none 0 0) (by kernel_rfl) (by kernel_rfl) fun a hK => ?_
  refine region_done hK [(4, .slice none 0 0), (9, .bool true), (0, .slice A l.length c), (1, .func (.func 48) #[] #[])] ⟨rfl, rfl, rfl, rfl, trivial⟩ fun a hK => ?_
  refine wp_ret ?_
  exact ret_t hK rfl (u := (.slice none 0 0)) rfl (⟨(none, 0, []), by rw [dcs_none hl h1]; rfl, hM, .inl (by rw [dcs_none hl h1]; rfl)⟩)
 ·refine stepP hK 9 (.bool false) (by kernel_rfl) (okBool (b := (A).isNone) (run_eqNil rfl rfl rfl Tryd.underlying22) h1) fun a hK => ?_
  refine region_done hK [(9, .bool false), (4, .slice none 0 0), (0, .slice A l.length c), (1, .func (.func 48) #[] #[])] ⟨rfl, rfl, rfl, rfl, trivial⟩ fun a hK => ?_
  refine wp_cond_false (hK.get rfl) ?_
  refine wp_skip ?_
  refine wp_seq ?_
  refine region_go (lst := [0, 1, 2, 3]) (by kernel_rfl) ?_
  refine stepM hK 10 0 (by kernel_rfl) (.inl rfl) rfl fun a hK => ?_
  refine stepP hK 11 (.int .i64 ((l.length : Nat) : Int)) (by kernel_rfl) (by kernel_rfl) fun a hK => ?_
  refine stepMake hK hM 12 [Str [], .bool false, .int .i64 0] l.length 32 Tryd.underlying22 (by kernel_rfl) (by kernel_rfl) rfl rfl rfl (by omega) fun b2 a w hK hM => ?_
  refine stepM hK 5 12 (by kernel_rfl) (.inr rfl) rfl fun a hK => ?_
  refine region_done hK [(5, .slice (some ⟨b2, 0, none⟩) l.length l.length), (9, .bool false), (4, .slice none 0 0), (0, .slice A l.length c), (1, .func (.func 48) #[] #[])] ⟨rfl, rfl, rfl, rfl, rfl, trivial⟩ fun a hK => ?_
  refine wp_seq ?_
  refine wp_seq ?_
  refine region_go (lst := [0, 1, 2]) (by kernel_rfl) ?_
  refine stepM hK 13 0 (by kernel_rfl) (.inl rfl) rfl fun a hK => ?_
  refine stepP hK 14 (.int .i64 ((l.length : Nat) : Int)) (by kernel_rfl) (by kernel_rfl) fun a hK => ?_
  refine stepP hK 15 (.int .i64 0) (by kernel_rfl) (by kernel_rfl) fun a hK => ?_
  refine region_done hK [(15, .int .i64 0), (14, .int .i64 ((l.length : Nat) : Int)), (13, .slice A l.length c), (5, .slice (some ⟨b2, 0, none⟩) l.length l.length), (9, .bool false), (4, .slice none 0 0), (0, .slice A l.length c), (1, .func (.func 48) #[] #[])] ⟨rfl, rfl, rfl, rfl, rfl, rfl, rfl, rfl, trivial⟩ fun a hK => ?_
  refine wp_block ?_
  refine wp_loopX (fun x : Nat => [(14, .int .i64 ((l.length : Nat) : Int)), (13, .slice A l.length c), (5, .slice (some ⟨b2, 0, none⟩) l.length l.length), (9, .bool false), (4, .slice none 0 0), (0, .slice A l.length c), (1, .func (.func 48) #[] #[]), (15, vN x)]) (fun x : Nat => [.row b2 45 ((l.take x).flatMap cD ++ zerosL (l.length - x) [Str [], .bool false, .int .i64 0])]) (fun x : Nat => x ≤ l.length) (fun x : Nat => l.length - x) 0 (hK.sub ⟨rfl, rfl, rfl, rfl, rfl, rfl, rfl, rfl, trivial⟩) hM (Nat.zero_le _) ?_
  rintro i a w hK hM hR
  replace hK : Knows a 28 [(14, .int .i64 ((l.length : Nat) : Int)), (13, .slice A l.length c), (5, .slice (some ⟨b2, 0, none⟩) l.length l.length), (9, .bool false), (4, .slice none 0 0), (0, .slice A l.length c), (1, .func (.func 48) #[] #[]), (15, vN i)] := hK
  replace hM : Mem w0 w [.row b2 45 ((l.take i).flatMap cD ++ zerosL (l.length - i) [Str [], .bool false, .int .i64 0])] := hM
  replace hR : i ≤ l.length := hR
  refine wp_seq ?_
  refine region_go (lst := [0]) (by kernel_rfl) ?_
  by_cases h3 : (((i : Nat) : Int) : Int) < ((l.length : Nat) : Int)
  ·refine stepP hK 16 (.bool true) (by kernel_rfl) (okBool (b := (decide ((((i : Nat) : Int) : Int) < ((l.length : Nat) : Int)))) (by kernel_rfl) (decide_eq_true h3)) fun a hK => ?_
   refine region_done hK [(16, .bool true), (14, .int .i64 ((l.length : Nat) : Int)), (13, .slice A l.length c), (5, .slice (some ⟨b2, 0, none⟩) l.length l.length), (9, .bool false), (4, .slice none 0 0), (0, .slice A l.length c), (1, .func (.func 48) #[] #[]), (15, vN i)] ⟨rfl, rfl, rfl, rfl, rfl, rfl, rfl, rfl, rfl, trivial⟩ fun a hK => ?_
   refine wp_seq ?_
   refine wp_cond_true (hK.get rfl) ?_
   refine wp_skip ?_
   refine wp_seq ?_
   refine wp_block ?_
   refine wp_seq ?_
   refine region_go (lst := [0, 1, 2, 3, 4, 5]) (by kernel_rfl) ?_
   refine stepM hK 17 15 (by kernel_rfl) (.inl rfl) rfl fun a hK => ?_
   obtain ⟨t4, ht4⟩ : ∃ t, l[(i : Nat)]? = some t := ⟨_, List.getElem?_eq_getElem (by omega)⟩
   obtain ⟨⟨at4, At4, ct4⟩, et4⟩ := hl _ _ ht4; have nt4 := et4
   refine stepP hK 18 (.pointer (some (at4.add (i * 3)))) (by kernel_rfl) (run_ixA (k := i) (s := 3) rfl rfl At4 rfl Tryd.underlying22 (by kernel_rfl) (by omega)) fun a hK => ?_
   refine stepLoad hK 19 (.agg #[Str t4.nm, .bool t4.plain, .int .i64 t4.val]) (by kernel_rfl) rfl rfl ((ct4.on hM.below)) (by kernel_rfl) fun a hK => ?_
   refine stepAlloc hK hM 7 45 [Str [], .bool false, .int .i64 0] (fun b => pA b 0) (by kernel_rfl) (by kernel_rfl) fun b5 a w hK hM => ?_
   refine stepM hK 6 17 (by kernel_rfl) (.inr rfl) rfl fun a hK => ?_
   refine stepStore hK hM 0 [Str t4.nm, .bool t4.plain, .int .i64 t4.val] (by kernel_rfl) rfl rfl rfl rfl (by kernel_rfl) fun w hM => ?_
   replace hM := hM.to [.row b5 45 [Str t4.nm, .bool t4.plain, .int .i64 t4.val], .row b2 45 ((l.take i).flatMap cD ++ zerosL (l.length - i) [Str [], .bool false, .int .i64 0])] (by kernel_rfl)
   refine region_done hK [(6, vN i), (7, pA b5 0), (16, .bool true), (14, .int .i64 ((l.length : Nat) : Int)), (13, .slice A l.length c), (5, .slice (some ⟨b2, 0, none⟩) l.length l.length), (9, .bool false), (4, .slice none 0 0), (0, .slice A l.length c), (1, .func (.func 48) #[] #[]), (15, vN i)] ⟨rfl, rfl, rfl, rfl, rfl, rfl, rfl, rfl, rfl, rfl, rfl, trivial⟩ fun a hK => ?_
   refine region_go (lst := [0, 1, 2, 3, 4, 5, 6]) (by kernel_rfl) ?_
   refine stepM hK 20 5 (by kernel_rfl) (.inl rfl) rfl fun a hK => ?_
   refine stepM hK 21 6 (by kernel_rfl) (.inl rfl) rfl fun a hK => ?_
   refine stepM hK 22 1 (by kernel_rfl) (.inl rfl) rfl fun a hK => ?_
   refine stepLoad hK 23 (.agg #[Str t4.nm, .bool t4.plain, .int .i64 t4.val]) (by kernel_rfl) rfl rfl ((hM.row 0 rfl).cells 0 3) (by kernel_rfl) fun a hK => ?_
   refine stepRet hK hM 24 #[.agg #[Str t4.nm, .bool t4.plain, .int .i64 t4.val]] (.agg #[Str t4.nm, .bool t4.plain, .int .i64 t4.val]) (by kernel_rfl) (run_callE en_ast_copyDecl rfl rfl (by kernel_rfl)) (ast_copyDecl t4 _ (hs _ (List.mem_of_getElem? ht4))) fun a w hK hM => ?_
   refine stepP hK 25 (.pointer (some ⟨b2, i * 3, none⟩)) (by kernel_rfl) (run_ixG (k := i) (s := 3) rfl rfl rfl Tryd.underlying22 (by kernel_rfl) (by omega)) fun a hK => ?_
   refine stepStoreAt hK hM 1 [Str t4.nm, .bool t4.plain, .int .i64 t4.val] (((l.take (i + 1)).flatMap cD ++ zerosL (l.length - (i + 1)) [Str [], .bool false, .int .i64 0])) (by kernel_rfl) rfl rfl rfl rfl (by kernel_rfl) rfl rfl (by rw [List.length_append, flat_len (s := 3) (fun _ => rfl), List.length_take, zerosL_length]; simp only [List.length_cons, List.length_nil]; omega) ((put_next (A := (l.take i).flatMap cD) (new := cD t4) (zs := [Str [], .bool false, .int .i64 0]) (m := l.length - i) (k := i * 3) (by rw [flat_len (s := 3) (fun _ => rfl), List.length_take]; congr 1; omega) rfl (by omega)).trans (by rw [List.take_add_one, ht4, List.flatMap_append]; simp [Nat.sub_sub])) fun w hM => ?_
   replace hM := hM.to ([.row b5 45 [Str t4.nm, .bool t4.plain, .int .i64 t4.val], .row b2 45 (((l.take (i + 1)).flatMap cD ++ zerosL (l.length - (i + 1)) [Str [], .bool false, .int .i64 0]))]) (by kernel_rfl)
   refine region_done hK [(6, vN i), (7, pA b5 0), (16, .bool true), (14, .int .i64 ((l.length : Nat) : Int)), (13, .slice A l.length c), (5, .slice (some ⟨b2, 0, none⟩) l.length l.length), (9, .bool false), (4, .slice none 0 0), (0, .slice A l.length c), (1, .func (.func 48) #[] #[]), (15, vN i)] ⟨rfl, rfl, rfl, rfl, rfl, rfl, rfl, rfl, rfl, rfl, rfl, trivial⟩ fun a hK => ?_
   refine region_go (lst := [0, 1]) (by kernel_rfl) ?_
   refine stepP hK 26 (.int .i64 (((i + 1) : Nat) : Int)) (by kernel_rfl) (run_addN (i := i) (j := 1) rfl rfl rfl (by omega)) fun a hK => ?_
   refine stepM hK 15 26 (by kernel_rfl) (.inl rfl) rfl fun a hK => ?_
   refine region_done hK [(15, .int .i64 (((i + 1) : Nat) : Int)), (6, vN i), (7, pA b5 0), (16, .bool true), (14, .int .i64 ((l.length : Nat) : Int)), (13, .slice A l.length c), (5, .slice (some ⟨b2, 0, none⟩) l.length l.length), (9, .bool false), (4, .slice none 0 0), (0, .slice A l.length c), (1, .func (.func 48) #[] #[])] ⟨rfl, rfl, rfl, rfl, rfl, rfl, rfl, rfl, rfl, rfl, rfl, trivial⟩ fun a hK => ?_
   have hRn : (i + 1) ≤ l.length := by omega
   have hmn : l.length - (i + 1) < l.length - i := by omega
   exact ⟨i + 1, hK.sub ⟨rfl, rfl, rfl, rfl, rfl, rfl, rfl, rfl, trivial⟩, (hM.drop 1), hRn, hmn⟩
  ·refine stepP hK 16 (.bool false) (by kernel_rfl) (okBool (b := (decide ((((i : Nat) : Int) : Int) < ((l.length : Nat) : Int)))) (by kernel_rfl) (decide_eq_false h3)) fun a hK => ?_
   refine region_done hK [(16, .bool false), (14, .int .i64 ((l.length : Nat) : Int)), (13, .slice A l.length c), (5, .slice (some ⟨b2, 0, none⟩) l.length l.length), (9, .bool false), (4, .slice none 0 0), (0, .slice A l.length c), (1, .func (.func 48) #[] #[]), (15, vN i)] ⟨rfl, rfl, rfl, rfl, rfl, rfl, rfl, rfl, rfl, trivial⟩ fun a hK => ?_
   refine wp_seq ?_
   refine wp_cond_false (hK.get rfl) ?_
   refine wp_exit (exit_then (exit_then (exit_here 0 ?_)))
   refine wp_seq ?_
   refine region_go (lst := [0, 1]) (by kernel_rfl) ?_
   refine stepM hK 27 5 (by kernel_rfl) (.inl rfl) rfl fun a hK => ?_
   refine stepM hK 4 27 (by kernel_rfl) (.inr rfl) rfl fun a hK => ?_
   refine region_done hK [(4, .slice (some ⟨b2, 0, none⟩) l.length l.length), (16, .bool false), (14, .int .i64 ((l.length : Nat) : Int)), (13, .slice A l.length c), (5, .slice (some ⟨b2, 0, none⟩) l.length l.length), (9, .bool false), (0, .slice A l.length c), (1, .func (.func 48) #[] #[]), (15, vN i)] ⟨rfl, rfl, rfl, rfl, rfl, rfl, rfl, rfl, rfl, trivial⟩ fun a hK => ?_
   refine wp_ret ?_
   exact ret_t hK rfl (u := (.slice (some ⟨b2, 0, none⟩) l.length l.length)) rfl (⟨(some ⟨b2, 0, none⟩, l.length, [.row b2 45 (l.flatMap cD)]), rfl, hM.to _ (by rw [List.take_of_length_le (by omega), Nat.sub_eq_zero_of_le (by omega)]; simp [zerosL]), .inr ⟨b2, rfl, List.mem_cons_self⟩⟩)
structure ThRows (F : List It) (t : Th) : Prop where
 row : RowIn F 30 t.A (t.l.flatMap cS)
 each : ∀ s ∈ t.l, SmRows F s
 len : t.l.length ≤ 9223372036854775807
theorem ThRows.mono {F G : List It} {t : Th} (h : ThRows F t) (hs : ∀ it ∈ F, it ∈ G) : ThRows G t := ⟨h.row.mono hs, fun s h2 => (h.each s h2).mono hs, h.len⟩
def samePtsT (done l : List Th) : Prop := ∀ (k : Nat) (u v : Th), done[k]? = some u → l[k]? = some v → smsEq u.l v.l = true
theorem samePtsT_all : ∀ {done l : List Th}, samePtsT done l → thsSame done l = true := by
 intro done
 induction done with
 | nil => intro l _; unfold thsSame; rfl
 | cons x r ih =>
  intro l h
  cases l with
  | nil => unfold thsSame; rfl
  | cons y s => rw [thsSame, h 0 x y rfl rfl, ih (fun k u v hu hv => h (k + 1) u v (by simpa using hu) (by simpa using hv))]; rfl
theorem same_snocT {l done : List Th} {i : Nat} {e q : Th} (h : samePtsT done l) (hi : done.length = i) (hq : l[i]? = some q) (hs : smsEq e.l q.l = true) : samePtsT (done ++ [e]) l := by
 intro k x y hx hy
 rcases Nat.lt_or_ge k done.length with hk | hk
 ·rw [List.getElem?_append_left hk] at hx; exact h k x y hx hy
 ·rw [List.getElem?_append_right hk] at hx
  have hk2 : k = i := by
   have := (List.getElem?_eq_some_iff.1 hx).1
   simp at this; omega
  subst hk2
  rw [hi, Nat.sub_self] at hx
  obtain rfl : e = x := by simpa using hx
  rw [hq] at hy
  obtain rfl := Option.some.inj hy
  exact hs
set_option maxRecDepth 100000 in
set_option maxHeartbeats 4000000 in
theorem ast_eachT (l : List Th) : ∀ (A : Option Addr) (c : Nat) (w0 : World), ThsAt w0 A l → (∀ x ∈ l, smsSh x.l = true ∧ smsSz x.l ≤ 1000000) → l.length ≤ 1000000 → Calls Tryd.prog 49 #[.slice A l.length c, .func (.func 50) #[] #[]] w0 (Gives w0 (fun x : List Th × Option Addr × Nat × List It => (.slice x.2.1 x.1.length x.2.2.1 : Value)) (fun x => x.2.2.2) fun x => thsEq x.1 l = true ∧ RowIn x.2.2.2 28 x.2.1 (x.1.flatMap cT) ∧ ∀ y ∈ x.1, ThRows x.2.2.2 y) := by
 intro A c w0 hl hs hln
 refine calls_K (args := [.slice A l.length c, .func (.func 50) #[] #[]]) (n := 28) (env := [(0, .slice A l.length c), (1, .func (.func 50) #[] #[])]) Tryd.func49 rfl rfl rfl ⟨rfl, rfl, trivial⟩ fun a w hK hM => ?_
 refine wp_seq ?_
 refine region_go (lst := [0]) (by kernel_rfl) ?_
 refine stepP hK 4 (.slice none 0 0) (by kernel_rfl) (by kernel_rfl) fun a hK => ?_
 refine region_done hK [(4, .slice none 0 0), (0, .slice A l.length c), (1, .func (.func 50) #[] #[])] ⟨rfl, rfl, rfl, trivial⟩ fun a hK => ?_
 refine wp_seq ?_
 refine wp_seq ?_
 refine region_go (lst := [0, 1]) (by kernel_rfl) ?_
 refine stepM hK 8 0 (by kernel_rfl) (.inl rfl) rfl fun a hK => ?_
 rcases Bool.eq_false_or_eq_true (A).isNone with h1 | h1
 ·refine stepP hK 9 (.bool true) (by kernel_rfl) (okBool (b := (A).isNone) (run_eqNil rfl rfl rfl Tryd.underlying23) h1) fun a hK => ?_
  refine region_done hK [(9, .bool true), (4, .slice none 0 0), (0, .slice A l.length c), (1, .func (.func 50) #[] #[])] ⟨rfl, rfl, rfl, rfl, trivial⟩ fun a hK => ?_
  refine wp_cond_true (hK.get rfl) ?_
  refine wp_seq ?_
  refine region_go (lst := [0]) (by kernel_rfl) ?_
  refine stepP hK 4 (.slice none 0 0) (by kernel_rfl) (by kernel_rfl) fun a hK => ?_
  refine region_done hK [(4, .slice none 0 0), (9, .bool true), (0, .slice A l.length c), (1, .func (.func 50) #[] #[])] ⟨rfl, rfl, rfl, rfl, trivial⟩ fun a hK => ?_
  refine wp_ret ?_
  exact ret_t hK rfl (u := (.slice none 0 0)) rfl (⟨([], none, 0, []), rfl, hM, by rw [ths_none hl h1]; rfl, .inl rfl, fun y hy => by cases hy⟩)
 ·refine stepP hK 9 (.bool false) (by kernel_rfl) (okBool (b := (A).isNone) (run_eqNil rfl rfl rfl Tryd.underlying23) h1) fun a hK => ?_
  refine region_done hK [(9, .bool false), (4, .slice none 0 0), (0, .slice A l.length c), (1, .func (.func 50) #[] #[])] ⟨rfl, rfl, rfl, rfl, trivial⟩ fun a hK => ?_
  refine wp_cond_false (hK.get rfl) ?_
  refine wp_skip ?_
  refine wp_seq ?_
  refine region_go (lst := [0, 1, 2, 3]) (by kernel_rfl) ?_
  refine stepM hK 10 0 (by kernel_rfl) (.inl rfl) rfl fun a hK => ?_
  refine stepP hK 11 (.int .i64 ((l.length : Nat) : Int)) (by kernel_rfl) (by kernel_rfl) fun a hK => ?_
  refine stepMake hK hM 12 [.slice none 0 0] l.length 24 Tryd.underlying23 (by kernel_rfl) (by kernel_rfl) rfl rfl rfl (by omega) fun b2 a w hK hM => ?_
  refine stepM hK 5 12 (by kernel_rfl) (.inr rfl) rfl fun a hK => ?_
  refine region_done hK [(5, .slice (some ⟨b2, 0, none⟩) l.length l.length), (9, .bool false), (4, .slice none 0 0), (0, .slice A l.length c), (1, .func (.func 50) #[] #[])] ⟨rfl, rfl, rfl, rfl, rfl, trivial⟩ fun a hK => ?_
  refine wp_seq ?_
  refine wp_seq ?_
  refine region_go (lst := [0, 1, 2]) (by kernel_rfl) ?_
  refine stepM hK 13 0 (by kernel_rfl) (.inl rfl) rfl fun a hK => ?_
  refine stepP hK 14 (.int .i64 ((l.length : Nat) : Int)) (by kernel_rfl) (by kernel_rfl) fun a hK => ?_
  refine stepP hK 15 (.int .i64 0) (by kernel_rfl) (by kernel_rfl) fun a hK => ?_
  refine region_done hK [(15, .int .i64 0), (14, .int .i64 ((l.length : Nat) : Int)), (13, .slice A l.length c), (5, .slice (some ⟨b2, 0, none⟩) l.length l.length), (9, .bool false), (4, .slice none 0 0), (0, .slice A l.length c), (1, .func (.func 50) #[] #[])] ⟨rfl, rfl, rfl, rfl, rfl, rfl, rfl, rfl, trivial⟩ fun a hK => ?_
  refine wp_block ?_
  refine wp_loopX (fun x : Nat × (List Th) × (List It) => [(14, .int .i64 ((l.length : Nat) : Int)), (13, .slice A l.length c), (5, .slice (some ⟨b2, 0, none⟩) l.length l.length), (9, .bool false), (4, .slice none 0 0), (0, .slice A l.length c), (1, .func (.func 50) #[] #[]), (15, .int .i64 ((x.1 : Nat) : Int))]) (fun x : Nat × (List Th) × (List It) => (.row b2 28 (x.2.1.flatMap cT ++ zerosL (l.length - x.1) [.slice none 0 0]) :: x.2.2)) (fun x : Nat × (List Th) × (List It) => x.1 ≤ l.length ∧ x.2.1.length = x.1 ∧ samePtsT x.2.1 l ∧ ∀ u ∈ x.2.1, ThRows x.2.2 u) (fun x : Nat × (List Th) × (List It) => l.length - x.1) (0, [], []) (hK.sub ⟨rfl, rfl, rfl, rfl, rfl, rfl, rfl, rfl, trivial⟩) hM ⟨Nat.zero_le _, rfl, fun k x y hx => by simp at hx, fun x hx => by simp at hx⟩ ?_
  rintro ⟨i, done, F⟩ a w hK hM hR
  replace hK : Knows a 28 [(14, .int .i64 ((l.length : Nat) : Int)), (13, .slice A l.length c), (5, .slice (some ⟨b2, 0, none⟩) l.length l.length), (9, .bool false), (4, .slice none 0 0), (0, .slice A l.length c), (1, .func (.func 50) #[] #[]), (15, vN i)] := hK
  replace hM : Mem w0 w (.row b2 28 (done.flatMap cT ++ zerosL (l.length - i) [.slice none 0 0]) :: F) := hM
  replace hR : i ≤ l.length ∧ done.length = i ∧ samePtsT done l ∧ ∀ u ∈ done, ThRows F u := hR
  refine wp_seq ?_
  refine region_go (lst := [0]) (by kernel_rfl) ?_
  by_cases h3 : (((i : Nat) : Int) : Int) < ((l.length : Nat) : Int)
  ·refine stepP hK 16 (.bool true) (by kernel_rfl) (okBool (b := (decide ((((i : Nat) : Int) : Int) < ((l.length : Nat) : Int)))) (by kernel_rfl) (decide_eq_true h3)) fun a hK => ?_
   refine region_done hK [(16, .bool true), (14, .int .i64 ((l.length : Nat) : Int)), (13, .slice A l.length c), (5, .slice (some ⟨b2, 0, none⟩) l.length l.length), (9, .bool false), (4, .slice none 0 0), (0, .slice A l.length c), (1, .func (.func 50) #[] #[]), (15, vN i)] ⟨rfl, rfl, rfl, rfl, rfl, rfl, rfl, rfl, rfl, trivial⟩ fun a hK => ?_
   refine wp_seq ?_
   refine wp_cond_true (hK.get rfl) ?_
   refine wp_skip ?_
   refine wp_seq ?_
   refine wp_block ?_
   refine wp_seq ?_
   refine region_go (lst := [0, 1, 2, 3, 4]) (by kernel_rfl) ?_
   refine stepM hK 17 15 (by kernel_rfl) (.inl rfl) rfl fun a hK => ?_
   obtain ⟨t4, ht4⟩ : ∃ t, l[(i : Nat)]? = some t := ⟨_, List.getElem?_eq_getElem (by omega)⟩
   obtain ⟨⟨at4, At4, ct4⟩, et4⟩ := hl _ _ ht4; have nt4 := et4.2
   refine stepP hK 18 (.pointer (some (at4.add (i * 1)))) (by kernel_rfl) (run_ixA (k := i) (s := 1) rfl rfl At4 rfl Tryd.underlying23 (by kernel_rfl) (by omega)) fun a hK => ?_
   refine stepLoad hK 19 (.slice t4.A t4.l.length t4.c) (by kernel_rfl) rfl rfl ((ct4.on hM.below)) (by kernel_rfl) fun a hK => ?_
   refine stepM hK 6 17 (by kernel_rfl) (.inr rfl) rfl fun a hK => ?_
   refine stepM hK 7 19 (by kernel_rfl) (.inr rfl) rfl fun a hK => ?_
   refine region_done hK [(7, .slice t4.A t4.l.length t4.c), (6, vN i), (16, .bool true), (14, .int .i64 ((l.length : Nat) : Int)), (13, .slice A l.length c), (5, .slice (some ⟨b2, 0, none⟩) l.length l.length), (9, .bool false), (4, .slice none 0 0), (0, .slice A l.length c), (1, .func (.func 50) #[] #[]), (15, vN i)] ⟨rfl, rfl, rfl, rfl, rfl, rfl, rfl, rfl, rfl, rfl, rfl, trivial⟩ fun a hK => ?_
   refine region_go (lst := [0, 1, 2, 3, 4, 5, 6]) (by kernel_rfl) ?_
   refine stepM hK 20 5 (by kernel_rfl) (.inl rfl) rfl fun a hK => ?_
   refine stepM hK 21 6 (by kernel_rfl) (.inl rfl) rfl fun a hK => ?_
   refine stepM hK 22 1 (by kernel_rfl) (.inl rfl) rfl fun a hK => ?_
   refine stepM hK 23 7 (by kernel_rfl) (.inl rfl) rfl fun a hK => ?_
   refine stepCall hK hM 24 #[.slice t4.A t4.l.length t4.c] (by kernel_rfl) (run_callE en_ast_copyStmts rfl rfl (by kernel_rfl)) (ast_copyStmts t4.l (hs _ (List.mem_of_getElem? ht4)).1 (hs _ (List.mem_of_getElem? ht4)).2 _ _ _ (et4.1.on hM.below)) ?_
   rintro ⟨K5, A5, c5, G5⟩ a w ⟨hq5, hi5, hr5⟩ hK hM
   replace hM := (Mem.comm hM).to ((.row b2 28 (done.flatMap cT ++ zerosL (l.length - i) [.slice none 0 0]) :: (F ++ G5))) (by kernel_rfl)
   refine stepP hK 25 (.pointer (some ⟨b2, i * 1, none⟩)) (by kernel_rfl) (run_ixG (k := i) (s := 1) rfl rfl rfl Tryd.underlying23 (by kernel_rfl) (by omega)) fun a hK => ?_
   refine stepStoreAt hK hM 0 [.slice A5 K5.length c5] (((done ++ [(⟨A5, c5, K5⟩ : Th)]).flatMap cT ++ zerosL (l.length - (i + 1)) [.slice none 0 0])) (by kernel_rfl) rfl rfl rfl rfl (by kernel_rfl) rfl rfl (by rw [List.length_append, flat_len (s := 1) (fun _ => rfl), zerosL_length, hR.2.1]; simp only [List.length_cons, List.length_nil]; omega) ((put_next (A := done.flatMap cT) (new := cT (⟨A5, c5, K5⟩ : Th)) (zs := [.slice none 0 0]) (m := l.length - i) (k := i * 1) (by rw [flat_len (s := 1) (fun _ => rfl), hR.2.1]) rfl (by omega)).trans (by rw [List.flatMap_append]; simp [Nat.sub_sub])) fun w hM => ?_
   replace hM := hM.to ((.row b2 28 (((done ++ [(⟨A5, c5, K5⟩ : Th)]).flatMap cT ++ zerosL (l.length - (i + 1)) [.slice none 0 0])) :: (F ++ G5))) (by kernel_rfl)
   refine region_done hK [(7, .slice t4.A t4.l.length t4.c), (6, vN i), (16, .bool true), (14, .int .i64 ((l.length : Nat) : Int)), (13, .slice A l.length c), (5, .slice (some ⟨b2, 0, none⟩) l.length l.length), (9, .bool false), (4, .slice none 0 0), (0, .slice A l.length c), (1, .func (.func 50) #[] #[]), (15, vN i)] ⟨rfl, rfl, rfl, rfl, rfl, rfl, rfl, rfl, rfl, rfl, rfl, trivial⟩ fun a hK => ?_
   refine region_go (lst := [0, 1]) (by kernel_rfl) ?_
   refine stepP hK 26 (.int .i64 (((i + 1) : Nat) : Int)) (by kernel_rfl) (run_addN (i := i) (j := 1) rfl rfl rfl (by omega)) fun a hK => ?_
   refine stepM hK 15 26 (by kernel_rfl) (.inl rfl) rfl fun a hK => ?_
   refine region_done hK [(15, .int .i64 (((i + 1) : Nat) : Int)), (7, .slice t4.A t4.l.length t4.c), (6, vN i), (16, .bool true), (14, .int .i64 ((l.length : Nat) : Int)), (13, .slice A l.length c), (5, .slice (some ⟨b2, 0, none⟩) l.length l.length), (9, .bool false), (4, .slice none 0 0), (0, .slice A l.length c), (1, .func (.func 50) #[] #[])] ⟨rfl, rfl, rfl, rfl, rfl, rfl, rfl, rfl, rfl, rfl, rfl, trivial⟩ fun a hK => ?_
   have hRn : (i + 1) ≤ l.length ∧ ((done ++ [(⟨A5, c5, K5⟩ : Th)])).length = (i + 1) ∧ samePtsT ((done ++ [(⟨A5, c5, K5⟩ : Th)])) l ∧ ∀ u ∈ ((done ++ [(⟨A5, c5, K5⟩ : Th)])), ThRows ((F ++ G5)) u := ⟨by omega, by simp [hR.2.1], same_snocT hR.2.2.1 hR.2.1 ht4 hq5, fun x hx => (List.mem_append.1 hx).elim (fun h => (hR.2.2.2 x h).mono fun it hi => List.mem_append_left _ hi) fun h => by obtain rfl := List.mem_singleton.1 h; exact (ThRows.mk hi5 hr5 (by show K5.length ≤ _; have h7 : K5.length = _ := smsEq_len hq5; have h8 := (hs _ (List.mem_of_getElem? ht4)).2; have h9 := smsSz_len t4.l; omega)).mono fun it hi => List.mem_append_right _ hi⟩
   have hmn : l.length - (i + 1) < l.length - i := by omega
   exact ⟨(i + 1, (done ++ [(⟨A5, c5, K5⟩ : Th)]), (F ++ G5)), hK.sub ⟨rfl, rfl, rfl, rfl, rfl, rfl, rfl, rfl, trivial⟩, hM, hRn, hmn⟩
  ·refine stepP hK 16 (.bool false) (by kernel_rfl) (okBool (b := (decide ((((i : Nat) : Int) : Int) < ((l.length : Nat) : Int)))) (by kernel_rfl) (decide_eq_false h3)) fun a hK => ?_
   refine region_done hK [(16, .bool false), (14, .int .i64 ((l.length : Nat) : Int)), (13, .slice A l.length c), (5, .slice (some ⟨b2, 0, none⟩) l.length l.length), (9, .bool false), (4, .slice none 0 0), (0, .slice A l.length c), (1, .func (.func 50) #[] #[]), (15, vN i)] ⟨rfl, rfl, rfl, rfl, rfl, rfl, rfl, rfl, rfl, trivial⟩ fun a hK => ?_
   refine wp_seq ?_
   refine wp_cond_false (hK.get rfl) ?_
   refine wp_exit (exit_then (exit_then (exit_here 0 ?_)))
   refine wp_seq ?_
   refine region_go (lst := [0, 1]) (by kernel_rfl) ?_
   refine stepM hK 27 5 (by kernel_rfl) (.inl rfl) rfl fun a hK => ?_
   refine stepM hK 4 27 (by kernel_rfl) (.inr rfl) rfl fun a hK => ?_
   refine region_done hK [(4, .slice (some ⟨b2, 0, none⟩) l.length l.length), (16, .bool false), (14, .int .i64 ((l.length : Nat) : Int)), (13, .slice A l.length c), (5, .slice (some ⟨b2, 0, none⟩) l.length l.length), (9, .bool false), (0, .slice A l.length c), (1, .func (.func 50) #[] #[]), (15, vN i)] ⟨rfl, rfl, rfl, rfl, rfl, rfl, rfl, rfl, rfl, trivial⟩ fun a hK => ?_
   refine wp_ret ?_
   exact ret_t hK rfl (u := (.slice (some ⟨b2, 0, none⟩) l.length l.length)) rfl (⟨(done, some ⟨b2, 0, none⟩, l.length, .row b2 28 (done.flatMap cT) :: F), by show Ending.returned (Value.slice _ l.length l.length) = Ending.returned (Value.slice _ done.length l.length); rw [show done.length = l.length by omega], hM.to _ (by rw [Nat.sub_eq_zero_of_le (by omega)]; simp [zerosL]), by unfold thsEq neI; rw [show done.length = l.length by omega, samePtsT_all hR.2.2.1]; simp, .inr ⟨b2, rfl, List.mem_cons_self⟩, fun y hy => (hR.2.2.2 y hy).mono fun it hi => List.mem_cons_of_mem _ hi⟩)
theorem dcsEq_refl (l : List Dc) : dcsEq l l = true := by
 unfold dcsEq neI
 have : dcsSame l l = true := by
  induction l with
  | nil => unfold dcsSame; rfl
  | cons x r ih => rw [dcsSame, ih]; simp [dcSame]
 rw [this]; simp
theorem thsEq_len {l m : List Th} (h : thsEq l m = true) : l.length = m.length := by
 unfold thsEq neI at h
 simp only [Bool.not_not, Bool.and_eq_true, decide_eq_true_eq] at h
 omega
def GivesP (w0 : World) (p : Pg) : Ending → World → Prop := Gives w0 (fun x : Pg × List It => (.agg #[.slice x.1.A1 x.1.ds.length x.1.c1, .slice x.1.A2 x.1.ts.length x.1.c2] : Value)) (fun x => x.2) fun x => PgRows x.2 x.1 ∧ pgSame x.1 p = true ∧ x.1.ds = p.ds
theorem rows_pg {p : Pg} {A1 A2 : Option Addr} {c1 c2 : Nat} {ts : List Th} {G1 G2 F : List It} (hd : ∀ d ∈ p.ds, d.nm.length ≤ 65536) (hl : p.ds.length ≤ 1000000 ∧ p.ts.length ≤ 1000000) (i1 : RowIn G1 45 A1 (p.ds.flatMap cD)) (he : thsEq ts p.ts = true) (i2 : RowIn G2 28 A2 (ts.flatMap cT)) (r2 : ∀ y ∈ ts, ThRows G2 y) (m1 : ∀ it ∈ G1, it ∈ F) (m2 : ∀ it ∈ G2, it ∈ F) : PgRows F { A1 := A1, c1 := c1, ds := p.ds, A2 := A2, c2 := c2, ts := ts } where
 decls := i1.mono m1
 dlen := fun d h => (by have := hd d h; omega)
 threads := i2.mono m2
 lists := fun t h => (by have h2 := (r2 t h).mono m2; exact ⟨h2.row, h2.each, h2.len⟩)
 len := ⟨(by show p.ds.length ≤ _; omega), (by show ts.length ≤ _; rw [thsEq_len he]; omega)⟩
set_option maxRecDepth 100000 in
set_option maxHeartbeats 4000000 in
theorem ast_Copy (p : Pg) (w0 : World) (hp : PgAt w0 p) (hsh : (∀ d ∈ p.ds, d.nm.length ≤ 65536) ∧ ∀ t ∈ p.ts, smsSh t.l = true) (hsz : ∀ t ∈ p.ts, smsSz t.l ≤ 1000000) (hln : p.ds.length ≤ 1000000 ∧ p.ts.length ≤ 1000000) : Calls Tryd.prog 19 #[vG p] w0 (GivesP w0 p) := by
 refine calls_K (args := [vG p]) (n := 10) (env := [(0, vG p)]) Tryd.func19 rfl rfl rfl ⟨rfl, trivial⟩ fun a w hK hM => ?_
 refine wp_seq ?_
 refine region_go (lst := [0, 1]) (by kernel_rfl) ?_
 refine stepAlloc hK hM 1 25 [.slice p.A1 p.ds.length p.c1, .slice p.A2 p.ts.length p.c2] (fun b => pA b 0) (by kernel_rfl) (by kernel_rfl) fun b1 a w hK hM => ?_
 refine stepAlloc hK hM 2 25 [.slice none 0 0, .slice none 0 0] (fun b => pA b 0) (by kernel_rfl) (by kernel_rfl) fun b2 a w hK hM => ?_
 refine region_done hK [(2, pA b2 0), (1, pA b1 0), (0, vG p)] ⟨rfl, rfl, rfl, trivial⟩ fun a hK => ?_
 refine wp_seq ?_
 refine wp_cut (fun a w => ∃ (A1_2 : Option Addr), ∃ (A1_5 : Option Addr), ∃ (G1_2 : List It), ∃ (G1_5 : List It), ∃ (K1_5 : List Th), ∃ (c1_2 : Nat), ∃ (c1_5 : Nat), Knows a 10 [(2, pA b2 0), (1, pA b1 0), (0, vG p)] ∧ Mem w0 w (.row b2 25 [.slice A1_2 p.ds.length c1_2, .slice A1_5 K1_5.length c1_5] :: .row b1 25 [.slice p.A1 p.ds.length p.c1, .slice p.A2 p.ts.length p.c2] :: (G1_2 ++ G1_5)) ∧ (RowIn G1_2 45 A1_2 (p.ds.flatMap cD)) ∧ (RowIn G1_5 28 A1_5 (K1_5.flatMap cT)) ∧ (thsEq K1_5 p.ts = true) ∧ (∀ y ∈ K1_5, ThRows G1_5 y)) ?_ ?_
 ·refine region_tree hM (by kernel_rfl) 8 (by kernel_rfl) #[false, false, false, false, false, false, false, false] (by kernel_rfl) ?_
  clear hM; intro w hM
  refine treeP hK 0 3 (pA b1 0) (by kernel_rfl) (by kernel_rfl) (by kernel_rfl) (fun w => (by kernel_rfl)) #[true, false, false, false, false, false, false, false] (by kernel_rfl) fun a hK => ?_
  refine treeP hK 3 6 (pA b1 1) (by kernel_rfl) (by kernel_rfl) (by kernel_rfl) (fun w => (by kernel_rfl)) #[true, false, false, true, false, false, false, false] (by kernel_rfl) fun a hK => ?_
  refine treeM [1, 4] (by kernel_rfl) rfl ⟨?_, ?_, trivial⟩
  ·refine stepLoad hK 4 (.slice p.A1 p.ds.length p.c1) (by kernel_rfl) rfl rfl ((hM.row 1 rfl).cells 0 1) (by kernel_rfl) fun a hK => ?_
   refine tree_next #[true, true, false, true, false, false, false, false] (by kernel_rfl) ?_
   refine treeM [2, 4] (by kernel_rfl) rfl ⟨?_, ?_, trivial⟩
   ·refine stepCall hK hM 5 #[.slice p.A1 p.ds.length p.c1, .func (.func 48) #[] #[]] (by kernel_rfl) (run_callE en_each_Decl rfl rfl (by kernel_rfl)) (ast_eachD p.ds _ _ _ (fun k d hd => (hp.on hM.below).decls k d hd) (fun x hx => hsh.1 x hx) hln.1) ?_
    rintro ⟨A1_2, c1_2, G1_2⟩ a w hi1_2 hK hM
    replace hM := (Mem.comm hM).to ((.row b2 25 [.slice none 0 0, .slice none 0 0] :: .row b1 25 [.slice p.A1 p.ds.length p.c1, .slice p.A2 p.ts.length p.c2] :: G1_2)) (by kernel_rfl)
    refine tree_next #[true, true, true, true, false, false, false, false] (by kernel_rfl) ?_
    refine treeM [4] (by kernel_rfl) rfl ⟨?_, trivial⟩
    refine stepLoad hK 7 (.slice p.A2 p.ts.length p.c2) (by kernel_rfl) rfl rfl ((hM.row 1 rfl).cells 1 1) (by kernel_rfl) fun a hK => ?_
    refine tree_next #[true, true, true, true, true, false, false, false] (by kernel_rfl) ?_
    refine treeM [5] (by kernel_rfl) rfl ⟨?_, trivial⟩
    refine stepCall hK hM 8 #[.slice p.A2 p.ts.length p.c2, .func (.func 50) #[] #[]] (by kernel_rfl) (run_callE en_each_Thread rfl rfl (by kernel_rfl)) (ast_eachT p.ts _ _ _ (fun k t ht => (hp.on hM.below).threads k t ht) (fun x hx => ⟨hsh.2 x hx, hsz x hx⟩) hln.2) ?_
    rintro ⟨K1_5, A1_5, c1_5, G1_5⟩ a w ⟨hq1_5, hi1_5, hr1_5⟩ hK hM
    replace hM := (Mem.comm hM).to ((.row b2 25 [.slice none 0 0, .slice none 0 0] :: .row b1 25 [.slice p.A1 p.ds.length p.c1, .slice p.A2 p.ts.length p.c2] :: (G1_2 ++ G1_5))) (by kernel_rfl)
    refine tree_next #[true, true, true, true, true, true, false, false] (by kernel_rfl) ?_
    refine treeP hK 6 9 (.agg #[.slice A1_2 p.ds.length c1_2, .slice A1_5 K1_5.length c1_5]) (by kernel_rfl) (by kernel_rfl) (by kernel_rfl) (fun w => (by kernel_rfl)) #[true, true, true, true, true, true, true, false] (by kernel_rfl) fun a hK => ?_
    refine treeM [7] (by kernel_rfl) rfl ⟨?_, trivial⟩
    refine stepStore hK hM 0 [.slice A1_2 p.ds.length c1_2, .slice A1_5 K1_5.length c1_5] (by kernel_rfl) rfl rfl rfl rfl (by kernel_rfl) fun w hM => ?_
    replace hM := hM.to (.row b2 25 [.slice A1_2 p.ds.length c1_2, .slice A1_5 K1_5.length c1_5] :: .row b1 25 [.slice p.A1 p.ds.length p.c1, .slice p.A2 p.ts.length p.c2] :: (G1_2 ++ G1_5)) (by kernel_rfl)
    refine tree_next #[true, true, true, true, true, true, true, true] (by kernel_rfl) ?_
    exact treeE (by kernel_rfl) ⟨A1_2, A1_5, G1_2, G1_5, K1_5, c1_2, c1_5, hK.sub ⟨rfl, rfl, rfl, trivial⟩, hM, hi1_2, hi1_5, hq1_5, hr1_5⟩
   ·refine stepLoad hK 7 (.slice p.A2 p.ts.length p.c2) (by kernel_rfl) rfl rfl ((hM.row 1 rfl).cells 1 1) (by kernel_rfl) fun a hK => ?_
    refine tree_next #[true, true, false, true, true, false, false, false] (by kernel_rfl) ?_
    refine treeM [2] (by kernel_rfl) rfl ⟨?_, trivial⟩
    refine stepCall hK hM 5 #[.slice p.A1 p.ds.length p.c1, .func (.func 48) #[] #[]] (by kernel_rfl) (run_callE en_each_Decl rfl rfl (by kernel_rfl)) (ast_eachD p.ds _ _ _ (fun k d hd => (hp.on hM.below).decls k d hd) (fun x hx => hsh.1 x hx) hln.1) ?_
    rintro ⟨A1_2, c1_2, G1_2⟩ a w hi1_2 hK hM
    replace hM := (Mem.comm hM).to ((.row b2 25 [.slice none 0 0, .slice none 0 0] :: .row b1 25 [.slice p.A1 p.ds.length p.c1, .slice p.A2 p.ts.length p.c2] :: G1_2)) (by kernel_rfl)
    refine tree_next #[true, true, true, true, true, false, false, false] (by kernel_rfl) ?_
    refine treeM [5] (by kernel_rfl) rfl ⟨?_, trivial⟩
    refine stepCall hK hM 8 #[.slice p.A2 p.ts.length p.c2, .func (.func 50) #[] #[]] (by kernel_rfl) (run_callE en_each_Thread rfl rfl (by kernel_rfl)) (ast_eachT p.ts _ _ _ (fun k t ht => (hp.on hM.below).threads k t ht) (fun x hx => ⟨hsh.2 x hx, hsz x hx⟩) hln.2) ?_
    rintro ⟨K1_5, A1_5, c1_5, G1_5⟩ a w ⟨hq1_5, hi1_5, hr1_5⟩ hK hM
    replace hM := (Mem.comm hM).to ((.row b2 25 [.slice none 0 0, .slice none 0 0] :: .row b1 25 [.slice p.A1 p.ds.length p.c1, .slice p.A2 p.ts.length p.c2] :: (G1_2 ++ G1_5))) (by kernel_rfl)
    refine tree_next #[true, true, true, true, true, true, false, false] (by kernel_rfl) ?_
    refine treeP hK 6 9 (.agg #[.slice A1_2 p.ds.length c1_2, .slice A1_5 K1_5.length c1_5]) (by kernel_rfl) (by kernel_rfl) (by kernel_rfl) (fun w => (by kernel_rfl)) #[true, true, true, true, true, true, true, false] (by kernel_rfl) fun a hK => ?_
    refine treeM [7] (by kernel_rfl) rfl ⟨?_, trivial⟩
    refine stepStore hK hM 0 [.slice A1_2 p.ds.length c1_2, .slice A1_5 K1_5.length c1_5] (by kernel_rfl) rfl rfl rfl rfl (by kernel_rfl) fun w hM => ?_
    replace hM := hM.to (.row b2 25 [.slice A1_2 p.ds.length c1_2, .slice A1_5 K1_5.length c1_5] :: .row b1 25 [.slice p.A1 p.ds.length p.c1, .slice p.A2 p.ts.length p.c2] :: (G1_2 ++ G1_5)) (by kernel_rfl)
    refine tree_next #[true, true, true, true, true, true, true, true] (by kernel_rfl) ?_
    exact treeE (by kernel_rfl) ⟨A1_2, A1_5, G1_2, G1_5, K1_5, c1_2, c1_5, hK.sub ⟨rfl, rfl, rfl, trivial⟩, hM, hi1_2, hi1_5, hq1_5, hr1_5⟩
  ·refine stepLoad hK 7 (.slice p.A2 p.ts.length p.c2) (by kernel_rfl) rfl rfl ((hM.row 1 rfl).cells 1 1) (by kernel_rfl) fun a hK => ?_
   refine tree_next #[true, false, false, true, true, false, false, false] (by kernel_rfl) ?_
   refine treeM [1] (by kernel_rfl) rfl ⟨?_, trivial⟩
   refine stepLoad hK 4 (.slice p.A1 p.ds.length p.c1) (by kernel_rfl) rfl rfl ((hM.row 1 rfl).cells 0 1) (by kernel_rfl) fun a hK => ?_
   refine tree_next #[true, true, false, true, true, false, false, false] (by kernel_rfl) ?_
   refine treeM [2] (by kernel_rfl) rfl ⟨?_, trivial⟩
   refine stepCall hK hM 5 #[.slice p.A1 p.ds.length p.c1, .func (.func 48) #[] #[]] (by kernel_rfl) (run_callE en_each_Decl rfl rfl (by kernel_rfl)) (ast_eachD p.ds _ _ _ (fun k d hd => (hp.on hM.below).decls k d hd) (fun x hx => hsh.1 x hx) hln.1) ?_
   rintro ⟨A1_2, c1_2, G1_2⟩ a w hi1_2 hK hM
   replace hM := (Mem.comm hM).to ((.row b2 25 [.slice none 0 0, .slice none 0 0] :: .row b1 25 [.slice p.A1 p.ds.length p.c1, .slice p.A2 p.ts.length p.c2] :: G1_2)) (by kernel_rfl)
   refine tree_next #[true, true, true, true, true, false, false, false] (by kernel_rfl) ?_
   refine treeM [5] (by kernel_rfl) rfl ⟨?_, trivial⟩
   refine stepCall hK hM 8 #[.slice p.A2 p.ts.length p.c2, .func (.func 50) #[] #[]] (by kernel_rfl) (run_callE en_each_Thread rfl rfl (by kernel_rfl)) (ast_eachT p.ts _ _ _ (fun k t ht => (hp.on hM.below).threads k t ht) (fun x hx => ⟨hsh.2 x hx, hsz x hx⟩) hln.2) ?_
   rintro ⟨K1_5, A1_5, c1_5, G1_5⟩ a w ⟨hq1_5, hi1_5, hr1_5⟩ hK hM
   replace hM := (Mem.comm hM).to ((.row b2 25 [.slice none 0 0, .slice none 0 0] :: .row b1 25 [.slice p.A1 p.ds.length p.c1, .slice p.A2 p.ts.length p.c2] :: (G1_2 ++ G1_5))) (by kernel_rfl)
   refine tree_next #[true, true, true, true, true, true, false, false] (by kernel_rfl) ?_
   refine treeP hK 6 9 (.agg #[.slice A1_2 p.ds.length c1_2, .slice A1_5 K1_5.length c1_5]) (by kernel_rfl) (by kernel_rfl) (by kernel_rfl) (fun w => (by kernel_rfl)) #[true, true, true, true, true, true, true, false] (by kernel_rfl) fun a hK => ?_
   refine treeM [7] (by kernel_rfl) rfl ⟨?_, trivial⟩
   refine stepStore hK hM 0 [.slice A1_2 p.ds.length c1_2, .slice A1_5 K1_5.length c1_5] (by kernel_rfl) rfl rfl rfl rfl (by kernel_rfl) fun w hM => ?_
   replace hM := hM.to (.row b2 25 [.slice A1_2 p.ds.length c1_2, .slice A1_5 K1_5.length c1_5] :: .row b1 25 [.slice p.A1 p.ds.length p.c1, .slice p.A2 p.ts.length p.c2] :: (G1_2 ++ G1_5)) (by kernel_rfl)
   refine tree_next #[true, true, true, true, true, true, true, true] (by kernel_rfl) ?_
   exact treeE (by kernel_rfl) ⟨A1_2, A1_5, G1_2, G1_5, K1_5, c1_2, c1_5, hK.sub ⟨rfl, rfl, rfl, trivial⟩, hM, hi1_2, hi1_5, hq1_5, hr1_5⟩
 rintro a w ⟨A1_2, A1_5, G1_2, G1_5, K1_5, c1_2, c1_5, hK, hM, hi1_2, hi1_5, hq1_5, hr1_5⟩
 refine wp_ret ?_
 exact ret_c hK rfl rfl ((hM.row 0 rfl).cells 0 2) (u := (.agg #[.slice A1_2 p.ds.length c1_2, .slice A1_5 K1_5.length c1_5])) (by kernel_rfl) (⟨({ A1 := A1_2, c1 := c1_2, ds := p.ds, A2 := A1_5, c2 := c1_5, ts := K1_5 }, (G1_2 ++ G1_5)), rfl, hM.drop 2, rows_pg hsh.1 hln hi1_2 hq1_5 hi1_5 hr1_5 (fun it hi => by simp [hi]) (fun it hi => by simp [hi]), by unfold pgSame; rw [show dcsEq _ _ = true from dcsEq_refl p.ds]; exact hq1_5, rfl⟩)
end Go.Proofs.YtiigncmpbkfhmaaDoor
namespace Go.Proofs.YtiigncmpbkfhmaaDoor
open Go Go.RowKit
def likeV (u v : Value) : Prop := u = v ∨ ∃ m n : Int, u = .int .i64 m ∧ v = .int .i64 n
def likeC (cs ds : List Value) : Prop := cs.length = ds.length ∧ ∀ (k : Nat) (u v : Value), cs[k]? = some u → ds[k]? = some v → likeV u v
def likeI : It → It → Prop
  | .row b t cs, y => ∃ ds, y = .row b t ds ∧ likeC cs ds
  | x, y => x = y
def Like (F G : List It) : Prop := F.length = G.length ∧ ∀ (k : Nat) (x y : It), F[k]? = some x → G[k]? = some y → likeI x y
theorem likeC_refl (cs : List Value) : likeC cs cs := ⟨rfl, fun k u v h1 h2 => .inl (by rw [h1] at h2; exact Option.some.inj h2)⟩
theorem Like.refl (F : List It) : Like F F := ⟨rfl, fun k x y h1 h2 => by
  rw [h1] at h2
  obtain rfl := Option.some.inj h2
  cases x with
  | row b t cs => exact ⟨cs, rfl, likeC_refl cs⟩
  | own => rfl
  | obj => rfl⟩
theorem like_row {F G : List It} (h : Like F G) {b : Nat} {t : TypeId} {cs : List Value} (hm : It.row b t cs ∈ F) : ∃ (j : Nat) (ds : List Value), G[j]? = some (.row b t ds) ∧ likeC cs ds := by
  obtain ⟨j, hj, e⟩ := List.getElem_of_mem hm
  have hj2 : j < G.length := by rw [← h.1]; exact hj
  obtain ⟨ds, e2, hl⟩ := h.2 j _ _ (by rw [List.getElem?_eq_getElem hj, e]) (List.getElem?_eq_getElem hj2)
  exact ⟨j, ds, by rw [List.getElem?_eq_getElem hj2, e2], hl⟩
theorem likeC_at {cs ds : List Value} (h : likeC cs ds) (i m : Nat) : likeC ((cs.drop i).take m) ((ds.drop i).take m) := by
  refine ⟨by simp [h.1], fun k u v h1 h2 => ?_⟩
  rw [List.getElem?_take] at h1 h2
  split at h1
  · rename_i hk
    rw [if_pos hk, List.getElem?_drop] at h2
    rw [List.getElem?_drop] at h1
    exact h.2 _ _ _ h1 h2
  · cases h1
theorem likeV_int {m : Int} {v : Value} (h : likeV (.int .i64 m) v) : ∃ n : Int, v = .int .i64 n := by
  rcases h with h | ⟨_, n, _, h⟩
  · exact ⟨m, h.symm⟩
  · exact ⟨n, h⟩
theorem likeV_eq {u v : Value} (h : likeV u v) (hu : ∀ m : Int, u ≠ .int .i64 m) : v = u := by
  rcases h with h | ⟨m, _, h, _⟩
  · exact h.symm
  · exact absurd h (hu m)
theorem like_E {e : Ex} {es : List Value} (h : likeC (cE e) es) : ∃ o n : Int, es = [.int .i64 o, .int .i64 n, Str e.nm, .slice e.A e.ks.length e.c] := by
  have hl := h.1
  match es, hl with
  | [a, b, c, d], _ =>
    obtain ⟨o, rfl⟩ := likeV_int (h.2 0 _ _ rfl rfl)
    obtain ⟨n, rfl⟩ := likeV_int (h.2 1 _ _ rfl rfl)
    have h3 := likeV_eq (h.2 2 _ _ rfl rfl) (by intro m hm; cases hm)
    have h4 := likeV_eq (h.2 3 _ _ rfl rfl) (by intro m hm; cases hm)
    subst h3; subst h4
    exact ⟨o, n, rfl⟩
theorem like_S {s : Sm} {es : List Value} (h : likeC (cS s) es) : ∃ o n : Int, es = [.int .i64 o, Str s.nm, Str s.loc, .int .i64 n, .slice s.A1 s.es.length s.c1, .slice s.A2 s.th.length s.c2, .slice s.A3 s.el.length s.c3] := by
  have hl := h.1
  match es, hl with
  | [a, b, c, d, e, f, g], _ =>
    obtain ⟨o, rfl⟩ := likeV_int (h.2 0 _ _ rfl rfl)
    obtain ⟨n, rfl⟩ := likeV_int (h.2 3 _ _ rfl rfl)
    have h1 := likeV_eq (h.2 1 _ _ rfl rfl) (by intro m hm; cases hm)
    have h2 := likeV_eq (h.2 2 _ _ rfl rfl) (by intro m hm; cases hm)
    have h4 := likeV_eq (h.2 4 _ _ rfl rfl) (by intro m hm; cases hm)
    have h5 := likeV_eq (h.2 5 _ _ rfl rfl) (by intro m hm; cases hm)
    have h6 := likeV_eq (h.2 6 _ _ rfl rfl) (by intro m hm; cases hm)
    subst h1; subst h2; subst h4; subst h5; subst h6
    exact ⟨o, n, rfl⟩
theorem like_D {d : Dc} {es : List Value} (h : likeC (cD d) es) : ∃ o : Int, es = [Str d.nm, .bool d.plain, .int .i64 o] := by
  have hl := h.1
  match es, hl with
  | [a, b, c], _ =>
    obtain ⟨o, rfl⟩ := likeV_int (h.2 2 _ _ rfl rfl)
    have h1 := likeV_eq (h.2 0 _ _ rfl rfl) (by intro m hm; cases hm)
    have h2 := likeV_eq (h.2 1 _ _ rfl rfl) (by intro m hm; cases hm)
    subst h1; subst h2
    exact ⟨o, rfl⟩
theorem like_T {t : Th} {es : List Value} (h : likeC (cT t) es) : es = [.slice t.A t.l.length t.c] := by
  have hl := h.1
  match es, hl with
  | [a], _ =>
    have h1 := likeV_eq (h.2 0 _ _ rfl rfl) (by intro m hm; cases hm)
    subst h1; rfl
theorem like_el {α : Type} {F G : List It} (hL : Like F G) {t : TypeId} {A : Option Addr} {f : α → List Value} {s : Nat} (hf : ∀ x, (f x).length = s) (hs : 0 < s) {l : List α} (h : RowIn F t A (l.flatMap f)) {k : Nat} {x : α} (hk : l[k]? = some x) :
    ∃ (b j : Nat) (ds : List Value), A = some ⟨b, 0, none⟩ ∧ G[j]? = some (.row b t ds) ∧ likeC (f x) ((ds.drop (k * s)).take s) ∧ k * s + s ≤ ds.length := by
  rcases h with h | ⟨b, rfl, hm⟩
  · exfalso
    have h1 := List.flatMap_eq_nil_iff.1 h x (List.mem_of_getElem? hk)
    have h2 := hf x
    rw [h1] at h2
    simp at h2
    omega
  · obtain ⟨j, ds, h1, h2⟩ := like_row hL hm
    refine ⟨b, j, ds, rfl, h1, ?_, ?_⟩
    · have := likeC_at h2 (k * s) s
      rwa [flat_at (f := f) (s := s) hf hk] at this
    · rw [← h2.1, flat_len hf, ← Nat.succ_mul]
      exact Nat.mul_le_mul_right s (List.getElem?_eq_some_iff.1 hk).1
theorem like_set {F G : List It} (h : Like F G) {j b : Nat} {t : TypeId} {ds ds' : List Value} (hj : G[j]? = some (.row b t ds)) (hd : likeC ds ds') : Like F (G.set j (.row b t ds')) := by
  refine ⟨by simp [h.1], fun k x y h1 h2 => ?_⟩
  rw [List.getElem?_set] at h2
  split at h2
  · rename_i e
    subst e
    split at h2
    · obtain rfl := Option.some.inj h2
      have h3 := h.2 j _ _ h1 hj
      cases x with
      | row b2 t2 cs =>
        obtain ⟨es, e1, e2⟩ := h3
        simp only [It.row.injEq] at e1
        obtain ⟨rfl, rfl, rfl⟩ := e1
        refine ⟨ds', rfl, e2.1.trans hd.1, fun q u v hu hv => ?_⟩
        have hq : q < ds.length := by rw [← e2.1]; exact (List.getElem?_eq_some_iff.1 hu).1
        have k1 := e2.2 q u _ hu (List.getElem?_eq_getElem hq)
        have k2 := hd.2 q _ v (List.getElem?_eq_getElem hq) hv
        rcases k1 with rfl | ⟨m, n, rfl, e5⟩
        · exact k2
        · rcases k2 with k2 | ⟨m2, n2, e6, rfl⟩
          · rw [← k2]; exact .inr ⟨m, n, rfl, e5⟩
          · exact .inr ⟨m, n2, rfl, rfl⟩
      | own => cases h3
      | obj => cases h3
    · cases h2
  · exact h.2 k x y h1 h2
theorem likeC_put {ds : List Value} {k : Nat} {m n : Int} (hk : ds[k]? = some (.int .i64 m)) : likeC ds (ds.take k ++ [.int .i64 n] ++ ds.drop (k + 1)) := by
  have hlt := (List.getElem?_eq_some_iff.1 hk).1
  refine ⟨by simp; omega, fun q u v hu hv => ?_⟩
  rw [List.append_assoc, List.getElem?_append] at hv
  split at hv
  · rename_i hq
    rw [List.getElem?_take] at hv
    split at hv
    · rw [hu] at hv; exact .inl (Option.some.inj hv)
    · cases hv
  · rename_i hq
    simp only [List.length_take] at hq hv
    have hq2 : k ≤ q := by omega
    rcases Nat.lt_or_ge k q with hlt2 | hge
    · rw [show [Value.int .i64 n] ++ ds.drop (k + 1) = Value.int .i64 n :: ds.drop (k + 1) from rfl, show q - min k ds.length = (q - k - 1) + 1 by omega, List.getElem?_cons_succ, List.getElem?_drop, show k + 1 + (q - k - 1) = q by omega, hu] at hv
      exact .inl (Option.some.inj hv)
    · obtain rfl : q = k := by omega
      rw [show q - min q ds.length = 0 by omega] at hv
      rw [hk] at hu
      obtain rfl := Option.some.inj hu
      obtain rfl := Option.some.inj hv
      exact .inr ⟨m, n, rfl, rfl⟩
section
variable {ops : Array Oper} {Q : Exit → Act → World → Prop} {a : Act} {n i : Nat} {l : List Nat} {env : List (Nat × Value)} {w0 w : World}
theorem stepStoreLike (hK : Knows a n env) (pre F G post : List It) (hM : Mem w0 w (pre ++ (G ++ post))) (hL : Like F G) (off : Nat) {t tt : TypeId} {x y : Operand} {ad : Addr} {b j k s : Nat} {ds : List Value} {m p : Int} (hc : chk0 ops env i = true) (hop : (opAt ops i).op = .store t x y) (hx : evE env x = .pointer (some ad)) (had : ad = ((⟨b, 0, none⟩ : Addr).add (k * s)).add off) (hy : evE env y = .int .i64 p) (hj : G[j]? = some (.row b tt ds))
    (hi : (Tryd.prog.info? t).map (·.size) = some 1) {cs : List Value} (hcs : (ds.drop (k * s)).take s = cs) (hold : cs[off]? = some (.int .i64 m))
    (h : ∀ w' G', Like F G' → Mem w0 w' (pre ++ (G' ++ post)) → wpOps Tryd.prog ops Q l a w') : wpOps Tryd.prog ops Q (i :: l) a w := by
  have hlt := (List.getElem?_eq_some_iff.1 hj).1
  have e1 : (pre ++ (G ++ post))[pre.length + j]? = some (.row b tt ds) := by
    rw [List.getElem?_append_right (by omega), Nat.add_sub_cancel_left, List.getElem?_append_left hlt, hj]
  have e2 : ad = ⟨b, k * s + off, none⟩ := by
    rw [had, show (⟨b, 0, none⟩ : Addr).add (k * s) = ⟨b, k * s, none⟩ from (by rw [add0])]
    by_cases ho : off = 0
    · subst ho; rfl
    · rw [Addr.add_mid]
  have hds : ds[k * s + off]? = some (.int .i64 m) := by
    rw [← hcs, List.getElem?_take] at hold
    split at hold
    · rw [← hold, List.getElem?_drop]
    · cases hold
  have hk := (List.getElem?_eq_some_iff.1 hds).1
  refine stepStoreAt hK hM (pre.length + j) [.int .i64 p] (ds.take (k * s + off) ++ [.int .i64 p] ++ ds.drop (k * s + off + 1)) hc hop (hx.trans (by rw [e2])) hy e1 (by simpa using hi) rfl (by rfl) (by show k * s + off + 1 ≤ _; omega) rfl fun w' hM' => ?_
  refine h w' (G.set j (.row b tt (ds.take (k * s + off) ++ [.int .i64 p] ++ ds.drop (k * s + off + 1)))) (like_set hL hj (likeC_put hds)) (hM'.to _ ?_)
  rw [List.set_append_right _ _ (by omega), Nat.add_sub_cancel_left, List.set_append_left _ _ hlt]
theorem like_cells {G : List It} (pre post : List It) (hM : Mem w0 w (pre ++ (G ++ post))) {b j k s : Nat} {tt : TypeId} {ds cs : List Value} (hj : G[j]? = some (.row b tt ds)) (hcs : (ds.drop (k * s)).take s = cs) : CellsAt w ((⟨b, 0, none⟩ : Addr).add (k * s)) cs := by
  have hlt := (List.getElem?_eq_some_iff.1 hj).1
  have e1 : (pre ++ (G ++ post))[pre.length + j]? = some (.row b tt ds) := by
    rw [List.getElem?_append_right (by omega), Nat.add_sub_cancel_left, List.getElem?_append_left hlt, hj]
  exact ((hM.row _ e1).atCells (k * s) s).to hcs
end
theorem SmRows.row1 {F : List It} {s : Sm} (h : SmRows F s) : RowIn F 36 s.A1 (s.es.flatMap cE) := by cases h; assumption
theorem SmRows.row2 {F : List It} {s : Sm} (h : SmRows F s) : RowIn F 30 s.A2 (s.th.flatMap cS) := by cases h; assumption
theorem SmRows.row3 {F : List It} {s : Sm} (h : SmRows F s) : RowIn F 30 s.A3 (s.el.flatMap cS) := by cases h; assumption
theorem SmRows.es {F : List It} {s : Sm} (h : SmRows F s) : ∀ x ∈ s.es, ExRows F x := by cases h; assumption
theorem SmRows.th {F : List It} {s : Sm} (h : SmRows F s) : ∀ x ∈ s.th, SmRows F x := by cases h; assumption
theorem SmRows.el {F : List It} {s : Sm} (h : SmRows F s) : ∀ x ∈ s.el, SmRows F x := by cases h; assumption
theorem SmRows.len {F : List It} {s : Sm} (h : SmRows F s) : s.nm.length ≤ 9223372036854775807 ∧ s.loc.length ≤ 9223372036854775807 ∧ s.es.length ≤ 9223372036854775807 ∧ s.th.length ≤ 9223372036854775807 ∧ s.el.length ≤ 9223372036854775807 := by cases h; assumption
theorem ExRows.row {F : List It} {e : Ex} (h : ExRows F e) : RowIn F 36 e.A (e.ks.flatMap cE) := by cases h; assumption
theorem ExRows.kids {F : List It} {e : Ex} (h : ExRows F e) : ∀ x ∈ e.ks, ExRows F x := by cases h; assumption
theorem ExRows.len {F : List It} {e : Ex} (h : ExRows F e) : e.nm.length ≤ 9223372036854775807 ∧ e.ks.length ≤ 9223372036854775807 := by cases h; assumption
end Go.Proofs.YtiigncmpbkfhmaaDoor
namespace Go.Proofs.YtiigncmpbkfhmaaDoor
open Go Go.RowKit
theorem en_cantileverkit_Num : Enters Tryd.prog 10 := enters_of Tryd.func10 (by kernel_rfl) rfl
theorem en_cantileverkit_Reg : Enters Tryd.prog 22 := enters_of Tryd.func22 (by kernel_rfl) rfl
theorem en_cantileverkit_Two : Enters Tryd.prog 23 := enters_of Tryd.func23 (by kernel_rfl) rfl
theorem en_cantileverkit_Pages : Enters Tryd.prog 6 := enters_of Tryd.func6 (by kernel_rfl) rfl
set_option maxRecDepth 100000 in
set_option maxHeartbeats 4000000 in
theorem kit_Num (n : Int) (w0 : World) : Calls Tryd.prog 10 #[.int .i64 n] w0 (Ret w0 (.agg #[.int .i64 1, .int .i64 n, Str [], .slice none 0 0])) := by
 refine calls_K (args := [.int .i64 n]) (n := 5) (env := [(0, .int .i64 n)]) Tryd.func10 rfl rfl rfl ⟨rfl, trivial⟩ fun a w hK hM => ?_
 refine wp_seq ?_
 refine region_go (lst := [0]) (by kernel_rfl) ?_
 refine stepAlloc hK hM 2 36 [.int .i64 0, .int .i64 0, Str [], .slice none 0 0] (fun b => pA b 0) (by kernel_rfl) (by kernel_rfl) fun b1 a w hK hM => ?_
 refine region_done hK [(2, pA b1 0), (0, .int .i64 n)] ⟨rfl, rfl, trivial⟩ fun a hK => ?_
 refine wp_seq ?_
 refine region_go (lst := [0, 1, 2]) (by kernel_rfl) ?_
 refine stepM hK 3 0 (by kernel_rfl) (.inl rfl) rfl fun a hK => ?_
 refine stepP hK 4 (.agg #[.int .i64 1, .int .i64 n, Str [], .slice none 0 0]) (by kernel_rfl) (by kernel_rfl) fun a hK => ?_
 refine stepStore hK hM 0 [.int .i64 1, .int .i64 n, Str [], .slice none 0 0] (by kernel_rfl) rfl rfl rfl rfl (by kernel_rfl) fun w hM => ?_
 replace hM := hM.to [.row b1 36 [.int .i64 1, .int .i64 n, Str [], .slice none 0 0]] (by kernel_rfl)
 refine region_done hK [(2, pA b1 0), (0, .int .i64 n)] ⟨rfl, rfl, trivial⟩ fun a hK => ?_
 refine wp_ret ?_
 exact ret_c hK rfl rfl ((hM.row 0 rfl).cells 0 4) (u := (.agg #[.int .i64 1, .int .i64 n, Str [], .slice none 0 0])) (by kernel_rfl) (⟨rfl, hM.below⟩)
set_option maxRecDepth 100000 in
set_option maxHeartbeats 4000000 in
theorem kit_Reg (s : List UInt8) (w0 : World) : Calls Tryd.prog 22 #[Str s] w0 (Ret w0 (.agg #[.int .i64 2, .int .i64 0, Str s, .slice none 0 0])) := by
 refine calls_K (args := [Str s]) (n := 5) (env := [(0, Str s)]) Tryd.func22 rfl rfl rfl ⟨rfl, trivial⟩ fun a w hK hM => ?_
 refine wp_seq ?_
 refine region_go (lst := [0]) (by kernel_rfl) ?_
 refine stepAlloc hK hM 2 36 [.int .i64 0, .int .i64 0, Str [], .slice none 0 0] (fun b => pA b 0) (by kernel_rfl) (by kernel_rfl) fun b1 a w hK hM => ?_
 refine region_done hK [(2, pA b1 0), (0, Str s)] ⟨rfl, rfl, trivial⟩ fun a hK => ?_
 refine wp_seq ?_
 refine region_go (lst := [0, 1, 2]) (by kernel_rfl) ?_
 refine stepM hK 3 0 (by kernel_rfl) (.inl rfl) rfl fun a hK => ?_
 refine stepP hK 4 (.agg #[.int .i64 2, .int .i64 0, Str s, .slice none 0 0]) (by kernel_rfl) (by kernel_rfl) fun a hK => ?_
 refine stepStore hK hM 0 [.int .i64 2, .int .i64 0, Str s, .slice none 0 0] (by kernel_rfl) rfl rfl rfl rfl (by kernel_rfl) fun w hM => ?_
 replace hM := hM.to [.row b1 36 [.int .i64 2, .int .i64 0, Str s, .slice none 0 0]] (by kernel_rfl)
 refine region_done hK [(2, pA b1 0), (0, Str s)] ⟨rfl, rfl, trivial⟩ fun a hK => ?_
 refine wp_ret ?_
 exact ret_c hK rfl rfl ((hM.row 0 rfl).cells 0 4) (u := (.agg #[.int .i64 2, .int .i64 0, Str s, .slice none 0 0])) (by kernel_rfl) (⟨rfl, hM.below⟩)
set_option maxRecDepth 100000 in
set_option maxHeartbeats 4000000 in
theorem kit_Two (op_ o1 n1 o2 n2 : Int) (m1 m2 : List UInt8) (A1 A2 : Option Addr) (k1 c1 k2 c2 : Nat) (w0 : World) : Calls Tryd.prog 23 #[.int .i64 op_, .agg #[.int .i64 o1, .int .i64 n1, Str m1, .slice A1 k1 c1], .agg #[.int .i64 o2, .int .i64 n2, Str m2, .slice A2 k2 c2]] w0 (Gives w0 (fun b : Nat => .agg #[.int .i64 op_, .int .i64 0, Str [], .slice (some ⟨b, 0, none⟩) 2 2]) (fun b => [.row b 36 [.int .i64 o1, .int .i64 n1, Str m1, .slice A1 k1 c1, .int .i64 o2, .int .i64 n2, Str m2, .slice A2 k2 c2]]) fun _ => True) := by
 refine calls_K (args := [.int .i64 op_, .agg #[.int .i64 o1, .int .i64 n1, Str m1, .slice A1 k1 c1], .agg #[.int .i64 o2, .int .i64 n2, Str m2, .slice A2 k2 c2]]) (n := 12) (env := [(0, .int .i64 op_), (1, .agg #[.int .i64 o1, .int .i64 n1, Str m1, .slice A1 k1 c1]), (2, .agg #[.int .i64 o2, .int .i64 n2, Str m2, .slice A2 k2 c2])]) Tryd.func23 rfl rfl rfl ⟨rfl, rfl, rfl, trivial⟩ fun a w hK hM => ?_
 refine wp_seq ?_
 refine region_go (lst := [0, 1, 2]) (by kernel_rfl) ?_
 refine stepAlloc hK hM 4 36 [.int .i64 o1, .int .i64 n1, Str m1, .slice A1 k1 c1] (fun b => pA b 0) (by kernel_rfl) (by kernel_rfl) fun b1 a w hK hM => ?_
 refine stepAlloc hK hM 5 36 [.int .i64 o2, .int .i64 n2, Str m2, .slice A2 k2 c2] (fun b => pA b 0) (by kernel_rfl) (by kernel_rfl) fun b2 a w hK hM => ?_
 refine stepAlloc hK hM 6 36 [.int .i64 0, .int .i64 0, Str [], .slice none 0 0] (fun b => pA b 0) (by kernel_rfl) (by kernel_rfl) fun b3 a w hK hM => ?_
 refine region_done hK [(6, pA b3 0), (5, pA b2 0), (4, pA b1 0), (0, .int .i64 op_), (1, .agg #[.int .i64 o1, .int .i64 n1, Str m1, .slice A1 k1 c1]), (2, .agg #[.int .i64 o2, .int .i64 n2, Str m2, .slice A2 k2 c2])] ⟨rfl, rfl, rfl, rfl, rfl, rfl, trivial⟩ fun a hK => ?_
 refine wp_seq ?_
 refine region_go (lst := [0, 1, 2, 3, 4, 5]) (by kernel_rfl) ?_
 refine stepM hK 7 0 (by kernel_rfl) (.inl rfl) rfl fun a hK => ?_
 refine stepLoad hK 8 (.agg #[.int .i64 o1, .int .i64 n1, Str m1, .slice A1 k1 c1]) (by kernel_rfl) rfl rfl ((hM.row 2 rfl).cells 0 4) (by kernel_rfl) fun a hK => ?_
 refine stepLoad hK 9 (.agg #[.int .i64 o2, .int .i64 n2, Str m2, .slice A2 k2 c2]) (by kernel_rfl) rfl rfl ((hM.row 1 rfl).cells 0 4) (by kernel_rfl) fun a hK => ?_
 refine stepAlloc hK hM 10 36 [.int .i64 o1, .int .i64 n1, Str m1, .slice A1 k1 c1, .int .i64 o2, .int .i64 n2, Str m2, .slice A2 k2 c2] (fun b => .slice (some ⟨b, 0, none⟩) 2 2) (by kernel_rfl) (by kernel_rfl) fun b4 a w hK hM => ?_
 refine stepP hK 11 (.agg #[.int .i64 op_, .int .i64 0, Str [], .slice (some ⟨b4, 0, none⟩) 2 2]) (by kernel_rfl) (by kernel_rfl) fun a hK => ?_
 refine stepStore hK hM 1 [.int .i64 op_, .int .i64 0, Str [], .slice (some ⟨b4, 0, none⟩) 2 2] (by kernel_rfl) rfl rfl rfl rfl (by kernel_rfl) fun w hM => ?_
 replace hM := hM.to [.row b4 36 [.int .i64 o1, .int .i64 n1, Str m1, .slice A1 k1 c1, .int .i64 o2, .int .i64 n2, Str m2, .slice A2 k2 c2], .row b3 36 [.int .i64 op_, .int .i64 0, Str [], .slice (some ⟨b4, 0, none⟩) 2 2], .row b2 36 [.int .i64 o2, .int .i64 n2, Str m2, .slice A2 k2 c2], .row b1 36 [.int .i64 o1, .int .i64 n1, Str m1, .slice A1 k1 c1]] (by kernel_rfl)
 refine region_done hK [(6, pA b3 0), (5, pA b2 0), (4, pA b1 0), (0, .int .i64 op_), (1, .agg #[.int .i64 o1, .int .i64 n1, Str m1, .slice A1 k1 c1]), (2, .agg #[.int .i64 o2, .int .i64 n2, Str m2, .slice A2 k2 c2])] ⟨rfl, rfl, rfl, rfl, rfl, rfl, trivial⟩ fun a hK => ?_
 refine wp_ret ?_
 exact ret_c hK rfl rfl ((hM.row 1 rfl).cells 0 4) (u := (.agg #[.int .i64 op_, .int .i64 0, Str [], .slice (some ⟨b4, 0, none⟩) 2 2])) (by kernel_rfl) (⟨b4, rfl, hM.pick 0 rfl, trivial⟩)
set_option maxRecDepth 100000 in
set_option maxHeartbeats 4000000 in
theorem kit_Pages  (w0 : World) : Calls Tryd.prog 6 #[] w0 (Gives w0 (fun x : Nat × Nat × Nat × Nat × Nat × Nat × Nat × Nat => .agg #[.slice (some ⟨x.2.2.2.1, 0, none⟩) 1 1, .slice (some ⟨x.2.2.2.2.2.2.2, 0, none⟩) 1 1]) (fun x => [.row x.1 36 [.int .i64 2, .int .i64 0, Str [114], .slice none 0 0, .int .i64 1, .int .i64 1, Str [], .slice none 0 0], .row x.2.1 36 [.int .i64 14, .int .i64 0, Str [], .slice (some ⟨x.1, 0, none⟩) 2 2], .row x.2.2.1 30 [.int .i64 3, Str [], Str [120], .int .i64 4, .slice (some ⟨x.2.1, 0, none⟩) 1 1, .slice none 0 0, .slice none 0 0], .row x.2.2.2.1 45 [Str [120], .bool false, .int .i64 0], .row x.2.2.2.2.1 36 [.int .i64 2, .int .i64 0, Str [114], .slice none 0 0, .int .i64 1, .int .i64 1, Str [], .slice none 0 0], .row x.2.2.2.2.2.1 36 [.int .i64 7, .int .i64 0, Str [], .slice (some ⟨x.2.2.2.2.1, 0, none⟩) 2 2], .row x.2.2.2.2.2.2.1 30 [.int .i64 2, Str [114], Str [120], .int .i64 3, .slice none 0 0, .slice none 0 0, .slice none 0 0, .int .i64 10, Str [], Str [], .int .i64 0, .slice (some ⟨x.2.2.2.2.2.1, 0, none⟩) 1 1, .slice (some ⟨x.2.2.1, 0, none⟩) 1 1, .slice none 0 0], .row x.2.2.2.2.2.2.2 28 [.slice (some ⟨x.2.2.2.2.2.2.1, 0, none⟩) 2 2]]) fun _ => True) := by
 refine calls_K (args := []) (n := 22) (env := []) Tryd.func6 rfl rfl rfl trivial fun a w hK hM => ?_
 refine wp_seq ?_
 refine region_go (lst := [0]) (by kernel_rfl) ?_
 refine stepAlloc hK hM 0 25 [.slice none 0 0, .slice none 0 0] (fun b => pA b 0) (by kernel_rfl) (by kernel_rfl) fun b1 a w hK hM => ?_
 refine region_done hK [(0, pA b1 0)] ⟨rfl, trivial⟩ fun a hK => ?_
 refine wp_seq ?_
 refine region_go (lst := [0, 1, 2]) (by kernel_rfl) ?_
 refine stepRet hK hM 3 #[Str [114]] (.agg #[.int .i64 2, .int .i64 0, Str [114], .slice none 0 0]) (by kernel_rfl) (run_callE en_cantileverkit_Reg rfl rfl (by kernel_rfl)) (kit_Reg [114] _) fun a w hK hM => ?_
 refine stepAlloc hK hM 1 36 [.int .i64 0, .int .i64 0, Str [], .slice none 0 0] (fun b => pA b 0) (by kernel_rfl) (by kernel_rfl) fun b2 a w hK hM => ?_
 refine stepStore hK hM 0 [.int .i64 2, .int .i64 0, Str [114], .slice none 0 0] (by kernel_rfl) rfl rfl rfl rfl (by kernel_rfl) fun w hM => ?_
 replace hM := hM.to [.row b2 36 [.int .i64 2, .int .i64 0, Str [114], .slice none 0 0], .row b1 25 [.slice none 0 0, .slice none 0 0]] (by kernel_rfl)
 refine region_done hK [(1, pA b2 0), (0, pA b1 0)] ⟨rfl, rfl, trivial⟩ fun a hK => ?_
 refine wp_seq ?_
 refine wp_cut (fun a w => ∃ (b2_2 : Nat), ∃ (b2_3 : Nat), ∃ (b2_5 : Nat), Knows a 22 [(2, .slice (some ⟨b2_5, 0, none⟩) 1 1), (1, pA b2 0), (0, pA b1 0)] ∧ Mem w0 w [.row b2_5 30 [.int .i64 3, Str [], Str [120], .int .i64 4, .slice (some ⟨b2_3, 0, none⟩) 1 1, .slice none 0 0, .slice none 0 0], .row b2_3 36 [.int .i64 14, .int .i64 0, Str [], .slice (some ⟨b2_2, 0, none⟩) 2 2], .row b2_2 36 [.int .i64 2, .int .i64 0, Str [114], .slice none 0 0, .int .i64 1, .int .i64 1, Str [], .slice none 0 0], .row b2 36 [.int .i64 2, .int .i64 0, Str [114], .slice none 0 0], .row b1 25 [.slice none 0 0, .slice none 0 0]]) ?_ ?_
 ·refine region_tree hM (by kernel_rfl) 7 (by kernel_rfl) #[false, false, false, false, false, false, false] (by kernel_rfl) ?_
  clear hM; intro w hM
  refine treeM [0, 1] (by kernel_rfl) rfl ⟨?_, ?_, trivial⟩
  ·refine stepLoad hK 4 (.agg #[.int .i64 2, .int .i64 0, Str [114], .slice none 0 0]) (by kernel_rfl) rfl rfl ((hM.row 0 rfl).cells 0 4) (by kernel_rfl) fun a hK => ?_
   refine tree_next #[true, false, false, false, false, false, false] (by kernel_rfl) ?_
   refine treeM [1] (by kernel_rfl) rfl ⟨?_, trivial⟩
   refine stepRet hK hM 5 #[.int .i64 1] (.agg #[.int .i64 1, .int .i64 1, Str [], .slice none 0 0]) (by kernel_rfl) (run_callE en_cantileverkit_Num rfl rfl (by kernel_rfl)) (kit_Num 1 _) fun a w hK hM => ?_
   refine tree_next #[true, true, false, false, false, false, false] (by kernel_rfl) ?_
   refine treeM [2] (by kernel_rfl) rfl ⟨?_, trivial⟩
   refine stepCall hK hM 6 #[.int .i64 14, .agg #[.int .i64 2, .int .i64 0, Str [114], .slice none 0 0], .agg #[.int .i64 1, .int .i64 1, Str [], .slice none 0 0]] (by kernel_rfl) (run_callE en_cantileverkit_Two rfl rfl (by kernel_rfl)) (kit_Two 14 2 0 1 1 [114] [] none none 0 0 0 0 _) ?_
   rintro b2_2 a w - hK hM
   refine tree_next #[true, true, true, false, false, false, false] (by kernel_rfl) ?_
   refine treeM [3] (by kernel_rfl) rfl ⟨?_, trivial⟩
   refine stepAlloc hK hM 7 36 [.int .i64 14, .int .i64 0, Str [], .slice (some ⟨b2_2, 0, none⟩) 2 2] (fun b => .slice (some ⟨b, 0, none⟩) 1 1) (by kernel_rfl) (by kernel_rfl) fun b2_3 a w hK hM => ?_
   refine tree_next #[true, true, true, true, false, false, false] (by kernel_rfl) ?_
   refine treeP hK 4 8 (.agg #[.int .i64 3, Str [], Str [120], .int .i64 4, .slice (some ⟨b2_3, 0, none⟩) 1 1, .slice none 0 0, .slice none 0 0]) (by kernel_rfl) (by kernel_rfl) (by kernel_rfl) (fun w => (by kernel_rfl)) #[true, true, true, true, true, false, false] (by kernel_rfl) fun a hK => ?_
   refine treeM [5] (by kernel_rfl) rfl ⟨?_, trivial⟩
   refine stepAlloc hK hM 9 30 [.int .i64 3, Str [], Str [120], .int .i64 4, .slice (some ⟨b2_3, 0, none⟩) 1 1, .slice none 0 0, .slice none 0 0] (fun b => .slice (some ⟨b, 0, none⟩) 1 1) (by kernel_rfl) (by kernel_rfl) fun b2_5 a w hK hM => ?_
   refine tree_next #[true, true, true, true, true, true, false] (by kernel_rfl) ?_
   refine treeP hK 6 2 (.slice (some ⟨b2_5, 0, none⟩) 1 1) (by kernel_rfl) (by kernel_rfl) (by kernel_rfl) (fun w => (by kernel_rfl)) #[true, true, true, true, true, true, true] (by kernel_rfl) fun a hK => ?_
   exact treeE (by kernel_rfl) ⟨b2_2, b2_3, b2_5, hK.sub ⟨rfl, rfl, rfl, trivial⟩, hM⟩
  ·refine stepRet hK hM 5 #[.int .i64 1] (.agg #[.int .i64 1, .int .i64 1, Str [], .slice none 0 0]) (by kernel_rfl) (run_callE en_cantileverkit_Num rfl rfl (by kernel_rfl)) (kit_Num 1 _) fun a w hK hM => ?_
   refine tree_next #[false, true, false, false, false, false, false] (by kernel_rfl) ?_
   refine treeM [0] (by kernel_rfl) rfl ⟨?_, trivial⟩
   refine stepLoad hK 4 (.agg #[.int .i64 2, .int .i64 0, Str [114], .slice none 0 0]) (by kernel_rfl) rfl rfl ((hM.row 0 rfl).cells 0 4) (by kernel_rfl) fun a hK => ?_
   refine tree_next #[true, true, false, false, false, false, false] (by kernel_rfl) ?_
   refine treeM [2] (by kernel_rfl) rfl ⟨?_, trivial⟩
   refine stepCall hK hM 6 #[.int .i64 14, .agg #[.int .i64 2, .int .i64 0, Str [114], .slice none 0 0], .agg #[.int .i64 1, .int .i64 1, Str [], .slice none 0 0]] (by kernel_rfl) (run_callE en_cantileverkit_Two rfl rfl (by kernel_rfl)) (kit_Two 14 2 0 1 1 [114] [] none none 0 0 0 0 _) ?_
   rintro b2_2 a w - hK hM
   refine tree_next #[true, true, true, false, false, false, false] (by kernel_rfl) ?_
   refine treeM [3] (by kernel_rfl) rfl ⟨?_, trivial⟩
   refine stepAlloc hK hM 7 36 [.int .i64 14, .int .i64 0, Str [], .slice (some ⟨b2_2, 0, none⟩) 2 2] (fun b => .slice (some ⟨b, 0, none⟩) 1 1) (by kernel_rfl) (by kernel_rfl) fun b2_3 a w hK hM => ?_
   refine tree_next #[true, true, true, true, false, false, false] (by kernel_rfl) ?_
   refine treeP hK 4 8 (.agg #[.int .i64 3, Str [], Str [120], .int .i64 4, .slice (some ⟨b2_3, 0, none⟩) 1 1, .slice none 0 0, .slice none 0 0]) (by kernel_rfl) (by kernel_rfl) (by kernel_rfl) (fun w => (by kernel_rfl)) #[true, true, true, true, true, false, false] (by kernel_rfl) fun a hK => ?_
   refine treeM [5] (by kernel_rfl) rfl ⟨?_, trivial⟩
   refine stepAlloc hK hM 9 30 [.int .i64 3, Str [], Str [120], .int .i64 4, .slice (some ⟨b2_3, 0, none⟩) 1 1, .slice none 0 0, .slice none 0 0] (fun b => .slice (some ⟨b, 0, none⟩) 1 1) (by kernel_rfl) (by kernel_rfl) fun b2_5 a w hK hM => ?_
   refine tree_next #[true, true, true, true, true, true, false] (by kernel_rfl) ?_
   refine treeP hK 6 2 (.slice (some ⟨b2_5, 0, none⟩) 1 1) (by kernel_rfl) (by kernel_rfl) (by kernel_rfl) (fun w => (by kernel_rfl)) #[true, true, true, true, true, true, true] (by kernel_rfl) fun a hK => ?_
   exact treeE (by kernel_rfl) ⟨b2_2, b2_3, b2_5, hK.sub ⟨rfl, rfl, rfl, trivial⟩, hM⟩
 rintro a w ⟨b2_2, b2_3, b2_5, hK, hM⟩
 refine wp_seq ?_
 refine wp_cut (fun a w => ∃ (b3_1 : Nat), ∃ (b3_10 : Nat), ∃ (b3_5 : Nat), ∃ (b3_6 : Nat), ∃ (b3_9 : Nat), Knows a 22 [(2, .slice (some ⟨b2_5, 0, none⟩) 1 1), (1, pA b2 0), (0, pA b1 0)] ∧ Mem w0 w [.row b3_10 28 [.slice (some ⟨b3_9, 0, none⟩) 2 2], .row b3_9 30 [.int .i64 2, Str [114], Str [120], .int .i64 3, .slice none 0 0, .slice none 0 0, .slice none 0 0, .int .i64 10, Str [], Str [], .int .i64 0, .slice (some ⟨b3_6, 0, none⟩) 1 1, .slice (some ⟨b2_5, 0, none⟩) 1 1, .slice none 0 0], .row b3_6 36 [.int .i64 7, .int .i64 0, Str [], .slice (some ⟨b3_5, 0, none⟩) 2 2], .row b3_5 36 [.int .i64 2, .int .i64 0, Str [114], .slice none 0 0, .int .i64 1, .int .i64 1, Str [], .slice none 0 0], .row b3_1 45 [Str [120], .bool false, .int .i64 0], .row b2_5 30 [.int .i64 3, Str [], Str [120], .int .i64 4, .slice (some ⟨b2_3, 0, none⟩) 1 1, .slice none 0 0, .slice none 0 0], .row b2_3 36 [.int .i64 14, .int .i64 0, Str [], .slice (some ⟨b2_2, 0, none⟩) 2 2], .row b2_2 36 [.int .i64 2, .int .i64 0, Str [114], .slice none 0 0, .int .i64 1, .int .i64 1, Str [], .slice none 0 0], .row b2 36 [.int .i64 2, .int .i64 0, Str [114], .slice none 0 0], .row b1 25 [.slice (some ⟨b3_1, 0, none⟩) 1 1, .slice (some ⟨b3_10, 0, none⟩) 1 1]]) ?_ ?_
 ·refine region_tree hM (by kernel_rfl) 13 (by kernel_rfl) #[false, false, false, false, false, false, false, false, false, false, false, false, false] (by kernel_rfl) ?_
  clear hM; intro w hM
  refine treeP hK 0 10 (.agg #[Str [120], .bool false, .int .i64 0]) (by kernel_rfl) (by kernel_rfl) (by kernel_rfl) (fun w => (by kernel_rfl)) #[true, false, false, false, false, false, false, false, false, false, false, false, false] (by kernel_rfl) fun a hK => ?_
  refine treeP hK 2 12 (.agg #[.int .i64 2, Str [114], Str [120], .int .i64 3, .slice none 0 0, .slice none 0 0, .slice none 0 0]) (by kernel_rfl) (by kernel_rfl) (by kernel_rfl) (fun w => (by kernel_rfl)) #[true, false, true, false, false, false, false, false, false, false, false, false, false] (by kernel_rfl) fun a hK => ?_
  refine treeP hK 7 17 (.slice (some ⟨b2_5, 0, none⟩) 1 1) (by kernel_rfl) (by kernel_rfl) (by kernel_rfl) (fun w => (by kernel_rfl)) #[true, false, true, false, false, false, false, true, false, false, false, false, false] (by kernel_rfl) fun a hK => ?_
  refine treeM [1, 3, 4] (by kernel_rfl) rfl ⟨?_, ?_, ?_, trivial⟩
  ·refine stepAlloc hK hM 11 45 [Str [120], .bool false, .int .i64 0] (fun b => .slice (some ⟨b, 0, none⟩) 1 1) (by kernel_rfl) (by kernel_rfl) fun b3_1 a w hK hM => ?_
   refine tree_next #[true, true, true, false, false, false, false, true, false, false, false, false, false] (by kernel_rfl) ?_
   refine treeM [3, 4] (by kernel_rfl) rfl ⟨?_, ?_, trivial⟩
   ·refine stepLoad hK 13 (.agg #[.int .i64 2, .int .i64 0, Str [114], .slice none 0 0]) (by kernel_rfl) rfl rfl ((hM.row 4 rfl).cells 0 4) (by kernel_rfl) fun a hK => ?_
    refine tree_next #[true, true, true, true, false, false, false, true, false, false, false, false, false] (by kernel_rfl) ?_
    refine treeM [4] (by kernel_rfl) rfl ⟨?_, trivial⟩
    refine stepRet hK hM 14 #[.int .i64 1] (.agg #[.int .i64 1, .int .i64 1, Str [], .slice none 0 0]) (by kernel_rfl) (run_callE en_cantileverkit_Num rfl rfl (by kernel_rfl)) (kit_Num 1 _) fun a w hK hM => ?_
    refine tree_next #[true, true, true, true, true, false, false, true, false, false, false, false, false] (by kernel_rfl) ?_
    refine treeM [5] (by kernel_rfl) rfl ⟨?_, trivial⟩
    refine stepCall hK hM 15 #[.int .i64 7, .agg #[.int .i64 2, .int .i64 0, Str [114], .slice none 0 0], .agg #[.int .i64 1, .int .i64 1, Str [], .slice none 0 0]] (by kernel_rfl) (run_callE en_cantileverkit_Two rfl rfl (by kernel_rfl)) (kit_Two 7 2 0 1 1 [114] [] none none 0 0 0 0 _) ?_
    rintro b3_5 a w - hK hM
    refine tree_next #[true, true, true, true, true, true, false, true, false, false, false, false, false] (by kernel_rfl) ?_
    refine treeM [6] (by kernel_rfl) rfl ⟨?_, trivial⟩
    refine stepAlloc hK hM 16 36 [.int .i64 7, .int .i64 0, Str [], .slice (some ⟨b3_5, 0, none⟩) 2 2] (fun b => .slice (some ⟨b, 0, none⟩) 1 1) (by kernel_rfl) (by kernel_rfl) fun b3_6 a w hK hM => ?_
    refine tree_next #[true, true, true, true, true, true, true, true, false, false, false, false, false] (by kernel_rfl) ?_
    refine treeP hK 8 18 (.agg #[.int .i64 10, Str [], Str [], .int .i64 0, .slice (some ⟨b3_6, 0, none⟩) 1 1, .slice (some ⟨b2_5, 0, none⟩) 1 1, .slice none 0 0]) (by kernel_rfl) (by kernel_rfl) (by kernel_rfl) (fun w => (by kernel_rfl)) #[true, true, true, true, true, true, true, true, true, false, false, false, false] (by kernel_rfl) fun a hK => ?_
    refine treeM [9] (by kernel_rfl) rfl ⟨?_, trivial⟩
    refine stepAlloc hK hM 19 30 [.int .i64 2, Str [114], Str [120], .int .i64 3, .slice none 0 0, .slice none 0 0, .slice none 0 0, .int .i64 10, Str [], Str [], .int .i64 0, .slice (some ⟨b3_6, 0, none⟩) 1 1, .slice (some ⟨b2_5, 0, none⟩) 1 1, .slice none 0 0] (fun b => .slice (some ⟨b, 0, none⟩) 2 2) (by kernel_rfl) (by kernel_rfl) fun b3_9 a w hK hM => ?_
    refine tree_next #[true, true, true, true, true, true, true, true, true, true, false, false, false] (by kernel_rfl) ?_
    refine treeM [10] (by kernel_rfl) rfl ⟨?_, trivial⟩
    refine stepAlloc hK hM 20 28 [.slice (some ⟨b3_9, 0, none⟩) 2 2] (fun b => .slice (some ⟨b, 0, none⟩) 1 1) (by kernel_rfl) (by kernel_rfl) fun b3_10 a w hK hM => ?_
    refine tree_next #[true, true, true, true, true, true, true, true, true, true, true, false, false] (by kernel_rfl) ?_
    refine treeP hK 11 21 (.agg #[.slice (some ⟨b3_1, 0, none⟩) 1 1, .slice (some ⟨b3_10, 0, none⟩) 1 1]) (by kernel_rfl) (by kernel_rfl) (by kernel_rfl) (fun w => (by kernel_rfl)) #[true, true, true, true, true, true, true, true, true, true, true, true, false] (by kernel_rfl) fun a hK => ?_
    refine treeM [12] (by kernel_rfl) rfl ⟨?_, trivial⟩
    refine stepStore hK hM 9 [.slice (some ⟨b3_1, 0, none⟩) 1 1, .slice (some ⟨b3_10, 0, none⟩) 1 1] (by kernel_rfl) rfl rfl rfl rfl (by kernel_rfl) fun w hM => ?_
    replace hM := hM.to [.row b3_10 28 [.slice (some ⟨b3_9, 0, none⟩) 2 2], .row b3_9 30 [.int .i64 2, Str [114], Str [120], .int .i64 3, .slice none 0 0, .slice none 0 0, .slice none 0 0, .int .i64 10, Str [], Str [], .int .i64 0, .slice (some ⟨b3_6, 0, none⟩) 1 1, .slice (some ⟨b2_5, 0, none⟩) 1 1, .slice none 0 0], .row b3_6 36 [.int .i64 7, .int .i64 0, Str [], .slice (some ⟨b3_5, 0, none⟩) 2 2], .row b3_5 36 [.int .i64 2, .int .i64 0, Str [114], .slice none 0 0, .int .i64 1, .int .i64 1, Str [], .slice none 0 0], .row b3_1 45 [Str [120], .bool false, .int .i64 0], .row b2_5 30 [.int .i64 3, Str [], Str [120], .int .i64 4, .slice (some ⟨b2_3, 0, none⟩) 1 1, .slice none 0 0, .slice none 0 0], .row b2_3 36 [.int .i64 14, .int .i64 0, Str [], .slice (some ⟨b2_2, 0, none⟩) 2 2], .row b2_2 36 [.int .i64 2, .int .i64 0, Str [114], .slice none 0 0, .int .i64 1, .int .i64 1, Str [], .slice none 0 0], .row b2 36 [.int .i64 2, .int .i64 0, Str [114], .slice none 0 0], .row b1 25 [.slice (some ⟨b3_1, 0, none⟩) 1 1, .slice (some ⟨b3_10, 0, none⟩) 1 1]] (by kernel_rfl)
    refine tree_next #[true, true, true, true, true, true, true, true, true, true, true, true, true] (by kernel_rfl) ?_
    exact treeE (by kernel_rfl) ⟨b3_1, b3_10, b3_5, b3_6, b3_9, hK.sub ⟨rfl, rfl, rfl, trivial⟩, hM⟩
   ·refine stepRet hK hM 14 #[.int .i64 1] (.agg #[.int .i64 1, .int .i64 1, Str [], .slice none 0 0]) (by kernel_rfl) (run_callE en_cantileverkit_Num rfl rfl (by kernel_rfl)) (kit_Num 1 _) fun a w hK hM => ?_
    refine tree_next #[true, true, true, false, true, false, false, true, false, false, false, false, false] (by kernel_rfl) ?_
    refine treeM [3] (by kernel_rfl) rfl ⟨?_, trivial⟩
    refine stepLoad hK 13 (.agg #[.int .i64 2, .int .i64 0, Str [114], .slice none 0 0]) (by kernel_rfl) rfl rfl ((hM.row 4 rfl).cells 0 4) (by kernel_rfl) fun a hK => ?_
    refine tree_next #[true, true, true, true, true, false, false, true, false, false, false, false, false] (by kernel_rfl) ?_
    refine treeM [5] (by kernel_rfl) rfl ⟨?_, trivial⟩
    refine stepCall hK hM 15 #[.int .i64 7, .agg #[.int .i64 2, .int .i64 0, Str [114], .slice none 0 0], .agg #[.int .i64 1, .int .i64 1, Str [], .slice none 0 0]] (by kernel_rfl) (run_callE en_cantileverkit_Two rfl rfl (by kernel_rfl)) (kit_Two 7 2 0 1 1 [114] [] none none 0 0 0 0 _) ?_
    rintro b3_5 a w - hK hM
    refine tree_next #[true, true, true, true, true, true, false, true, false, false, false, false, false] (by kernel_rfl) ?_
    refine treeM [6] (by kernel_rfl) rfl ⟨?_, trivial⟩
    refine stepAlloc hK hM 16 36 [.int .i64 7, .int .i64 0, Str [], .slice (some ⟨b3_5, 0, none⟩) 2 2] (fun b => .slice (some ⟨b, 0, none⟩) 1 1) (by kernel_rfl) (by kernel_rfl) fun b3_6 a w hK hM => ?_
    refine tree_next #[true, true, true, true, true, true, true, true, false, false, false, false, false] (by kernel_rfl) ?_
    refine treeP hK 8 18 (.agg #[.int .i64 10, Str [], Str [], .int .i64 0, .slice (some ⟨b3_6, 0, none⟩) 1 1, .slice (some ⟨b2_5, 0, none⟩) 1 1, .slice none 0 0]) (by kernel_rfl) (by kernel_rfl) (by kernel_rfl) (fun w => (by kernel_rfl)) #[true, true, true, true, true, true, true, true, true, false, false, false, false] (by kernel_rfl) fun a hK => ?_
    refine treeM [9] (by kernel_rfl) rfl ⟨?_, trivial⟩
    refine stepAlloc hK hM 19 30 [.int .i64 2, Str [114], Str [120], .int .i64 3, .slice none 0 0, .slice none 0 0, .slice none 0 0, .int .i64 10, Str [], Str [], .int .i64 0, .slice (some ⟨b3_6, 0, none⟩) 1 1, .slice (some ⟨b2_5, 0, none⟩) 1 1, .slice none 0 0] (fun b => .slice (some ⟨b, 0, none⟩) 2 2) (by kernel_rfl) (by kernel_rfl) fun b3_9 a w hK hM => ?_
    refine tree_next #[true, true, true, true, true, true, true, true, true, true, false, false, false] (by kernel_rfl) ?_
    refine treeM [10] (by kernel_rfl) rfl ⟨?_, trivial⟩
    refine stepAlloc hK hM 20 28 [.slice (some ⟨b3_9, 0, none⟩) 2 2] (fun b => .slice (some ⟨b, 0, none⟩) 1 1) (by kernel_rfl) (by kernel_rfl) fun b3_10 a w hK hM => ?_
    refine tree_next #[true, true, true, true, true, true, true, true, true, true, true, false, false] (by kernel_rfl) ?_
    refine treeP hK 11 21 (.agg #[.slice (some ⟨b3_1, 0, none⟩) 1 1, .slice (some ⟨b3_10, 0, none⟩) 1 1]) (by kernel_rfl) (by kernel_rfl) (by kernel_rfl) (fun w => (by kernel_rfl)) #[true, true, true, true, true, true, true, true, true, true, true, true, false] (by kernel_rfl) fun a hK => ?_
    refine treeM [12] (by kernel_rfl) rfl ⟨?_, trivial⟩
    refine stepStore hK hM 9 [.slice (some ⟨b3_1, 0, none⟩) 1 1, .slice (some ⟨b3_10, 0, none⟩) 1 1] (by kernel_rfl) rfl rfl rfl rfl (by kernel_rfl) fun w hM => ?_
    replace hM := hM.to [.row b3_10 28 [.slice (some ⟨b3_9, 0, none⟩) 2 2], .row b3_9 30 [.int .i64 2, Str [114], Str [120], .int .i64 3, .slice none 0 0, .slice none 0 0, .slice none 0 0, .int .i64 10, Str [], Str [], .int .i64 0, .slice (some ⟨b3_6, 0, none⟩) 1 1, .slice (some ⟨b2_5, 0, none⟩) 1 1, .slice none 0 0], .row b3_6 36 [.int .i64 7, .int .i64 0, Str [], .slice (some ⟨b3_5, 0, none⟩) 2 2], .row b3_5 36 [.int .i64 2, .int .i64 0, Str [114], .slice none 0 0, .int .i64 1, .int .i64 1, Str [], .slice none 0 0], .row b3_1 45 [Str [120], .bool false, .int .i64 0], .row b2_5 30 [.int .i64 3, Str [], Str [120], .int .i64 4, .slice (some ⟨b2_3, 0, none⟩) 1 1, .slice none 0 0, .slice none 0 0], .row b2_3 36 [.int .i64 14, .int .i64 0, Str [], .slice (some ⟨b2_2, 0, none⟩) 2 2], .row b2_2 36 [.int .i64 2, .int .i64 0, Str [114], .slice none 0 0, .int .i64 1, .int .i64 1, Str [], .slice none 0 0], .row b2 36 [.int .i64 2, .int .i64 0, Str [114], .slice none 0 0], .row b1 25 [.slice (some ⟨b3_1, 0, none⟩) 1 1, .slice (some ⟨b3_10, 0, none⟩) 1 1]] (by kernel_rfl)
    refine tree_next #[true, true, true, true, true, true, true, true, true, true, true, true, true] (by kernel_rfl) ?_
    exact treeE (by kernel_rfl) ⟨b3_1, b3_10, b3_5, b3_6, b3_9, hK.sub ⟨rfl, rfl, rfl, trivial⟩, hM⟩
  ·refine stepLoad hK 13 (.agg #[.int .i64 2, .int .i64 0, Str [114], .slice none 0 0]) (by kernel_rfl) rfl rfl ((hM.row 3 rfl).cells 0 4) (by kernel_rfl) fun a hK => ?_
   refine tree_next #[true, false, true, true, false, false, false, true, false, false, false, false, false] (by kernel_rfl) ?_
   refine treeM [1, 4] (by kernel_rfl) rfl ⟨?_, ?_, trivial⟩
   ·refine stepAlloc hK hM 11 45 [Str [120], .bool false, .int .i64 0] (fun b => .slice (some ⟨b, 0, none⟩) 1 1) (by kernel_rfl) (by kernel_rfl) fun b3_1 a w hK hM => ?_
    refine tree_next #[true, true, true, true, false, false, false, true, false, false, false, false, false] (by kernel_rfl) ?_
    refine treeM [4] (by kernel_rfl) rfl ⟨?_, trivial⟩
    refine stepRet hK hM 14 #[.int .i64 1] (.agg #[.int .i64 1, .int .i64 1, Str [], .slice none 0 0]) (by kernel_rfl) (run_callE en_cantileverkit_Num rfl rfl (by kernel_rfl)) (kit_Num 1 _) fun a w hK hM => ?_
    refine tree_next #[true, true, true, true, true, false, false, true, false, false, false, false, false] (by kernel_rfl) ?_
    refine treeM [5] (by kernel_rfl) rfl ⟨?_, trivial⟩
    refine stepCall hK hM 15 #[.int .i64 7, .agg #[.int .i64 2, .int .i64 0, Str [114], .slice none 0 0], .agg #[.int .i64 1, .int .i64 1, Str [], .slice none 0 0]] (by kernel_rfl) (run_callE en_cantileverkit_Two rfl rfl (by kernel_rfl)) (kit_Two 7 2 0 1 1 [114] [] none none 0 0 0 0 _) ?_
    rintro b3_5 a w - hK hM
    refine tree_next #[true, true, true, true, true, true, false, true, false, false, false, false, false] (by kernel_rfl) ?_
    refine treeM [6] (by kernel_rfl) rfl ⟨?_, trivial⟩
    refine stepAlloc hK hM 16 36 [.int .i64 7, .int .i64 0, Str [], .slice (some ⟨b3_5, 0, none⟩) 2 2] (fun b => .slice (some ⟨b, 0, none⟩) 1 1) (by kernel_rfl) (by kernel_rfl) fun b3_6 a w hK hM => ?_
    refine tree_next #[true, true, true, true, true, true, true, true, false, false, false, false, false] (by kernel_rfl) ?_
    refine treeP hK 8 18 (.agg #[.int .i64 10, Str [], Str [], .int .i64 0, .slice (some ⟨b3_6, 0, none⟩) 1 1, .slice (some ⟨b2_5, 0, none⟩) 1 1, .slice none 0 0]) (by kernel_rfl) (by kernel_rfl) (by kernel_rfl) (fun w => (by kernel_rfl)) #[true, true, true, true, true, true, true, true, true, false, false, false, false] (by kernel_rfl) fun a hK => ?_
    refine treeM [9] (by kernel_rfl) rfl ⟨?_, trivial⟩
    refine stepAlloc hK hM 19 30 [.int .i64 2, Str [114], Str [120], .int .i64 3, .slice none 0 0, .slice none 0 0, .slice none 0 0, .int .i64 10, Str [], Str [], .int .i64 0, .slice (some ⟨b3_6, 0, none⟩) 1 1, .slice (some ⟨b2_5, 0, none⟩) 1 1, .slice none 0 0] (fun b => .slice (some ⟨b, 0, none⟩) 2 2) (by kernel_rfl) (by kernel_rfl) fun b3_9 a w hK hM => ?_
    refine tree_next #[true, true, true, true, true, true, true, true, true, true, false, false, false] (by kernel_rfl) ?_
    refine treeM [10] (by kernel_rfl) rfl ⟨?_, trivial⟩
    refine stepAlloc hK hM 20 28 [.slice (some ⟨b3_9, 0, none⟩) 2 2] (fun b => .slice (some ⟨b, 0, none⟩) 1 1) (by kernel_rfl) (by kernel_rfl) fun b3_10 a w hK hM => ?_
    refine tree_next #[true, true, true, true, true, true, true, true, true, true, true, false, false] (by kernel_rfl) ?_
    refine treeP hK 11 21 (.agg #[.slice (some ⟨b3_1, 0, none⟩) 1 1, .slice (some ⟨b3_10, 0, none⟩) 1 1]) (by kernel_rfl) (by kernel_rfl) (by kernel_rfl) (fun w => (by kernel_rfl)) #[true, true, true, true, true, true, true, true, true, true, true, true, false] (by kernel_rfl) fun a hK => ?_
    refine treeM [12] (by kernel_rfl) rfl ⟨?_, trivial⟩
    refine stepStore hK hM 9 [.slice (some ⟨b3_1, 0, none⟩) 1 1, .slice (some ⟨b3_10, 0, none⟩) 1 1] (by kernel_rfl) rfl rfl rfl rfl (by kernel_rfl) fun w hM => ?_
    replace hM := hM.to [.row b3_10 28 [.slice (some ⟨b3_9, 0, none⟩) 2 2], .row b3_9 30 [.int .i64 2, Str [114], Str [120], .int .i64 3, .slice none 0 0, .slice none 0 0, .slice none 0 0, .int .i64 10, Str [], Str [], .int .i64 0, .slice (some ⟨b3_6, 0, none⟩) 1 1, .slice (some ⟨b2_5, 0, none⟩) 1 1, .slice none 0 0], .row b3_6 36 [.int .i64 7, .int .i64 0, Str [], .slice (some ⟨b3_5, 0, none⟩) 2 2], .row b3_5 36 [.int .i64 2, .int .i64 0, Str [114], .slice none 0 0, .int .i64 1, .int .i64 1, Str [], .slice none 0 0], .row b3_1 45 [Str [120], .bool false, .int .i64 0], .row b2_5 30 [.int .i64 3, Str [], Str [120], .int .i64 4, .slice (some ⟨b2_3, 0, none⟩) 1 1, .slice none 0 0, .slice none 0 0], .row b2_3 36 [.int .i64 14, .int .i64 0, Str [], .slice (some ⟨b2_2, 0, none⟩) 2 2], .row b2_2 36 [.int .i64 2, .int .i64 0, Str [114], .slice none 0 0, .int .i64 1, .int .i64 1, Str [], .slice none 0 0], .row b2 36 [.int .i64 2, .int .i64 0, Str [114], .slice none 0 0], .row b1 25 [.slice (some ⟨b3_1, 0, none⟩) 1 1, .slice (some ⟨b3_10, 0, none⟩) 1 1]] (by kernel_rfl)
    refine tree_next #[true, true, true, true, true, true, true, true, true, true, true, true, true] (by kernel_rfl) ?_
    exact treeE (by kernel_rfl) ⟨b3_1, b3_10, b3_5, b3_6, b3_9, hK.sub ⟨rfl, rfl, rfl, trivial⟩, hM⟩
   ·refine stepRet hK hM 14 #[.int .i64 1] (.agg #[.int .i64 1, .int .i64 1, Str [], .slice none 0 0]) (by kernel_rfl) (run_callE en_cantileverkit_Num rfl rfl (by kernel_rfl)) (kit_Num 1 _) fun a w hK hM => ?_
    refine tree_next #[true, false, true, true, true, false, false, true, false, false, false, false, false] (by kernel_rfl) ?_
    refine treeM [1, 5] (by kernel_rfl) rfl ⟨?_, ?_, trivial⟩
    ·refine stepAlloc hK hM 11 45 [Str [120], .bool false, .int .i64 0] (fun b => .slice (some ⟨b, 0, none⟩) 1 1) (by kernel_rfl) (by kernel_rfl) fun b3_1 a w hK hM => ?_
     refine tree_next #[true, true, true, true, true, false, false, true, false, false, false, false, false] (by kernel_rfl) ?_
     refine treeM [5] (by kernel_rfl) rfl ⟨?_, trivial⟩
     refine stepCall hK hM 15 #[.int .i64 7, .agg #[.int .i64 2, .int .i64 0, Str [114], .slice none 0 0], .agg #[.int .i64 1, .int .i64 1, Str [], .slice none 0 0]] (by kernel_rfl) (run_callE en_cantileverkit_Two rfl rfl (by kernel_rfl)) (kit_Two 7 2 0 1 1 [114] [] none none 0 0 0 0 _) ?_
     rintro b3_5 a w - hK hM
     refine tree_next #[true, true, true, true, true, true, false, true, false, false, false, false, false] (by kernel_rfl) ?_
     refine treeM [6] (by kernel_rfl) rfl ⟨?_, trivial⟩
     refine stepAlloc hK hM 16 36 [.int .i64 7, .int .i64 0, Str [], .slice (some ⟨b3_5, 0, none⟩) 2 2] (fun b => .slice (some ⟨b, 0, none⟩) 1 1) (by kernel_rfl) (by kernel_rfl) fun b3_6 a w hK hM => ?_
     refine tree_next #[true, true, true, true, true, true, true, true, false, false, false, false, false] (by kernel_rfl) ?_
     refine treeP hK 8 18 (.agg #[.int .i64 10, Str [], Str [], .int .i64 0, .slice (some ⟨b3_6, 0, none⟩) 1 1, .slice (some ⟨b2_5, 0, none⟩) 1 1, .slice none 0 0]) (by kernel_rfl) (by kernel_rfl) (by kernel_rfl) (fun w => (by kernel_rfl)) #[true, true, true, true, true, true, true, true, true, false, false, false, false] (by kernel_rfl) fun a hK => ?_
     refine treeM [9] (by kernel_rfl) rfl ⟨?_, trivial⟩
     refine stepAlloc hK hM 19 30 [.int .i64 2, Str [114], Str [120], .int .i64 3, .slice none 0 0, .slice none 0 0, .slice none 0 0, .int .i64 10, Str [], Str [], .int .i64 0, .slice (some ⟨b3_6, 0, none⟩) 1 1, .slice (some ⟨b2_5, 0, none⟩) 1 1, .slice none 0 0] (fun b => .slice (some ⟨b, 0, none⟩) 2 2) (by kernel_rfl) (by kernel_rfl) fun b3_9 a w hK hM => ?_
     refine tree_next #[true, true, true, true, true, true, true, true, true, true, false, false, false] (by kernel_rfl) ?_
     refine treeM [10] (by kernel_rfl) rfl ⟨?_, trivial⟩
     refine stepAlloc hK hM 20 28 [.slice (some ⟨b3_9, 0, none⟩) 2 2] (fun b => .slice (some ⟨b, 0, none⟩) 1 1) (by kernel_rfl) (by kernel_rfl) fun b3_10 a w hK hM => ?_
     refine tree_next #[true, true, true, true, true, true, true, true, true, true, true, false, false] (by kernel_rfl) ?_
     refine treeP hK 11 21 (.agg #[.slice (some ⟨b3_1, 0, none⟩) 1 1, .slice (some ⟨b3_10, 0, none⟩) 1 1]) (by kernel_rfl) (by kernel_rfl) (by kernel_rfl) (fun w => (by kernel_rfl)) #[true, true, true, true, true, true, true, true, true, true, true, true, false] (by kernel_rfl) fun a hK => ?_
     refine treeM [12] (by kernel_rfl) rfl ⟨?_, trivial⟩
     refine stepStore hK hM 9 [.slice (some ⟨b3_1, 0, none⟩) 1 1, .slice (some ⟨b3_10, 0, none⟩) 1 1] (by kernel_rfl) rfl rfl rfl rfl (by kernel_rfl) fun w hM => ?_
     replace hM := hM.to [.row b3_10 28 [.slice (some ⟨b3_9, 0, none⟩) 2 2], .row b3_9 30 [.int .i64 2, Str [114], Str [120], .int .i64 3, .slice none 0 0, .slice none 0 0, .slice none 0 0, .int .i64 10, Str [], Str [], .int .i64 0, .slice (some ⟨b3_6, 0, none⟩) 1 1, .slice (some ⟨b2_5, 0, none⟩) 1 1, .slice none 0 0], .row b3_6 36 [.int .i64 7, .int .i64 0, Str [], .slice (some ⟨b3_5, 0, none⟩) 2 2], .row b3_5 36 [.int .i64 2, .int .i64 0, Str [114], .slice none 0 0, .int .i64 1, .int .i64 1, Str [], .slice none 0 0], .row b3_1 45 [Str [120], .bool false, .int .i64 0], .row b2_5 30 [.int .i64 3, Str [], Str [120], .int .i64 4, .slice (some ⟨b2_3, 0, none⟩) 1 1, .slice none 0 0, .slice none 0 0], .row b2_3 36 [.int .i64 14, .int .i64 0, Str [], .slice (some ⟨b2_2, 0, none⟩) 2 2], .row b2_2 36 [.int .i64 2, .int .i64 0, Str [114], .slice none 0 0, .int .i64 1, .int .i64 1, Str [], .slice none 0 0], .row b2 36 [.int .i64 2, .int .i64 0, Str [114], .slice none 0 0], .row b1 25 [.slice (some ⟨b3_1, 0, none⟩) 1 1, .slice (some ⟨b3_10, 0, none⟩) 1 1]] (by kernel_rfl)
     refine tree_next #[true, true, true, true, true, true, true, true, true, true, true, true, true] (by kernel_rfl) ?_
     exact treeE (by kernel_rfl) ⟨b3_1, b3_10, b3_5, b3_6, b3_9, hK.sub ⟨rfl, rfl, rfl, trivial⟩, hM⟩
    ·refine stepCall hK hM 15 #[.int .i64 7, .agg #[.int .i64 2, .int .i64 0, Str [114], .slice none 0 0], .agg #[.int .i64 1, .int .i64 1, Str [], .slice none 0 0]] (by kernel_rfl) (run_callE en_cantileverkit_Two rfl rfl (by kernel_rfl)) (kit_Two 7 2 0 1 1 [114] [] none none 0 0 0 0 _) ?_
     rintro b3_5 a w - hK hM
     refine tree_next #[true, false, true, true, true, true, false, true, false, false, false, false, false] (by kernel_rfl) ?_
     refine treeM [1, 6] (by kernel_rfl) rfl ⟨?_, ?_, trivial⟩
     ·refine stepAlloc hK hM 11 45 [Str [120], .bool false, .int .i64 0] (fun b => .slice (some ⟨b, 0, none⟩) 1 1) (by kernel_rfl) (by kernel_rfl) fun b3_1 a w hK hM => ?_
      refine tree_next #[true, true, true, true, true, true, false, true, false, false, false, false, false] (by kernel_rfl) ?_
      refine treeM [6] (by kernel_rfl) rfl ⟨?_, trivial⟩
      refine stepAlloc hK hM 16 36 [.int .i64 7, .int .i64 0, Str [], .slice (some ⟨b3_5, 0, none⟩) 2 2] (fun b => .slice (some ⟨b, 0, none⟩) 1 1) (by kernel_rfl) (by kernel_rfl) fun b3_6 a w hK hM => ?_
      refine tree_next #[true, true, true, true, true, true, true, true, false, false, false, false, false] (by kernel_rfl) ?_
      refine treeP hK 8 18 (.agg #[.int .i64 10, Str [], Str [], .int .i64 0, .slice (some ⟨b3_6, 0, none⟩) 1 1, .slice (some ⟨b2_5, 0, none⟩) 1 1, .slice none 0 0]) (by kernel_rfl) (by kernel_rfl) (by kernel_rfl) (fun w => (by kernel_rfl)) #[true, true, true, true, true, true, true, true, true, false, false, false, false] (by kernel_rfl) fun a hK => ?_
      refine treeM [9] (by kernel_rfl) rfl ⟨?_, trivial⟩
      refine stepAlloc hK hM 19 30 [.int .i64 2, Str [114], Str [120], .int .i64 3, .slice none 0 0, .slice none 0 0, .slice none 0 0, .int .i64 10, Str [], Str [], .int .i64 0, .slice (some ⟨b3_6, 0, none⟩) 1 1, .slice (some ⟨b2_5, 0, none⟩) 1 1, .slice none 0 0] (fun b => .slice (some ⟨b, 0, none⟩) 2 2) (by kernel_rfl) (by kernel_rfl) fun b3_9 a w hK hM => ?_
      refine tree_next #[true, true, true, true, true, true, true, true, true, true, false, false, false] (by kernel_rfl) ?_
      refine treeM [10] (by kernel_rfl) rfl ⟨?_, trivial⟩
      refine stepAlloc hK hM 20 28 [.slice (some ⟨b3_9, 0, none⟩) 2 2] (fun b => .slice (some ⟨b, 0, none⟩) 1 1) (by kernel_rfl) (by kernel_rfl) fun b3_10 a w hK hM => ?_
      refine tree_next #[true, true, true, true, true, true, true, true, true, true, true, false, false] (by kernel_rfl) ?_
      refine treeP hK 11 21 (.agg #[.slice (some ⟨b3_1, 0, none⟩) 1 1, .slice (some ⟨b3_10, 0, none⟩) 1 1]) (by kernel_rfl) (by kernel_rfl) (by kernel_rfl) (fun w => (by kernel_rfl)) #[true, true, true, true, true, true, true, true, true, true, true, true, false] (by kernel_rfl) fun a hK => ?_
      refine treeM [12] (by kernel_rfl) rfl ⟨?_, trivial⟩
      refine stepStore hK hM 9 [.slice (some ⟨b3_1, 0, none⟩) 1 1, .slice (some ⟨b3_10, 0, none⟩) 1 1] (by kernel_rfl) rfl rfl rfl rfl (by kernel_rfl) fun w hM => ?_
      replace hM := hM.to [.row b3_10 28 [.slice (some ⟨b3_9, 0, none⟩) 2 2], .row b3_9 30 [.int .i64 2, Str [114], Str [120], .int .i64 3, .slice none 0 0, .slice none 0 0, .slice none 0 0, .int .i64 10, Str [], Str [], .int .i64 0, .slice (some ⟨b3_6, 0, none⟩) 1 1, .slice (some ⟨b2_5, 0, none⟩) 1 1, .slice none 0 0], .row b3_6 36 [.int .i64 7, .int .i64 0, Str [], .slice (some ⟨b3_5, 0, none⟩) 2 2], .row b3_1 45 [Str [120], .bool false, .int .i64 0], .row b3_5 36 [.int .i64 2, .int .i64 0, Str [114], .slice none 0 0, .int .i64 1, .int .i64 1, Str [], .slice none 0 0], .row b2_5 30 [.int .i64 3, Str [], Str [120], .int .i64 4, .slice (some ⟨b2_3, 0, none⟩) 1 1, .slice none 0 0, .slice none 0 0], .row b2_3 36 [.int .i64 14, .int .i64 0, Str [], .slice (some ⟨b2_2, 0, none⟩) 2 2], .row b2_2 36 [.int .i64 2, .int .i64 0, Str [114], .slice none 0 0, .int .i64 1, .int .i64 1, Str [], .slice none 0 0], .row b2 36 [.int .i64 2, .int .i64 0, Str [114], .slice none 0 0], .row b1 25 [.slice (some ⟨b3_1, 0, none⟩) 1 1, .slice (some ⟨b3_10, 0, none⟩) 1 1]] (by kernel_rfl)
      refine tree_next #[true, true, true, true, true, true, true, true, true, true, true, true, true] (by kernel_rfl) ?_
      exact treeE (by kernel_rfl) ⟨b3_1, b3_10, b3_5, b3_6, b3_9, hK.sub ⟨rfl, rfl, rfl, trivial⟩, (hM.order [[.row b3_10 28 [.slice (some ⟨b3_9, 0, none⟩) 2 2]], [.row b3_9 30 [.int .i64 2, Str [114], Str [120], .int .i64 3, .slice none 0 0, .slice none 0 0, .slice none 0 0, .int .i64 10, Str [], Str [], .int .i64 0, .slice (some ⟨b3_6, 0, none⟩) 1 1, .slice (some ⟨b2_5, 0, none⟩) 1 1, .slice none 0 0]], [.row b3_6 36 [.int .i64 7, .int .i64 0, Str [], .slice (some ⟨b3_5, 0, none⟩) 2 2]], [.row b3_1 45 [Str [120], .bool false, .int .i64 0]], [.row b3_5 36 [.int .i64 2, .int .i64 0, Str [114], .slice none 0 0, .int .i64 1, .int .i64 1, Str [], .slice none 0 0]], [.row b2_5 30 [.int .i64 3, Str [], Str [120], .int .i64 4, .slice (some ⟨b2_3, 0, none⟩) 1 1, .slice none 0 0, .slice none 0 0]], [.row b2_3 36 [.int .i64 14, .int .i64 0, Str [], .slice (some ⟨b2_2, 0, none⟩) 2 2]], [.row b2_2 36 [.int .i64 2, .int .i64 0, Str [114], .slice none 0 0, .int .i64 1, .int .i64 1, Str [], .slice none 0 0]], [.row b2 36 [.int .i64 2, .int .i64 0, Str [114], .slice none 0 0]], [.row b1 25 [.slice (some ⟨b3_1, 0, none⟩) 1 1, .slice (some ⟨b3_10, 0, none⟩) 1 1]]] [0, 1, 2, 4, 3, 5, 6, 7, 8, 9] 10 rfl (by simp) (by decide) _ (by simp))⟩
     ·refine stepAlloc hK hM 16 36 [.int .i64 7, .int .i64 0, Str [], .slice (some ⟨b3_5, 0, none⟩) 2 2] (fun b => .slice (some ⟨b, 0, none⟩) 1 1) (by kernel_rfl) (by kernel_rfl) fun b3_6 a w hK hM => ?_
      refine tree_next #[true, false, true, true, true, true, true, true, false, false, false, false, false] (by kernel_rfl) ?_
      refine treeP hK 8 18 (.agg #[.int .i64 10, Str [], Str [], .int .i64 0, .slice (some ⟨b3_6, 0, none⟩) 1 1, .slice (some ⟨b2_5, 0, none⟩) 1 1, .slice none 0 0]) (by kernel_rfl) (by kernel_rfl) (by kernel_rfl) (fun w => (by kernel_rfl)) #[true, false, true, true, true, true, true, true, true, false, false, false, false] (by kernel_rfl) fun a hK => ?_
      refine treeM [1, 9] (by kernel_rfl) rfl ⟨?_, ?_, trivial⟩
      ·refine stepAlloc hK hM 11 45 [Str [120], .bool false, .int .i64 0] (fun b => .slice (some ⟨b, 0, none⟩) 1 1) (by kernel_rfl) (by kernel_rfl) fun b3_1 a w hK hM => ?_
       refine tree_next #[true, true, true, true, true, true, true, true, true, false, false, false, false] (by kernel_rfl) ?_
       refine treeM [9] (by kernel_rfl) rfl ⟨?_, trivial⟩
       refine stepAlloc hK hM 19 30 [.int .i64 2, Str [114], Str [120], .int .i64 3, .slice none 0 0, .slice none 0 0, .slice none 0 0, .int .i64 10, Str [], Str [], .int .i64 0, .slice (some ⟨b3_6, 0, none⟩) 1 1, .slice (some ⟨b2_5, 0, none⟩) 1 1, .slice none 0 0] (fun b => .slice (some ⟨b, 0, none⟩) 2 2) (by kernel_rfl) (by kernel_rfl) fun b3_9 a w hK hM => ?_
       refine tree_next #[true, true, true, true, true, true, true, true, true, true, false, false, false] (by kernel_rfl) ?_
       refine treeM [10] (by kernel_rfl) rfl ⟨?_, trivial⟩
       refine stepAlloc hK hM 20 28 [.slice (some ⟨b3_9, 0, none⟩) 2 2] (fun b => .slice (some ⟨b, 0, none⟩) 1 1) (by kernel_rfl) (by kernel_rfl) fun b3_10 a w hK hM => ?_
       refine tree_next #[true, true, true, true, true, true, true, true, true, true, true, false, false] (by kernel_rfl) ?_
       refine treeP hK 11 21 (.agg #[.slice (some ⟨b3_1, 0, none⟩) 1 1, .slice (some ⟨b3_10, 0, none⟩) 1 1]) (by kernel_rfl) (by kernel_rfl) (by kernel_rfl) (fun w => (by kernel_rfl)) #[true, true, true, true, true, true, true, true, true, true, true, true, false] (by kernel_rfl) fun a hK => ?_
       refine treeM [12] (by kernel_rfl) rfl ⟨?_, trivial⟩
       refine stepStore hK hM 9 [.slice (some ⟨b3_1, 0, none⟩) 1 1, .slice (some ⟨b3_10, 0, none⟩) 1 1] (by kernel_rfl) rfl rfl rfl rfl (by kernel_rfl) fun w hM => ?_
       replace hM := hM.to [.row b3_10 28 [.slice (some ⟨b3_9, 0, none⟩) 2 2], .row b3_9 30 [.int .i64 2, Str [114], Str [120], .int .i64 3, .slice none 0 0, .slice none 0 0, .slice none 0 0, .int .i64 10, Str [], Str [], .int .i64 0, .slice (some ⟨b3_6, 0, none⟩) 1 1, .slice (some ⟨b2_5, 0, none⟩) 1 1, .slice none 0 0], .row b3_1 45 [Str [120], .bool false, .int .i64 0], .row b3_6 36 [.int .i64 7, .int .i64 0, Str [], .slice (some ⟨b3_5, 0, none⟩) 2 2], .row b3_5 36 [.int .i64 2, .int .i64 0, Str [114], .slice none 0 0, .int .i64 1, .int .i64 1, Str [], .slice none 0 0], .row b2_5 30 [.int .i64 3, Str [], Str [120], .int .i64 4, .slice (some ⟨b2_3, 0, none⟩) 1 1, .slice none 0 0, .slice none 0 0], .row b2_3 36 [.int .i64 14, .int .i64 0, Str [], .slice (some ⟨b2_2, 0, none⟩) 2 2], .row b2_2 36 [.int .i64 2, .int .i64 0, Str [114], .slice none 0 0, .int .i64 1, .int .i64 1, Str [], .slice none 0 0], .row b2 36 [.int .i64 2, .int .i64 0, Str [114], .slice none 0 0], .row b1 25 [.slice (some ⟨b3_1, 0, none⟩) 1 1, .slice (some ⟨b3_10, 0, none⟩) 1 1]] (by kernel_rfl)
       refine tree_next #[true, true, true, true, true, true, true, true, true, true, true, true, true] (by kernel_rfl) ?_
       exact treeE (by kernel_rfl) ⟨b3_1, b3_10, b3_5, b3_6, b3_9, hK.sub ⟨rfl, rfl, rfl, trivial⟩, (hM.order [[.row b3_10 28 [.slice (some ⟨b3_9, 0, none⟩) 2 2]], [.row b3_9 30 [.int .i64 2, Str [114], Str [120], .int .i64 3, .slice none 0 0, .slice none 0 0, .slice none 0 0, .int .i64 10, Str [], Str [], .int .i64 0, .slice (some ⟨b3_6, 0, none⟩) 1 1, .slice (some ⟨b2_5, 0, none⟩) 1 1, .slice none 0 0]], [.row b3_1 45 [Str [120], .bool false, .int .i64 0]], [.row b3_6 36 [.int .i64 7, .int .i64 0, Str [], .slice (some ⟨b3_5, 0, none⟩) 2 2]], [.row b3_5 36 [.int .i64 2, .int .i64 0, Str [114], .slice none 0 0, .int .i64 1, .int .i64 1, Str [], .slice none 0 0]], [.row b2_5 30 [.int .i64 3, Str [], Str [120], .int .i64 4, .slice (some ⟨b2_3, 0, none⟩) 1 1, .slice none 0 0, .slice none 0 0]], [.row b2_3 36 [.int .i64 14, .int .i64 0, Str [], .slice (some ⟨b2_2, 0, none⟩) 2 2]], [.row b2_2 36 [.int .i64 2, .int .i64 0, Str [114], .slice none 0 0, .int .i64 1, .int .i64 1, Str [], .slice none 0 0]], [.row b2 36 [.int .i64 2, .int .i64 0, Str [114], .slice none 0 0]], [.row b1 25 [.slice (some ⟨b3_1, 0, none⟩) 1 1, .slice (some ⟨b3_10, 0, none⟩) 1 1]]] [0, 1, 3, 4, 2, 5, 6, 7, 8, 9] 10 rfl (by simp) (by decide) _ (by simp))⟩
      ·refine stepAlloc hK hM 19 30 [.int .i64 2, Str [114], Str [120], .int .i64 3, .slice none 0 0, .slice none 0 0, .slice none 0 0, .int .i64 10, Str [], Str [], .int .i64 0, .slice (some ⟨b3_6, 0, none⟩) 1 1, .slice (some ⟨b2_5, 0, none⟩) 1 1, .slice none 0 0] (fun b => .slice (some ⟨b, 0, none⟩) 2 2) (by kernel_rfl) (by kernel_rfl) fun b3_9 a w hK hM => ?_
       refine tree_next #[true, false, true, true, true, true, true, true, true, true, false, false, false] (by kernel_rfl) ?_
       refine treeM [1, 10] (by kernel_rfl) rfl ⟨?_, ?_, trivial⟩
       ·refine stepAlloc hK hM 11 45 [Str [120], .bool false, .int .i64 0] (fun b => .slice (some ⟨b, 0, none⟩) 1 1) (by kernel_rfl) (by kernel_rfl) fun b3_1 a w hK hM => ?_
        refine tree_next #[true, true, true, true, true, true, true, true, true, true, false, false, false] (by kernel_rfl) ?_
        refine treeM [10] (by kernel_rfl) rfl ⟨?_, trivial⟩
        refine stepAlloc hK hM 20 28 [.slice (some ⟨b3_9, 0, none⟩) 2 2] (fun b => .slice (some ⟨b, 0, none⟩) 1 1) (by kernel_rfl) (by kernel_rfl) fun b3_10 a w hK hM => ?_
        refine tree_next #[true, true, true, true, true, true, true, true, true, true, true, false, false] (by kernel_rfl) ?_
        refine treeP hK 11 21 (.agg #[.slice (some ⟨b3_1, 0, none⟩) 1 1, .slice (some ⟨b3_10, 0, none⟩) 1 1]) (by kernel_rfl) (by kernel_rfl) (by kernel_rfl) (fun w => (by kernel_rfl)) #[true, true, true, true, true, true, true, true, true, true, true, true, false] (by kernel_rfl) fun a hK => ?_
        refine treeM [12] (by kernel_rfl) rfl ⟨?_, trivial⟩
        refine stepStore hK hM 9 [.slice (some ⟨b3_1, 0, none⟩) 1 1, .slice (some ⟨b3_10, 0, none⟩) 1 1] (by kernel_rfl) rfl rfl rfl rfl (by kernel_rfl) fun w hM => ?_
        replace hM := hM.to [.row b3_10 28 [.slice (some ⟨b3_9, 0, none⟩) 2 2], .row b3_1 45 [Str [120], .bool false, .int .i64 0], .row b3_9 30 [.int .i64 2, Str [114], Str [120], .int .i64 3, .slice none 0 0, .slice none 0 0, .slice none 0 0, .int .i64 10, Str [], Str [], .int .i64 0, .slice (some ⟨b3_6, 0, none⟩) 1 1, .slice (some ⟨b2_5, 0, none⟩) 1 1, .slice none 0 0], .row b3_6 36 [.int .i64 7, .int .i64 0, Str [], .slice (some ⟨b3_5, 0, none⟩) 2 2], .row b3_5 36 [.int .i64 2, .int .i64 0, Str [114], .slice none 0 0, .int .i64 1, .int .i64 1, Str [], .slice none 0 0], .row b2_5 30 [.int .i64 3, Str [], Str [120], .int .i64 4, .slice (some ⟨b2_3, 0, none⟩) 1 1, .slice none 0 0, .slice none 0 0], .row b2_3 36 [.int .i64 14, .int .i64 0, Str [], .slice (some ⟨b2_2, 0, none⟩) 2 2], .row b2_2 36 [.int .i64 2, .int .i64 0, Str [114], .slice none 0 0, .int .i64 1, .int .i64 1, Str [], .slice none 0 0], .row b2 36 [.int .i64 2, .int .i64 0, Str [114], .slice none 0 0], .row b1 25 [.slice (some ⟨b3_1, 0, none⟩) 1 1, .slice (some ⟨b3_10, 0, none⟩) 1 1]] (by kernel_rfl)
        refine tree_next #[true, true, true, true, true, true, true, true, true, true, true, true, true] (by kernel_rfl) ?_
        exact treeE (by kernel_rfl) ⟨b3_1, b3_10, b3_5, b3_6, b3_9, hK.sub ⟨rfl, rfl, rfl, trivial⟩, (hM.order [[.row b3_10 28 [.slice (some ⟨b3_9, 0, none⟩) 2 2]], [.row b3_1 45 [Str [120], .bool false, .int .i64 0]], [.row b3_9 30 [.int .i64 2, Str [114], Str [120], .int .i64 3, .slice none 0 0, .slice none 0 0, .slice none 0 0, .int .i64 10, Str [], Str [], .int .i64 0, .slice (some ⟨b3_6, 0, none⟩) 1 1, .slice (some ⟨b2_5, 0, none⟩) 1 1, .slice none 0 0]], [.row b3_6 36 [.int .i64 7, .int .i64 0, Str [], .slice (some ⟨b3_5, 0, none⟩) 2 2]], [.row b3_5 36 [.int .i64 2, .int .i64 0, Str [114], .slice none 0 0, .int .i64 1, .int .i64 1, Str [], .slice none 0 0]], [.row b2_5 30 [.int .i64 3, Str [], Str [120], .int .i64 4, .slice (some ⟨b2_3, 0, none⟩) 1 1, .slice none 0 0, .slice none 0 0]], [.row b2_3 36 [.int .i64 14, .int .i64 0, Str [], .slice (some ⟨b2_2, 0, none⟩) 2 2]], [.row b2_2 36 [.int .i64 2, .int .i64 0, Str [114], .slice none 0 0, .int .i64 1, .int .i64 1, Str [], .slice none 0 0]], [.row b2 36 [.int .i64 2, .int .i64 0, Str [114], .slice none 0 0]], [.row b1 25 [.slice (some ⟨b3_1, 0, none⟩) 1 1, .slice (some ⟨b3_10, 0, none⟩) 1 1]]] [0, 2, 3, 4, 1, 5, 6, 7, 8, 9] 10 rfl (by simp) (by decide) _ (by simp))⟩
       ·refine stepAlloc hK hM 20 28 [.slice (some ⟨b3_9, 0, none⟩) 2 2] (fun b => .slice (some ⟨b, 0, none⟩) 1 1) (by kernel_rfl) (by kernel_rfl) fun b3_10 a w hK hM => ?_
        refine tree_next #[true, false, true, true, true, true, true, true, true, true, true, false, false] (by kernel_rfl) ?_
        refine treeM [1] (by kernel_rfl) rfl ⟨?_, trivial⟩
        refine stepAlloc hK hM 11 45 [Str [120], .bool false, .int .i64 0] (fun b => .slice (some ⟨b, 0, none⟩) 1 1) (by kernel_rfl) (by kernel_rfl) fun b3_1 a w hK hM => ?_
        refine tree_next #[true, true, true, true, true, true, true, true, true, true, true, false, false] (by kernel_rfl) ?_
        refine treeP hK 11 21 (.agg #[.slice (some ⟨b3_1, 0, none⟩) 1 1, .slice (some ⟨b3_10, 0, none⟩) 1 1]) (by kernel_rfl) (by kernel_rfl) (by kernel_rfl) (fun w => (by kernel_rfl)) #[true, true, true, true, true, true, true, true, true, true, true, true, false] (by kernel_rfl) fun a hK => ?_
        refine treeM [12] (by kernel_rfl) rfl ⟨?_, trivial⟩
        refine stepStore hK hM 9 [.slice (some ⟨b3_1, 0, none⟩) 1 1, .slice (some ⟨b3_10, 0, none⟩) 1 1] (by kernel_rfl) rfl rfl rfl rfl (by kernel_rfl) fun w hM => ?_
        replace hM := hM.to [.row b3_1 45 [Str [120], .bool false, .int .i64 0], .row b3_10 28 [.slice (some ⟨b3_9, 0, none⟩) 2 2], .row b3_9 30 [.int .i64 2, Str [114], Str [120], .int .i64 3, .slice none 0 0, .slice none 0 0, .slice none 0 0, .int .i64 10, Str [], Str [], .int .i64 0, .slice (some ⟨b3_6, 0, none⟩) 1 1, .slice (some ⟨b2_5, 0, none⟩) 1 1, .slice none 0 0], .row b3_6 36 [.int .i64 7, .int .i64 0, Str [], .slice (some ⟨b3_5, 0, none⟩) 2 2], .row b3_5 36 [.int .i64 2, .int .i64 0, Str [114], .slice none 0 0, .int .i64 1, .int .i64 1, Str [], .slice none 0 0], .row b2_5 30 [.int .i64 3, Str [], Str [120], .int .i64 4, .slice (some ⟨b2_3, 0, none⟩) 1 1, .slice none 0 0, .slice none 0 0], .row b2_3 36 [.int .i64 14, .int .i64 0, Str [], .slice (some ⟨b2_2, 0, none⟩) 2 2], .row b2_2 36 [.int .i64 2, .int .i64 0, Str [114], .slice none 0 0, .int .i64 1, .int .i64 1, Str [], .slice none 0 0], .row b2 36 [.int .i64 2, .int .i64 0, Str [114], .slice none 0 0], .row b1 25 [.slice (some ⟨b3_1, 0, none⟩) 1 1, .slice (some ⟨b3_10, 0, none⟩) 1 1]] (by kernel_rfl)
        refine tree_next #[true, true, true, true, true, true, true, true, true, true, true, true, true] (by kernel_rfl) ?_
        exact treeE (by kernel_rfl) ⟨b3_1, b3_10, b3_5, b3_6, b3_9, hK.sub ⟨rfl, rfl, rfl, trivial⟩, (hM.order [[.row b3_1 45 [Str [120], .bool false, .int .i64 0]], [.row b3_10 28 [.slice (some ⟨b3_9, 0, none⟩) 2 2]], [.row b3_9 30 [.int .i64 2, Str [114], Str [120], .int .i64 3, .slice none 0 0, .slice none 0 0, .slice none 0 0, .int .i64 10, Str [], Str [], .int .i64 0, .slice (some ⟨b3_6, 0, none⟩) 1 1, .slice (some ⟨b2_5, 0, none⟩) 1 1, .slice none 0 0]], [.row b3_6 36 [.int .i64 7, .int .i64 0, Str [], .slice (some ⟨b3_5, 0, none⟩) 2 2]], [.row b3_5 36 [.int .i64 2, .int .i64 0, Str [114], .slice none 0 0, .int .i64 1, .int .i64 1, Str [], .slice none 0 0]], [.row b2_5 30 [.int .i64 3, Str [], Str [120], .int .i64 4, .slice (some ⟨b2_3, 0, none⟩) 1 1, .slice none 0 0, .slice none 0 0]], [.row b2_3 36 [.int .i64 14, .int .i64 0, Str [], .slice (some ⟨b2_2, 0, none⟩) 2 2]], [.row b2_2 36 [.int .i64 2, .int .i64 0, Str [114], .slice none 0 0, .int .i64 1, .int .i64 1, Str [], .slice none 0 0]], [.row b2 36 [.int .i64 2, .int .i64 0, Str [114], .slice none 0 0]], [.row b1 25 [.slice (some ⟨b3_1, 0, none⟩) 1 1, .slice (some ⟨b3_10, 0, none⟩) 1 1]]] [1, 2, 3, 4, 0, 5, 6, 7, 8, 9] 10 rfl (by simp) (by decide) _ (by simp))⟩
  ·refine stepRet hK hM 14 #[.int .i64 1] (.agg #[.int .i64 1, .int .i64 1, Str [], .slice none 0 0]) (by kernel_rfl) (run_callE en_cantileverkit_Num rfl rfl (by kernel_rfl)) (kit_Num 1 _) fun a w hK hM => ?_
   refine tree_next #[true, false, true, false, true, false, false, true, false, false, false, false, false] (by kernel_rfl) ?_
   refine treeM [1, 3] (by kernel_rfl) rfl ⟨?_, ?_, trivial⟩
   ·refine stepAlloc hK hM 11 45 [Str [120], .bool false, .int .i64 0] (fun b => .slice (some ⟨b, 0, none⟩) 1 1) (by kernel_rfl) (by kernel_rfl) fun b3_1 a w hK hM => ?_
    refine tree_next #[true, true, true, false, true, false, false, true, false, false, false, false, false] (by kernel_rfl) ?_
    refine treeM [3] (by kernel_rfl) rfl ⟨?_, trivial⟩
    refine stepLoad hK 13 (.agg #[.int .i64 2, .int .i64 0, Str [114], .slice none 0 0]) (by kernel_rfl) rfl rfl ((hM.row 4 rfl).cells 0 4) (by kernel_rfl) fun a hK => ?_
    refine tree_next #[true, true, true, true, true, false, false, true, false, false, false, false, false] (by kernel_rfl) ?_
    refine treeM [5] (by kernel_rfl) rfl ⟨?_, trivial⟩
    refine stepCall hK hM 15 #[.int .i64 7, .agg #[.int .i64 2, .int .i64 0, Str [114], .slice none 0 0], .agg #[.int .i64 1, .int .i64 1, Str [], .slice none 0 0]] (by kernel_rfl) (run_callE en_cantileverkit_Two rfl rfl (by kernel_rfl)) (kit_Two 7 2 0 1 1 [114] [] none none 0 0 0 0 _) ?_
    rintro b3_5 a w - hK hM
    refine tree_next #[true, true, true, true, true, true, false, true, false, false, false, false, false] (by kernel_rfl) ?_
    refine treeM [6] (by kernel_rfl) rfl ⟨?_, trivial⟩
    refine stepAlloc hK hM 16 36 [.int .i64 7, .int .i64 0, Str [], .slice (some ⟨b3_5, 0, none⟩) 2 2] (fun b => .slice (some ⟨b, 0, none⟩) 1 1) (by kernel_rfl) (by kernel_rfl) fun b3_6 a w hK hM => ?_
    refine tree_next #[true, true, true, true, true, true, true, true, false, false, false, false, false] (by kernel_rfl) ?_
    refine treeP hK 8 18 (.agg #[.int .i64 10, Str [], Str [], .int .i64 0, .slice (some ⟨b3_6, 0, none⟩) 1 1, .slice (some ⟨b2_5, 0, none⟩) 1 1, .slice none 0 0]) (by kernel_rfl) (by kernel_rfl) (by kernel_rfl) (fun w => (by kernel_rfl)) #[true, true, true, true, true, true, true, true, true, false, false, false, false] (by kernel_rfl) fun a hK => ?_
    refine treeM [9] (by kernel_rfl) rfl ⟨?_, trivial⟩
    refine stepAlloc hK hM 19 30 [.int .i64 2, Str [114], Str [120], .int .i64 3, .slice none 0 0, .slice none 0 0, .slice none 0 0, .int .i64 10, Str [], Str [], .int .i64 0, .slice (some ⟨b3_6, 0, none⟩) 1 1, .slice (some ⟨b2_5, 0, none⟩) 1 1, .slice none 0 0] (fun b => .slice (some ⟨b, 0, none⟩) 2 2) (by kernel_rfl) (by kernel_rfl) fun b3_9 a w hK hM => ?_
    refine tree_next #[true, true, true, true, true, true, true, true, true, true, false, false, false] (by kernel_rfl) ?_
    refine treeM [10] (by kernel_rfl) rfl ⟨?_, trivial⟩
    refine stepAlloc hK hM 20 28 [.slice (some ⟨b3_9, 0, none⟩) 2 2] (fun b => .slice (some ⟨b, 0, none⟩) 1 1) (by kernel_rfl) (by kernel_rfl) fun b3_10 a w hK hM => ?_
    refine tree_next #[true, true, true, true, true, true, true, true, true, true, true, false, false] (by kernel_rfl) ?_
    refine treeP hK 11 21 (.agg #[.slice (some ⟨b3_1, 0, none⟩) 1 1, .slice (some ⟨b3_10, 0, none⟩) 1 1]) (by kernel_rfl) (by kernel_rfl) (by kernel_rfl) (fun w => (by kernel_rfl)) #[true, true, true, true, true, true, true, true, true, true, true, true, false] (by kernel_rfl) fun a hK => ?_
    refine treeM [12] (by kernel_rfl) rfl ⟨?_, trivial⟩
    refine stepStore hK hM 9 [.slice (some ⟨b3_1, 0, none⟩) 1 1, .slice (some ⟨b3_10, 0, none⟩) 1 1] (by kernel_rfl) rfl rfl rfl rfl (by kernel_rfl) fun w hM => ?_
    replace hM := hM.to [.row b3_10 28 [.slice (some ⟨b3_9, 0, none⟩) 2 2], .row b3_9 30 [.int .i64 2, Str [114], Str [120], .int .i64 3, .slice none 0 0, .slice none 0 0, .slice none 0 0, .int .i64 10, Str [], Str [], .int .i64 0, .slice (some ⟨b3_6, 0, none⟩) 1 1, .slice (some ⟨b2_5, 0, none⟩) 1 1, .slice none 0 0], .row b3_6 36 [.int .i64 7, .int .i64 0, Str [], .slice (some ⟨b3_5, 0, none⟩) 2 2], .row b3_5 36 [.int .i64 2, .int .i64 0, Str [114], .slice none 0 0, .int .i64 1, .int .i64 1, Str [], .slice none 0 0], .row b3_1 45 [Str [120], .bool false, .int .i64 0], .row b2_5 30 [.int .i64 3, Str [], Str [120], .int .i64 4, .slice (some ⟨b2_3, 0, none⟩) 1 1, .slice none 0 0, .slice none 0 0], .row b2_3 36 [.int .i64 14, .int .i64 0, Str [], .slice (some ⟨b2_2, 0, none⟩) 2 2], .row b2_2 36 [.int .i64 2, .int .i64 0, Str [114], .slice none 0 0, .int .i64 1, .int .i64 1, Str [], .slice none 0 0], .row b2 36 [.int .i64 2, .int .i64 0, Str [114], .slice none 0 0], .row b1 25 [.slice (some ⟨b3_1, 0, none⟩) 1 1, .slice (some ⟨b3_10, 0, none⟩) 1 1]] (by kernel_rfl)
    refine tree_next #[true, true, true, true, true, true, true, true, true, true, true, true, true] (by kernel_rfl) ?_
    exact treeE (by kernel_rfl) ⟨b3_1, b3_10, b3_5, b3_6, b3_9, hK.sub ⟨rfl, rfl, rfl, trivial⟩, hM⟩
   ·refine stepLoad hK 13 (.agg #[.int .i64 2, .int .i64 0, Str [114], .slice none 0 0]) (by kernel_rfl) rfl rfl ((hM.row 3 rfl).cells 0 4) (by kernel_rfl) fun a hK => ?_
    refine tree_next #[true, false, true, true, true, false, false, true, false, false, false, false, false] (by kernel_rfl) ?_
    refine treeM [1, 5] (by kernel_rfl) rfl ⟨?_, ?_, trivial⟩
    ·refine stepAlloc hK hM 11 45 [Str [120], .bool false, .int .i64 0] (fun b => .slice (some ⟨b, 0, none⟩) 1 1) (by kernel_rfl) (by kernel_rfl) fun b3_1 a w hK hM => ?_
     refine tree_next #[true, true, true, true, true, false, false, true, false, false, false, false, false] (by kernel_rfl) ?_
     refine treeM [5] (by kernel_rfl) rfl ⟨?_, trivial⟩
     refine stepCall hK hM 15 #[.int .i64 7, .agg #[.int .i64 2, .int .i64 0, Str [114], .slice none 0 0], .agg #[.int .i64 1, .int .i64 1, Str [], .slice none 0 0]] (by kernel_rfl) (run_callE en_cantileverkit_Two rfl rfl (by kernel_rfl)) (kit_Two 7 2 0 1 1 [114] [] none none 0 0 0 0 _) ?_
     rintro b3_5 a w - hK hM
     refine tree_next #[true, true, true, true, true, true, false, true, false, false, false, false, false] (by kernel_rfl) ?_
     refine treeM [6] (by kernel_rfl) rfl ⟨?_, trivial⟩
     refine stepAlloc hK hM 16 36 [.int .i64 7, .int .i64 0, Str [], .slice (some ⟨b3_5, 0, none⟩) 2 2] (fun b => .slice (some ⟨b, 0, none⟩) 1 1) (by kernel_rfl) (by kernel_rfl) fun b3_6 a w hK hM => ?_
     refine tree_next #[true, true, true, true, true, true, true, true, false, false, false, false, false] (by kernel_rfl) ?_
     refine treeP hK 8 18 (.agg #[.int .i64 10, Str [], Str [], .int .i64 0, .slice (some ⟨b3_6, 0, none⟩) 1 1, .slice (some ⟨b2_5, 0, none⟩) 1 1, .slice none 0 0]) (by kernel_rfl) (by kernel_rfl) (by kernel_rfl) (fun w => (by kernel_rfl)) #[true, true, true, true, true, true, true, true, true, false, false, false, false] (by kernel_rfl) fun a hK => ?_
     refine treeM [9] (by kernel_rfl) rfl ⟨?_, trivial⟩
     refine stepAlloc hK hM 19 30 [.int .i64 2, Str [114], Str [120], .int .i64 3, .slice none 0 0, .slice none 0 0, .slice none 0 0, .int .i64 10, Str [], Str [], .int .i64 0, .slice (some ⟨b3_6, 0, none⟩) 1 1, .slice (some ⟨b2_5, 0, none⟩) 1 1, .slice none 0 0] (fun b => .slice (some ⟨b, 0, none⟩) 2 2) (by kernel_rfl) (by kernel_rfl) fun b3_9 a w hK hM => ?_
     refine tree_next #[true, true, true, true, true, true, true, true, true, true, false, false, false] (by kernel_rfl) ?_
     refine treeM [10] (by kernel_rfl) rfl ⟨?_, trivial⟩
     refine stepAlloc hK hM 20 28 [.slice (some ⟨b3_9, 0, none⟩) 2 2] (fun b => .slice (some ⟨b, 0, none⟩) 1 1) (by kernel_rfl) (by kernel_rfl) fun b3_10 a w hK hM => ?_
     refine tree_next #[true, true, true, true, true, true, true, true, true, true, true, false, false] (by kernel_rfl) ?_
     refine treeP hK 11 21 (.agg #[.slice (some ⟨b3_1, 0, none⟩) 1 1, .slice (some ⟨b3_10, 0, none⟩) 1 1]) (by kernel_rfl) (by kernel_rfl) (by kernel_rfl) (fun w => (by kernel_rfl)) #[true, true, true, true, true, true, true, true, true, true, true, true, false] (by kernel_rfl) fun a hK => ?_
     refine treeM [12] (by kernel_rfl) rfl ⟨?_, trivial⟩
     refine stepStore hK hM 9 [.slice (some ⟨b3_1, 0, none⟩) 1 1, .slice (some ⟨b3_10, 0, none⟩) 1 1] (by kernel_rfl) rfl rfl rfl rfl (by kernel_rfl) fun w hM => ?_
     replace hM := hM.to [.row b3_10 28 [.slice (some ⟨b3_9, 0, none⟩) 2 2], .row b3_9 30 [.int .i64 2, Str [114], Str [120], .int .i64 3, .slice none 0 0, .slice none 0 0, .slice none 0 0, .int .i64 10, Str [], Str [], .int .i64 0, .slice (some ⟨b3_6, 0, none⟩) 1 1, .slice (some ⟨b2_5, 0, none⟩) 1 1, .slice none 0 0], .row b3_6 36 [.int .i64 7, .int .i64 0, Str [], .slice (some ⟨b3_5, 0, none⟩) 2 2], .row b3_5 36 [.int .i64 2, .int .i64 0, Str [114], .slice none 0 0, .int .i64 1, .int .i64 1, Str [], .slice none 0 0], .row b3_1 45 [Str [120], .bool false, .int .i64 0], .row b2_5 30 [.int .i64 3, Str [], Str [120], .int .i64 4, .slice (some ⟨b2_3, 0, none⟩) 1 1, .slice none 0 0, .slice none 0 0], .row b2_3 36 [.int .i64 14, .int .i64 0, Str [], .slice (some ⟨b2_2, 0, none⟩) 2 2], .row b2_2 36 [.int .i64 2, .int .i64 0, Str [114], .slice none 0 0, .int .i64 1, .int .i64 1, Str [], .slice none 0 0], .row b2 36 [.int .i64 2, .int .i64 0, Str [114], .slice none 0 0], .row b1 25 [.slice (some ⟨b3_1, 0, none⟩) 1 1, .slice (some ⟨b3_10, 0, none⟩) 1 1]] (by kernel_rfl)
     refine tree_next #[true, true, true, true, true, true, true, true, true, true, true, true, true] (by kernel_rfl) ?_
     exact treeE (by kernel_rfl) ⟨b3_1, b3_10, b3_5, b3_6, b3_9, hK.sub ⟨rfl, rfl, rfl, trivial⟩, hM⟩
    ·refine stepCall hK hM 15 #[.int .i64 7, .agg #[.int .i64 2, .int .i64 0, Str [114], .slice none 0 0], .agg #[.int .i64 1, .int .i64 1, Str [], .slice none 0 0]] (by kernel_rfl) (run_callE en_cantileverkit_Two rfl rfl (by kernel_rfl)) (kit_Two 7 2 0 1 1 [114] [] none none 0 0 0 0 _) ?_
     rintro b3_5 a w - hK hM
     refine tree_next #[true, false, true, true, true, true, false, true, false, false, false, false, false] (by kernel_rfl) ?_
     refine treeM [1, 6] (by kernel_rfl) rfl ⟨?_, ?_, trivial⟩
     ·refine stepAlloc hK hM 11 45 [Str [120], .bool false, .int .i64 0] (fun b => .slice (some ⟨b, 0, none⟩) 1 1) (by kernel_rfl) (by kernel_rfl) fun b3_1 a w hK hM => ?_
      refine tree_next #[true, true, true, true, true, true, false, true, false, false, false, false, false] (by kernel_rfl) ?_
      refine treeM [6] (by kernel_rfl) rfl ⟨?_, trivial⟩
      refine stepAlloc hK hM 16 36 [.int .i64 7, .int .i64 0, Str [], .slice (some ⟨b3_5, 0, none⟩) 2 2] (fun b => .slice (some ⟨b, 0, none⟩) 1 1) (by kernel_rfl) (by kernel_rfl) fun b3_6 a w hK hM => ?_
      refine tree_next #[true, true, true, true, true, true, true, true, false, false, false, false, false] (by kernel_rfl) ?_
      refine treeP hK 8 18 (.agg #[.int .i64 10, Str [], Str [], .int .i64 0, .slice (some ⟨b3_6, 0, none⟩) 1 1, .slice (some ⟨b2_5, 0, none⟩) 1 1, .slice none 0 0]) (by kernel_rfl) (by kernel_rfl) (by kernel_rfl) (fun w => (by kernel_rfl)) #[true, true, true, true, true, true, true, true, true, false, false, false, false] (by kernel_rfl) fun a hK => ?_
      refine treeM [9] (by kernel_rfl) rfl ⟨?_, trivial⟩
      refine stepAlloc hK hM 19 30 [.int .i64 2, Str [114], Str [120], .int .i64 3, .slice none 0 0, .slice none 0 0, .slice none 0 0, .int .i64 10, Str [], Str [], .int .i64 0, .slice (some ⟨b3_6, 0, none⟩) 1 1, .slice (some ⟨b2_5, 0, none⟩) 1 1, .slice none 0 0] (fun b => .slice (some ⟨b, 0, none⟩) 2 2) (by kernel_rfl) (by kernel_rfl) fun b3_9 a w hK hM => ?_
      refine tree_next #[true, true, true, true, true, true, true, true, true, true, false, false, false] (by kernel_rfl) ?_
      refine treeM [10] (by kernel_rfl) rfl ⟨?_, trivial⟩
      refine stepAlloc hK hM 20 28 [.slice (some ⟨b3_9, 0, none⟩) 2 2] (fun b => .slice (some ⟨b, 0, none⟩) 1 1) (by kernel_rfl) (by kernel_rfl) fun b3_10 a w hK hM => ?_
      refine tree_next #[true, true, true, true, true, true, true, true, true, true, true, false, false] (by kernel_rfl) ?_
      refine treeP hK 11 21 (.agg #[.slice (some ⟨b3_1, 0, none⟩) 1 1, .slice (some ⟨b3_10, 0, none⟩) 1 1]) (by kernel_rfl) (by kernel_rfl) (by kernel_rfl) (fun w => (by kernel_rfl)) #[true, true, true, true, true, true, true, true, true, true, true, true, false] (by kernel_rfl) fun a hK => ?_
      refine treeM [12] (by kernel_rfl) rfl ⟨?_, trivial⟩
      refine stepStore hK hM 9 [.slice (some ⟨b3_1, 0, none⟩) 1 1, .slice (some ⟨b3_10, 0, none⟩) 1 1] (by kernel_rfl) rfl rfl rfl rfl (by kernel_rfl) fun w hM => ?_
      replace hM := hM.to [.row b3_10 28 [.slice (some ⟨b3_9, 0, none⟩) 2 2], .row b3_9 30 [.int .i64 2, Str [114], Str [120], .int .i64 3, .slice none 0 0, .slice none 0 0, .slice none 0 0, .int .i64 10, Str [], Str [], .int .i64 0, .slice (some ⟨b3_6, 0, none⟩) 1 1, .slice (some ⟨b2_5, 0, none⟩) 1 1, .slice none 0 0], .row b3_6 36 [.int .i64 7, .int .i64 0, Str [], .slice (some ⟨b3_5, 0, none⟩) 2 2], .row b3_1 45 [Str [120], .bool false, .int .i64 0], .row b3_5 36 [.int .i64 2, .int .i64 0, Str [114], .slice none 0 0, .int .i64 1, .int .i64 1, Str [], .slice none 0 0], .row b2_5 30 [.int .i64 3, Str [], Str [120], .int .i64 4, .slice (some ⟨b2_3, 0, none⟩) 1 1, .slice none 0 0, .slice none 0 0], .row b2_3 36 [.int .i64 14, .int .i64 0, Str [], .slice (some ⟨b2_2, 0, none⟩) 2 2], .row b2_2 36 [.int .i64 2, .int .i64 0, Str [114], .slice none 0 0, .int .i64 1, .int .i64 1, Str [], .slice none 0 0], .row b2 36 [.int .i64 2, .int .i64 0, Str [114], .slice none 0 0], .row b1 25 [.slice (some ⟨b3_1, 0, none⟩) 1 1, .slice (some ⟨b3_10, 0, none⟩) 1 1]] (by kernel_rfl)
      refine tree_next #[true, true, true, true, true, true, true, true, true, true, true, true, true] (by kernel_rfl) ?_
      exact treeE (by kernel_rfl) ⟨b3_1, b3_10, b3_5, b3_6, b3_9, hK.sub ⟨rfl, rfl, rfl, trivial⟩, (hM.order [[.row b3_10 28 [.slice (some ⟨b3_9, 0, none⟩) 2 2]], [.row b3_9 30 [.int .i64 2, Str [114], Str [120], .int .i64 3, .slice none 0 0, .slice none 0 0, .slice none 0 0, .int .i64 10, Str [], Str [], .int .i64 0, .slice (some ⟨b3_6, 0, none⟩) 1 1, .slice (some ⟨b2_5, 0, none⟩) 1 1, .slice none 0 0]], [.row b3_6 36 [.int .i64 7, .int .i64 0, Str [], .slice (some ⟨b3_5, 0, none⟩) 2 2]], [.row b3_1 45 [Str [120], .bool false, .int .i64 0]], [.row b3_5 36 [.int .i64 2, .int .i64 0, Str [114], .slice none 0 0, .int .i64 1, .int .i64 1, Str [], .slice none 0 0]], [.row b2_5 30 [.int .i64 3, Str [], Str [120], .int .i64 4, .slice (some ⟨b2_3, 0, none⟩) 1 1, .slice none 0 0, .slice none 0 0]], [.row b2_3 36 [.int .i64 14, .int .i64 0, Str [], .slice (some ⟨b2_2, 0, none⟩) 2 2]], [.row b2_2 36 [.int .i64 2, .int .i64 0, Str [114], .slice none 0 0, .int .i64 1, .int .i64 1, Str [], .slice none 0 0]], [.row b2 36 [.int .i64 2, .int .i64 0, Str [114], .slice none 0 0]], [.row b1 25 [.slice (some ⟨b3_1, 0, none⟩) 1 1, .slice (some ⟨b3_10, 0, none⟩) 1 1]]] [0, 1, 2, 4, 3, 5, 6, 7, 8, 9] 10 rfl (by simp) (by decide) _ (by simp))⟩
     ·refine stepAlloc hK hM 16 36 [.int .i64 7, .int .i64 0, Str [], .slice (some ⟨b3_5, 0, none⟩) 2 2] (fun b => .slice (some ⟨b, 0, none⟩) 1 1) (by kernel_rfl) (by kernel_rfl) fun b3_6 a w hK hM => ?_
      refine tree_next #[true, false, true, true, true, true, true, true, false, false, false, false, false] (by kernel_rfl) ?_
      refine treeP hK 8 18 (.agg #[.int .i64 10, Str [], Str [], .int .i64 0, .slice (some ⟨b3_6, 0, none⟩) 1 1, .slice (some ⟨b2_5, 0, none⟩) 1 1, .slice none 0 0]) (by kernel_rfl) (by kernel_rfl) (by kernel_rfl) (fun w => (by kernel_rfl)) #[true, false, true, true, true, true, true, true, true, false, false, false, false] (by kernel_rfl) fun a hK => ?_
      refine treeM [1, 9] (by kernel_rfl) rfl ⟨?_, ?_, trivial⟩
      ·refine stepAlloc hK hM 11 45 [Str [120], .bool false, .int .i64 0] (fun b => .slice (some ⟨b, 0, none⟩) 1 1) (by kernel_rfl) (by kernel_rfl) fun b3_1 a w hK hM => ?_
       refine tree_next #[true, true, true, true, true, true, true, true, true, false, false, false, false] (by kernel_rfl) ?_
       refine treeM [9] (by kernel_rfl) rfl ⟨?_, trivial⟩
       refine stepAlloc hK hM 19 30 [.int .i64 2, Str [114], Str [120], .int .i64 3, .slice none 0 0, .slice none 0 0, .slice none 0 0, .int .i64 10, Str [], Str [], .int .i64 0, .slice (some ⟨b3_6, 0, none⟩) 1 1, .slice (some ⟨b2_5, 0, none⟩) 1 1, .slice none 0 0] (fun b => .slice (some ⟨b, 0, none⟩) 2 2) (by kernel_rfl) (by kernel_rfl) fun b3_9 a w hK hM => ?_
       refine tree_next #[true, true, true, true, true, true, true, true, true, true, false, false, false] (by kernel_rfl) ?_
       refine treeM [10] (by kernel_rfl) rfl ⟨?_, trivial⟩
       refine stepAlloc hK hM 20 28 [.slice (some ⟨b3_9, 0, none⟩) 2 2] (fun b => .slice (some ⟨b, 0, none⟩) 1 1) (by kernel_rfl) (by kernel_rfl) fun b3_10 a w hK hM => ?_
       refine tree_next #[true, true, true, true, true, true, true, true, true, true, true, false, false] (by kernel_rfl) ?_
       refine treeP hK 11 21 (.agg #[.slice (some ⟨b3_1, 0, none⟩) 1 1, .slice (some ⟨b3_10, 0, none⟩) 1 1]) (by kernel_rfl) (by kernel_rfl) (by kernel_rfl) (fun w => (by kernel_rfl)) #[true, true, true, true, true, true, true, true, true, true, true, true, false] (by kernel_rfl) fun a hK => ?_
       refine treeM [12] (by kernel_rfl) rfl ⟨?_, trivial⟩
       refine stepStore hK hM 9 [.slice (some ⟨b3_1, 0, none⟩) 1 1, .slice (some ⟨b3_10, 0, none⟩) 1 1] (by kernel_rfl) rfl rfl rfl rfl (by kernel_rfl) fun w hM => ?_
       replace hM := hM.to [.row b3_10 28 [.slice (some ⟨b3_9, 0, none⟩) 2 2], .row b3_9 30 [.int .i64 2, Str [114], Str [120], .int .i64 3, .slice none 0 0, .slice none 0 0, .slice none 0 0, .int .i64 10, Str [], Str [], .int .i64 0, .slice (some ⟨b3_6, 0, none⟩) 1 1, .slice (some ⟨b2_5, 0, none⟩) 1 1, .slice none 0 0], .row b3_1 45 [Str [120], .bool false, .int .i64 0], .row b3_6 36 [.int .i64 7, .int .i64 0, Str [], .slice (some ⟨b3_5, 0, none⟩) 2 2], .row b3_5 36 [.int .i64 2, .int .i64 0, Str [114], .slice none 0 0, .int .i64 1, .int .i64 1, Str [], .slice none 0 0], .row b2_5 30 [.int .i64 3, Str [], Str [120], .int .i64 4, .slice (some ⟨b2_3, 0, none⟩) 1 1, .slice none 0 0, .slice none 0 0], .row b2_3 36 [.int .i64 14, .int .i64 0, Str [], .slice (some ⟨b2_2, 0, none⟩) 2 2], .row b2_2 36 [.int .i64 2, .int .i64 0, Str [114], .slice none 0 0, .int .i64 1, .int .i64 1, Str [], .slice none 0 0], .row b2 36 [.int .i64 2, .int .i64 0, Str [114], .slice none 0 0], .row b1 25 [.slice (some ⟨b3_1, 0, none⟩) 1 1, .slice (some ⟨b3_10, 0, none⟩) 1 1]] (by kernel_rfl)
       refine tree_next #[true, true, true, true, true, true, true, true, true, true, true, true, true] (by kernel_rfl) ?_
       exact treeE (by kernel_rfl) ⟨b3_1, b3_10, b3_5, b3_6, b3_9, hK.sub ⟨rfl, rfl, rfl, trivial⟩, (hM.order [[.row b3_10 28 [.slice (some ⟨b3_9, 0, none⟩) 2 2]], [.row b3_9 30 [.int .i64 2, Str [114], Str [120], .int .i64 3, .slice none 0 0, .slice none 0 0, .slice none 0 0, .int .i64 10, Str [], Str [], .int .i64 0, .slice (some ⟨b3_6, 0, none⟩) 1 1, .slice (some ⟨b2_5, 0, none⟩) 1 1, .slice none 0 0]], [.row b3_1 45 [Str [120], .bool false, .int .i64 0]], [.row b3_6 36 [.int .i64 7, .int .i64 0, Str [], .slice (some ⟨b3_5, 0, none⟩) 2 2]], [.row b3_5 36 [.int .i64 2, .int .i64 0, Str [114], .slice none 0 0, .int .i64 1, .int .i64 1, Str [], .slice none 0 0]], [.row b2_5 30 [.int .i64 3, Str [], Str [120], .int .i64 4, .slice (some ⟨b2_3, 0, none⟩) 1 1, .slice none 0 0, .slice none 0 0]], [.row b2_3 36 [.int .i64 14, .int .i64 0, Str [], .slice (some ⟨b2_2, 0, none⟩) 2 2]], [.row b2_2 36 [.int .i64 2, .int .i64 0, Str [114], .slice none 0 0, .int .i64 1, .int .i64 1, Str [], .slice none 0 0]], [.row b2 36 [.int .i64 2, .int .i64 0, Str [114], .slice none 0 0]], [.row b1 25 [.slice (some ⟨b3_1, 0, none⟩) 1 1, .slice (some ⟨b3_10, 0, none⟩) 1 1]]] [0, 1, 3, 4, 2, 5, 6, 7, 8, 9] 10 rfl (by simp) (by decide) _ (by simp))⟩
      ·refine stepAlloc hK hM 19 30 [.int .i64 2, Str [114], Str [120], .int .i64 3, .slice none 0 0, .slice none 0 0, .slice none 0 0, .int .i64 10, Str [], Str [], .int .i64 0, .slice (some ⟨b3_6, 0, none⟩) 1 1, .slice (some ⟨b2_5, 0, none⟩) 1 1, .slice none 0 0] (fun b => .slice (some ⟨b, 0, none⟩) 2 2) (by kernel_rfl) (by kernel_rfl) fun b3_9 a w hK hM => ?_
       refine tree_next #[true, false, true, true, true, true, true, true, true, true, false, false, false] (by kernel_rfl) ?_
       refine treeM [1, 10] (by kernel_rfl) rfl ⟨?_, ?_, trivial⟩
       ·refine stepAlloc hK hM 11 45 [Str [120], .bool false, .int .i64 0] (fun b => .slice (some ⟨b, 0, none⟩) 1 1) (by kernel_rfl) (by kernel_rfl) fun b3_1 a w hK hM => ?_
        refine tree_next #[true, true, true, true, true, true, true, true, true, true, false, false, false] (by kernel_rfl) ?_
        refine treeM [10] (by kernel_rfl) rfl ⟨?_, trivial⟩
        refine stepAlloc hK hM 20 28 [.slice (some ⟨b3_9, 0, none⟩) 2 2] (fun b => .slice (some ⟨b, 0, none⟩) 1 1) (by kernel_rfl) (by kernel_rfl) fun b3_10 a w hK hM => ?_
        refine tree_next #[true, true, true, true, true, true, true, true, true, true, true, false, false] (by kernel_rfl) ?_
        refine treeP hK 11 21 (.agg #[.slice (some ⟨b3_1, 0, none⟩) 1 1, .slice (some ⟨b3_10, 0, none⟩) 1 1]) (by kernel_rfl) (by kernel_rfl) (by kernel_rfl) (fun w => (by kernel_rfl)) #[true, true, true, true, true, true, true, true, true, true, true, true, false] (by kernel_rfl) fun a hK => ?_
        refine treeM [12] (by kernel_rfl) rfl ⟨?_, trivial⟩
        refine stepStore hK hM 9 [.slice (some ⟨b3_1, 0, none⟩) 1 1, .slice (some ⟨b3_10, 0, none⟩) 1 1] (by kernel_rfl) rfl rfl rfl rfl (by kernel_rfl) fun w hM => ?_
        replace hM := hM.to [.row b3_10 28 [.slice (some ⟨b3_9, 0, none⟩) 2 2], .row b3_1 45 [Str [120], .bool false, .int .i64 0], .row b3_9 30 [.int .i64 2, Str [114], Str [120], .int .i64 3, .slice none 0 0, .slice none 0 0, .slice none 0 0, .int .i64 10, Str [], Str [], .int .i64 0, .slice (some ⟨b3_6, 0, none⟩) 1 1, .slice (some ⟨b2_5, 0, none⟩) 1 1, .slice none 0 0], .row b3_6 36 [.int .i64 7, .int .i64 0, Str [], .slice (some ⟨b3_5, 0, none⟩) 2 2], .row b3_5 36 [.int .i64 2, .int .i64 0, Str [114], .slice none 0 0, .int .i64 1, .int .i64 1, Str [], .slice none 0 0], .row b2_5 30 [.int .i64 3, Str [], Str [120], .int .i64 4, .slice (some ⟨b2_3, 0, none⟩) 1 1, .slice none 0 0, .slice none 0 0], .row b2_3 36 [.int .i64 14, .int .i64 0, Str [], .slice (some ⟨b2_2, 0, none⟩) 2 2], .row b2_2 36 [.int .i64 2, .int .i64 0, Str [114], .slice none 0 0, .int .i64 1, .int .i64 1, Str [], .slice none 0 0], .row b2 36 [.int .i64 2, .int .i64 0, Str [114], .slice none 0 0], .row b1 25 [.slice (some ⟨b3_1, 0, none⟩) 1 1, .slice (some ⟨b3_10, 0, none⟩) 1 1]] (by kernel_rfl)
        refine tree_next #[true, true, true, true, true, true, true, true, true, true, true, true, true] (by kernel_rfl) ?_
        exact treeE (by kernel_rfl) ⟨b3_1, b3_10, b3_5, b3_6, b3_9, hK.sub ⟨rfl, rfl, rfl, trivial⟩, (hM.order [[.row b3_10 28 [.slice (some ⟨b3_9, 0, none⟩) 2 2]], [.row b3_1 45 [Str [120], .bool false, .int .i64 0]], [.row b3_9 30 [.int .i64 2, Str [114], Str [120], .int .i64 3, .slice none 0 0, .slice none 0 0, .slice none 0 0, .int .i64 10, Str [], Str [], .int .i64 0, .slice (some ⟨b3_6, 0, none⟩) 1 1, .slice (some ⟨b2_5, 0, none⟩) 1 1, .slice none 0 0]], [.row b3_6 36 [.int .i64 7, .int .i64 0, Str [], .slice (some ⟨b3_5, 0, none⟩) 2 2]], [.row b3_5 36 [.int .i64 2, .int .i64 0, Str [114], .slice none 0 0, .int .i64 1, .int .i64 1, Str [], .slice none 0 0]], [.row b2_5 30 [.int .i64 3, Str [], Str [120], .int .i64 4, .slice (some ⟨b2_3, 0, none⟩) 1 1, .slice none 0 0, .slice none 0 0]], [.row b2_3 36 [.int .i64 14, .int .i64 0, Str [], .slice (some ⟨b2_2, 0, none⟩) 2 2]], [.row b2_2 36 [.int .i64 2, .int .i64 0, Str [114], .slice none 0 0, .int .i64 1, .int .i64 1, Str [], .slice none 0 0]], [.row b2 36 [.int .i64 2, .int .i64 0, Str [114], .slice none 0 0]], [.row b1 25 [.slice (some ⟨b3_1, 0, none⟩) 1 1, .slice (some ⟨b3_10, 0, none⟩) 1 1]]] [0, 2, 3, 4, 1, 5, 6, 7, 8, 9] 10 rfl (by simp) (by decide) _ (by simp))⟩
       ·refine stepAlloc hK hM 20 28 [.slice (some ⟨b3_9, 0, none⟩) 2 2] (fun b => .slice (some ⟨b, 0, none⟩) 1 1) (by kernel_rfl) (by kernel_rfl) fun b3_10 a w hK hM => ?_
        refine tree_next #[true, false, true, true, true, true, true, true, true, true, true, false, false] (by kernel_rfl) ?_
        refine treeM [1] (by kernel_rfl) rfl ⟨?_, trivial⟩
        refine stepAlloc hK hM 11 45 [Str [120], .bool false, .int .i64 0] (fun b => .slice (some ⟨b, 0, none⟩) 1 1) (by kernel_rfl) (by kernel_rfl) fun b3_1 a w hK hM => ?_
        refine tree_next #[true, true, true, true, true, true, true, true, true, true, true, false, false] (by kernel_rfl) ?_
        refine treeP hK 11 21 (.agg #[.slice (some ⟨b3_1, 0, none⟩) 1 1, .slice (some ⟨b3_10, 0, none⟩) 1 1]) (by kernel_rfl) (by kernel_rfl) (by kernel_rfl) (fun w => (by kernel_rfl)) #[true, true, true, true, true, true, true, true, true, true, true, true, false] (by kernel_rfl) fun a hK => ?_
        refine treeM [12] (by kernel_rfl) rfl ⟨?_, trivial⟩
        refine stepStore hK hM 9 [.slice (some ⟨b3_1, 0, none⟩) 1 1, .slice (some ⟨b3_10, 0, none⟩) 1 1] (by kernel_rfl) rfl rfl rfl rfl (by kernel_rfl) fun w hM => ?_
        replace hM := hM.to [.row b3_1 45 [Str [120], .bool false, .int .i64 0], .row b3_10 28 [.slice (some ⟨b3_9, 0, none⟩) 2 2], .row b3_9 30 [.int .i64 2, Str [114], Str [120], .int .i64 3, .slice none 0 0, .slice none 0 0, .slice none 0 0, .int .i64 10, Str [], Str [], .int .i64 0, .slice (some ⟨b3_6, 0, none⟩) 1 1, .slice (some ⟨b2_5, 0, none⟩) 1 1, .slice none 0 0], .row b3_6 36 [.int .i64 7, .int .i64 0, Str [], .slice (some ⟨b3_5, 0, none⟩) 2 2], .row b3_5 36 [.int .i64 2, .int .i64 0, Str [114], .slice none 0 0, .int .i64 1, .int .i64 1, Str [], .slice none 0 0], .row b2_5 30 [.int .i64 3, Str [], Str [120], .int .i64 4, .slice (some ⟨b2_3, 0, none⟩) 1 1, .slice none 0 0, .slice none 0 0], .row b2_3 36 [.int .i64 14, .int .i64 0, Str [], .slice (some ⟨b2_2, 0, none⟩) 2 2], .row b2_2 36 [.int .i64 2, .int .i64 0, Str [114], .slice none 0 0, .int .i64 1, .int .i64 1, Str [], .slice none 0 0], .row b2 36 [.int .i64 2, .int .i64 0, Str [114], .slice none 0 0], .row b1 25 [.slice (some ⟨b3_1, 0, none⟩) 1 1, .slice (some ⟨b3_10, 0, none⟩) 1 1]] (by kernel_rfl)
        refine tree_next #[true, true, true, true, true, true, true, true, true, true, true, true, true] (by kernel_rfl) ?_
        exact treeE (by kernel_rfl) ⟨b3_1, b3_10, b3_5, b3_6, b3_9, hK.sub ⟨rfl, rfl, rfl, trivial⟩, (hM.order [[.row b3_1 45 [Str [120], .bool false, .int .i64 0]], [.row b3_10 28 [.slice (some ⟨b3_9, 0, none⟩) 2 2]], [.row b3_9 30 [.int .i64 2, Str [114], Str [120], .int .i64 3, .slice none 0 0, .slice none 0 0, .slice none 0 0, .int .i64 10, Str [], Str [], .int .i64 0, .slice (some ⟨b3_6, 0, none⟩) 1 1, .slice (some ⟨b2_5, 0, none⟩) 1 1, .slice none 0 0]], [.row b3_6 36 [.int .i64 7, .int .i64 0, Str [], .slice (some ⟨b3_5, 0, none⟩) 2 2]], [.row b3_5 36 [.int .i64 2, .int .i64 0, Str [114], .slice none 0 0, .int .i64 1, .int .i64 1, Str [], .slice none 0 0]], [.row b2_5 30 [.int .i64 3, Str [], Str [120], .int .i64 4, .slice (some ⟨b2_3, 0, none⟩) 1 1, .slice none 0 0, .slice none 0 0]], [.row b2_3 36 [.int .i64 14, .int .i64 0, Str [], .slice (some ⟨b2_2, 0, none⟩) 2 2]], [.row b2_2 36 [.int .i64 2, .int .i64 0, Str [114], .slice none 0 0, .int .i64 1, .int .i64 1, Str [], .slice none 0 0]], [.row b2 36 [.int .i64 2, .int .i64 0, Str [114], .slice none 0 0]], [.row b1 25 [.slice (some ⟨b3_1, 0, none⟩) 1 1, .slice (some ⟨b3_10, 0, none⟩) 1 1]]] [1, 2, 3, 4, 0, 5, 6, 7, 8, 9] 10 rfl (by simp) (by decide) _ (by simp))⟩
 rintro a w ⟨b3_1, b3_10, b3_5, b3_6, b3_9, hK, hM⟩
 refine wp_ret ?_
 exact ret_c hK rfl rfl ((hM.row 9 rfl).cells 0 2) (u := (.agg #[.slice (some ⟨b3_1, 0, none⟩) 1 1, .slice (some ⟨b3_10, 0, none⟩) 1 1])) (by kernel_rfl) (⟨(b2_2, b2_3, b2_5, b3_1, b3_5, b3_6, b3_9, b3_10), rfl, (((hM.order [[.row b3_10 28 [.slice (some ⟨b3_9, 0, none⟩) 2 2]], [.row b3_9 30 [.int .i64 2, Str [114], Str [120], .int .i64 3, .slice none 0 0, .slice none 0 0, .slice none 0 0, .int .i64 10, Str [], Str [], .int .i64 0, .slice (some ⟨b3_6, 0, none⟩) 1 1, .slice (some ⟨b2_5, 0, none⟩) 1 1, .slice none 0 0]], [.row b3_6 36 [.int .i64 7, .int .i64 0, Str [], .slice (some ⟨b3_5, 0, none⟩) 2 2]], [.row b3_5 36 [.int .i64 2, .int .i64 0, Str [114], .slice none 0 0, .int .i64 1, .int .i64 1, Str [], .slice none 0 0]], [.row b3_1 45 [Str [120], .bool false, .int .i64 0]], [.row b2_5 30 [.int .i64 3, Str [], Str [120], .int .i64 4, .slice (some ⟨b2_3, 0, none⟩) 1 1, .slice none 0 0, .slice none 0 0]], [.row b2_3 36 [.int .i64 14, .int .i64 0, Str [], .slice (some ⟨b2_2, 0, none⟩) 2 2]], [.row b2_2 36 [.int .i64 2, .int .i64 0, Str [114], .slice none 0 0, .int .i64 1, .int .i64 1, Str [], .slice none 0 0]], [.row b2 36 [.int .i64 2, .int .i64 0, Str [114], .slice none 0 0]], [.row b1 25 [.slice (some ⟨b3_1, 0, none⟩) 1 1, .slice (some ⟨b3_10, 0, none⟩) 1 1]]] [8, 9, 7, 6, 5, 4, 3, 2, 1, 0] 10 rfl (by simp) (by decide) ([.row b2 36 [.int .i64 2, .int .i64 0, Str [114], .slice none 0 0], .row b1 25 [.slice (some ⟨b3_1, 0, none⟩) 1 1, .slice (some ⟨b3_10, 0, none⟩) 1 1], .row b2_2 36 [.int .i64 2, .int .i64 0, Str [114], .slice none 0 0, .int .i64 1, .int .i64 1, Str [], .slice none 0 0], .row b2_3 36 [.int .i64 14, .int .i64 0, Str [], .slice (some ⟨b2_2, 0, none⟩) 2 2], .row b2_5 30 [.int .i64 3, Str [], Str [120], .int .i64 4, .slice (some ⟨b2_3, 0, none⟩) 1 1, .slice none 0 0, .slice none 0 0], .row b3_1 45 [Str [120], .bool false, .int .i64 0], .row b3_5 36 [.int .i64 2, .int .i64 0, Str [114], .slice none 0 0, .int .i64 1, .int .i64 1, Str [], .slice none 0 0], .row b3_6 36 [.int .i64 7, .int .i64 0, Str [], .slice (some ⟨b3_5, 0, none⟩) 2 2], .row b3_9 30 [.int .i64 2, Str [114], Str [120], .int .i64 3, .slice none 0 0, .slice none 0 0, .slice none 0 0, .int .i64 10, Str [], Str [], .int .i64 0, .slice (some ⟨b3_6, 0, none⟩) 1 1, .slice (some ⟨b2_5, 0, none⟩) 1 1, .slice none 0 0], .row b3_10 28 [.slice (some ⟨b3_9, 0, none⟩) 2 2]]) (by simp))).drop 2).to _ (by kernel_rfl), trivial⟩)
end Go.Proofs.YtiigncmpbkfhmaaDoor
namespace Go.Proofs.YtiigncmpbkfhmaaDoor
open Go Go.RowKit Go.Maps Go.Sort Go.Shelf Go.MapKept Go.ChangeMaps
def noteL (s : List UInt8) (ks : List (List UInt8)) : List (List UInt8) := if s = [] then ks else if ks.contains s = true then ks else ks ++ [s]
def setObjS (ks : List (List UInt8)) : Obj := .map (setEs 0 ks).toArray ks.length
theorem setEs_length (ks : List (List UInt8)) : ∀ i, (setEs i ks).length = ks.length := by
  induction ks with
  | nil => intro i; rfl
  | cons k ks ih => intro i; rw [setEs, List.length_cons, List.length_cons, ih]
theorem setEs_snoc (ks : List (List UInt8)) (s : List UInt8) : ∀ i, setEs i (ks ++ [s]) = setEs i ks ++ [⟨Str s, .agg #[], i + ks.length⟩] := by
  induction ks with
  | nil => intro i; rfl
  | cons k ks ih => intro i; rw [List.cons_append, setEs, setEs, ih, List.length_cons, List.cons_append, show i + 1 + ks.length = i + (ks.length + 1) by omega]
theorem setEs_keys (ks : List (List UInt8)) : ∀ i, (setEs i ks).map (·.key) = ks.map Str := by
  induction ks with
  | nil => intro i; rfl
  | cons k ks ih => intro i; rw [setEs, List.map_cons, List.map_cons, ih]
theorem setEs_vals (ks : List (List UInt8)) : ∀ i, ∀ x ∈ setEs i ks, x.val = .agg #[] ∧ ∃ s ∈ ks, x.key = Str s := by
  induction ks with
  | nil => intro i x hx; cases hx
  | cons k ks ih =>
    intro i x hx
    rw [setEs] at hx
    rcases List.mem_cons.1 hx with rfl | hx
    · exact ⟨rfl, k, List.mem_cons_self, rfl⟩
    · obtain ⟨h1, s, h2, h3⟩ := ih _ x hx; exact ⟨h1, s, List.mem_cons_of_mem _ h2, h3⟩
theorem setEs_get (ks : List (List UInt8)) : ∀ (i j : Nat) (s : List UInt8), ks[j]? = some s → (setEs i ks)[j]? = some ⟨Str s, .agg #[], i + j⟩ := by
  induction ks with
  | nil => intro i j s h; simp at h
  | cons k ks ih =>
    intro i j s h
    cases j with
    | zero => obtain rfl := Option.some.inj h; rfl
    | succ j => rw [setEs, List.getElem?_cons_succ, ih (i + 1) j s (by simpa using h), show i + 1 + j = i + (j + 1) by omega]
theorem set_at : ∀ (ks : List (List UInt8)) (l : List UInt8) (i : Nat), ks.contains l = true → ∃ j, Instr.findNow .string (Str l) (setEs i ks) i = some (some (i + j, .agg #[])) ∧ ks[j]? = some l := by
  intro ks
  induction ks with
  | nil => intro l i h; cases h
  | cons k ks ih =>
    intro l i h
    unfold setEs Instr.findNow
    simp only [same_str]
    cases hk : (l == k) with
    | true => exact ⟨0, rfl, by simp at hk; rw [hk]; rfl⟩
    | false =>
      rw [List.contains_cons, hk, Bool.false_or] at h
      obtain ⟨j, h1, h2⟩ := ih l (i + 1) h
      exact ⟨j + 1, by rw [show i + (j + 1) = i + 1 + j by omega]; exact h1, h2⟩
theorem noteL_nodup {s : List UInt8} {ks : List (List UInt8)} (h : ks.Nodup) : (noteL s ks).Nodup := by
  unfold noteL
  split
  · exact h
  · split
    · exact h
    · rename_i h1 h2
      rw [List.nodup_append]
      exact ⟨h, by simp, fun a ha b hb e => by simp at hb; subst hb; subst e; exact h2 (by simpa using ha)⟩
section
variable {o : Oper} {ρ : Operand → Value} {w : World}
theorem run_keyStays {P : Program} (k : ByteArray) (w : World) : (Instr.keyThatStays (.string k) (.string k)).run P w = .ok (.string k) w := by
  have h : Instr.sameBits 10000 (.string k) (.string k) = true := by
    show (k == k) = true
    first
      | exact beq_self_eq_true k
      | (show (k.data == k.data) = true; simp)
  simp [Instr.keyThatStays, h]
theorem run_updS {m k v : Operand} {b : Nat} {ks : List (List UInt8)} {s : List UInt8} (hop : o.op = .mapUpdate 78 m k v) (hm : ρ m = .map (some b)) (hk : ρ k = Str s) (hv : ρ v = .agg #[]) (hs : s ≠ []) (hh : w.heap[b]? = some (setObjS ks)) : (execOp ρ o).run Tryd.prog w = .ok .skip (putObj w b (setObjS (noteL s ks))) := by
  have hmt := Tryd.underlying78
  have hkt := Tryd.underlying9
  unfold noteL
  rw [if_neg hs]
  unfold setObjS at hh
  cases hc : ks.contains s with
  | false =>
    have hf : Instr.findNow .string (.string ⟨s.toArray⟩) (setEs 0 ks).toArray.toList 0 = some none := set_no ks s 0 hc
    rw [if_neg (by decide)]
    have e : setObjS (ks ++ [s]) = .map ((setEs 0 ks).toArray.push ⟨.string ⟨s.toArray⟩, .agg #[], ks.length⟩) (ks.length + 1) := by
      unfold setObjS; rw [setEs_snoc, List.length_append, Nat.zero_add]; simp [Str]
    rw [e]
    simp [execOp, hop, hm, hk, hv, Str, Instr.mapUpdate, run_underlying hmt, getObj, setObj, Sem.run, hh, run_checkS hkt, run_findS hkt hf, putObj]
  | true =>
    obtain ⟨j, hj, hg⟩ := set_at ks s 0 hc
    rw [Nat.zero_add] at hj
    have hf : Instr.findNow .string (.string ⟨s.toArray⟩) (setEs 0 ks).toArray.toList 0 = some (some (j, .agg #[])) := hj
    have hge : (setEs 0 ks)[j]? = some ⟨Str s, .agg #[], 0 + j⟩ := setEs_get ks 0 j s hg
    rw [if_pos rfl]
    have hlt : j < (setEs 0 ks).length := (List.getElem?_eq_some_iff.1 hge).1
    have hmodL : (setEs 0 ks).modify j (fun e => { e with key := .string ⟨s.toArray⟩, val := .agg #[] }) = setEs 0 ks := by
      apply List.ext_getElem?
      intro q
      rw [List.getElem?_modify]
      split
      · rename_i hq
        subst hq
        rw [hge]; rfl
      · cases (setEs 0 ks)[q]? <;> rfl
    simp only [execOp, hop, hm, hk, hv, Str]
    have hrun : (Instr.mapUpdate 78 (.map (some b)) (.string ⟨s.toArray⟩) (.agg #[])).run Tryd.prog w = .ok () (putObj w b (setObjS ks)) := by
      unfold Instr.mapUpdate
      simp [run_underlying hmt, getObj, setObj, Sem.run, hh, run_checkS hkt, run_findS hkt hf, hge, Str]
      have hks := run_keyStays (P := Tryd.prog) ⟨s.toArray⟩ w
      simp only [hks, putObj, setObjS, hh, hmodL]
      simp [hks, hh, hmodL]
    simp [hrun, Result.andThen]
end
theorem keyOf_str_mk' {s : List UInt8} (hs : s.length ≤ 65536) : keyOf Tryd.prog 9 (Str s) = some (.string s) := by
  rw [keyOf_string Tryd.underlying9]
  have h : s.length ≤ maxLen := by unfold maxLen; omega
  simp [mapKey, Str]
  show s.toArray.size ≤ maxLen
  simpa using h
abbrev RU : Value → Option (DataW Unit × List MemPlace) := fun _ => some (.agg [], [])
theorem Str_inj {x y : List UInt8} (h : Str x = Str y) : x = y := by simpa [Str] using h
theorem set_owns {w : World} {b : Nat} {ks : List (List UInt8)} (hh : w.heap[b]? = some (setObjS ks)) (hn : ks.Nodup) (hl : ks.length ≤ 1000000) (hs : ∀ k ∈ ks, k.length ≤ 65536) :
    ∃ D : DataW Unit, w.ownsMap Tryd.prog 9 RU b ks.length D ∧ (strKeys D).Perm ks ∧ Maps.size D = ks.length := by
  have hrd : ∀ x ∈ setEs 0 ks, ∃ s ∈ ks, x.key = Str s ∧ WideElems.rd Tryd.prog 9 RU x = some (.string s, .agg []) := by
    intro x hx
    obtain ⟨h1, s, h2, h3⟩ := setEs_vals ks 0 x hx
    obtain ⟨k, v, bo⟩ := x
    simp only at h1 h3
    subst h1 h3
    exact ⟨s, h2, rfl, WideElems.rd_mk (R := RU) (yv := (.agg [], [])) (keyOf_str_mk' (hs s h2)) rfl⟩
  have hborn : ∀ (ks : List (List UInt8)) (i : Nat), (setEs i ks).map (·.born) = (List.range ks.length).map (i + ·) := by
    intro ks
    induction ks with
    | nil => intro i; rfl
    | cons k ks ih =>
      intro i
      rw [setEs, List.map_cons, ih, List.length_cons, List.range_succ_eq_map, List.map_cons, List.map_map]
      congr 1
      apply List.map_congr_left
      intro j _
      show i + 1 + j = i + (j + 1); omega
  have hfit : WideElems.Fit Tryd.prog 9 RU (setEs 0 ks).toArray ks.length := by
    refine ⟨by rw [List.size_toArray, setEs_length]; unfold maxLen; omega, (stamped_iff _ _).2 ⟨?_, ?_, ?_⟩, ?_⟩
    · intro x hx
      have : x.born ∈ (setEs 0 ks).map (·.born) := List.mem_map_of_mem hx
      rw [hborn] at this
      simp at this; exact this
    · show ((setEs 0 ks).map (·.born)).Nodup
      rw [hborn]
      simpa using List.nodup_range
    · have h2 : ((setEs 0 ks).map (·.key)).Pairwise (· ≠ ·) := by
        rw [setEs_keys, List.pairwise_map]
        exact hn.imp fun h e => h (Str_inj e)
      rwa [List.pairwise_map] at h2
    · intro x hx
      obtain ⟨s, _, _, h⟩ := hrd x hx
      exact ⟨_, h⟩
  refine ⟨_, ⟨_, _, hh, hfit, by rw [List.size_toArray, setEs_length]; exact Nat.le_refl _, rfl⟩, ?_, ?_⟩
  · have h1 := (WideShapes.sorted_perm (((setEs 0 ks).toArray.toList).map (WideElems.rg Tryd.prog 9 RU))).map fun p => strOf p.1
    refine h1.trans ?_
    rw [List.map_map]
    have h2 : ((setEs 0 ks).toArray.toList).map ((fun p : Lit × DataW Unit => strOf p.1) ∘ WideElems.rg Tryd.prog 9 RU) = ks := by
      have h3 : ∀ (l : List MapEntry) (m : List (List UInt8)), l.map (·.key) = m.map Str → (∀ x ∈ l, ∃ s ∈ ks, x.key = Str s ∧ WideElems.rd Tryd.prog 9 RU x = some (.string s, .agg [])) → l.map ((fun p : Lit × DataW Unit => strOf p.1) ∘ WideElems.rg Tryd.prog 9 RU) = m := by
        intro l
        induction l with
        | nil => intro m h _; cases m with
          | nil => rfl
          | cons _ _ => simp at h
        | cons x l ih =>
          intro m h hx
          cases m with
          | nil => simp at h
          | cons y m =>
            rw [List.map_cons, List.map_cons, List.cons.injEq] at h
            obtain ⟨s, _, h4, h5⟩ := hx x List.mem_cons_self
            rw [List.map_cons, ih m h.2 fun z hz => hx z (List.mem_cons_of_mem _ hz)]
            have h6 : strOf (WideElems.rg Tryd.prog 9 RU x).1 = y := by
              rw [WideElems.rg_of h5]
              exact Str_inj (h4.symm.trans h.1)
            simp only [Function.comp_apply]
            rw [h6]
      exact h3 _ _ (setEs_keys ks 0) hrd
    rw [h2]
  · rw [Maps.size_eq, (WideShapes.sorted_perm _).length_eq]
    simp [setEs_length]
set_option maxRecDepth 100000 in
set_option maxHeartbeats 1000000 in
theorem ast_Sorted (bk bm : Nat) (ks : List (List UInt8)) (w0 : World) (h1 : RowT w0 bk 78 [.map (some bm)]) (h2 : w0.heap[bm]? = some (setObjS ks)) (hn : ks.Nodup) (hl : ks.length ≤ 1000000) (hs : ∀ k ∈ ks, k.length ≤ 65536) :
    Calls Tryd.prog 59 #[.func (.func 82) #[] #[pA bk 0]] w0 (Gives w0 (fun v : Value => v) (fun v => [.own 9 1 v (ks.mergeSort leB).length ((ks.mergeSort leB).map Str)]) fun _ => True) := by
  obtain ⟨D, hown, hperm, hsz⟩ := set_owns h2 hn hl hs
  have hseq : SeqGives Fence.wide 2 Tryd.prog 82 #[pA bk 0] encStr (fun ss => ss.Perm (strKeys D)) (Maps.size D) w0 :=
    AnyZ.keys_gives (ρ := Tryd.keys60_ren) { Tryd.keys60 with } Fence.wide _ trivial rfl (by omega) bk bm ks.length D w0 h1.lt (by rw [h1.cell]; rfl) hown
  have hmax : Maps.size D ≤ maxLen := by rw [hsz]; unfold maxLen; omega
  have hbytes : Maps.size D * 16 ≤ 140737488355328 := by rw [hsz]; omega
  have cS : CallsIn Fence.wide 5 Tryd.prog 59 #[.func (.func 82) #[] #[pA bk 0]] w0 fun e w' => ∃ (v : Value) (ss : List (List UInt8)), e = .returned v ∧ ss.Perm (strKeys D) ∧
      w'.ownsRow w0.heap.size 9 1 v ss.length ((ss.mergeSort (fun x y => decide (x ≤ y))).map encStr) ∧ (v = .slice none 0 0 ↔ ss = []) ∧ Below w0.heap.size w0 w' := by
    exact AnyZ.sorted_in Tryd.sorted59 Fence.wide 5 trivial trivial trivial trivial rfl (by omega) (Tryd.sorts59 _) (enters_of Tryd.func81 (by kernel_rfl) rfl) 82 #[pA bk 0] trivial (enters_of Tryd.func82 (by kernel_rfl) rfl) _ _ hmax hbytes _ hseq
  refine ((callsIn_wide (n := 5)).1 cS).mono ?_
  rintro e w' ⟨v, ss, rfl, hS, hrow, _, hb⟩
  have hp : ss.Perm ks := hS.trans hperm
  have e1 : ss.mergeSort (fun x y => decide (x ≤ y)) = ks.mergeSort leB := mergeSort_of_perm hp
  rw [e1] at hrow
  have e2 : ss.length = (ks.mergeSort leB).length := by rw [List.length_mergeSort]; exact hp.length_eq
  rw [e2] at hrow
  exact ⟨v, rfl, ⟨hb, fun it hi => by obtain rfl := List.mem_singleton.1 hi; exact hrow, List.pairwise_singleton _ _⟩, trivial⟩
end Go.Proofs.YtiigncmpbkfhmaaDoor
