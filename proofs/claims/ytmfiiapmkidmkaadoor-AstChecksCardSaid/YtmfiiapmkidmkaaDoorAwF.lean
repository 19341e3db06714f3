/-
 Lists of texts and of numbers compared; each of a list of texts.
-/
import Derived.Test.YtmfiiapmkidmkaaDoorDR
import Derived.Test.YtmfiiapmkidmkaaDoorAwE
import Derived.Test.YtmfiiapmkidmkaaDoorShelf
namespace Go.Proofs.YtmfiiapmkidmkaaDoor
open Go Go.RowKit

theorem en_cantileverkit_Texts : Enters Tryd.prog 24 := enters_of Tryd.func24 (by kernel_rfl) rfl
theorem en_cantileverkit_Ints : Enters Tryd.prog 26 := enters_of Tryd.func26 (by kernel_rfl) rfl
theorem en_ast_each_string_ : Enters Tryd.prog 58 := enters_of Tryd.func58 (by kernel_rfl) rfl
theorem en_strings_Clone : Enters Tryd.prog 61 := enters_of Tryd.func61 (by kernel_rfl) rfl
theorem list_same {α : Type} {l m : List α} (h : l.length = m.length) (h2 : ∀ j, j < l.length → l[j]? = m[j]?) : l = m := by
 apply List.ext_getElem?
 intro j
 rcases Nat.lt_or_ge j l.length with hj | hj
 ·exact h2 j hj
 ·rw [List.getElem?_eq_none (by omega), List.getElem?_eq_none (by omega)]
set_option maxRecDepth 100000 in
set_option maxHeartbeats 4000000 in
theorem kit_Texts {A B : Option Addr} {c d : Nat} (l m : List (List UInt8)) (w0 : World) (hl : HandAt w0 A (fun x => [Str x]) 1 l) (hm : HandAt w0 B (fun x => [Str x]) 1 m) (hbl : l.length ≤ 1000000) (hbm : m.length ≤ 1000000) : Calls Tryd.prog 24 #[.slice A l.length c, .slice B m.length d] w0 (Ret w0 (.bool (decide (l = m)))) := by
 refine calls_K (args := [.slice A l.length c, .slice B m.length d]) (n := 26) (env := [(0, .slice A l.length c), (1, .slice B m.length d)]) Tryd.func24 rfl rfl rfl ⟨rfl, rfl, trivial⟩ fun a w hK hM => ?_
 refine wp_seq ?_
 refine region_go (lst := [0]) (by kernel_rfl) ?_
 refine stepP hK 4 (.bool false) (by kernel_rfl) (by kernel_rfl) fun a hK => ?_
 refine region_done hK [(4, .bool false), (0, .slice A l.length c), (1, .slice B m.length d)] ⟨rfl, rfl, rfl, trivial⟩ fun a hK => ?_
 refine wp_seq ?_
 refine wp_seq ?_
 refine region_go (lst := [0, 1, 2, 3, 4]) (by kernel_rfl) ?_
 refine stepM hK 6 0 (by kernel_rfl) (.inl rfl) rfl fun a hK => ?_
 refine stepP hK 7 (.int .i64 ((l.length : Nat) : Int)) (by kernel_rfl) (by kernel_rfl) fun a hK => ?_
 refine stepM hK 8 1 (by kernel_rfl) (.inl rfl) rfl fun a hK => ?_
 refine stepP hK 9 (.int .i64 ((m.length : Nat) : Int)) (by kernel_rfl) (by kernel_rfl) fun a hK => ?_
 rcases Bool.eq_false_or_eq_true (!(decide ((((l.length : Nat) : Int) : Int) = ((m.length : Nat) : Int)))) with h1 | h1
 ·refine stepP hK 10 (.bool true) (by kernel_rfl) (okBool (b := (!(decide ((((l.length : Nat) : Int) : Int) = ((m.length : Nat) : Int))))) (by kernel_rfl) h1) fun a hK => ?_
  refine region_done hK [(10, .bool true), (4, .bool false), (0, .slice A l.length c), (1, .slice B m.length d)] ⟨rfl, rfl, rfl, rfl, trivial⟩ fun a hK => ?_
  refine wp_cond_true (hK.get rfl) ?_
  refine wp_seq ?_
  refine region_go (lst := [0]) (by kernel_rfl) ?_
  refine stepP hK 4 (.bool false) (by kernel_rfl) (by kernel_rfl) fun a hK => ?_
  refine region_done hK [(4, .bool false), (10, .bool true), (0, .slice A l.length c), (1, .slice B m.length d)] ⟨rfl, rfl, rfl, rfl, trivial⟩ fun a hK => ?_
  refine wp_ret ?_
  exact ret_t hK rfl (u := (.bool false)) rfl (⟨by rw [decide_eq_false (fun e => by subst e; have h9 := h1; simp at h9)], hM.below⟩)
 ·refine stepP hK 10 (.bool false) (by kernel_rfl) (okBool (b := (!(decide ((((l.length : Nat) : Int) : Int) = ((m.length : Nat) : Int))))) (by kernel_rfl) h1) fun a hK => ?_
  refine region_done hK [(10, .bool false), (4, .bool false), (0, .slice A l.length c), (1, .slice B m.length d)] ⟨rfl, rfl, rfl, rfl, trivial⟩ fun a hK => ?_
  refine wp_cond_false (hK.get rfl) ?_
  refine wp_skip ?_
  refine wp_seq ?_
  refine wp_seq ?_
  have hlen : l.length = m.length := by have q := h1; simp at q; omega
  refine region_go (lst := [0]) (by kernel_rfl) ?_
  refine stepP hK 5 (.int .i64 0) (by kernel_rfl) (by kernel_rfl) fun a hK => ?_
  refine region_done hK [(5, .int .i64 0), (10, .bool false), (4, .bool false), (0, .slice A l.length c), (1, .slice B m.length d)] ⟨rfl, rfl, rfl, rfl, rfl, trivial⟩ fun a hK => ?_
  refine wp_block ?_
  refine wp_loopX (fun x : Nat => [(10, .bool false), (4, .bool false), (0, .slice A l.length c), (1, .slice B m.length d), (5, .int .i64 ((x : Nat) : Int))]) (fun x : Nat => []) (fun x : Nat => x ≤ l.length ∧ ∀ j, j < x → l[j]? = m[j]?) (fun x : Nat => l.length - x) 0 (hK.sub ⟨rfl, rfl, rfl, rfl, rfl, trivial⟩) hM ⟨Nat.zero_le _, fun j hj => by omega⟩ ?_
  rintro i a w hK hM hR
  replace hK : Knows a 26 [(10, .bool false), (4, .bool false), (0, .slice A l.length c), (1, .slice B m.length d), (5, .int .i64 ((i : Nat) : Int))] := hK
  replace hM : Mem w0 w [] := hM
  replace hR : i ≤ l.length ∧ ∀ j, j < i → l[j]? = m[j]? := hR
  refine wp_seq ?_
  refine wp_seq ?_
  refine region_go (lst := [0, 1, 2, 3]) (by kernel_rfl) ?_
  refine stepM hK 11 5 (by kernel_rfl) (.inl rfl) rfl fun a hK => ?_
  refine stepM hK 12 0 (by kernel_rfl) (.inl rfl) rfl fun a hK => ?_
  refine stepP hK 13 (.int .i64 ((l.length : Nat) : Int)) (by kernel_rfl) (by kernel_rfl) fun a hK => ?_
  by_cases h2 : (((i : Nat) : Int) : Int) < ((l.length : Nat) : Int)
  ·refine stepP hK 14 (.bool true) (by kernel_rfl) (okBool (b := (decide ((((i : Nat) : Int) : Int) < ((l.length : Nat) : Int)))) (by kernel_rfl) (decide_eq_true h2)) fun a hK => ?_
   refine region_done hK [(14, .bool true), (10, .bool false), (4, .bool false), (0, .slice A l.length c), (1, .slice B m.length d), (5, .int .i64 ((i : Nat) : Int))] ⟨rfl, rfl, rfl, rfl, rfl, rfl, trivial⟩ fun a hK => ?_
   refine wp_cond_true (hK.get rfl) ?_
   refine wp_skip ?_
   refine wp_seq ?_
   refine wp_block ?_
   refine wp_seq ?_
   obtain ⟨t3, ht3⟩ : ∃ t, l[(i : Nat)]? = some t := ⟨_, List.getElem?_eq_getElem (by omega)⟩
   obtain ⟨at3, At3, ct3⟩ := hl _ _ ht3
   obtain ⟨t4, ht4⟩ : ∃ t, m[(i : Nat)]? = some t := ⟨_, List.getElem?_eq_getElem (by omega)⟩
   obtain ⟨at4, At4, ct4⟩ := hm _ _ ht4
   rcases Bool.eq_false_or_eq_true (!(decide (t3 = t4))) with h5 | h5
   ·refine region_any (F := fun w => Mem w0 w []) hK [some (.slice A l.length c), some (.int .i64 ((i : Nat) : Int)), some (.pointer (some (at3.add (i * 1)))), some (Str t3), some (.slice B m.length d), some (.int .i64 ((i : Nat) : Int)), some (.pointer (some (at4.add (i * 1)))), some (Str t4), some (.bool true)] 9 (fun _ _ hb hm => hm.go hb) hM (by kernel_rfl) (by kernel_rfl) ⟨⟨⟨⟨⟨⟨⟨⟨⟨trivial, ?_⟩, ?_⟩, ?_⟩, ?_⟩, ?_⟩, ?_⟩, ?_⟩, ?_⟩, ?_⟩ [(25, .bool true), (14, .bool true), (10, .bool false), (4, .bool false), (0, .slice A l.length c), (1, .slice B m.length d), (5, .int .i64 ((i : Nat) : Int))] (by kernel_rfl) fun a w hK hM => ?_
    ·exact .val (.slice A l.length c) rfl (by kernel_rfl) (fun w hM => (by kernel_rfl))
    ·exact .val (.int .i64 ((i : Nat) : Int)) rfl (by kernel_rfl) (fun w hM => (by kernel_rfl))
    ·exact .val (.pointer (some (at3.add (i * 1)))) rfl (by kernel_rfl) (fun w hM => (run_ixA (k := i) (s := 1) rfl rfl At3 rfl Tryd.underlying50 (by kernel_rfl) (by omega)))
    ·exact .val (Str t3) rfl (by kernel_rfl) (fun w hM => run_loadE rfl rfl ((ct3.on hM.below)) (by kernel_rfl))
    ·exact .val (.slice B m.length d) rfl (by kernel_rfl) (fun w hM => (by kernel_rfl))
    ·exact .val (.int .i64 ((i : Nat) : Int)) rfl (by kernel_rfl) (fun w hM => (by kernel_rfl))
    ·exact .val (.pointer (some (at4.add (i * 1)))) rfl (by kernel_rfl) (fun w hM => (run_ixA (k := i) (s := 1) rfl rfl At4 rfl Tryd.underlying50 (by kernel_rfl) (by omega)))
    ·exact .val (Str t4) rfl (by kernel_rfl) (fun w hM => run_loadE rfl rfl ((ct4.on hM.below)) (by kernel_rfl))
    ·exact .val (.bool true) rfl (by kernel_rfl) (fun w hM => (okBool (b := (!(decide (t3 = t4)))) (run_neS rfl rfl rfl) h5))
    refine wp_cond_true (hK.get rfl) ?_
    refine wp_seq ?_
    refine region_go (lst := [0]) (by kernel_rfl) ?_
    refine stepP hK 4 (.bool false) (by kernel_rfl) (by kernel_rfl) fun a hK => ?_
    refine region_done hK [(4, .bool false), (25, .bool true), (14, .bool true), (10, .bool false), (0, .slice A l.length c), (1, .slice B m.length d), (5, .int .i64 ((i : Nat) : Int))] ⟨rfl, rfl, rfl, rfl, rfl, rfl, rfl, trivial⟩ fun a hK => ?_
    refine wp_ret ?_
    exact ret_t hK rfl (u := (.bool false)) rfl (⟨by rw [decide_eq_false (fun e => by subst e; rw [ht3] at ht4; obtain rfl := Option.some.inj ht4; have h9 := h5; simp at h9)], hM.below⟩)
   ·refine region_any (F := fun w => Mem w0 w []) hK [some (.slice A l.length c), some (.int .i64 ((i : Nat) : Int)), some (.pointer (some (at3.add (i * 1)))), some (Str t3), some (.slice B m.length d), some (.int .i64 ((i : Nat) : Int)), some (.pointer (some (at4.add (i * 1)))), some (Str t4), some (.bool false)] 9 (fun _ _ hb hm => hm.go hb) hM (by kernel_rfl) (by kernel_rfl) ⟨⟨⟨⟨⟨⟨⟨⟨⟨trivial, ?_⟩, ?_⟩, ?_⟩, ?_⟩, ?_⟩, ?_⟩, ?_⟩, ?_⟩, ?_⟩ [(25, .bool false), (14, .bool true), (10, .bool false), (4, .bool false), (0, .slice A l.length c), (1, .slice B m.length d), (5, .int .i64 ((i : Nat) : Int))] (by kernel_rfl) fun a w hK hM => ?_
    ·exact .val (.slice A l.length c) rfl (by kernel_rfl) (fun w hM => (by kernel_rfl))
    ·exact .val (.int .i64 ((i : Nat) : Int)) rfl (by kernel_rfl) (fun w hM => (by kernel_rfl))
    ·exact .val (.pointer (some (at3.add (i * 1)))) rfl (by kernel_rfl) (fun w hM => (run_ixA (k := i) (s := 1) rfl rfl At3 rfl Tryd.underlying50 (by kernel_rfl) (by omega)))
    ·exact .val (Str t3) rfl (by kernel_rfl) (fun w hM => run_loadE rfl rfl ((ct3.on hM.below)) (by kernel_rfl))
    ·exact .val (.slice B m.length d) rfl (by kernel_rfl) (fun w hM => (by kernel_rfl))
    ·exact .val (.int .i64 ((i : Nat) : Int)) rfl (by kernel_rfl) (fun w hM => (by kernel_rfl))
    ·exact .val (.pointer (some (at4.add (i * 1)))) rfl (by kernel_rfl) (fun w hM => (run_ixA (k := i) (s := 1) rfl rfl At4 rfl Tryd.underlying50 (by kernel_rfl) (by omega)))
    ·exact .val (Str t4) rfl (by kernel_rfl) (fun w hM => run_loadE rfl rfl ((ct4.on hM.below)) (by kernel_rfl))
    ·exact .val (.bool false) rfl (by kernel_rfl) (fun w hM => (okBool (b := (!(decide (t3 = t4)))) (run_neS rfl rfl rfl) h5))
    refine wp_cond_false (hK.get rfl) ?_
    refine wp_skip ?_
    refine region_go (lst := [0, 1, 2]) (by kernel_rfl) ?_
    refine stepM hK 15 5 (by kernel_rfl) (.inl rfl) rfl fun a hK => ?_
    refine stepP hK 16 (.int .i64 (((i + 1) : Nat) : Int)) (by kernel_rfl) (run_addN (i := i) (j := 1) rfl rfl rfl (by omega)) fun a hK => ?_
    refine stepM hK 5 16 (by kernel_rfl) (.inr rfl) rfl fun a hK => ?_
    refine region_done hK [(5, .int .i64 (((i + 1) : Nat) : Int)), (25, .bool false), (14, .bool true), (10, .bool false), (4, .bool false), (0, .slice A l.length c), (1, .slice B m.length d)] ⟨rfl, rfl, rfl, rfl, rfl, rfl, rfl, trivial⟩ fun a hK => ?_
    have hRn : (i + 1) ≤ l.length ∧ ∀ j, j < (i + 1) → l[j]? = m[j]? := ⟨by omega, fun j hj => (Nat.lt_or_ge j i).elim (fun h8 => hR.2 j h8) (fun h8 => by obtain rfl : j = i := (by omega); rw [ht3, ht4]; have h9 := h5; simpa using h9)⟩
    have hmn : l.length - (i + 1) < l.length - i := by omega
    exact ⟨i + 1, hK.sub ⟨rfl, rfl, rfl, rfl, rfl, trivial⟩, hM, hRn, hmn⟩
  ·refine stepP hK 14 (.bool false) (by kernel_rfl) (okBool (b := (decide ((((i : Nat) : Int) : Int) < ((l.length : Nat) : Int)))) (by kernel_rfl) (decide_eq_false h2)) fun a hK => ?_
   refine region_done hK [(14, .bool false), (10, .bool false), (4, .bool false), (0, .slice A l.length c), (1, .slice B m.length d), (5, .int .i64 ((i : Nat) : Int))] ⟨rfl, rfl, rfl, rfl, rfl, rfl, trivial⟩ fun a hK => ?_
   refine wp_cond_false (hK.get rfl) ?_
   refine wp_exit (exit_then (exit_then (exit_here 0 ?_)))
   refine wp_seq ?_
   refine region_go (lst := [0]) (by kernel_rfl) ?_
   refine stepP hK 4 (.bool true) (by kernel_rfl) (by kernel_rfl) fun a hK => ?_
   refine region_done hK [(4, .bool true), (14, .bool false), (10, .bool false), (0, .slice A l.length c), (1, .slice B m.length d), (5, .int .i64 ((i : Nat) : Int))] ⟨rfl, rfl, rfl, rfl, rfl, rfl, trivial⟩ fun a hK => ?_
   refine wp_ret ?_
   exact ret_t hK rfl (u := (.bool true)) rfl (⟨by rw [decide_eq_true (list_same hlen fun j hj => hR.2 j (by omega))], hM.below⟩)
set_option maxRecDepth 100000 in
set_option maxHeartbeats 4000000 in
theorem kit_Ints {A B : Option Addr} {c d : Nat} (l m : List Int) (w0 : World) (hl : HandAt w0 A (fun x => [.int .i64 x]) 1 l) (hm : HandAt w0 B (fun x => [.int .i64 x]) 1 m) (hbl : l.length ≤ 1000000) (hbm : m.length ≤ 1000000) : Calls Tryd.prog 26 #[.slice A l.length c, .slice B m.length d] w0 (Ret w0 (.bool (decide (l = m)))) := by
 refine calls_K (args := [.slice A l.length c, .slice B m.length d]) (n := 26) (env := [(0, .slice A l.length c), (1, .slice B m.length d)]) Tryd.func26 rfl rfl rfl ⟨rfl, rfl, trivial⟩ fun a w hK hM => ?_
 refine wp_seq ?_
 refine region_go (lst := [0]) (by kernel_rfl) ?_
 refine stepP hK 4 (.bool false) (by kernel_rfl) (by kernel_rfl) fun a hK => ?_
 refine region_done hK [(4, .bool false), (0, .slice A l.length c), (1, .slice B m.length d)] ⟨rfl, rfl, rfl, trivial⟩ fun a hK => ?_
 refine wp_seq ?_
 refine wp_seq ?_
 refine region_go (lst := [0, 1, 2, 3, 4]) (by kernel_rfl) ?_
 refine stepM hK 6 0 (by kernel_rfl) (.inl rfl) rfl fun a hK => ?_
 refine stepP hK 7 (.int .i64 ((l.length : Nat) : Int)) (by kernel_rfl) (by kernel_rfl) fun a hK => ?_
 refine stepM hK 8 1 (by kernel_rfl) (.inl rfl) rfl fun a hK => ?_
 refine stepP hK 9 (.int .i64 ((m.length : Nat) : Int)) (by kernel_rfl) (by kernel_rfl) fun a hK => ?_
 rcases Bool.eq_false_or_eq_true (!(decide ((((l.length : Nat) : Int) : Int) = ((m.length : Nat) : Int)))) with h1 | h1
 ·refine stepP hK 10 (.bool true) (by kernel_rfl) (okBool (b := (!(decide ((((l.length : Nat) : Int) : Int) = ((m.length : Nat) : Int))))) (by kernel_rfl) h1) fun a hK => ?_
  refine region_done hK [(10, .bool true), (4, .bool false), (0, .slice A l.length c), (1, .slice B m.length d)] ⟨rfl, rfl, rfl, rfl, trivial⟩ fun a hK => ?_
  refine wp_cond_true (hK.get rfl) ?_
  refine wp_seq ?_
  refine region_go (lst := [0]) (by kernel_rfl) ?_
  refine stepP hK 4 (.bool false) (by kernel_rfl) (by kernel_rfl) fun a hK => ?_
  refine region_done hK [(4, .bool false), (10, .bool true), (0, .slice A l.length c), (1, .slice B m.length d)] ⟨rfl, rfl, rfl, rfl, trivial⟩ fun a hK => ?_
  refine wp_ret ?_
  exact ret_t hK rfl (u := (.bool false)) rfl (⟨by rw [decide_eq_false (fun e => by subst e; have h9 := h1; simp at h9)], hM.below⟩)
 ·refine stepP hK 10 (.bool false) (by kernel_rfl) (okBool (b := (!(decide ((((l.length : Nat) : Int) : Int) = ((m.length : Nat) : Int))))) (by kernel_rfl) h1) fun a hK => ?_
  refine region_done hK [(10, .bool false), (4, .bool false), (0, .slice A l.length c), (1, .slice B m.length d)] ⟨rfl, rfl, rfl, rfl, trivial⟩ fun a hK => ?_
  refine wp_cond_false (hK.get rfl) ?_
  refine wp_skip ?_
  refine wp_seq ?_
  refine wp_seq ?_
  have hlen : l.length = m.length := by have q := h1; simp at q; omega
  refine region_go (lst := [0]) (by kernel_rfl) ?_
  refine stepP hK 5 (.int .i64 0) (by kernel_rfl) (by kernel_rfl) fun a hK => ?_
  refine region_done hK [(5, .int .i64 0), (10, .bool false), (4, .bool false), (0, .slice A l.length c), (1, .slice B m.length d)] ⟨rfl, rfl, rfl, rfl, rfl, trivial⟩ fun a hK => ?_
  refine wp_block ?_
  refine wp_loopX (fun x : Nat => [(10, .bool false), (4, .bool false), (0, .slice A l.length c), (1, .slice B m.length d), (5, .int .i64 ((x : Nat) : Int))]) (fun x : Nat => []) (fun x : Nat => x ≤ l.length ∧ ∀ j, j < x → l[j]? = m[j]?) (fun x : Nat => l.length - x) 0 (hK.sub ⟨rfl, rfl, rfl, rfl, rfl, trivial⟩) hM ⟨Nat.zero_le _, fun j hj => by omega⟩ ?_
  rintro i a w hK hM hR
  replace hK : Knows a 26 [(10, .bool false), (4, .bool false), (0, .slice A l.length c), (1, .slice B m.length d), (5, .int .i64 ((i : Nat) : Int))] := hK
  replace hM : Mem w0 w [] := hM
  replace hR : i ≤ l.length ∧ ∀ j, j < i → l[j]? = m[j]? := hR
  refine wp_seq ?_
  refine wp_seq ?_
  refine region_go (lst := [0, 1, 2, 3]) (by kernel_rfl) ?_
  refine stepM hK 11 5 (by kernel_rfl) (.inl rfl) rfl fun a hK => ?_
  refine stepM hK 12 0 (by kernel_rfl) (.inl rfl) rfl fun a hK => ?_
  refine stepP hK 13 (.int .i64 ((l.length : Nat) : Int)) (by kernel_rfl) (by kernel_rfl) fun a hK => ?_
  by_cases h2 : (((i : Nat) : Int) : Int) < ((l.length : Nat) : Int)
  ·refine stepP hK 14 (.bool true) (by kernel_rfl) (okBool (b := (decide ((((i : Nat) : Int) : Int) < ((l.length : Nat) : Int)))) (by kernel_rfl) (decide_eq_true h2)) fun a hK => ?_
   refine region_done hK [(14, .bool true), (10, .bool false), (4, .bool false), (0, .slice A l.length c), (1, .slice B m.length d), (5, .int .i64 ((i : Nat) : Int))] ⟨rfl, rfl, rfl, rfl, rfl, rfl, trivial⟩ fun a hK => ?_
   refine wp_cond_true (hK.get rfl) ?_
   refine wp_skip ?_
   refine wp_seq ?_
   refine wp_block ?_
   refine wp_seq ?_
   obtain ⟨t3, ht3⟩ : ∃ t, l[(i : Nat)]? = some t := ⟨_, List.getElem?_eq_getElem (by omega)⟩
   obtain ⟨at3, At3, ct3⟩ := hl _ _ ht3
   obtain ⟨t4, ht4⟩ : ∃ t, m[(i : Nat)]? = some t := ⟨_, List.getElem?_eq_getElem (by omega)⟩
   obtain ⟨at4, At4, ct4⟩ := hm _ _ ht4
   rcases Bool.eq_false_or_eq_true (!(decide ((t3 : Int) = t4))) with h5 | h5
   ·refine region_any (F := fun w => Mem w0 w []) hK [some (.slice A l.length c), some (.int .i64 ((i : Nat) : Int)), some (.pointer (some (at3.add (i * 1)))), some (.int .i64 t3), some (.slice B m.length d), some (.int .i64 ((i : Nat) : Int)), some (.pointer (some (at4.add (i * 1)))), some (.int .i64 t4), some (.bool true)] 9 (fun _ _ hb hm => hm.go hb) hM (by kernel_rfl) (by kernel_rfl) ⟨⟨⟨⟨⟨⟨⟨⟨⟨trivial, ?_⟩, ?_⟩, ?_⟩, ?_⟩, ?_⟩, ?_⟩, ?_⟩, ?_⟩, ?_⟩ [(25, .bool true), (14, .bool true), (10, .bool false), (4, .bool false), (0, .slice A l.length c), (1, .slice B m.length d), (5, .int .i64 ((i : Nat) : Int))] (by kernel_rfl) fun a w hK hM => ?_
    ·exact .val (.slice A l.length c) rfl (by kernel_rfl) (fun w hM => (by kernel_rfl))
    ·exact .val (.int .i64 ((i : Nat) : Int)) rfl (by kernel_rfl) (fun w hM => (by kernel_rfl))
    ·exact .val (.pointer (some (at3.add (i * 1)))) rfl (by kernel_rfl) (fun w hM => (run_ixA (k := i) (s := 1) rfl rfl At3 rfl Tryd.underlying53 (by kernel_rfl) (by omega)))
    ·exact .val (.int .i64 t3) rfl (by kernel_rfl) (fun w hM => run_loadE rfl rfl ((ct3.on hM.below)) (by kernel_rfl))
    ·exact .val (.slice B m.length d) rfl (by kernel_rfl) (fun w hM => (by kernel_rfl))
    ·exact .val (.int .i64 ((i : Nat) : Int)) rfl (by kernel_rfl) (fun w hM => (by kernel_rfl))
    ·exact .val (.pointer (some (at4.add (i * 1)))) rfl (by kernel_rfl) (fun w hM => (run_ixA (k := i) (s := 1) rfl rfl At4 rfl Tryd.underlying53 (by kernel_rfl) (by omega)))
    ·exact .val (.int .i64 t4) rfl (by kernel_rfl) (fun w hM => run_loadE rfl rfl ((ct4.on hM.below)) (by kernel_rfl))
    ·exact .val (.bool true) rfl (by kernel_rfl) (fun w hM => (okBool (b := (!(decide ((t3 : Int) = t4)))) (by kernel_rfl) h5))
    refine wp_cond_true (hK.get rfl) ?_
    refine wp_seq ?_
    refine region_go (lst := [0]) (by kernel_rfl) ?_
    refine stepP hK 4 (.bool false) (by kernel_rfl) (by kernel_rfl) fun a hK => ?_
    refine region_done hK [(4, .bool false), (25, .bool true), (14, .bool true), (10, .bool false), (0, .slice A l.length c), (1, .slice B m.length d), (5, .int .i64 ((i : Nat) : Int))] ⟨rfl, rfl, rfl, rfl, rfl, rfl, rfl, trivial⟩ fun a hK => ?_
    refine wp_ret ?_
    exact ret_t hK rfl (u := (.bool false)) rfl (⟨by rw [decide_eq_false (fun e => by subst e; rw [ht3] at ht4; obtain rfl := Option.some.inj ht4; have h9 := h5; simp at h9)], hM.below⟩)
   ·refine region_any (F := fun w => Mem w0 w []) hK [some (.slice A l.length c), some (.int .i64 ((i : Nat) : Int)), some (.pointer (some (at3.add (i * 1)))), some (.int .i64 t3), some (.slice B m.length d), some (.int .i64 ((i : Nat) : Int)), some (.pointer (some (at4.add (i * 1)))), some (.int .i64 t4), some (.bool false)] 9 (fun _ _ hb hm => hm.go hb) hM (by kernel_rfl) (by kernel_rfl) ⟨⟨⟨⟨⟨⟨⟨⟨⟨trivial, ?_⟩, ?_⟩, ?_⟩, ?_⟩, ?_⟩, ?_⟩, ?_⟩, ?_⟩, ?_⟩ [(25, .bool false), (14, .bool true), (10, .bool false), (4, .bool false), (0, .slice A l.length c), (1, .slice B m.length d), (5, .int .i64 ((i : Nat) : Int))] (by kernel_rfl) fun a w hK hM => ?_
    ·exact .val (.slice A l.length c) rfl (by kernel_rfl) (fun w hM => (by kernel_rfl))
    ·exact .val (.int .i64 ((i : Nat) : Int)) rfl (by kernel_rfl) (fun w hM => (by kernel_rfl))
    ·exact .val (.pointer (some (at3.add (i * 1)))) rfl (by kernel_rfl) (fun w hM => (run_ixA (k := i) (s := 1) rfl rfl At3 rfl Tryd.underlying53 (by kernel_rfl) (by omega)))
    ·exact .val (.int .i64 t3) rfl (by kernel_rfl) (fun w hM => run_loadE rfl rfl ((ct3.on hM.below)) (by kernel_rfl))
    ·exact .val (.slice B m.length d) rfl (by kernel_rfl) (fun w hM => (by kernel_rfl))
    ·exact .val (.int .i64 ((i : Nat) : Int)) rfl (by kernel_rfl) (fun w hM => (by kernel_rfl))
    ·exact .val (.pointer (some (at4.add (i * 1)))) rfl (by kernel_rfl) (fun w hM => (run_ixA (k := i) (s := 1) rfl rfl At4 rfl Tryd.underlying53 (by kernel_rfl) (by omega)))
    ·exact .val (.int .i64 t4) rfl (by kernel_rfl) (fun w hM => run_loadE rfl rfl ((ct4.on hM.below)) (by kernel_rfl))
    ·exact .val (.bool false) rfl (by kernel_rfl) (fun w hM => (okBool (b := (!(decide ((t3 : Int) = t4)))) (by kernel_rfl) h5))
    refine wp_cond_false (hK.get rfl) ?_
    refine wp_skip ?_
    refine region_go (lst := [0, 1, 2]) (by kernel_rfl) ?_
    refine stepM hK 15 5 (by kernel_rfl) (.inl rfl) rfl fun a hK => ?_
    refine stepP hK 16 (.int .i64 (((i + 1) : Nat) : Int)) (by kernel_rfl) (run_addN (i := i) (j := 1) rfl rfl rfl (by omega)) fun a hK => ?_
    refine stepM hK 5 16 (by kernel_rfl) (.inr rfl) rfl fun a hK => ?_
    refine region_done hK [(5, .int .i64 (((i + 1) : Nat) : Int)), (25, .bool false), (14, .bool true), (10, .bool false), (4, .bool false), (0, .slice A l.length c), (1, .slice B m.length d)] ⟨rfl, rfl, rfl, rfl, rfl, rfl, rfl, trivial⟩ fun a hK => ?_
    have hRn : (i + 1) ≤ l.length ∧ ∀ j, j < (i + 1) → l[j]? = m[j]? := ⟨by omega, fun j hj => (Nat.lt_or_ge j i).elim (fun h8 => hR.2 j h8) (fun h8 => by obtain rfl : j = i := (by omega); rw [ht3, ht4]; have h9 := h5; simpa using h9)⟩
    have hmn : l.length - (i + 1) < l.length - i := by omega
    exact ⟨i + 1, hK.sub ⟨rfl, rfl, rfl, rfl, rfl, trivial⟩, hM, hRn, hmn⟩
  ·refine stepP hK 14 (.bool false) (by kernel_rfl) (okBool (b := (decide ((((i : Nat) : Int) : Int) < ((l.length : Nat) : Int)))) (by kernel_rfl) (decide_eq_false h2)) fun a hK => ?_
   refine region_done hK [(14, .bool false), (10, .bool false), (4, .bool false), (0, .slice A l.length c), (1, .slice B m.length d), (5, .int .i64 ((i : Nat) : Int))] ⟨rfl, rfl, rfl, rfl, rfl, rfl, trivial⟩ fun a hK => ?_
   refine wp_cond_false (hK.get rfl) ?_
   refine wp_exit (exit_then (exit_then (exit_here 0 ?_)))
   refine wp_seq ?_
   refine region_go (lst := [0]) (by kernel_rfl) ?_
   refine stepP hK 4 (.bool true) (by kernel_rfl) (by kernel_rfl) fun a hK => ?_
   refine region_done hK [(4, .bool true), (14, .bool false), (10, .bool false), (0, .slice A l.length c), (1, .slice B m.length d), (5, .int .i64 ((i : Nat) : Int))] ⟨rfl, rfl, rfl, rfl, rfl, rfl, trivial⟩ fun a hK => ?_
   refine wp_ret ?_
   exact ret_t hK rfl (u := (.bool true)) rfl (⟨by rw [decide_eq_true (list_same hlen fun j hj => hR.2 j (by omega))], hM.below⟩)
theorem lib_Clone0 (l : List UInt8) (w0 : World) (h : l.length ≤ 281474976710656) : Calls Tryd.prog 83 #[Str l] w0 (Ret w0 (Str l)) := Tryd.stringslite_Clone ⟨l.toArray⟩ w0 h
theorem en_stringslite_Clone : Enters Tryd.prog 83 := enters_of Tryd.func83 (by kernel_rfl) rfl
set_option maxRecDepth 100000 in
set_option maxHeartbeats 4000000 in
theorem lib_Clone (l : List UInt8) (w0 : World) (hln : l.length ≤ 65536) : Calls Tryd.prog 61 #[Str l] w0 (Ret w0 (Str l)) := by
 refine calls_K (args := [Str l]) (n := 5) (env := [(0, Str l)]) Tryd.func61 rfl rfl rfl ⟨rfl, trivial⟩ fun a w hK hM => ?_
 refine wp_seq ?_
 refine region_go (lst := [0]) (by kernel_rfl) ?_
 refine stepP hK 2 (Str []) (by kernel_rfl) (by kernel_rfl) fun a hK => ?_
 refine region_done hK [(2, Str []), (0, Str l)] ⟨rfl, rfl, trivial⟩ fun a hK => ?_
 refine wp_seq ?_
 refine region_go (lst := [0, 1, 2]) (by kernel_rfl) ?_
 refine stepM hK 3 0 (by kernel_rfl) (.inl rfl) rfl fun a hK => ?_
 refine stepRet hK hM 4 #[Str l] (Str l) (by kernel_rfl) (run_callE en_stringslite_Clone rfl rfl (by kernel_rfl)) (lib_Clone0 l _ (by omega)) fun a w hK hM => ?_
 refine stepM hK 2 4 (by kernel_rfl) (.inr rfl) rfl fun a hK => ?_
 refine region_done hK [(2, Str l), (0, Str l)] ⟨rfl, rfl, trivial⟩ fun a hK => ?_
 refine wp_ret ?_
 exact ret_t hK rfl (u := (Str l)) rfl (⟨rfl, hM.below⟩)
theorem Mem.start_own {w0 w : World} (hb : Below w0.heap.size w0 w) {l : List (List UInt8)} (hl : l = []) : Mem w0 w [.own 9 1 (.slice none 0 0) l.length (l.map Str)] := by
 subst hl
 exact ⟨hb, fun it hi => by obtain rfl := List.mem_singleton.1 hi; exact ⟨rfl, .inl ⟨rfl, rfl⟩⟩, List.pairwise_singleton _ _⟩
set_option maxRecDepth 100000 in
set_option maxHeartbeats 4000000 in
theorem ast_eachS {A : Option Addr} {c : Nat} (l : List (List UInt8)) (w0 : World) (hl : HandAt w0 A (fun x => [Str x]) 1 l) (hbl : l.length ≤ 1000000) (hs : ∀ x ∈ l, x.length ≤ 65536) (hnil : A = none → l = []) : Calls Tryd.prog 58 #[.slice A l.length c, .func (.func 61) #[] #[]] w0 (Gives w0 (fun v : Value => v) (fun v => [.own 9 1 v l.length (l.map Str)]) fun _ => True) := by
 refine calls_K (args := [.slice A l.length c, .func (.func 61) #[] #[]]) (n := 28) (env := [(0, .slice A l.length c), (1, .func (.func 61) #[] #[])]) Tryd.func58 rfl rfl rfl ⟨rfl, rfl, trivial⟩ fun a w hK hM => ?_
 refine wp_seq ?_
 refine region_go (lst := [0]) (by kernel_rfl) ?_
 refine stepP hK 4 (.slice none 0 0) (by kernel_rfl) (by kernel_rfl) fun a hK => ?_
 refine region_done hK [(4, .slice none 0 0), (0, .slice A l.length c), (1, .func (.func 61) #[] #[])] ⟨rfl, rfl, rfl, trivial⟩ fun a hK => ?_
 refine wp_seq ?_
 refine wp_seq ?_
 refine region_go (lst := [0, 1]) (by kernel_rfl) ?_
 refine stepM hK 8 0 (by kernel_rfl) (.inl rfl) rfl fun a hK => ?_
 rcases Bool.eq_false_or_eq_true (A).isNone with h1 | h1
 ·refine stepP hK 9 (.bool true) (by kernel_rfl) (okBool (b := (A).isNone) (run_eqNil rfl rfl rfl Tryd.underlying50) h1) fun a hK => ?_
  refine region_done hK [(9, .bool true), (4, .slice none 0 0), (0, .slice A l.length c), (1, .func (.func 61) #[] #[])] ⟨rfl, rfl, rfl, rfl, trivial⟩ fun a hK => ?_
  refine wp_cond_true (hK.get rfl) ?_
  refine wp_seq ?_
  refine region_go (lst := [0]) (by kernel_rfl) ?_
  refine stepP hK 4 (.slice none 0 0) (by kernel_rfl) (by kernel_rfl) fun a hK => ?_
  refine region_done hK [(4, .slice none 0 0), (9, .bool true), (0, .slice A l.length c), (1, .func (.func 61) #[] #[])] ⟨rfl, rfl, rfl, rfl, trivial⟩ fun a hK => ?_
  refine wp_ret ?_
  exact ret_t hK rfl (u := (.slice none 0 0)) rfl (⟨.slice none 0 0, rfl, Mem.start_own hM.below (hnil (by simpa using h1)), trivial⟩)
 ·refine stepP hK 9 (.bool false) (by kernel_rfl) (okBool (b := (A).isNone) (run_eqNil rfl rfl rfl Tryd.underlying50) h1) fun a hK => ?_
  refine region_done hK [(9, .bool false), (4, .slice none 0 0), (0, .slice A l.length c), (1, .func (.func 61) #[] #[])] ⟨rfl, rfl, rfl, rfl, trivial⟩ fun a hK => ?_
  refine wp_cond_false (hK.get rfl) ?_
  refine wp_skip ?_
  refine wp_seq ?_
  refine region_go (lst := [0, 1, 2, 3]) (by kernel_rfl) ?_
  refine stepM hK 10 0 (by kernel_rfl) (.inl rfl) rfl fun a hK => ?_
  refine stepP hK 11 (.int .i64 ((l.length : Nat) : Int)) (by kernel_rfl) (by kernel_rfl) fun a hK => ?_
  refine stepMake hK hM 12 [Str []] l.length 16 Tryd.underlying50 (by kernel_rfl) (by kernel_rfl) rfl rfl rfl (by omega) fun b2 a w hK hM => ?_
  refine stepM hK 5 12 (by kernel_rfl) (.inr rfl) rfl fun a hK => ?_
  refine region_done hK [(5, .slice (some ⟨b2, 0, none⟩) l.length l.length), (9, .bool false), (4, .slice none 0 0), (0, .slice A l.length c), (1, .func (.func 61) #[] #[])] ⟨rfl, rfl, rfl, rfl, rfl, trivial⟩ fun a hK => ?_
  refine wp_seq ?_
  refine wp_seq ?_
  refine region_go (lst := [0, 1, 2]) (by kernel_rfl) ?_
  refine stepM hK 13 0 (by kernel_rfl) (.inl rfl) rfl fun a hK => ?_
  refine stepP hK 14 (.int .i64 ((l.length : Nat) : Int)) (by kernel_rfl) (by kernel_rfl) fun a hK => ?_
  refine stepP hK 15 (.int .i64 0) (by kernel_rfl) (by kernel_rfl) fun a hK => ?_
  refine region_done hK [(15, .int .i64 0), (14, .int .i64 ((l.length : Nat) : Int)), (13, .slice A l.length c), (5, .slice (some ⟨b2, 0, none⟩) l.length l.length), (9, .bool false), (4, .slice none 0 0), (0, .slice A l.length c), (1, .func (.func 61) #[] #[])] ⟨rfl, rfl, rfl, rfl, rfl, rfl, rfl, rfl, trivial⟩ fun a hK => ?_
  refine wp_block ?_
  refine wp_loopX (fun x : Nat => [(14, .int .i64 ((l.length : Nat) : Int)), (13, .slice A l.length c), (5, .slice (some ⟨b2, 0, none⟩) l.length l.length), (9, .bool false), (4, .slice none 0 0), (0, .slice A l.length c), (1, .func (.func 61) #[] #[]), (15, .int .i64 ((x : Nat) : Int))]) (fun x : Nat => [.row b2 9 ((l.take x).map Str ++ zerosL (l.length - x) [Str []])]) (fun x : Nat => x ≤ l.length) (fun x : Nat => l.length - x) 0 (hK.sub ⟨rfl, rfl, rfl, rfl, rfl, rfl, rfl, rfl, trivial⟩) hM (Nat.zero_le _) ?_
  rintro i a w hK hM hR
  replace hK : Knows a 28 [(14, .int .i64 ((l.length : Nat) : Int)), (13, .slice A l.length c), (5, .slice (some ⟨b2, 0, none⟩) l.length l.length), (9, .bool false), (4, .slice none 0 0), (0, .slice A l.length c), (1, .func (.func 61) #[] #[]), (15, .int .i64 ((i : Nat) : Int))] := hK
  replace hM : Mem w0 w [.row b2 9 ((l.take i).map Str ++ zerosL (l.length - i) [Str []])] := hM
  replace hR : i ≤ l.length := hR
  refine wp_seq ?_
  refine region_go (lst := [0]) (by kernel_rfl) ?_
  by_cases h3 : (((i : Nat) : Int) : Int) < ((l.length : Nat) : Int)
  ·refine stepP hK 16 (.bool true) (by kernel_rfl) (okBool (b := (decide ((((i : Nat) : Int) : Int) < ((l.length : Nat) : Int)))) (by kernel_rfl) (decide_eq_true h3)) fun a hK => ?_
   refine region_done hK [(16, .bool true), (14, .int .i64 ((l.length : Nat) : Int)), (13, .slice A l.length c), (5, .slice (some ⟨b2, 0, none⟩) l.length l.length), (9, .bool false), (4, .slice none 0 0), (0, .slice A l.length c), (1, .func (.func 61) #[] #[]), (15, .int .i64 ((i : Nat) : Int))] ⟨rfl, rfl, rfl, rfl, rfl, rfl, rfl, rfl, rfl, trivial⟩ fun a hK => ?_
   refine wp_seq ?_
   refine wp_cond_true (hK.get rfl) ?_
   refine wp_skip ?_
   refine wp_seq ?_
   refine wp_block ?_
   refine wp_seq ?_
   refine region_go (lst := [0, 1, 2, 3, 4]) (by kernel_rfl) ?_
   refine stepM hK 17 15 (by kernel_rfl) (.inl rfl) rfl fun a hK => ?_
   obtain ⟨t4, ht4⟩ : ∃ t, l[(i : Nat)]? = some t := ⟨_, List.getElem?_eq_getElem (by omega)⟩
   obtain ⟨at4, At4, ct4⟩ := hl _ _ ht4
   refine stepP hK 18 (.pointer (some (at4.add (i * 1)))) (by kernel_rfl) (run_ixA (k := i) (s := 1) rfl rfl At4 rfl Tryd.underlying50 (by kernel_rfl) (by omega)) fun a hK => ?_
   refine stepLoad hK 19 (Str t4) (by kernel_rfl) rfl rfl ((ct4.on hM.below)) (by kernel_rfl) fun a hK => ?_
   refine stepM hK 6 17 (by kernel_rfl) (.inr rfl) rfl fun a hK => ?_
   refine stepM hK 7 19 (by kernel_rfl) (.inr rfl) rfl fun a hK => ?_
   refine region_done hK [(7, Str t4), (6, .int .i64 ((i : Nat) : Int)), (16, .bool true), (14, .int .i64 ((l.length : Nat) : Int)), (13, .slice A l.length c), (5, .slice (some ⟨b2, 0, none⟩) l.length l.length), (9, .bool false), (4, .slice none 0 0), (0, .slice A l.length c), (1, .func (.func 61) #[] #[]), (15, .int .i64 ((i : Nat) : Int))] ⟨rfl, rfl, rfl, rfl, rfl, rfl, rfl, rfl, rfl, rfl, rfl, trivial⟩ fun a hK => ?_
   refine region_go (lst := [0, 1, 2, 3, 4, 5, 6]) (by kernel_rfl) ?_
   refine stepM hK 20 5 (by kernel_rfl) (.inl rfl) rfl fun a hK => ?_
   refine stepM hK 21 6 (by kernel_rfl) (.inl rfl) rfl fun a hK => ?_
   refine stepM hK 22 1 (by kernel_rfl) (.inl rfl) rfl fun a hK => ?_
   refine stepM hK 23 7 (by kernel_rfl) (.inl rfl) rfl fun a hK => ?_
   refine stepRet hK hM 24 #[Str t4] (Str t4) (by kernel_rfl) (run_callE en_strings_Clone rfl rfl (by kernel_rfl)) (lib_Clone t4 _ (hs _ (List.mem_of_getElem? ht4))) fun a w hK hM => ?_
   refine stepP hK 25 (.pointer (some ⟨b2, i * 1, none⟩)) (by kernel_rfl) (run_ixG (k := i) (s := 1) rfl rfl rfl Tryd.underlying50 (by kernel_rfl) (by omega)) fun a hK => ?_
   refine stepStoreAt hK hM 0 [Str t4] (((l.take (i + 1)).map Str ++ zerosL (l.length - (i + 1)) [Str []])) (by kernel_rfl) rfl rfl rfl rfl (by kernel_rfl) rfl rfl (by rw [List.length_append, List.length_map, List.length_take, zerosL_length]; simp only [List.length_cons, List.length_nil]; omega) ((put_next (A := (l.take i).map Str) (new := [Str t4]) (zs := [Str []]) (m := l.length - i) (k := i * 1) (by simp; omega) rfl (by omega)).trans (by rw [List.take_add_one, ht4]; simp [Nat.sub_sub])) fun w hM => ?_
   replace hM := hM.to ([.row b2 9 (((l.take (i + 1)).map Str ++ zerosL (l.length - (i + 1)) [Str []]))]) (by kernel_rfl)
   refine region_done hK [(7, Str t4), (6, .int .i64 ((i : Nat) : Int)), (16, .bool true), (14, .int .i64 ((l.length : Nat) : Int)), (13, .slice A l.length c), (5, .slice (some ⟨b2, 0, none⟩) l.length l.length), (9, .bool false), (4, .slice none 0 0), (0, .slice A l.length c), (1, .func (.func 61) #[] #[]), (15, .int .i64 ((i : Nat) : Int))] ⟨rfl, rfl, rfl, rfl, rfl, rfl, rfl, rfl, rfl, rfl, rfl, trivial⟩ fun a hK => ?_
   refine region_go (lst := [0, 1]) (by kernel_rfl) ?_
   refine stepP hK 26 (.int .i64 (((i + 1) : Nat) : Int)) (by kernel_rfl) (run_addN (i := i) (j := 1) rfl rfl rfl (by omega)) fun a hK => ?_
   refine stepM hK 15 26 (by kernel_rfl) (.inl rfl) rfl fun a hK => ?_
   refine region_done hK [(15, .int .i64 (((i + 1) : Nat) : Int)), (7, Str t4), (6, .int .i64 ((i : Nat) : Int)), (16, .bool true), (14, .int .i64 ((l.length : Nat) : Int)), (13, .slice A l.length c), (5, .slice (some ⟨b2, 0, none⟩) l.length l.length), (9, .bool false), (4, .slice none 0 0), (0, .slice A l.length c), (1, .func (.func 61) #[] #[])] ⟨rfl, rfl, rfl, rfl, rfl, rfl, rfl, rfl, rfl, rfl, rfl, trivial⟩ fun a hK => ?_
   have hRn : (i + 1) ≤ l.length := by omega
   have hmn : l.length - (i + 1) < l.length - i := by omega
   exact ⟨i + 1, hK.sub ⟨rfl, rfl, rfl, rfl, rfl, rfl, rfl, rfl, trivial⟩, hM, hRn, hmn⟩
  ·refine stepP hK 16 (.bool false) (by kernel_rfl) (okBool (b := (decide ((((i : Nat) : Int) : Int) < ((l.length : Nat) : Int)))) (by kernel_rfl) (decide_eq_false h3)) fun a hK => ?_
   refine region_done hK [(16, .bool false), (14, .int .i64 ((l.length : Nat) : Int)), (13, .slice A l.length c), (5, .slice (some ⟨b2, 0, none⟩) l.length l.length), (9, .bool false), (4, .slice none 0 0), (0, .slice A l.length c), (1, .func (.func 61) #[] #[]), (15, .int .i64 ((i : Nat) : Int))] ⟨rfl, rfl, rfl, rfl, rfl, rfl, rfl, rfl, rfl, trivial⟩ fun a hK => ?_
   refine wp_seq ?_
   refine wp_cond_false (hK.get rfl) ?_
   refine wp_exit (exit_then (exit_then (exit_here 0 ?_)))
   refine wp_seq ?_
   refine region_go (lst := [0, 1]) (by kernel_rfl) ?_
   refine stepM hK 27 5 (by kernel_rfl) (.inl rfl) rfl fun a hK => ?_
   refine stepM hK 4 27 (by kernel_rfl) (.inr rfl) rfl fun a hK => ?_
   refine region_done hK [(4, .slice (some ⟨b2, 0, none⟩) l.length l.length), (16, .bool false), (14, .int .i64 ((l.length : Nat) : Int)), (13, .slice A l.length c), (5, .slice (some ⟨b2, 0, none⟩) l.length l.length), (9, .bool false), (0, .slice A l.length c), (1, .func (.func 61) #[] #[]), (15, .int .i64 ((i : Nat) : Int))] ⟨rfl, rfl, rfl, rfl, rfl, rfl, rfl, rfl, rfl, trivial⟩ fun a hK => ?_
   refine wp_ret ?_
   exact ret_t hK rfl (u := (.slice (some ⟨b2, 0, none⟩) l.length l.length)) rfl (⟨.slice (some ⟨b2, 0, none⟩) l.length l.length, rfl, (hM.to [.row b2 9 (l.map Str)] (by rw [List.take_of_length_le (by omega), Nat.sub_eq_zero_of_le (by omega)]; simp [zerosL])).rowOwn (by simp) (by omega), trivial⟩)
end Go.Proofs.YtmfiiapmkidmkaaDoor
