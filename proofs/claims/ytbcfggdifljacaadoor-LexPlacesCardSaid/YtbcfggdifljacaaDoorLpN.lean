/-
  LexPlaces: lines and columns, and tokens put together, are what the document says.
-/
import Derived.Test.YtbcfggdifljacaaDoorLpL
namespace Go.Proofs.YtbcfggdifljacaaDoor
open Go Go.RowKit

/-- How long the texts of the first i are. -/
def sumT (ta : List Tk4) (i : Nat) : Nat := ((ta.take i).map (·.2.1.length)).sum
theorem sumT_succ {ta : List Tk4} {i : Nat} {t : Tk4} (h : ta[i]? = some t) : sumT ta (i + 1) = sumT ta i + t.2.1.length := by
  unfold sumT; rw [take_snoc h]; simp
theorem joinT_le (l : List (List UInt8)) : (joinT l).length ≤ (l.map List.length).sum + l.length := by
  cases l with
  | nil => exact Nat.zero_le _
  | cons x r =>
    have h : ∀ r : List (List UInt8), (r.flatMap fun y => 32 :: y).length = (r.map List.length).sum + r.length := by
      intro r
      induction r with
      | nil => rfl
      | cons y r ih => rw [List.flatMap_cons, List.length_append, ih]; simp; omega
    show (x ++ _).length ≤ _
    rw [List.length_append, h]; simp; omega
theorem joinT_sum (ta : List Tk4) : (joinT (ta.map (·.2.1))).length ≤ sumT ta ta.length + ta.length := by
  have h := joinT_le (ta.map (·.2.1))
  rw [List.map_map, List.length_map] at h
  unfold sumT
  rw [List.take_length]
  exact h
theorem en_cantileverref02_Line : Enters Tryd.prog 16 := enters_of Tryd.func16 (by kernel_rfl) rfl
set_option maxRecDepth 100000 in
set_option maxHeartbeats 4000000 in
theorem places_yes (l : List UInt8) (at_ : Int) (A : Option Addr) (n c : Nat) (ta : List Tk4) (w0 : World) (hE : ErrOk w0) (hlen : l.length ≤ 9223372036854775807) (hn : n = ta.length) (hnb : n ≤ 9223372036854775807) (ha : ∀ k t, ta[k]? = some t → ∃ a, A = some a ∧ CellsAt w0 (a.add (k * 4)) (c4 t)) : Calls Tryd.prog 5 #[Str l, .int .i64 at_, .slice A n c] w0 (Ret w0 (.bool true)) := by
  refine calls_K (args := [Str l, .int .i64 at_, .slice A n c]) (n := 74) (env := [(0, Str l), (1, .int .i64 at_), (2, .slice A n c)]) Tryd.func5 rfl rfl rfl ⟨rfl, rfl, rfl, trivial⟩ fun a w hK hM => ?_
  refine wp_seq ?_
  refine region_go (lst := [0]) (by kernel_rfl) ?_
  refine stepP hK 6 (.bool false) (by kernel_rfl) (by kernel_rfl) fun a hK => ?_
  refine region_done hK [(6, .bool false), (0, Str l), (1, .int .i64 at_), (2, .slice A n c)] ⟨rfl, rfl, rfl, rfl, trivial⟩ fun a hK => ?_
  refine wp_seq ?_
  refine wp_seq ?_
  refine region_go (lst := [0, 1]) (by kernel_rfl) ?_
  refine stepRet hK hM 13 #[] (.bool true) (by kernel_rfl) (run_callE en_cantileverlaw02_lives rfl rfl (by kernel_rfl)) (law_lives _ (hE.on hM.below)) fun a w hK hM => ?_
  refine stepP hK 14 (.bool false) (by kernel_rfl) (by kernel_rfl) fun a hK => ?_
  refine region_done hK [(14, .bool false), (6, .bool false), (0, Str l), (1, .int .i64 at_), (2, .slice A n c)] ⟨rfl, rfl, rfl, rfl, rfl, trivial⟩ fun a hK => ?_
  refine wp_cond_false (hK.get rfl) ?_
  refine wp_skip ?_
  refine wp_seq ?_
  refine region_go (lst := [0, 1, 2]) (by kernel_rfl) ?_
  refine stepM hK 15 0 (by kernel_rfl) (.inl rfl) rfl fun a hK => ?_
  refine stepP hK 16 (.int .i64 ((l.length : Nat) : Int)) (by kernel_rfl) (by kernel_rfl) fun a hK => ?_
  refine stepM hK 7 16 (by kernel_rfl) (.inr rfl) rfl fun a hK => ?_
  refine region_done hK [(7, .int .i64 ((l.length : Nat) : Int)), (14, .bool false), (6, .bool false), (0, Str l), (1, .int .i64 at_), (2, .slice A n c)] ⟨rfl, rfl, rfl, rfl, rfl, rfl, trivial⟩ fun a hK => ?_
  refine wp_seq ?_
  refine wp_seq ?_
  refine region_go (lst := [0]) (by kernel_rfl) ?_
  refine stepP hK 8 (.int .i64 0) (by kernel_rfl) (by kernel_rfl) fun a hK => ?_
  refine region_done hK [(8, .int .i64 0), (7, .int .i64 ((l.length : Nat) : Int)), (14, .bool false), (6, .bool false), (0, Str l), (1, .int .i64 at_), (2, .slice A n c)] ⟨rfl, rfl, rfl, rfl, rfl, rfl, rfl, trivial⟩ fun a hK => ?_
  refine wp_block ?_
  refine wp_loopX (fun x : Nat × Nat => [(14, .bool false), (6, .bool false), (0, Str l), (1, .int .i64 at_), (2, .slice A n c), (8, .int .i64 ((x.1 : Nat) : Int)), (7, .int .i64 ((x.2 : Nat) : Int))]) (fun x : Nat × Nat => []) (fun x : Nat × Nat => x.1 ≤ n ∧ (x.2 ≤ 3000 → x.2 = l.length + sumT ta x.1)) (fun x : Nat × Nat => n - x.1) (0, l.length) (hK.sub ⟨rfl, rfl, rfl, rfl, rfl, rfl, rfl, trivial⟩) hM ⟨Nat.zero_le _, fun _ => rfl⟩ ?_
  rintro ⟨i, m⟩ a w hK hM hR
  replace hK : Knows a 74 [(14, .bool false), (6, .bool false), (0, Str l), (1, .int .i64 at_), (2, .slice A n c), (8, .int .i64 ((i : Nat) : Int)), (7, .int .i64 ((m : Nat) : Int))] := hK
  replace hM : Mem w0 w [] := hM
  replace hR : i ≤ n ∧ (m ≤ 3000 → m = l.length + sumT ta i) := hR
  refine wp_seq ?_
  refine wp_seq ?_
  refine region_go (lst := [0, 1, 2, 3, 4, 5, 6, 7, 8, 9, 10, 11]) (by kernel_rfl) ?_
  refine stepM hK 17 8 (by kernel_rfl) (.inl rfl) rfl fun a hK => ?_
  refine stepM hK 18 2 (by kernel_rfl) (.inl rfl) rfl fun a hK => ?_
  refine stepP hK 19 (.int .i64 ((n : Nat) : Int)) (by kernel_rfl) (by kernel_rfl) fun a hK => ?_
  by_cases h1 : (((i : Nat) : Int) : Int) < ((n : Nat) : Int)
  · refine stepP hK 20 (.bool true) (by kernel_rfl) (okBool (b := (decide ((((i : Nat) : Int) : Int) < ((n : Nat) : Int)))) (by kernel_rfl) (decide_eq_true h1)) fun a hK => ?_
    refine stepM hK 21 20 (by kernel_rfl) (.inl rfl) rfl fun a hK => ?_
    refine stepM hK 22 8 (by kernel_rfl) (.inl rfl) rfl fun a hK => ?_
    by_cases h2 : (((i : Nat) : Int) : Int) ≤ 3000
    · refine stepP hK 23 (.bool true) (by kernel_rfl) (okBool (b := (decide ((((i : Nat) : Int) : Int) ≤ 3000))) (by kernel_rfl) (decide_eq_true h2)) fun a hK => ?_
      refine stepP hK 24 (.bool true) (by kernel_rfl) (by kernel_rfl) fun a hK => ?_
      refine stepM hK 25 24 (by kernel_rfl) (.inl rfl) rfl fun a hK => ?_
      refine stepM hK 26 7 (by kernel_rfl) (.inl rfl) rfl fun a hK => ?_
      by_cases h3 : (((m : Nat) : Int) : Int) ≤ 3000
      · refine stepP hK 27 (.bool true) (by kernel_rfl) (okBool (b := (decide ((((m : Nat) : Int) : Int) ≤ 3000))) (by kernel_rfl) (decide_eq_true h3)) fun a hK => ?_
        refine stepP hK 28 (.bool true) (by kernel_rfl) (by kernel_rfl) fun a hK => ?_
        refine region_done hK [(28, .bool true), (14, .bool false), (6, .bool false), (0, Str l), (1, .int .i64 at_), (2, .slice A n c), (8, .int .i64 ((i : Nat) : Int)), (7, .int .i64 ((m : Nat) : Int))] ⟨rfl, rfl, rfl, rfl, rfl, rfl, rfl, rfl, trivial⟩ fun a hK => ?_
        refine wp_cond_true (hK.get rfl) ?_
        refine wp_skip ?_
        refine wp_seq ?_
        refine wp_block ?_
        refine region_go (lst := [0, 1, 2, 3, 4, 5, 6, 7, 8, 9]) (by kernel_rfl) ?_
        refine stepM hK 31 7 (by kernel_rfl) (.inl rfl) rfl fun a hK => ?_
        refine stepM hK 32 2 (by kernel_rfl) (.inl rfl) rfl fun a hK => ?_
        refine stepM hK 33 8 (by kernel_rfl) (.inl rfl) rfl fun a hK => ?_
        obtain ⟨t4, ht4⟩ : ∃ t, ta[(i : Nat)]? = some t := ⟨_, List.getElem?_eq_getElem (by omega)⟩
        obtain ⟨at4, At4, ct4⟩ := ha _ _ ht4
        refine stepP hK 34 (.pointer (some (at4.add (i * 4)))) (by kernel_rfl) (run_ixA (k := i) (s := 4) rfl rfl At4 rfl Tryd.underlying29 (by kernel_rfl) (by omega)) fun a hK => ?_
        refine stepP hK 35 (.pointer (some ((at4.add (i * 4)).add 1))) (by kernel_rfl) (by kernel_rfl) fun a hK => ?_
        refine stepLoad hK 36 (Str t4.2.1) (by kernel_rfl) rfl rfl (((ct4.on hM.below)).addA 1 1 (by decide)) (by kernel_rfl) fun a hK => ?_
        refine stepP hK 37 (.int .i64 ((t4.2.1.length : Nat) : Int)) (by kernel_rfl) (by kernel_rfl) fun a hK => ?_
        refine stepP hK 38 (.int .i64 (((min 3001 t4.2.1.length) : Nat) : Int)) (by kernel_rfl) (okVal (run_minI rfl rfl rfl) (congrArg (Value.int .i64) (by omega))) fun a hK => ?_
        refine stepP hK 39 (.int .i64 (((m + (min 3001 t4.2.1.length)) : Nat) : Int)) (by kernel_rfl) (run_addN (i := m) (j := (min 3001 t4.2.1.length)) rfl rfl rfl (by omega)) fun a hK => ?_
        refine stepM hK 7 39 (by kernel_rfl) (.inr rfl) rfl fun a hK => ?_
        refine region_done hK [(7, .int .i64 (((m + (min 3001 t4.2.1.length)) : Nat) : Int)), (28, .bool true), (14, .bool false), (6, .bool false), (0, Str l), (1, .int .i64 at_), (2, .slice A n c), (8, .int .i64 ((i : Nat) : Int))] ⟨rfl, rfl, rfl, rfl, rfl, rfl, rfl, rfl, trivial⟩ fun a hK => ?_
        refine region_go (lst := [0, 1, 2]) (by kernel_rfl) ?_
        refine stepM hK 29 8 (by kernel_rfl) (.inl rfl) rfl fun a hK => ?_
        refine stepP hK 30 (.int .i64 (((i + 1) : Nat) : Int)) (by kernel_rfl) (run_addN (i := i) (j := 1) rfl rfl rfl (by omega)) fun a hK => ?_
        refine stepM hK 8 30 (by kernel_rfl) (.inr rfl) rfl fun a hK => ?_
        refine region_done hK [(8, .int .i64 (((i + 1) : Nat) : Int)), (7, .int .i64 (((m + (min 3001 t4.2.1.length)) : Nat) : Int)), (28, .bool true), (14, .bool false), (6, .bool false), (0, Str l), (1, .int .i64 at_), (2, .slice A n c)] ⟨rfl, rfl, rfl, rfl, rfl, rfl, rfl, rfl, trivial⟩ fun a hK => ?_
        have hRn : (i + 1) ≤ n ∧ (((m + min 3001 t4.2.1.length)) ≤ 3000 → ((m + min 3001 t4.2.1.length)) = l.length + sumT ta (i + 1)) := ⟨by omega, fun h => (by have h1 := hR.2 (by omega); have h2 := sumT_succ ht4; omega)⟩
        have hmn : n - (i + 1) < n - i := by omega
        exact ⟨(i + 1, (m + min 3001 t4.2.1.length)), hK.sub ⟨rfl, rfl, rfl, rfl, rfl, rfl, rfl, trivial⟩, hM, hRn, hmn⟩
      · refine stepP hK 27 (.bool false) (by kernel_rfl) (okBool (b := (decide ((((m : Nat) : Int) : Int) ≤ 3000))) (by kernel_rfl) (decide_eq_false h3)) fun a hK => ?_
        refine stepP hK 28 (.bool false) (by kernel_rfl) (by kernel_rfl) fun a hK => ?_
        refine region_done hK [(28, .bool false), (14, .bool false), (6, .bool false), (0, Str l), (1, .int .i64 at_), (2, .slice A n c), (8, .int .i64 ((i : Nat) : Int)), (7, .int .i64 ((m : Nat) : Int))] ⟨rfl, rfl, rfl, rfl, rfl, rfl, rfl, rfl, trivial⟩ fun a hK => ?_
        refine wp_cond_false (hK.get rfl) ?_
        refine wp_exit (exit_then (exit_then (exit_here 0 ?_)))
        refine wp_seq ?_
        refine wp_seq ?_
        refine region_go (lst := [0, 1, 2, 3, 4, 5, 6]) (by kernel_rfl) ?_
        refine stepM hK 40 7 (by kernel_rfl) (.inl rfl) rfl fun a hK => ?_
        by_cases h5 : (3000 : Int) < ((m : Nat) : Int)
        · refine stepP hK 41 (.bool true) (by kernel_rfl) (okBool (b := (decide ((3000 : Int) < ((m : Nat) : Int)))) (by kernel_rfl) (decide_eq_true h5)) fun a hK => ?_
          refine stepM hK 42 41 (by kernel_rfl) (.inl rfl) rfl fun a hK => ?_
          refine stepN hK 43 (by kernel_rfl) fun a hK => ?_
          refine stepN hK 44 (by kernel_rfl) fun a hK => ?_
          refine stepN hK 45 (by kernel_rfl) fun a hK => ?_
          refine stepP hK 46 (.bool true) (by kernel_rfl) (by kernel_rfl) fun a hK => ?_
          refine region_done hK [(46, .bool true), (28, .bool false), (14, .bool false), (6, .bool false), (0, Str l), (1, .int .i64 at_), (2, .slice A n c), (8, .int .i64 ((i : Nat) : Int)), (7, .int .i64 ((m : Nat) : Int))] ⟨rfl, rfl, rfl, rfl, rfl, rfl, rfl, rfl, rfl, trivial⟩ fun a hK => ?_
          refine wp_cond_true (hK.get rfl) ?_
          refine wp_seq ?_
          refine region_go (lst := [0]) (by kernel_rfl) ?_
          refine stepP hK 6 (.bool true) (by kernel_rfl) (by kernel_rfl) fun a hK => ?_
          refine region_done hK [(6, .bool true), (46, .bool true), (28, .bool false), (14, .bool false), (0, Str l), (1, .int .i64 at_), (2, .slice A n c), (8, .int .i64 ((i : Nat) : Int)), (7, .int .i64 ((m : Nat) : Int))] ⟨rfl, rfl, rfl, rfl, rfl, rfl, rfl, rfl, rfl, trivial⟩ fun a hK => ?_
          refine wp_ret ?_
          exact ret_t hK rfl (u := (.bool true)) rfl (⟨rfl, hM.below⟩)
        · refine stepP hK 41 (.bool false) (by kernel_rfl) (okBool (b := (decide ((3000 : Int) < ((m : Nat) : Int)))) (by kernel_rfl) (decide_eq_false h5)) fun a hK => ?_
          refine stepM hK 42 41 (by kernel_rfl) (.inl rfl) rfl fun a hK => ?_
          refine stepM hK 43 2 (by kernel_rfl) (.inl rfl) rfl fun a hK => ?_
          refine stepP hK 44 (.int .i64 ((n : Nat) : Int)) (by kernel_rfl) (by kernel_rfl) fun a hK => ?_
          by_cases h6 : (3000 : Int) < ((n : Nat) : Int)
          · refine stepP hK 45 (.bool true) (by kernel_rfl) (okBool (b := (decide ((3000 : Int) < ((n : Nat) : Int)))) (by kernel_rfl) (decide_eq_true h6)) fun a hK => ?_
            refine stepP hK 46 (.bool true) (by kernel_rfl) (by kernel_rfl) fun a hK => ?_
            refine region_done hK [(46, .bool true), (28, .bool false), (14, .bool false), (6, .bool false), (0, Str l), (1, .int .i64 at_), (2, .slice A n c), (8, .int .i64 ((i : Nat) : Int)), (7, .int .i64 ((m : Nat) : Int))] ⟨rfl, rfl, rfl, rfl, rfl, rfl, rfl, rfl, rfl, trivial⟩ fun a hK => ?_
            refine wp_cond_true (hK.get rfl) ?_
            refine wp_seq ?_
            refine region_go (lst := [0]) (by kernel_rfl) ?_
            refine stepP hK 6 (.bool true) (by kernel_rfl) (by kernel_rfl) fun a hK => ?_
            refine region_done hK [(6, .bool true), (46, .bool true), (28, .bool false), (14, .bool false), (0, Str l), (1, .int .i64 at_), (2, .slice A n c), (8, .int .i64 ((i : Nat) : Int)), (7, .int .i64 ((m : Nat) : Int))] ⟨rfl, rfl, rfl, rfl, rfl, rfl, rfl, rfl, rfl, trivial⟩ fun a hK => ?_
            refine wp_ret ?_
            exact ret_t hK rfl (u := (.bool true)) rfl (⟨rfl, hM.below⟩)
          · refine stepP hK 45 (.bool false) (by kernel_rfl) (okBool (b := (decide ((3000 : Int) < ((n : Nat) : Int)))) (by kernel_rfl) (decide_eq_false h6)) fun a hK => ?_
            refine stepP hK 46 (.bool false) (by kernel_rfl) (by kernel_rfl) fun a hK => ?_
            refine region_done hK [(46, .bool false), (28, .bool false), (14, .bool false), (6, .bool false), (0, Str l), (1, .int .i64 at_), (2, .slice A n c), (8, .int .i64 ((i : Nat) : Int)), (7, .int .i64 ((m : Nat) : Int))] ⟨rfl, rfl, rfl, rfl, rfl, rfl, rfl, rfl, rfl, trivial⟩ fun a hK => ?_
            refine wp_cond_false (hK.get rfl) ?_
            refine wp_skip ?_
            refine wp_seq ?_
            refine region_go (lst := [0, 1, 2, 3, 4, 5, 6, 7]) (by kernel_rfl) ?_
            refine stepM hK 48 0 (by kernel_rfl) (.inl rfl) rfl fun a hK => ?_
            refine stepM hK 49 1 (by kernel_rfl) (.inl rfl) rfl fun a hK => ?_
            refine stepRet hK hM 50 #[Str l, .int .i64 at_] (.tuple #[.int .i64 ((((lcAt l (atIn l at_)).1) : Nat) : Int), .int .i64 ((((lcAt l (atIn l at_)).2) : Nat) : Int)]) (by kernel_rfl) (run_callE en_lex_Line rfl rfl (by kernel_rfl)) (lex_Line l at_ (by omega) _) fun a w hK hM => ?_
            refine stepM hK 47 50 (by kernel_rfl) (.inl rfl) rfl fun a hK => ?_
            refine stepP hK 51 (.int .i64 ((((lcAt l (atIn l at_)).1) : Nat) : Int)) (by kernel_rfl) (by kernel_rfl) fun a hK => ?_
            refine stepP hK 52 (.int .i64 ((((lcAt l (atIn l at_)).2) : Nat) : Int)) (by kernel_rfl) (by kernel_rfl) fun a hK => ?_
            refine stepM hK 9 51 (by kernel_rfl) (.inr rfl) rfl fun a hK => ?_
            refine stepM hK 10 52 (by kernel_rfl) (.inr rfl) rfl fun a hK => ?_
            refine region_done hK [(10, .int .i64 ((((lcAt l (atIn l at_)).2) : Nat) : Int)), (9, .int .i64 ((((lcAt l (atIn l at_)).1) : Nat) : Int)), (46, .bool false), (28, .bool false), (14, .bool false), (6, .bool false), (0, Str l), (1, .int .i64 at_), (2, .slice A n c), (8, .int .i64 ((i : Nat) : Int)), (7, .int .i64 ((m : Nat) : Int))] ⟨rfl, rfl, rfl, rfl, rfl, rfl, rfl, rfl, rfl, rfl, rfl, trivial⟩ fun a hK => ?_
            refine wp_seq ?_
            refine region_go (lst := [0, 1, 2, 3, 4, 5, 6, 7]) (by kernel_rfl) ?_
            refine stepM hK 54 0 (by kernel_rfl) (.inl rfl) rfl fun a hK => ?_
            refine stepM hK 55 1 (by kernel_rfl) (.inl rfl) rfl fun a hK => ?_
            refine stepRet hK hM 56 #[Str l, .int .i64 at_] (.tuple #[.int .i64 ((((lcAt l (atIn l at_)).1) : Nat) : Int), .int .i64 ((((lcAt l (atIn l at_)).2) : Nat) : Int)]) (by kernel_rfl) (run_callE en_cantileverref02_Line rfl rfl (by kernel_rfl)) (ref_Line l at_ _ (by omega)) fun a w hK hM => ?_
            refine stepM hK 53 56 (by kernel_rfl) (.inl rfl) rfl fun a hK => ?_
            refine stepP hK 57 (.int .i64 ((((lcAt l (atIn l at_)).1) : Nat) : Int)) (by kernel_rfl) (by kernel_rfl) fun a hK => ?_
            refine stepP hK 58 (.int .i64 ((((lcAt l (atIn l at_)).2) : Nat) : Int)) (by kernel_rfl) (by kernel_rfl) fun a hK => ?_
            refine stepM hK 11 57 (by kernel_rfl) (.inr rfl) rfl fun a hK => ?_
            refine stepM hK 12 58 (by kernel_rfl) (.inr rfl) rfl fun a hK => ?_
            refine region_done hK [(12, .int .i64 ((((lcAt l (atIn l at_)).2) : Nat) : Int)), (11, .int .i64 ((((lcAt l (atIn l at_)).1) : Nat) : Int)), (10, .int .i64 ((((lcAt l (atIn l at_)).2) : Nat) : Int)), (9, .int .i64 ((((lcAt l (atIn l at_)).1) : Nat) : Int)), (46, .bool false), (28, .bool false), (14, .bool false), (6, .bool false), (0, Str l), (1, .int .i64 at_), (2, .slice A n c), (8, .int .i64 ((i : Nat) : Int)), (7, .int .i64 ((m : Nat) : Int))] ⟨rfl, rfl, rfl, rfl, rfl, rfl, rfl, rfl, rfl, rfl, rfl, rfl, rfl, trivial⟩ fun a hK => ?_
            refine wp_seq ?_
            refine region_go (lst := [0, 1, 2, 3, 4, 5, 6, 7, 8, 9, 10, 11, 12, 13, 14, 15]) (by kernel_rfl) ?_
            refine stepM hK 59 9 (by kernel_rfl) (.inl rfl) rfl fun a hK => ?_
            refine stepM hK 60 11 (by kernel_rfl) (.inl rfl) rfl fun a hK => ?_
            refine stepP hK 61 (.bool true) (by kernel_rfl) (okBool (b := (decide ((((((lcAt l (atIn l at_)).1) : Nat) : Int) : Int) = ((((lcAt l (atIn l at_)).1) : Nat) : Int)))) (by kernel_rfl) (decide_eq_true rfl)) fun a hK => ?_
            refine stepM hK 62 61 (by kernel_rfl) (.inl rfl) rfl fun a hK => ?_
            refine stepM hK 63 10 (by kernel_rfl) (.inl rfl) rfl fun a hK => ?_
            refine stepM hK 64 12 (by kernel_rfl) (.inl rfl) rfl fun a hK => ?_
            refine stepP hK 65 (.bool true) (by kernel_rfl) (okBool (b := (decide ((((((lcAt l (atIn l at_)).2) : Nat) : Int) : Int) = ((((lcAt l (atIn l at_)).2) : Nat) : Int)))) (by kernel_rfl) (decide_eq_true rfl)) fun a hK => ?_
            refine stepP hK 66 (.bool true) (by kernel_rfl) (by kernel_rfl) fun a hK => ?_
            refine stepM hK 67 66 (by kernel_rfl) (.inl rfl) rfl fun a hK => ?_
            refine stepM hK 68 2 (by kernel_rfl) (.inl rfl) rfl fun a hK => ?_
            refine stepRet hK hM 69 #[.slice A n c] (Str (joinT (ta.map (·.2.1)))) (by kernel_rfl) (run_callE en_lex_Join rfl rfl (by kernel_rfl)) (lex_Join_ A n c ta _ hn (by omega) (by have h1 := joinT_sum ta; have h2 : sumT ta i = sumT ta ta.length := (by rw [show i = ta.length by omega]); have h3 := hR.2 (by omega); omega) (fun k t h => (by obtain ⟨x, h1, h2⟩ := ha k t h; exact ⟨x, h1, h2.on hM.below⟩))) fun a w hK hM => ?_
            refine stepM hK 70 2 (by kernel_rfl) (.inl rfl) rfl fun a hK => ?_
            refine stepRet hK hM 71 #[.slice A n c] (Str (joinT (ta.map (·.2.1)))) (by kernel_rfl) (run_callE en_cantileverref02_Join rfl rfl (by kernel_rfl)) (ref_Join_ A n c ta _ hn (by omega) (by have h1 := joinT_sum ta; have h2 : sumT ta i = sumT ta ta.length := (by rw [show i = ta.length by omega]); have h3 := hR.2 (by omega); omega) (fun k t h => (by obtain ⟨x, h1, h2⟩ := ha k t h; exact ⟨x, h1, h2.on hM.below⟩))) fun a w hK hM => ?_
            refine stepP hK 72 (.bool true) (by kernel_rfl) (okBool (b := (decide ((joinT (ta.map (·.2.1))) = (joinT (ta.map (·.2.1)))))) (run_eqS rfl rfl rfl) (decide_eq_true rfl)) fun a hK => ?_
            refine stepP hK 73 (.bool true) (by kernel_rfl) (by kernel_rfl) fun a hK => ?_
            refine stepM hK 6 73 (by kernel_rfl) (.inr rfl) rfl fun a hK => ?_
            refine region_done hK [(6, .bool true), (12, .int .i64 ((((lcAt l (atIn l at_)).2) : Nat) : Int)), (11, .int .i64 ((((lcAt l (atIn l at_)).1) : Nat) : Int)), (10, .int .i64 ((((lcAt l (atIn l at_)).2) : Nat) : Int)), (9, .int .i64 ((((lcAt l (atIn l at_)).1) : Nat) : Int)), (46, .bool false), (28, .bool false), (14, .bool false), (0, Str l), (1, .int .i64 at_), (2, .slice A n c), (8, .int .i64 ((i : Nat) : Int)), (7, .int .i64 ((m : Nat) : Int))] ⟨rfl, rfl, rfl, rfl, rfl, rfl, rfl, rfl, rfl, rfl, rfl, rfl, rfl, trivial⟩ fun a hK => ?_
            refine wp_ret ?_
            exact ret_t hK rfl (u := (.bool true)) rfl (⟨rfl, hM.below⟩)
    · refine stepP hK 23 (.bool false) (by kernel_rfl) (okBool (b := (decide ((((i : Nat) : Int) : Int) ≤ 3000))) (by kernel_rfl) (decide_eq_false h2)) fun a hK => ?_
      refine stepP hK 24 (.bool false) (by kernel_rfl) (by kernel_rfl) fun a hK => ?_
      refine stepM hK 25 24 (by kernel_rfl) (.inl rfl) rfl fun a hK => ?_
      refine stepN hK 26 (by kernel_rfl) fun a hK => ?_
      refine stepN hK 27 (by kernel_rfl) fun a hK => ?_
      refine stepP hK 28 (.bool false) (by kernel_rfl) (by kernel_rfl) fun a hK => ?_
      refine region_done hK [(28, .bool false), (14, .bool false), (6, .bool false), (0, Str l), (1, .int .i64 at_), (2, .slice A n c), (8, .int .i64 ((i : Nat) : Int)), (7, .int .i64 ((m : Nat) : Int))] ⟨rfl, rfl, rfl, rfl, rfl, rfl, rfl, rfl, trivial⟩ fun a hK => ?_
      refine wp_cond_false (hK.get rfl) ?_
      refine wp_exit (exit_then (exit_then (exit_here 0 ?_)))
      refine wp_seq ?_
      refine wp_seq ?_
      refine region_go (lst := [0, 1, 2, 3, 4, 5, 6]) (by kernel_rfl) ?_
      refine stepM hK 40 7 (by kernel_rfl) (.inl rfl) rfl fun a hK => ?_
      by_cases h7 : (3000 : Int) < ((m : Nat) : Int)
      · refine stepP hK 41 (.bool true) (by kernel_rfl) (okBool (b := (decide ((3000 : Int) < ((m : Nat) : Int)))) (by kernel_rfl) (decide_eq_true h7)) fun a hK => ?_
        refine stepM hK 42 41 (by kernel_rfl) (.inl rfl) rfl fun a hK => ?_
        refine stepN hK 43 (by kernel_rfl) fun a hK => ?_
        refine stepN hK 44 (by kernel_rfl) fun a hK => ?_
        refine stepN hK 45 (by kernel_rfl) fun a hK => ?_
        refine stepP hK 46 (.bool true) (by kernel_rfl) (by kernel_rfl) fun a hK => ?_
        refine region_done hK [(46, .bool true), (28, .bool false), (14, .bool false), (6, .bool false), (0, Str l), (1, .int .i64 at_), (2, .slice A n c), (8, .int .i64 ((i : Nat) : Int)), (7, .int .i64 ((m : Nat) : Int))] ⟨rfl, rfl, rfl, rfl, rfl, rfl, rfl, rfl, rfl, trivial⟩ fun a hK => ?_
        refine wp_cond_true (hK.get rfl) ?_
        refine wp_seq ?_
        refine region_go (lst := [0]) (by kernel_rfl) ?_
        refine stepP hK 6 (.bool true) (by kernel_rfl) (by kernel_rfl) fun a hK => ?_
        refine region_done hK [(6, .bool true), (46, .bool true), (28, .bool false), (14, .bool false), (0, Str l), (1, .int .i64 at_), (2, .slice A n c), (8, .int .i64 ((i : Nat) : Int)), (7, .int .i64 ((m : Nat) : Int))] ⟨rfl, rfl, rfl, rfl, rfl, rfl, rfl, rfl, rfl, trivial⟩ fun a hK => ?_
        refine wp_ret ?_
        exact ret_t hK rfl (u := (.bool true)) rfl (⟨rfl, hM.below⟩)
      · refine stepP hK 41 (.bool false) (by kernel_rfl) (okBool (b := (decide ((3000 : Int) < ((m : Nat) : Int)))) (by kernel_rfl) (decide_eq_false h7)) fun a hK => ?_
        refine stepM hK 42 41 (by kernel_rfl) (.inl rfl) rfl fun a hK => ?_
        refine stepM hK 43 2 (by kernel_rfl) (.inl rfl) rfl fun a hK => ?_
        refine stepP hK 44 (.int .i64 ((n : Nat) : Int)) (by kernel_rfl) (by kernel_rfl) fun a hK => ?_
        by_cases h8 : (3000 : Int) < ((n : Nat) : Int)
        · refine stepP hK 45 (.bool true) (by kernel_rfl) (okBool (b := (decide ((3000 : Int) < ((n : Nat) : Int)))) (by kernel_rfl) (decide_eq_true h8)) fun a hK => ?_
          refine stepP hK 46 (.bool true) (by kernel_rfl) (by kernel_rfl) fun a hK => ?_
          refine region_done hK [(46, .bool true), (28, .bool false), (14, .bool false), (6, .bool false), (0, Str l), (1, .int .i64 at_), (2, .slice A n c), (8, .int .i64 ((i : Nat) : Int)), (7, .int .i64 ((m : Nat) : Int))] ⟨rfl, rfl, rfl, rfl, rfl, rfl, rfl, rfl, rfl, trivial⟩ fun a hK => ?_
          refine wp_cond_true (hK.get rfl) ?_
          refine wp_seq ?_
          refine region_go (lst := [0]) (by kernel_rfl) ?_
          refine stepP hK 6 (.bool true) (by kernel_rfl) (by kernel_rfl) fun a hK => ?_
          refine region_done hK [(6, .bool true), (46, .bool true), (28, .bool false), (14, .bool false), (0, Str l), (1, .int .i64 at_), (2, .slice A n c), (8, .int .i64 ((i : Nat) : Int)), (7, .int .i64 ((m : Nat) : Int))] ⟨rfl, rfl, rfl, rfl, rfl, rfl, rfl, rfl, rfl, trivial⟩ fun a hK => ?_
          refine wp_ret ?_
          exact ret_t hK rfl (u := (.bool true)) rfl (⟨rfl, hM.below⟩)
        · refine stepP hK 45 (.bool false) (by kernel_rfl) (okBool (b := (decide ((3000 : Int) < ((n : Nat) : Int)))) (by kernel_rfl) (decide_eq_false h8)) fun a hK => ?_
          refine stepP hK 46 (.bool false) (by kernel_rfl) (by kernel_rfl) fun a hK => ?_
          refine region_done hK [(46, .bool false), (28, .bool false), (14, .bool false), (6, .bool false), (0, Str l), (1, .int .i64 at_), (2, .slice A n c), (8, .int .i64 ((i : Nat) : Int)), (7, .int .i64 ((m : Nat) : Int))] ⟨rfl, rfl, rfl, rfl, rfl, rfl, rfl, rfl, rfl, trivial⟩ fun a hK => ?_
          refine wp_cond_false (hK.get rfl) ?_
          refine wp_skip ?_
          refine wp_seq ?_
          refine region_go (lst := [0, 1, 2, 3, 4, 5, 6, 7]) (by kernel_rfl) ?_
          refine stepM hK 48 0 (by kernel_rfl) (.inl rfl) rfl fun a hK => ?_
          refine stepM hK 49 1 (by kernel_rfl) (.inl rfl) rfl fun a hK => ?_
          refine stepRet hK hM 50 #[Str l, .int .i64 at_] (.tuple #[.int .i64 ((((lcAt l (atIn l at_)).1) : Nat) : Int), .int .i64 ((((lcAt l (atIn l at_)).2) : Nat) : Int)]) (by kernel_rfl) (run_callE en_lex_Line rfl rfl (by kernel_rfl)) (lex_Line l at_ (by omega) _) fun a w hK hM => ?_
          refine stepM hK 47 50 (by kernel_rfl) (.inl rfl) rfl fun a hK => ?_
          refine stepP hK 51 (.int .i64 ((((lcAt l (atIn l at_)).1) : Nat) : Int)) (by kernel_rfl) (by kernel_rfl) fun a hK => ?_
          refine stepP hK 52 (.int .i64 ((((lcAt l (atIn l at_)).2) : Nat) : Int)) (by kernel_rfl) (by kernel_rfl) fun a hK => ?_
          refine stepM hK 9 51 (by kernel_rfl) (.inr rfl) rfl fun a hK => ?_
          refine stepM hK 10 52 (by kernel_rfl) (.inr rfl) rfl fun a hK => ?_
          refine region_done hK [(10, .int .i64 ((((lcAt l (atIn l at_)).2) : Nat) : Int)), (9, .int .i64 ((((lcAt l (atIn l at_)).1) : Nat) : Int)), (46, .bool false), (28, .bool false), (14, .bool false), (6, .bool false), (0, Str l), (1, .int .i64 at_), (2, .slice A n c), (8, .int .i64 ((i : Nat) : Int)), (7, .int .i64 ((m : Nat) : Int))] ⟨rfl, rfl, rfl, rfl, rfl, rfl, rfl, rfl, rfl, rfl, rfl, trivial⟩ fun a hK => ?_
          refine wp_seq ?_
          refine region_go (lst := [0, 1, 2, 3, 4, 5, 6, 7]) (by kernel_rfl) ?_
          refine stepM hK 54 0 (by kernel_rfl) (.inl rfl) rfl fun a hK => ?_
          refine stepM hK 55 1 (by kernel_rfl) (.inl rfl) rfl fun a hK => ?_
          refine stepRet hK hM 56 #[Str l, .int .i64 at_] (.tuple #[.int .i64 ((((lcAt l (atIn l at_)).1) : Nat) : Int), .int .i64 ((((lcAt l (atIn l at_)).2) : Nat) : Int)]) (by kernel_rfl) (run_callE en_cantileverref02_Line rfl rfl (by kernel_rfl)) (ref_Line l at_ _ (by omega)) fun a w hK hM => ?_
          refine stepM hK 53 56 (by kernel_rfl) (.inl rfl) rfl fun a hK => ?_
          refine stepP hK 57 (.int .i64 ((((lcAt l (atIn l at_)).1) : Nat) : Int)) (by kernel_rfl) (by kernel_rfl) fun a hK => ?_
          refine stepP hK 58 (.int .i64 ((((lcAt l (atIn l at_)).2) : Nat) : Int)) (by kernel_rfl) (by kernel_rfl) fun a hK => ?_
          refine stepM hK 11 57 (by kernel_rfl) (.inr rfl) rfl fun a hK => ?_
          refine stepM hK 12 58 (by kernel_rfl) (.inr rfl) rfl fun a hK => ?_
          refine region_done hK [(12, .int .i64 ((((lcAt l (atIn l at_)).2) : Nat) : Int)), (11, .int .i64 ((((lcAt l (atIn l at_)).1) : Nat) : Int)), (10, .int .i64 ((((lcAt l (atIn l at_)).2) : Nat) : Int)), (9, .int .i64 ((((lcAt l (atIn l at_)).1) : Nat) : Int)), (46, .bool false), (28, .bool false), (14, .bool false), (6, .bool false), (0, Str l), (1, .int .i64 at_), (2, .slice A n c), (8, .int .i64 ((i : Nat) : Int)), (7, .int .i64 ((m : Nat) : Int))] ⟨rfl, rfl, rfl, rfl, rfl, rfl, rfl, rfl, rfl, rfl, rfl, rfl, rfl, trivial⟩ fun a hK => ?_
          refine wp_seq ?_
          refine region_go (lst := [0, 1, 2, 3, 4, 5, 6, 7, 8, 9, 10, 11, 12, 13, 14, 15]) (by kernel_rfl) ?_
          refine stepM hK 59 9 (by kernel_rfl) (.inl rfl) rfl fun a hK => ?_
          refine stepM hK 60 11 (by kernel_rfl) (.inl rfl) rfl fun a hK => ?_
          refine stepP hK 61 (.bool true) (by kernel_rfl) (okBool (b := (decide ((((((lcAt l (atIn l at_)).1) : Nat) : Int) : Int) = ((((lcAt l (atIn l at_)).1) : Nat) : Int)))) (by kernel_rfl) (decide_eq_true rfl)) fun a hK => ?_
          refine stepM hK 62 61 (by kernel_rfl) (.inl rfl) rfl fun a hK => ?_
          refine stepM hK 63 10 (by kernel_rfl) (.inl rfl) rfl fun a hK => ?_
          refine stepM hK 64 12 (by kernel_rfl) (.inl rfl) rfl fun a hK => ?_
          refine stepP hK 65 (.bool true) (by kernel_rfl) (okBool (b := (decide ((((((lcAt l (atIn l at_)).2) : Nat) : Int) : Int) = ((((lcAt l (atIn l at_)).2) : Nat) : Int)))) (by kernel_rfl) (decide_eq_true rfl)) fun a hK => ?_
          refine stepP hK 66 (.bool true) (by kernel_rfl) (by kernel_rfl) fun a hK => ?_
          refine stepM hK 67 66 (by kernel_rfl) (.inl rfl) rfl fun a hK => ?_
          refine stepM hK 68 2 (by kernel_rfl) (.inl rfl) rfl fun a hK => ?_
          refine stepRet hK hM 69 #[.slice A n c] (Str (joinT (ta.map (·.2.1)))) (by kernel_rfl) (run_callE en_lex_Join rfl rfl (by kernel_rfl)) (lex_Join_ A n c ta _ hn (by omega) (by have h1 := joinT_sum ta; have h2 : sumT ta i = sumT ta ta.length := (by rw [show i = ta.length by omega]); have h3 := hR.2 (by omega); omega) (fun k t h => (by obtain ⟨x, h1, h2⟩ := ha k t h; exact ⟨x, h1, h2.on hM.below⟩))) fun a w hK hM => ?_
          refine stepM hK 70 2 (by kernel_rfl) (.inl rfl) rfl fun a hK => ?_
          refine stepRet hK hM 71 #[.slice A n c] (Str (joinT (ta.map (·.2.1)))) (by kernel_rfl) (run_callE en_cantileverref02_Join rfl rfl (by kernel_rfl)) (ref_Join_ A n c ta _ hn (by omega) (by have h1 := joinT_sum ta; have h2 : sumT ta i = sumT ta ta.length := (by rw [show i = ta.length by omega]); have h3 := hR.2 (by omega); omega) (fun k t h => (by obtain ⟨x, h1, h2⟩ := ha k t h; exact ⟨x, h1, h2.on hM.below⟩))) fun a w hK hM => ?_
          refine stepP hK 72 (.bool true) (by kernel_rfl) (okBool (b := (decide ((joinT (ta.map (·.2.1))) = (joinT (ta.map (·.2.1)))))) (run_eqS rfl rfl rfl) (decide_eq_true rfl)) fun a hK => ?_
          refine stepP hK 73 (.bool true) (by kernel_rfl) (by kernel_rfl) fun a hK => ?_
          refine stepM hK 6 73 (by kernel_rfl) (.inr rfl) rfl fun a hK => ?_
          refine region_done hK [(6, .bool true), (12, .int .i64 ((((lcAt l (atIn l at_)).2) : Nat) : Int)), (11, .int .i64 ((((lcAt l (atIn l at_)).1) : Nat) : Int)), (10, .int .i64 ((((lcAt l (atIn l at_)).2) : Nat) : Int)), (9, .int .i64 ((((lcAt l (atIn l at_)).1) : Nat) : Int)), (46, .bool false), (28, .bool false), (14, .bool false), (0, Str l), (1, .int .i64 at_), (2, .slice A n c), (8, .int .i64 ((i : Nat) : Int)), (7, .int .i64 ((m : Nat) : Int))] ⟨rfl, rfl, rfl, rfl, rfl, rfl, rfl, rfl, rfl, rfl, rfl, rfl, rfl, trivial⟩ fun a hK => ?_
          refine wp_ret ?_
          exact ret_t hK rfl (u := (.bool true)) rfl (⟨rfl, hM.below⟩)
  · refine stepP hK 20 (.bool false) (by kernel_rfl) (okBool (b := (decide ((((i : Nat) : Int) : Int) < ((n : Nat) : Int)))) (by kernel_rfl) (decide_eq_false h1)) fun a hK => ?_
    refine stepM hK 21 20 (by kernel_rfl) (.inl rfl) rfl fun a hK => ?_
    refine stepN hK 22 (by kernel_rfl) fun a hK => ?_
    refine stepN hK 23 (by kernel_rfl) fun a hK => ?_
    refine stepP hK 24 (.bool false) (by kernel_rfl) (by kernel_rfl) fun a hK => ?_
    refine stepM hK 25 24 (by kernel_rfl) (.inl rfl) rfl fun a hK => ?_
    refine stepN hK 26 (by kernel_rfl) fun a hK => ?_
    refine stepN hK 27 (by kernel_rfl) fun a hK => ?_
    refine stepP hK 28 (.bool false) (by kernel_rfl) (by kernel_rfl) fun a hK => ?_
    refine region_done hK [(28, .bool false), (14, .bool false), (6, .bool false), (0, Str l), (1, .int .i64 at_), (2, .slice A n c), (8, .int .i64 ((i : Nat) : Int)), (7, .int .i64 ((m : Nat) : Int))] ⟨rfl, rfl, rfl, rfl, rfl, rfl, rfl, rfl, trivial⟩ fun a hK => ?_
    refine wp_cond_false (hK.get rfl) ?_
    refine wp_exit (exit_then (exit_then (exit_here 0 ?_)))
    refine wp_seq ?_
    refine wp_seq ?_
    refine region_go (lst := [0, 1, 2, 3, 4, 5, 6]) (by kernel_rfl) ?_
    refine stepM hK 40 7 (by kernel_rfl) (.inl rfl) rfl fun a hK => ?_
    by_cases h9 : (3000 : Int) < ((m : Nat) : Int)
    · refine stepP hK 41 (.bool true) (by kernel_rfl) (okBool (b := (decide ((3000 : Int) < ((m : Nat) : Int)))) (by kernel_rfl) (decide_eq_true h9)) fun a hK => ?_
      refine stepM hK 42 41 (by kernel_rfl) (.inl rfl) rfl fun a hK => ?_
      refine stepN hK 43 (by kernel_rfl) fun a hK => ?_
      refine stepN hK 44 (by kernel_rfl) fun a hK => ?_
      refine stepN hK 45 (by kernel_rfl) fun a hK => ?_
      refine stepP hK 46 (.bool true) (by kernel_rfl) (by kernel_rfl) fun a hK => ?_
      refine region_done hK [(46, .bool true), (28, .bool false), (14, .bool false), (6, .bool false), (0, Str l), (1, .int .i64 at_), (2, .slice A n c), (8, .int .i64 ((i : Nat) : Int)), (7, .int .i64 ((m : Nat) : Int))] ⟨rfl, rfl, rfl, rfl, rfl, rfl, rfl, rfl, rfl, trivial⟩ fun a hK => ?_
      refine wp_cond_true (hK.get rfl) ?_
      refine wp_seq ?_
      refine region_go (lst := [0]) (by kernel_rfl) ?_
      refine stepP hK 6 (.bool true) (by kernel_rfl) (by kernel_rfl) fun a hK => ?_
      refine region_done hK [(6, .bool true), (46, .bool true), (28, .bool false), (14, .bool false), (0, Str l), (1, .int .i64 at_), (2, .slice A n c), (8, .int .i64 ((i : Nat) : Int)), (7, .int .i64 ((m : Nat) : Int))] ⟨rfl, rfl, rfl, rfl, rfl, rfl, rfl, rfl, rfl, trivial⟩ fun a hK => ?_
      refine wp_ret ?_
      exact ret_t hK rfl (u := (.bool true)) rfl (⟨rfl, hM.below⟩)
    · refine stepP hK 41 (.bool false) (by kernel_rfl) (okBool (b := (decide ((3000 : Int) < ((m : Nat) : Int)))) (by kernel_rfl) (decide_eq_false h9)) fun a hK => ?_
      refine stepM hK 42 41 (by kernel_rfl) (.inl rfl) rfl fun a hK => ?_
      refine stepM hK 43 2 (by kernel_rfl) (.inl rfl) rfl fun a hK => ?_
      refine stepP hK 44 (.int .i64 ((n : Nat) : Int)) (by kernel_rfl) (by kernel_rfl) fun a hK => ?_
      by_cases h10 : (3000 : Int) < ((n : Nat) : Int)
      · refine stepP hK 45 (.bool true) (by kernel_rfl) (okBool (b := (decide ((3000 : Int) < ((n : Nat) : Int)))) (by kernel_rfl) (decide_eq_true h10)) fun a hK => ?_
        refine stepP hK 46 (.bool true) (by kernel_rfl) (by kernel_rfl) fun a hK => ?_
        refine region_done hK [(46, .bool true), (28, .bool false), (14, .bool false), (6, .bool false), (0, Str l), (1, .int .i64 at_), (2, .slice A n c), (8, .int .i64 ((i : Nat) : Int)), (7, .int .i64 ((m : Nat) : Int))] ⟨rfl, rfl, rfl, rfl, rfl, rfl, rfl, rfl, rfl, trivial⟩ fun a hK => ?_
        refine wp_cond_true (hK.get rfl) ?_
        refine wp_seq ?_
        refine region_go (lst := [0]) (by kernel_rfl) ?_
        refine stepP hK 6 (.bool true) (by kernel_rfl) (by kernel_rfl) fun a hK => ?_
        refine region_done hK [(6, .bool true), (46, .bool true), (28, .bool false), (14, .bool false), (0, Str l), (1, .int .i64 at_), (2, .slice A n c), (8, .int .i64 ((i : Nat) : Int)), (7, .int .i64 ((m : Nat) : Int))] ⟨rfl, rfl, rfl, rfl, rfl, rfl, rfl, rfl, rfl, trivial⟩ fun a hK => ?_
        refine wp_ret ?_
        exact ret_t hK rfl (u := (.bool true)) rfl (⟨rfl, hM.below⟩)
      · refine stepP hK 45 (.bool false) (by kernel_rfl) (okBool (b := (decide ((3000 : Int) < ((n : Nat) : Int)))) (by kernel_rfl) (decide_eq_false h10)) fun a hK => ?_
        refine stepP hK 46 (.bool false) (by kernel_rfl) (by kernel_rfl) fun a hK => ?_
        refine region_done hK [(46, .bool false), (28, .bool false), (14, .bool false), (6, .bool false), (0, Str l), (1, .int .i64 at_), (2, .slice A n c), (8, .int .i64 ((i : Nat) : Int)), (7, .int .i64 ((m : Nat) : Int))] ⟨rfl, rfl, rfl, rfl, rfl, rfl, rfl, rfl, rfl, trivial⟩ fun a hK => ?_
        refine wp_cond_false (hK.get rfl) ?_
        refine wp_skip ?_
        refine wp_seq ?_
        refine region_go (lst := [0, 1, 2, 3, 4, 5, 6, 7]) (by kernel_rfl) ?_
        refine stepM hK 48 0 (by kernel_rfl) (.inl rfl) rfl fun a hK => ?_
        refine stepM hK 49 1 (by kernel_rfl) (.inl rfl) rfl fun a hK => ?_
        refine stepRet hK hM 50 #[Str l, .int .i64 at_] (.tuple #[.int .i64 ((((lcAt l (atIn l at_)).1) : Nat) : Int), .int .i64 ((((lcAt l (atIn l at_)).2) : Nat) : Int)]) (by kernel_rfl) (run_callE en_lex_Line rfl rfl (by kernel_rfl)) (lex_Line l at_ (by omega) _) fun a w hK hM => ?_
        refine stepM hK 47 50 (by kernel_rfl) (.inl rfl) rfl fun a hK => ?_
        refine stepP hK 51 (.int .i64 ((((lcAt l (atIn l at_)).1) : Nat) : Int)) (by kernel_rfl) (by kernel_rfl) fun a hK => ?_
        refine stepP hK 52 (.int .i64 ((((lcAt l (atIn l at_)).2) : Nat) : Int)) (by kernel_rfl) (by kernel_rfl) fun a hK => ?_
        refine stepM hK 9 51 (by kernel_rfl) (.inr rfl) rfl fun a hK => ?_
        refine stepM hK 10 52 (by kernel_rfl) (.inr rfl) rfl fun a hK => ?_
        refine region_done hK [(10, .int .i64 ((((lcAt l (atIn l at_)).2) : Nat) : Int)), (9, .int .i64 ((((lcAt l (atIn l at_)).1) : Nat) : Int)), (46, .bool false), (28, .bool false), (14, .bool false), (6, .bool false), (0, Str l), (1, .int .i64 at_), (2, .slice A n c), (8, .int .i64 ((i : Nat) : Int)), (7, .int .i64 ((m : Nat) : Int))] ⟨rfl, rfl, rfl, rfl, rfl, rfl, rfl, rfl, rfl, rfl, rfl, trivial⟩ fun a hK => ?_
        refine wp_seq ?_
        refine region_go (lst := [0, 1, 2, 3, 4, 5, 6, 7]) (by kernel_rfl) ?_
        refine stepM hK 54 0 (by kernel_rfl) (.inl rfl) rfl fun a hK => ?_
        refine stepM hK 55 1 (by kernel_rfl) (.inl rfl) rfl fun a hK => ?_
        refine stepRet hK hM 56 #[Str l, .int .i64 at_] (.tuple #[.int .i64 ((((lcAt l (atIn l at_)).1) : Nat) : Int), .int .i64 ((((lcAt l (atIn l at_)).2) : Nat) : Int)]) (by kernel_rfl) (run_callE en_cantileverref02_Line rfl rfl (by kernel_rfl)) (ref_Line l at_ _ (by omega)) fun a w hK hM => ?_
        refine stepM hK 53 56 (by kernel_rfl) (.inl rfl) rfl fun a hK => ?_
        refine stepP hK 57 (.int .i64 ((((lcAt l (atIn l at_)).1) : Nat) : Int)) (by kernel_rfl) (by kernel_rfl) fun a hK => ?_
        refine stepP hK 58 (.int .i64 ((((lcAt l (atIn l at_)).2) : Nat) : Int)) (by kernel_rfl) (by kernel_rfl) fun a hK => ?_
        refine stepM hK 11 57 (by kernel_rfl) (.inr rfl) rfl fun a hK => ?_
        refine stepM hK 12 58 (by kernel_rfl) (.inr rfl) rfl fun a hK => ?_
        refine region_done hK [(12, .int .i64 ((((lcAt l (atIn l at_)).2) : Nat) : Int)), (11, .int .i64 ((((lcAt l (atIn l at_)).1) : Nat) : Int)), (10, .int .i64 ((((lcAt l (atIn l at_)).2) : Nat) : Int)), (9, .int .i64 ((((lcAt l (atIn l at_)).1) : Nat) : Int)), (46, .bool false), (28, .bool false), (14, .bool false), (6, .bool false), (0, Str l), (1, .int .i64 at_), (2, .slice A n c), (8, .int .i64 ((i : Nat) : Int)), (7, .int .i64 ((m : Nat) : Int))] ⟨rfl, rfl, rfl, rfl, rfl, rfl, rfl, rfl, rfl, rfl, rfl, rfl, rfl, trivial⟩ fun a hK => ?_
        refine wp_seq ?_
        refine region_go (lst := [0, 1, 2, 3, 4, 5, 6, 7, 8, 9, 10, 11, 12, 13, 14, 15]) (by kernel_rfl) ?_
        refine stepM hK 59 9 (by kernel_rfl) (.inl rfl) rfl fun a hK => ?_
        refine stepM hK 60 11 (by kernel_rfl) (.inl rfl) rfl fun a hK => ?_
        refine stepP hK 61 (.bool true) (by kernel_rfl) (okBool (b := (decide ((((((lcAt l (atIn l at_)).1) : Nat) : Int) : Int) = ((((lcAt l (atIn l at_)).1) : Nat) : Int)))) (by kernel_rfl) (decide_eq_true rfl)) fun a hK => ?_
        refine stepM hK 62 61 (by kernel_rfl) (.inl rfl) rfl fun a hK => ?_
        refine stepM hK 63 10 (by kernel_rfl) (.inl rfl) rfl fun a hK => ?_
        refine stepM hK 64 12 (by kernel_rfl) (.inl rfl) rfl fun a hK => ?_
        refine stepP hK 65 (.bool true) (by kernel_rfl) (okBool (b := (decide ((((((lcAt l (atIn l at_)).2) : Nat) : Int) : Int) = ((((lcAt l (atIn l at_)).2) : Nat) : Int)))) (by kernel_rfl) (decide_eq_true rfl)) fun a hK => ?_
        refine stepP hK 66 (.bool true) (by kernel_rfl) (by kernel_rfl) fun a hK => ?_
        refine stepM hK 67 66 (by kernel_rfl) (.inl rfl) rfl fun a hK => ?_
        refine stepM hK 68 2 (by kernel_rfl) (.inl rfl) rfl fun a hK => ?_
        refine stepRet hK hM 69 #[.slice A n c] (Str (joinT (ta.map (·.2.1)))) (by kernel_rfl) (run_callE en_lex_Join rfl rfl (by kernel_rfl)) (lex_Join_ A n c ta _ hn (by omega) (by have h1 := joinT_sum ta; have h2 : sumT ta i = sumT ta ta.length := (by rw [show i = ta.length by omega]); have h3 := hR.2 (by omega); omega) (fun k t h => (by obtain ⟨x, h1, h2⟩ := ha k t h; exact ⟨x, h1, h2.on hM.below⟩))) fun a w hK hM => ?_
        refine stepM hK 70 2 (by kernel_rfl) (.inl rfl) rfl fun a hK => ?_
        refine stepRet hK hM 71 #[.slice A n c] (Str (joinT (ta.map (·.2.1)))) (by kernel_rfl) (run_callE en_cantileverref02_Join rfl rfl (by kernel_rfl)) (ref_Join_ A n c ta _ hn (by omega) (by have h1 := joinT_sum ta; have h2 : sumT ta i = sumT ta ta.length := (by rw [show i = ta.length by omega]); have h3 := hR.2 (by omega); omega) (fun k t h => (by obtain ⟨x, h1, h2⟩ := ha k t h; exact ⟨x, h1, h2.on hM.below⟩))) fun a w hK hM => ?_
        refine stepP hK 72 (.bool true) (by kernel_rfl) (okBool (b := (decide ((joinT (ta.map (·.2.1))) = (joinT (ta.map (·.2.1)))))) (run_eqS rfl rfl rfl) (decide_eq_true rfl)) fun a hK => ?_
        refine stepP hK 73 (.bool true) (by kernel_rfl) (by kernel_rfl) fun a hK => ?_
        refine stepM hK 6 73 (by kernel_rfl) (.inr rfl) rfl fun a hK => ?_
        refine region_done hK [(6, .bool true), (12, .int .i64 ((((lcAt l (atIn l at_)).2) : Nat) : Int)), (11, .int .i64 ((((lcAt l (atIn l at_)).1) : Nat) : Int)), (10, .int .i64 ((((lcAt l (atIn l at_)).2) : Nat) : Int)), (9, .int .i64 ((((lcAt l (atIn l at_)).1) : Nat) : Int)), (46, .bool false), (28, .bool false), (14, .bool false), (0, Str l), (1, .int .i64 at_), (2, .slice A n c), (8, .int .i64 ((i : Nat) : Int)), (7, .int .i64 ((m : Nat) : Int))] ⟨rfl, rfl, rfl, rfl, rfl, rfl, rfl, rfl, rfl, rfl, rfl, rfl, rfl, trivial⟩ fun a hK => ?_
        refine wp_ret ?_
        exact ret_t hK rfl (u := (.bool true)) rfl (⟨rfl, hM.below⟩)
end Go.Proofs.YtbcfggdifljacaaDoor
