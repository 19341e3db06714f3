/-
  What AstCopyCard stands on, part 3.
-/
import Derived.Shelf.SlGeneric
import Derived.Shelf.SlIter.Nil
import Derived.Shelf.SortM.Plain
import Derived.Shelf.SortM.SortNone
import Derived.Ground.GgzProg
import Derived.Ground.SlgmProg
import Derived.Shelf.LaysM
import Derived.Shelf.Strconv.Clone
import Derived.Test.YtiigncmpbkfhmaaDoorProg
import Derived.Test.YtiigncmpbkfhmaaDoorPk2
namespace Go.Proofs.YtiigncmpbkfhmaaDoor
open Go Go.RowKit
theorem en_ast_isKind : Enters Tryd.prog 64 := enters_of Tryd.func64 (by kernel_rfl) rfl
theorem en_ast_isWord : Enters Tryd.prog 66 := enters_of Tryd.func66 (by kernel_rfl) rfl
theorem en_ast_numMayBe : Enters Tryd.prog 67 := enters_of Tryd.func67 (by kernel_rfl) rfl
theorem en_ast_nameMayBe : Enters Tryd.prog 68 := enters_of Tryd.func68 (by kernel_rfl) rfl
theorem en_ast_orderMayBe : Enters Tryd.prog 69 := enters_of Tryd.func69 (by kernel_rfl) rfl
theorem en_ast_exprMayBe : Enters Tryd.prog 31 := enters_of Tryd.func31 (by kernel_rfl) rfl
theorem en_ast_stmtMayBe : Enters Tryd.prog 32 := enters_of Tryd.func32 (by kernel_rfl) rfl
theorem en_ast_declsMayBe : Enters Tryd.prog 30 := enters_of Tryd.func30 (by kernel_rfl) rfl
theorem en_ast_Check : Enters Tryd.prog 8 := enters_of Tryd.func8 (by kernel_rfl) rfl
set_option maxRecDepth 100000 in
set_option maxHeartbeats 4000000 in
theorem ast_isKind (k : Int) (w0 : World) : Calls Tryd.prog 64 #[.int .i64 k] w0 (Ret w0 (.bool (ptIs k))) := by
 refine calls_K (args := [.int .i64 k]) (n := 9) (env := [(0, .int .i64 k)]) Tryd.func64 rfl rfl rfl ⟨rfl, trivial⟩ fun a w hK hM => ?_
 refine wp_seq ?_
 refine region_go (lst := [0]) (by kernel_rfl) ?_
 refine stepP hK 2 (.bool false) (by kernel_rfl) (by kernel_rfl) fun a hK => ?_
 refine region_done hK [(2, .bool false), (0, .int .i64 k)] ⟨rfl, rfl, trivial⟩ fun a hK => ?_
 refine wp_seq ?_
 refine region_go (lst := [0, 1, 2, 3, 4, 5, 6]) (by kernel_rfl) ?_
 refine stepM hK 3 0 (by kernel_rfl) (.inl rfl) rfl fun a hK => ?_
 by_cases h1 : (1 : Int) ≤ k
 ·refine stepP hK 4 (.bool true) (by kernel_rfl) (okBool (b := (decide ((1 : Int) ≤ k))) (by kernel_rfl) (decide_eq_true h1)) fun a hK => ?_
  refine stepM hK 5 4 (by kernel_rfl) (.inl rfl) rfl fun a hK => ?_
  refine stepM hK 6 0 (by kernel_rfl) (.inl rfl) rfl fun a hK => ?_
  by_cases h2 : (k : Int) ≤ 11
  ·refine stepP hK 7 (.bool true) (by kernel_rfl) (okBool (b := (decide ((k : Int) ≤ 11))) (by kernel_rfl) (decide_eq_true h2)) fun a hK => ?_
   refine stepP hK 8 (.bool true) (by kernel_rfl) (by kernel_rfl) fun a hK => ?_
   refine stepM hK 2 8 (by kernel_rfl) (.inr rfl) rfl fun a hK => ?_
   refine region_done hK [(2, .bool true), (0, .int .i64 k)] ⟨rfl, rfl, trivial⟩ fun a hK => ?_
   refine wp_ret ?_
   exact ret_t hK rfl (u := (.bool true)) rfl (⟨by unfold ptIs; rw [(decide_eq_true h1), (decide_eq_true h2)]; rfl, hM.below⟩)
  ·refine stepP hK 7 (.bool false) (by kernel_rfl) (okBool (b := (decide ((k : Int) ≤ 11))) (by kernel_rfl) (decide_eq_false h2)) fun a hK => ?_
   refine stepP hK 8 (.bool false) (by kernel_rfl) (by kernel_rfl) fun a hK => ?_
   refine stepM hK 2 8 (by kernel_rfl) (.inr rfl) rfl fun a hK => ?_
   refine region_done hK [(2, .bool false), (0, .int .i64 k)] ⟨rfl, rfl, trivial⟩ fun a hK => ?_
   refine wp_ret ?_
   exact ret_t hK rfl (u := (.bool false)) rfl (⟨by unfold ptIs; rw [(decide_eq_true h1), (decide_eq_false h2)]; rfl, hM.below⟩)
 ·refine stepP hK 4 (.bool false) (by kernel_rfl) (okBool (b := (decide ((1 : Int) ≤ k))) (by kernel_rfl) (decide_eq_false h1)) fun a hK => ?_
  refine stepM hK 5 4 (by kernel_rfl) (.inl rfl) rfl fun a hK => ?_
  refine stepN hK 6 (by kernel_rfl) fun a hK => ?_
  refine stepN hK 7 (by kernel_rfl) fun a hK => ?_
  refine stepP hK 8 (.bool false) (by kernel_rfl) (by kernel_rfl) fun a hK => ?_
  refine stepM hK 2 8 (by kernel_rfl) (.inr rfl) rfl fun a hK => ?_
  refine region_done hK [(2, .bool false), (0, .int .i64 k)] ⟨rfl, rfl, trivial⟩ fun a hK => ?_
  refine wp_ret ?_
  exact ret_t hK rfl (u := (.bool false)) rfl (⟨by unfold ptIs; rw [(decide_eq_false h1)]; rfl, hM.below⟩)
set_option maxRecDepth 100000 in
set_option maxHeartbeats 4000000 in
theorem ast_isWord (l : List UInt8) (w0 : World) (hl : l.length ≤ 65536) : Calls Tryd.prog 66 #[Str l] w0 (Ret w0 (.bool (isWd l))) := by
 refine calls_K (args := [Str l]) (n := 15) (env := [(0, Str l)]) Tryd.func66 rfl rfl rfl ⟨rfl, trivial⟩ fun a w hK hM => ?_
 refine wp_seq ?_
 refine region_go (lst := [0]) (by kernel_rfl) ?_
 refine stepP hK 2 (.bool false) (by kernel_rfl) (by kernel_rfl) fun a hK => ?_
 refine region_done hK [(2, .bool false), (0, Str l)] ⟨rfl, rfl, trivial⟩ fun a hK => ?_
 refine wp_seq ?_
 refine region_go (lst := [0, 1, 2, 3, 4, 5, 6]) (by kernel_rfl) ?_
 refine stepM hK 6 0 (by kernel_rfl) (.inl rfl) rfl fun a hK => ?_
 refine stepRet hK hM 7 #[Str l] (.tuple #[.int .i64 (((wordOf l).1 : Nat) : Int), .bool (wordOf l).2]) (by kernel_rfl) (run_callE en_lex_Word rfl rfl (by kernel_rfl)) (ret_eq (lex_Word l (by omega) _) (wordV_eq l)) fun a w hK hM => ?_
 refine stepM hK 5 7 (by kernel_rfl) (.inl rfl) rfl fun a hK => ?_
 refine stepP hK 8 (.int .i64 (((wordOf l).1 : Nat) : Int)) (by kernel_rfl) (by kernel_rfl) fun a hK => ?_
 rcases Bool.eq_false_or_eq_true (wordOf l).2 with h1 | h1
 ·refine stepP hK 9 (.bool true) (by kernel_rfl) (okBool (b := (wordOf l).2) (by kernel_rfl) h1) fun a hK => ?_
  refine stepM hK 3 8 (by kernel_rfl) (.inr rfl) rfl fun a hK => ?_
  refine stepM hK 4 9 (by kernel_rfl) (.inr rfl) rfl fun a hK => ?_
  refine region_done hK [(4, .bool true), (3, .int .i64 (((wordOf l).1 : Nat) : Int)), (2, .bool false), (0, Str l)] ⟨rfl, rfl, rfl, rfl, trivial⟩ fun a hK => ?_
  refine wp_seq ?_
  refine region_go (lst := [0, 1, 2, 3, 4, 5]) (by kernel_rfl) ?_
  refine stepM hK 10 4 (by kernel_rfl) (.inl rfl) rfl fun a hK => ?_
  refine stepM hK 11 10 (by kernel_rfl) (.inl rfl) rfl fun a hK => ?_
  refine stepM hK 12 3 (by kernel_rfl) (.inl rfl) rfl fun a hK => ?_
  by_cases h2 : ((((wordOf l).1 : Nat) : Int) : Int) = 1
  ·refine stepP hK 13 (.bool true) (by kernel_rfl) (okBool (b := (decide (((((wordOf l).1 : Nat) : Int) : Int) = 1))) (by kernel_rfl) (decide_eq_true h2)) fun a hK => ?_
   refine stepP hK 14 (.bool true) (by kernel_rfl) (by kernel_rfl) fun a hK => ?_
   refine stepM hK 2 14 (by kernel_rfl) (.inr rfl) rfl fun a hK => ?_
   refine region_done hK [(2, .bool true), (4, .bool true), (3, .int .i64 (((wordOf l).1 : Nat) : Int)), (0, Str l)] ⟨rfl, rfl, rfl, rfl, trivial⟩ fun a hK => ?_
   refine wp_ret ?_
   exact ret_t hK rfl (u := (.bool true)) rfl (⟨by unfold isWd; rw [h1, (decide_eq_true h2)]; rfl, hM.below⟩)
  ·refine stepP hK 13 (.bool false) (by kernel_rfl) (okBool (b := (decide (((((wordOf l).1 : Nat) : Int) : Int) = 1))) (by kernel_rfl) (decide_eq_false h2)) fun a hK => ?_
   refine stepP hK 14 (.bool false) (by kernel_rfl) (by kernel_rfl) fun a hK => ?_
   refine stepM hK 2 14 (by kernel_rfl) (.inr rfl) rfl fun a hK => ?_
   refine region_done hK [(2, .bool false), (4, .bool true), (3, .int .i64 (((wordOf l).1 : Nat) : Int)), (0, Str l)] ⟨rfl, rfl, rfl, rfl, trivial⟩ fun a hK => ?_
   refine wp_ret ?_
   exact ret_t hK rfl (u := (.bool false)) rfl (⟨by unfold isWd; rw [h1, (decide_eq_false h2)]; rfl, hM.below⟩)
 ·refine stepP hK 9 (.bool false) (by kernel_rfl) (okBool (b := (wordOf l).2) (by kernel_rfl) h1) fun a hK => ?_
  refine stepM hK 3 8 (by kernel_rfl) (.inr rfl) rfl fun a hK => ?_
  refine stepM hK 4 9 (by kernel_rfl) (.inr rfl) rfl fun a hK => ?_
  refine region_done hK [(4, .bool false), (3, .int .i64 (((wordOf l).1 : Nat) : Int)), (2, .bool false), (0, Str l)] ⟨rfl, rfl, rfl, rfl, trivial⟩ fun a hK => ?_
  refine wp_seq ?_
  refine region_go (lst := [0, 1, 2, 3, 4, 5]) (by kernel_rfl) ?_
  refine stepM hK 10 4 (by kernel_rfl) (.inl rfl) rfl fun a hK => ?_
  refine stepM hK 11 10 (by kernel_rfl) (.inl rfl) rfl fun a hK => ?_
  refine stepN hK 12 (by kernel_rfl) fun a hK => ?_
  refine stepN hK 13 (by kernel_rfl) fun a hK => ?_
  refine stepP hK 14 (.bool false) (by kernel_rfl) (by kernel_rfl) fun a hK => ?_
  refine stepM hK 2 14 (by kernel_rfl) (.inr rfl) rfl fun a hK => ?_
  refine region_done hK [(2, .bool false), (4, .bool false), (3, .int .i64 (((wordOf l).1 : Nat) : Int)), (0, Str l)] ⟨rfl, rfl, rfl, rfl, trivial⟩ fun a hK => ?_
  refine wp_ret ?_
  exact ret_t hK rfl (u := (.bool false)) rfl (⟨by unfold isWd; rw [h1]; rfl, hM.below⟩)
set_option maxRecDepth 100000 in
set_option maxHeartbeats 4000000 in
theorem ast_numMayBe (n : Int) (b : Bool) (w0 : World) : Calls Tryd.prog 67 #[.int .i64 n, .bool b] w0 (Ret w0 (.bool (numOk n b))) := by
 refine calls_K (args := [.int .i64 n, .bool b]) (n := 10) (env := [(0, .int .i64 n), (1, .bool b)]) Tryd.func67 rfl rfl rfl ⟨rfl, rfl, trivial⟩ fun a w hK hM => ?_
 refine wp_seq ?_
 refine region_go (lst := [0]) (by kernel_rfl) ?_
 refine stepP hK 4 (.bool false) (by kernel_rfl) (by kernel_rfl) fun a hK => ?_
 refine region_done hK [(4, .bool false), (0, .int .i64 n), (1, .bool b)] ⟨rfl, rfl, rfl, trivial⟩ fun a hK => ?_
 refine wp_seq ?_
 refine wp_seq ?_
 refine region_go (lst := [0]) (by kernel_rfl) ?_
 rcases Bool.eq_false_or_eq_true b with h1 | h1
 ·refine stepP hK 5 (.bool true) (by kernel_rfl) (okBool (b := b) (by kernel_rfl) h1) fun a hK => ?_
  refine region_done hK [(5, .bool true), (4, .bool false), (0, .int .i64 n), (1, .bool b)] ⟨rfl, rfl, rfl, rfl, trivial⟩ fun a hK => ?_
  refine wp_cond_true (hK.get rfl) ?_
  refine wp_seq ?_
  refine region_go (lst := [0, 1, 2]) (by kernel_rfl) ?_
  refine stepM hK 6 0 (by kernel_rfl) (.inl rfl) rfl fun a hK => ?_
  by_cases h2 : (0 : Int) ≤ n
  ·refine stepP hK 7 (.bool true) (by kernel_rfl) (okBool (b := (decide ((0 : Int) ≤ n))) (by kernel_rfl) (decide_eq_true h2)) fun a hK => ?_
   refine stepM hK 4 7 (by kernel_rfl) (.inr rfl) rfl fun a hK => ?_
   refine region_done hK [(4, .bool true), (5, .bool true), (0, .int .i64 n), (1, .bool b)] ⟨rfl, rfl, rfl, rfl, trivial⟩ fun a hK => ?_
   refine wp_ret ?_
   exact ret_t hK rfl (u := (.bool true)) rfl (⟨by unfold numOk; rw [h1, (decide_eq_true h2)]; rfl, hM.below⟩)
  ·refine stepP hK 7 (.bool false) (by kernel_rfl) (okBool (b := (decide ((0 : Int) ≤ n))) (by kernel_rfl) (decide_eq_false h2)) fun a hK => ?_
   refine stepM hK 4 7 (by kernel_rfl) (.inr rfl) rfl fun a hK => ?_
   refine region_done hK [(4, .bool false), (5, .bool true), (0, .int .i64 n), (1, .bool b)] ⟨rfl, rfl, rfl, rfl, trivial⟩ fun a hK => ?_
   refine wp_ret ?_
   exact ret_t hK rfl (u := (.bool false)) rfl (⟨by unfold numOk; rw [h1, (decide_eq_false h2)]; rfl, hM.below⟩)
 ·refine stepP hK 5 (.bool false) (by kernel_rfl) (okBool (b := b) (by kernel_rfl) h1) fun a hK => ?_
  refine region_done hK [(5, .bool false), (4, .bool false), (0, .int .i64 n), (1, .bool b)] ⟨rfl, rfl, rfl, rfl, trivial⟩ fun a hK => ?_
  refine wp_cond_false (hK.get rfl) ?_
  refine wp_skip ?_
  refine wp_seq ?_
  refine region_go (lst := [0, 1, 2]) (by kernel_rfl) ?_
  refine stepM hK 8 0 (by kernel_rfl) (.inl rfl) rfl fun a hK => ?_
  by_cases h3 : (n : Int) = 0
  ·refine stepP hK 9 (.bool true) (by kernel_rfl) (okBool (b := (decide ((n : Int) = 0))) (by kernel_rfl) (decide_eq_true h3)) fun a hK => ?_
   refine stepM hK 4 9 (by kernel_rfl) (.inr rfl) rfl fun a hK => ?_
   refine region_done hK [(4, .bool true), (5, .bool false), (0, .int .i64 n), (1, .bool b)] ⟨rfl, rfl, rfl, rfl, trivial⟩ fun a hK => ?_
   refine wp_ret ?_
   exact ret_t hK rfl (u := (.bool true)) rfl (⟨by unfold numOk; rw [h1, (decide_eq_true h3)]; rfl, hM.below⟩)
  ·refine stepP hK 9 (.bool false) (by kernel_rfl) (okBool (b := (decide ((n : Int) = 0))) (by kernel_rfl) (decide_eq_false h3)) fun a hK => ?_
   refine stepM hK 4 9 (by kernel_rfl) (.inr rfl) rfl fun a hK => ?_
   refine region_done hK [(4, .bool false), (5, .bool false), (0, .int .i64 n), (1, .bool b)] ⟨rfl, rfl, rfl, rfl, trivial⟩ fun a hK => ?_
   refine wp_ret ?_
   exact ret_t hK rfl (u := (.bool false)) rfl (⟨by unfold numOk; rw [h1, (decide_eq_false h3)]; rfl, hM.below⟩)
set_option maxRecDepth 100000 in
set_option maxHeartbeats 4000000 in
theorem ast_nameMayBe (l : List UInt8) (b : Bool) (w0 : World) (hl : l.length ≤ 65536) : Calls Tryd.prog 68 #[Str l, .bool b] w0 (Ret w0 (.bool (nameOk l b))) := by
 refine calls_K (args := [Str l, .bool b]) (n := 10) (env := [(0, Str l), (1, .bool b)]) Tryd.func68 rfl rfl rfl ⟨rfl, rfl, trivial⟩ fun a w hK hM => ?_
 refine wp_seq ?_
 refine region_go (lst := [0]) (by kernel_rfl) ?_
 refine stepP hK 4 (.bool false) (by kernel_rfl) (by kernel_rfl) fun a hK => ?_
 refine region_done hK [(4, .bool false), (0, Str l), (1, .bool b)] ⟨rfl, rfl, rfl, trivial⟩ fun a hK => ?_
 refine wp_seq ?_
 refine wp_seq ?_
 refine region_go (lst := [0]) (by kernel_rfl) ?_
 rcases Bool.eq_false_or_eq_true b with h1 | h1
 ·refine stepP hK 5 (.bool true) (by kernel_rfl) (okBool (b := b) (by kernel_rfl) h1) fun a hK => ?_
  refine region_done hK [(5, .bool true), (4, .bool false), (0, Str l), (1, .bool b)] ⟨rfl, rfl, rfl, rfl, trivial⟩ fun a hK => ?_
  refine wp_cond_true (hK.get rfl) ?_
  refine wp_seq ?_
  refine region_go (lst := [0, 1, 2]) (by kernel_rfl) ?_
  refine stepM hK 6 0 (by kernel_rfl) (.inl rfl) rfl fun a hK => ?_
  rcases Bool.eq_false_or_eq_true (isWd l) with h2 | h2
  ·refine stepRet hK hM 7 #[Str l] (.bool true) (by kernel_rfl) (run_callE en_ast_isWord rfl rfl (by kernel_rfl)) (ret_eq (ast_isWord l _ (by omega)) (congrArg Value.bool h2)) fun a w hK hM => ?_
   refine stepM hK 4 7 (by kernel_rfl) (.inr rfl) rfl fun a hK => ?_
   refine region_done hK [(4, .bool true), (5, .bool true), (0, Str l), (1, .bool b)] ⟨rfl, rfl, rfl, rfl, trivial⟩ fun a hK => ?_
   refine wp_ret ?_
   exact ret_t hK rfl (u := (.bool true)) rfl (⟨by unfold nameOk; rw [h1, h2]; rfl, hM.below⟩)
  ·refine stepRet hK hM 7 #[Str l] (.bool false) (by kernel_rfl) (run_callE en_ast_isWord rfl rfl (by kernel_rfl)) (ret_eq (ast_isWord l _ (by omega)) (congrArg Value.bool h2)) fun a w hK hM => ?_
   refine stepM hK 4 7 (by kernel_rfl) (.inr rfl) rfl fun a hK => ?_
   refine region_done hK [(4, .bool false), (5, .bool true), (0, Str l), (1, .bool b)] ⟨rfl, rfl, rfl, rfl, trivial⟩ fun a hK => ?_
   refine wp_ret ?_
   exact ret_t hK rfl (u := (.bool false)) rfl (⟨by unfold nameOk; rw [h1, h2]; rfl, hM.below⟩)
 ·refine stepP hK 5 (.bool false) (by kernel_rfl) (okBool (b := b) (by kernel_rfl) h1) fun a hK => ?_
  refine region_done hK [(5, .bool false), (4, .bool false), (0, Str l), (1, .bool b)] ⟨rfl, rfl, rfl, rfl, trivial⟩ fun a hK => ?_
  refine wp_cond_false (hK.get rfl) ?_
  refine wp_skip ?_
  refine wp_seq ?_
  refine region_go (lst := [0, 1, 2]) (by kernel_rfl) ?_
  refine stepM hK 8 0 (by kernel_rfl) (.inl rfl) rfl fun a hK => ?_
  by_cases h3 : l = []
  ·refine stepP hK 9 (.bool true) (by kernel_rfl) (okBool (b := (decide (l = []))) (run_eqS rfl rfl rfl) (decide_eq_true h3)) fun a hK => ?_
   refine stepM hK 4 9 (by kernel_rfl) (.inr rfl) rfl fun a hK => ?_
   refine region_done hK [(4, .bool true), (5, .bool false), (0, Str l), (1, .bool b)] ⟨rfl, rfl, rfl, rfl, trivial⟩ fun a hK => ?_
   refine wp_ret ?_
   exact ret_t hK rfl (u := (.bool true)) rfl (⟨by unfold nameOk; rw [h1, (decide_eq_true h3)]; rfl, hM.below⟩)
  ·refine stepP hK 9 (.bool false) (by kernel_rfl) (okBool (b := (decide (l = []))) (run_eqS rfl rfl rfl) (decide_eq_false h3)) fun a hK => ?_
   refine stepM hK 4 9 (by kernel_rfl) (.inr rfl) rfl fun a hK => ?_
   refine region_done hK [(4, .bool false), (5, .bool false), (0, Str l), (1, .bool b)] ⟨rfl, rfl, rfl, rfl, trivial⟩ fun a hK => ?_
   refine wp_ret ?_
   exact ret_t hK rfl (u := (.bool false)) rfl (⟨by unfold nameOk; rw [h1, (decide_eq_false h3)]; rfl, hM.below⟩)
set_option maxRecDepth 100000 in
set_option maxHeartbeats 4000000 in
theorem ast_orderMayBe (n : Int) (b : Bool) (w0 : World) : Calls Tryd.prog 69 #[.int .i64 n, .bool b] w0 (Ret w0 (.bool (ordOk n b))) := by
 refine calls_K (args := [.int .i64 n, .bool b]) (n := 14) (env := [(0, .int .i64 n), (1, .bool b)]) Tryd.func69 rfl rfl rfl ⟨rfl, rfl, trivial⟩ fun a w hK hM => ?_
 refine wp_seq ?_
 refine region_go (lst := [0]) (by kernel_rfl) ?_
 refine stepP hK 4 (.bool false) (by kernel_rfl) (by kernel_rfl) fun a hK => ?_
 refine region_done hK [(4, .bool false), (0, .int .i64 n), (1, .bool b)] ⟨rfl, rfl, rfl, trivial⟩ fun a hK => ?_
 refine wp_seq ?_
 refine wp_seq ?_
 refine region_go (lst := [0]) (by kernel_rfl) ?_
 rcases Bool.eq_false_or_eq_true b with h1 | h1
 ·refine stepP hK 5 (.bool true) (by kernel_rfl) (okBool (b := b) (by kernel_rfl) h1) fun a hK => ?_
  refine region_done hK [(5, .bool true), (4, .bool false), (0, .int .i64 n), (1, .bool b)] ⟨rfl, rfl, rfl, rfl, trivial⟩ fun a hK => ?_
  refine wp_cond_true (hK.get rfl) ?_
  refine wp_seq ?_
  refine region_go (lst := [0, 1, 2, 3, 4, 5, 6]) (by kernel_rfl) ?_
  refine stepM hK 6 0 (by kernel_rfl) (.inl rfl) rfl fun a hK => ?_
  by_cases h2 : (1 : Int) ≤ n
  ·refine stepP hK 7 (.bool true) (by kernel_rfl) (okBool (b := (decide ((1 : Int) ≤ n))) (by kernel_rfl) (decide_eq_true h2)) fun a hK => ?_
   refine stepM hK 8 7 (by kernel_rfl) (.inl rfl) rfl fun a hK => ?_
   refine stepM hK 9 0 (by kernel_rfl) (.inl rfl) rfl fun a hK => ?_
   by_cases h3 : (n : Int) ≤ 6
   ·refine stepP hK 10 (.bool true) (by kernel_rfl) (okBool (b := (decide ((n : Int) ≤ 6))) (by kernel_rfl) (decide_eq_true h3)) fun a hK => ?_
    refine stepP hK 11 (.bool true) (by kernel_rfl) (by kernel_rfl) fun a hK => ?_
    refine stepM hK 4 11 (by kernel_rfl) (.inr rfl) rfl fun a hK => ?_
    refine region_done hK [(4, .bool true), (5, .bool true), (0, .int .i64 n), (1, .bool b)] ⟨rfl, rfl, rfl, rfl, trivial⟩ fun a hK => ?_
    refine wp_ret ?_
    exact ret_t hK rfl (u := (.bool true)) rfl (⟨by unfold ordOk; rw [h1, (decide_eq_true h2), (decide_eq_true h3)]; rfl, hM.below⟩)
   ·refine stepP hK 10 (.bool false) (by kernel_rfl) (okBool (b := (decide ((n : Int) ≤ 6))) (by kernel_rfl) (decide_eq_false h3)) fun a hK => ?_
    refine stepP hK 11 (.bool false) (by kernel_rfl) (by kernel_rfl) fun a hK => ?_
    refine stepM hK 4 11 (by kernel_rfl) (.inr rfl) rfl fun a hK => ?_
    refine region_done hK [(4, .bool false), (5, .bool true), (0, .int .i64 n), (1, .bool b)] ⟨rfl, rfl, rfl, rfl, trivial⟩ fun a hK => ?_
    refine wp_ret ?_
    exact ret_t hK rfl (u := (.bool false)) rfl (⟨by unfold ordOk; rw [h1, (decide_eq_true h2), (decide_eq_false h3)]; rfl, hM.below⟩)
  ·refine stepP hK 7 (.bool false) (by kernel_rfl) (okBool (b := (decide ((1 : Int) ≤ n))) (by kernel_rfl) (decide_eq_false h2)) fun a hK => ?_
   refine stepM hK 8 7 (by kernel_rfl) (.inl rfl) rfl fun a hK => ?_
   refine stepN hK 9 (by kernel_rfl) fun a hK => ?_
   refine stepN hK 10 (by kernel_rfl) fun a hK => ?_
   refine stepP hK 11 (.bool false) (by kernel_rfl) (by kernel_rfl) fun a hK => ?_
   refine stepM hK 4 11 (by kernel_rfl) (.inr rfl) rfl fun a hK => ?_
   refine region_done hK [(4, .bool false), (5, .bool true), (0, .int .i64 n), (1, .bool b)] ⟨rfl, rfl, rfl, rfl, trivial⟩ fun a hK => ?_
   refine wp_ret ?_
   exact ret_t hK rfl (u := (.bool false)) rfl (⟨by unfold ordOk; rw [h1, (decide_eq_false h2)]; rfl, hM.below⟩)
 ·refine stepP hK 5 (.bool false) (by kernel_rfl) (okBool (b := b) (by kernel_rfl) h1) fun a hK => ?_
  refine region_done hK [(5, .bool false), (4, .bool false), (0, .int .i64 n), (1, .bool b)] ⟨rfl, rfl, rfl, rfl, trivial⟩ fun a hK => ?_
  refine wp_cond_false (hK.get rfl) ?_
  refine wp_skip ?_
  refine wp_seq ?_
  refine region_go (lst := [0, 1, 2]) (by kernel_rfl) ?_
  refine stepM hK 12 0 (by kernel_rfl) (.inl rfl) rfl fun a hK => ?_
  by_cases h4 : (n : Int) = 0
  ·refine stepP hK 13 (.bool true) (by kernel_rfl) (okBool (b := (decide ((n : Int) = 0))) (by kernel_rfl) (decide_eq_true h4)) fun a hK => ?_
   refine stepM hK 4 13 (by kernel_rfl) (.inr rfl) rfl fun a hK => ?_
   refine region_done hK [(4, .bool true), (5, .bool false), (0, .int .i64 n), (1, .bool b)] ⟨rfl, rfl, rfl, rfl, trivial⟩ fun a hK => ?_
   refine wp_ret ?_
   exact ret_t hK rfl (u := (.bool true)) rfl (⟨by unfold ordOk; rw [h1, (decide_eq_true h4)]; rfl, hM.below⟩)
  ·refine stepP hK 13 (.bool false) (by kernel_rfl) (okBool (b := (decide ((n : Int) = 0))) (by kernel_rfl) (decide_eq_false h4)) fun a hK => ?_
   refine stepM hK 4 13 (by kernel_rfl) (.inr rfl) rfl fun a hK => ?_
   refine region_done hK [(4, .bool false), (5, .bool false), (0, .int .i64 n), (1, .bool b)] ⟨rfl, rfl, rfl, rfl, trivial⟩ fun a hK => ?_
   refine wp_ret ?_
   exact ret_t hK rfl (u := (.bool false)) rfl (⟨by unfold ordOk; rw [h1, (decide_eq_false h4)]; rfl, hM.below⟩)
set_option maxRecDepth 100000 in
set_option maxHeartbeats 4000000 in
theorem step_mayE (w0 : World) (hTab : TabOk w0) : StepE w0 (fun _ : Unit => []) okU mayE 31 #[] := by
 refine ⟨en_ast_exprMayBe, ?_, fun _ _ _ _ _ _ => trivial⟩
 intro e d k s F w1 hM0 he hs hd hok
 obtain ⟨hnm, -⟩ := ex_sh hs
 replace hM0 : Mem w0 w1 F := hM0
 refine calls_KM (args := [vE e, vN d]) (n := 38) (env := [(0, vE e), (1, vN d)]) Tryd.func31 rfl rfl rfl ⟨rfl, rfl, trivial⟩ hM0 fun a w hK hM => ?_
 refine wp_seq ?_
 refine region_go (lst := [0, 1]) (by kernel_rfl) ?_
 refine stepAlloc hK hM 2 36 (cE e) (fun b => pA b 0) (by kernel_rfl) (by kernel_rfl) fun b1 a w hK hM => ?_
 refine stepP hK 4 (.bool false) (by kernel_rfl) (by kernel_rfl) fun a hK => ?_
 refine region_done hK [(4, .bool false), (2, pA b1 0), (0, vE e)] ⟨rfl, rfl, rfl, trivial⟩ fun a hK => ?_
 refine wp_seq ?_
 refine wp_seq ?_
 refine region_go (lst := [0, 1, 2, 3, 4, 5, 6, 7]) (by kernel_rfl) ?_
 refine stepP hK 6 (pA b1 0) (by kernel_rfl) (by kernel_rfl) fun a hK => ?_
 refine stepLoad hK 7 (.int .i64 e.op) (by kernel_rfl) rfl rfl ((hM.row 0 rfl).cells 0 1) (by kernel_rfl) fun a hK => ?_
 by_cases h2 : (e.op : Int) < 1
 ·refine stepP hK 8 (.bool true) (by kernel_rfl) (okBool (b := (decide ((e.op : Int) < 1))) (by kernel_rfl) (decide_eq_true h2)) fun a hK => ?_
  refine stepM hK 9 8 (by kernel_rfl) (.inl rfl) rfl fun a hK => ?_
  refine stepN hK 10 (by kernel_rfl) fun a hK => ?_
  refine stepN hK 11 (by kernel_rfl) fun a hK => ?_
  refine stepN hK 12 (by kernel_rfl) fun a hK => ?_
  refine stepP hK 13 (.bool true) (by kernel_rfl) (by kernel_rfl) fun a hK => ?_
  refine region_done hK [(13, .bool true), (4, .bool false), (2, pA b1 0), (0, vE e)] ⟨rfl, rfl, rfl, rfl, trivial⟩ fun a hK => ?_
  refine wp_cond_true (hK.get rfl) ?_
  refine wp_seq ?_
  refine region_go (lst := [0]) (by kernel_rfl) ?_
  refine stepP hK 4 (.bool false) (by kernel_rfl) (by kernel_rfl) fun a hK => ?_
  refine region_done hK [(4, .bool false), (13, .bool true), (2, pA b1 0), (0, vE e)] ⟨rfl, rfl, rfl, rfl, trivial⟩ fun a hK => ?_
  refine wp_ret ?_
  exact ret_t hK rfl (u := (.bool false)) rfl (⟨(false, ()), rfl, hM.drop 1, by unfold mayE; rw [ex_out (by omega)]; rfl⟩)
 ·refine stepP hK 8 (.bool false) (by kernel_rfl) (okBool (b := (decide ((e.op : Int) < 1))) (by kernel_rfl) (decide_eq_false h2)) fun a hK => ?_
  refine stepM hK 9 8 (by kernel_rfl) (.inl rfl) rfl fun a hK => ?_
  refine stepP hK 10 (pA b1 0) (by kernel_rfl) (by kernel_rfl) fun a hK => ?_
  refine stepLoad hK 11 (.int .i64 e.op) (by kernel_rfl) rfl rfl ((hM.row 0 rfl).cells 0 1) (by kernel_rfl) fun a hK => ?_
  by_cases h3 : (16 : Int) < e.op
  ·refine stepP hK 12 (.bool true) (by kernel_rfl) (okBool (b := (decide ((16 : Int) < e.op))) (by kernel_rfl) (decide_eq_true h3)) fun a hK => ?_
   refine stepP hK 13 (.bool true) (by kernel_rfl) (by kernel_rfl) fun a hK => ?_
   refine region_done hK [(13, .bool true), (4, .bool false), (2, pA b1 0), (0, vE e)] ⟨rfl, rfl, rfl, rfl, trivial⟩ fun a hK => ?_
   refine wp_cond_true (hK.get rfl) ?_
   refine wp_seq ?_
   refine region_go (lst := [0]) (by kernel_rfl) ?_
   refine stepP hK 4 (.bool false) (by kernel_rfl) (by kernel_rfl) fun a hK => ?_
   refine region_done hK [(4, .bool false), (13, .bool true), (2, pA b1 0), (0, vE e)] ⟨rfl, rfl, rfl, rfl, trivial⟩ fun a hK => ?_
   refine wp_ret ?_
   exact ret_t hK rfl (u := (.bool false)) rfl (⟨(false, ()), rfl, hM.drop 1, by unfold mayE; rw [ex_out (by omega)]; rfl⟩)
  ·refine stepP hK 12 (.bool false) (by kernel_rfl) (okBool (b := (decide ((16 : Int) < e.op))) (by kernel_rfl) (decide_eq_false h3)) fun a hK => ?_
   refine stepP hK 13 (.bool false) (by kernel_rfl) (by kernel_rfl) fun a hK => ?_
   refine region_done hK [(13, .bool false), (4, .bool false), (2, pA b1 0), (0, vE e)] ⟨rfl, rfl, rfl, rfl, trivial⟩ fun a hK => ?_
   refine wp_cond_false (hK.get rfl) ?_
   refine wp_skip ?_
   refine wp_seq ?_
   refine region_go (lst := [0, 1, 2, 3, 4, 5]) (by kernel_rfl) ?_
   refine stepP hK 14 (pA b1 0) (by kernel_rfl) (by kernel_rfl) fun a hK => ?_
   refine stepLoad hK 15 (.int .i64 e.op) (by kernel_rfl) rfl rfl ((hM.row 0 rfl).cells 0 1) (by kernel_rfl) fun a hK => ?_
   refine stepP hK 16 (.pointer (some ((⟨0, 0, none⟩ : Addr).add (e.op.toNat * 3)))) (by kernel_rfl) (run_ixArr (e := 87) (k := e.op.toNat) (s := 3) (n := 17) rfl rfl rfl (by omega) (by kernel_rfl) (by kernel_rfl) (by omega)) fun a hK => ?_
   refine stepLoad hK 17 (.agg #[.bool (exN e.op), .bool (exR e.op), .int .i64 (kidsI e.op)]) (by kernel_rfl) rfl rfl (((hTab.exprs (op := e.op) (by omega) (by omega)).on hM.below)) (by kernel_rfl) fun a hK => ?_
   refine stepAlloc hK hM 5 87 [.bool false, .bool false, .int .i64 0] (fun b => pA b 0) (by kernel_rfl) (by kernel_rfl) fun b4 a w hK hM => ?_
   refine stepStore hK hM 0 [.bool (exN e.op), .bool (exR e.op), .int .i64 (kidsI e.op)] (by kernel_rfl) rfl rfl rfl rfl (by kernel_rfl) fun w hM => ?_
   replace hM := hM.to (.row b4 87 [.bool (exN e.op), .bool (exR e.op), .int .i64 (kidsI e.op)] :: .row b1 36 (cE e) :: F) (by kernel_rfl)
   refine region_done hK [(5, pA b4 0), (13, .bool false), (4, .bool false), (2, pA b1 0), (0, vE e)] ⟨rfl, rfl, rfl, rfl, rfl, trivial⟩ fun a hK => ?_
   refine wp_seq ?_
   refine region_go (lst := [0, 1, 2, 3, 4, 5, 6, 7, 8, 9, 10, 11, 12, 13, 14, 15, 16, 17, 18, 19, 20]) (by kernel_rfl) ?_
   refine stepP hK 18 (pA b1 1) (by kernel_rfl) (by kernel_rfl) fun a hK => ?_
   refine stepLoad hK 19 (.int .i64 e.num) (by kernel_rfl) rfl rfl ((hM.row 1 rfl).cells 1 1) (by kernel_rfl) fun a hK => ?_
   refine stepP hK 20 (pA b4 0) (by kernel_rfl) (by kernel_rfl) fun a hK => ?_
   refine stepLoad hK 21 (.bool (exN e.op)) (by kernel_rfl) rfl rfl ((hM.row 0 rfl).cells 0 1) (by kernel_rfl) fun a hK => ?_
   rcases Bool.eq_false_or_eq_true (numOk e.num (exN e.op)) with h5 | h5
   ·refine stepRet hK hM 22 #[.int .i64 e.num, .bool (exN e.op)] (.bool true) (by kernel_rfl) (run_callE en_ast_numMayBe rfl rfl (by kernel_rfl)) (ret_eq (ast_numMayBe e.num (exN e.op) _) (congrArg Value.bool h5)) fun a w hK hM => ?_
    refine stepM hK 23 22 (by kernel_rfl) (.inl rfl) rfl fun a hK => ?_
    refine stepP hK 24 (pA b1 2) (by kernel_rfl) (by kernel_rfl) fun a hK => ?_
    refine stepLoad hK 25 (Str e.nm) (by kernel_rfl) rfl rfl ((hM.row 1 rfl).cells 2 1) (by kernel_rfl) fun a hK => ?_
    refine stepP hK 26 (pA b4 1) (by kernel_rfl) (by kernel_rfl) fun a hK => ?_
    refine stepLoad hK 27 (.bool (exR e.op)) (by kernel_rfl) rfl rfl ((hM.row 0 rfl).cells 1 1) (by kernel_rfl) fun a hK => ?_
    rcases Bool.eq_false_or_eq_true (nameOk e.nm (exR e.op)) with h6 | h6
    ·refine stepRet hK hM 28 #[Str e.nm, .bool (exR e.op)] (.bool true) (by kernel_rfl) (run_callE en_ast_nameMayBe rfl rfl (by kernel_rfl)) (ret_eq (ast_nameMayBe e.nm (exR e.op) _ (by omega)) (congrArg Value.bool h6)) fun a w hK hM => ?_
     refine stepP hK 29 (.bool true) (by kernel_rfl) (by kernel_rfl) fun a hK => ?_
     refine stepM hK 30 29 (by kernel_rfl) (.inl rfl) rfl fun a hK => ?_
     refine stepP hK 31 (pA b1 3) (by kernel_rfl) (by kernel_rfl) fun a hK => ?_
     refine stepLoad hK 32 (.slice e.A e.ks.length e.c) (by kernel_rfl) rfl rfl ((hM.row 1 rfl).cells 3 1) (by kernel_rfl) fun a hK => ?_
     refine stepP hK 33 (.int .i64 ((e.ks.length : Nat) : Int)) (by kernel_rfl) (by kernel_rfl) fun a hK => ?_
     refine stepP hK 34 (pA b4 2) (by kernel_rfl) (by kernel_rfl) fun a hK => ?_
     refine stepLoad hK 35 (.int .i64 (kidsI e.op)) (by kernel_rfl) rfl rfl ((hM.row 0 rfl).cells 2 1) (by kernel_rfl) fun a hK => ?_
     by_cases h7 : (((e.ks.length : Nat) : Int) : Int) = (kidsI e.op)
     ·refine stepP hK 36 (.bool true) (by kernel_rfl) (okBool (b := (decide ((((e.ks.length : Nat) : Int) : Int) = (kidsI e.op)))) (by kernel_rfl) (decide_eq_true h7)) fun a hK => ?_
      refine stepP hK 37 (.bool true) (by kernel_rfl) (by kernel_rfl) fun a hK => ?_
      refine stepM hK 4 37 (by kernel_rfl) (.inr rfl) rfl fun a hK => ?_
      refine region_done hK [(4, .bool true), (5, pA b4 0), (13, .bool false), (2, pA b1 0), (0, vE e)] ⟨rfl, rfl, rfl, rfl, rfl, trivial⟩ fun a hK => ?_
      refine wp_ret ?_
      exact ret_t hK rfl (u := (.bool true)) rfl (⟨(true, ()), rfl, hM.drop 2, by unfold mayE; rw [ex_in e, h5, h6, (decide_eq_true h7)]; rfl⟩)
     ·refine stepP hK 36 (.bool false) (by kernel_rfl) (okBool (b := (decide ((((e.ks.length : Nat) : Int) : Int) = (kidsI e.op)))) (by kernel_rfl) (decide_eq_false h7)) fun a hK => ?_
      refine stepP hK 37 (.bool false) (by kernel_rfl) (by kernel_rfl) fun a hK => ?_
      refine stepM hK 4 37 (by kernel_rfl) (.inr rfl) rfl fun a hK => ?_
      refine region_done hK [(4, .bool false), (5, pA b4 0), (13, .bool false), (2, pA b1 0), (0, vE e)] ⟨rfl, rfl, rfl, rfl, rfl, trivial⟩ fun a hK => ?_
      refine wp_ret ?_
      exact ret_t hK rfl (u := (.bool false)) rfl (⟨(false, ()), rfl, hM.drop 2, by unfold mayE; rw [ex_in e, h5, h6, (decide_eq_false h7)]; rfl⟩)
    ·refine stepRet hK hM 28 #[Str e.nm, .bool (exR e.op)] (.bool false) (by kernel_rfl) (run_callE en_ast_nameMayBe rfl rfl (by kernel_rfl)) (ret_eq (ast_nameMayBe e.nm (exR e.op) _ (by omega)) (congrArg Value.bool h6)) fun a w hK hM => ?_
     refine stepP hK 29 (.bool false) (by kernel_rfl) (by kernel_rfl) fun a hK => ?_
     refine stepM hK 30 29 (by kernel_rfl) (.inl rfl) rfl fun a hK => ?_
     refine stepN hK 31 (by kernel_rfl) fun a hK => ?_
     refine stepN hK 32 (by kernel_rfl) fun a hK => ?_
     refine stepN hK 33 (by kernel_rfl) fun a hK => ?_
     refine stepN hK 34 (by kernel_rfl) fun a hK => ?_
     refine stepN hK 35 (by kernel_rfl) fun a hK => ?_
     refine stepN hK 36 (by kernel_rfl) fun a hK => ?_
     refine stepP hK 37 (.bool false) (by kernel_rfl) (by kernel_rfl) fun a hK => ?_
     refine stepM hK 4 37 (by kernel_rfl) (.inr rfl) rfl fun a hK => ?_
     refine region_done hK [(4, .bool false), (5, pA b4 0), (13, .bool false), (2, pA b1 0), (0, vE e)] ⟨rfl, rfl, rfl, rfl, rfl, trivial⟩ fun a hK => ?_
     refine wp_ret ?_
     exact ret_t hK rfl (u := (.bool false)) rfl (⟨(false, ()), rfl, hM.drop 2, by unfold mayE; rw [ex_in e, h5, h6]; rfl⟩)
   ·refine stepRet hK hM 22 #[.int .i64 e.num, .bool (exN e.op)] (.bool false) (by kernel_rfl) (run_callE en_ast_numMayBe rfl rfl (by kernel_rfl)) (ret_eq (ast_numMayBe e.num (exN e.op) _) (congrArg Value.bool h5)) fun a w hK hM => ?_
    refine stepM hK 23 22 (by kernel_rfl) (.inl rfl) rfl fun a hK => ?_
    refine stepN hK 24 (by kernel_rfl) fun a hK => ?_
    refine stepN hK 25 (by kernel_rfl) fun a hK => ?_
    refine stepN hK 26 (by kernel_rfl) fun a hK => ?_
    refine stepN hK 27 (by kernel_rfl) fun a hK => ?_
    refine stepN hK 28 (by kernel_rfl) fun a hK => ?_
    refine stepP hK 29 (.bool false) (by kernel_rfl) (by kernel_rfl) fun a hK => ?_
    refine stepM hK 30 29 (by kernel_rfl) (.inl rfl) rfl fun a hK => ?_
    refine stepN hK 31 (by kernel_rfl) fun a hK => ?_
    refine stepN hK 32 (by kernel_rfl) fun a hK => ?_
    refine stepN hK 33 (by kernel_rfl) fun a hK => ?_
    refine stepN hK 34 (by kernel_rfl) fun a hK => ?_
    refine stepN hK 35 (by kernel_rfl) fun a hK => ?_
    refine stepN hK 36 (by kernel_rfl) fun a hK => ?_
    refine stepP hK 37 (.bool false) (by kernel_rfl) (by kernel_rfl) fun a hK => ?_
    refine stepM hK 4 37 (by kernel_rfl) (.inr rfl) rfl fun a hK => ?_
    refine region_done hK [(4, .bool false), (5, pA b4 0), (13, .bool false), (2, pA b1 0), (0, vE e)] ⟨rfl, rfl, rfl, rfl, rfl, trivial⟩ fun a hK => ?_
    refine wp_ret ?_
    exact ret_t hK rfl (u := (.bool false)) rfl (⟨(false, ()), rfl, hM.drop 2, by unfold mayE; rw [ex_in e, h5]; rfl⟩)
set_option maxRecDepth 100000 in
set_option maxHeartbeats 4000000 in
theorem step_mayS (w0 : World) (hTab : TabOk w0) : StepS w0 (fun _ : Unit => []) okU mayS 32 #[] := by
 refine ⟨en_ast_stmtMayBe, ?_, fun _ _ _ _ _ _ => trivial⟩
 intro e d k s F w1 hM0 he hs hd hok
 obtain ⟨hnm, hlc, -⟩ := sm_sh hs
 replace hM0 : Mem w0 w1 F := hM0
 refine calls_KM (args := [vS e, vN d]) (n := 61) (env := [(0, vS e), (1, vN d)]) Tryd.func32 rfl rfl rfl ⟨rfl, rfl, trivial⟩ hM0 fun a w hK hM => ?_
 refine wp_seq ?_
 refine region_go (lst := [0, 1]) (by kernel_rfl) ?_
 refine stepAlloc hK hM 2 30 (cS e) (fun b => pA b 0) (by kernel_rfl) (by kernel_rfl) fun b1 a w hK hM => ?_
 refine stepP hK 4 (.bool false) (by kernel_rfl) (by kernel_rfl) fun a hK => ?_
 refine region_done hK [(4, .bool false), (2, pA b1 0), (0, vS e)] ⟨rfl, rfl, rfl, trivial⟩ fun a hK => ?_
 refine wp_seq ?_
 refine wp_seq ?_
 refine region_go (lst := [0, 1, 2, 3]) (by kernel_rfl) ?_
 refine stepP hK 6 (pA b1 0) (by kernel_rfl) (by kernel_rfl) fun a hK => ?_
 refine stepLoad hK 7 (.int .i64 e.kind) (by kernel_rfl) rfl rfl ((hM.row 0 rfl).cells 0 1) (by kernel_rfl) fun a hK => ?_
 rcases Bool.eq_false_or_eq_true (ptIs e.kind) with h2 | h2
 ·refine stepRet hK hM 8 #[.int .i64 e.kind] (.bool true) (by kernel_rfl) (run_callE en_ast_isKind rfl rfl (by kernel_rfl)) (ret_eq (ast_isKind e.kind _) (congrArg Value.bool h2)) fun a w hK hM => ?_
  refine stepP hK 9 (.bool false) (by kernel_rfl) (by kernel_rfl) fun a hK => ?_
  refine region_done hK [(9, .bool false), (4, .bool false), (2, pA b1 0), (0, vS e)] ⟨rfl, rfl, rfl, rfl, trivial⟩ fun a hK => ?_
  refine wp_cond_false (hK.get rfl) ?_
  refine wp_skip ?_
  refine wp_seq ?_
  have hk := h2; have hk2 : 1 ≤ e.kind ∧ e.kind ≤ 11 := by have := hk; unfold ptIs at this; simpa using this
  refine region_go (lst := [0, 1, 2, 3, 4, 5]) (by kernel_rfl) ?_
  refine stepP hK 10 (pA b1 0) (by kernel_rfl) (by kernel_rfl) fun a hK => ?_
  refine stepLoad hK 11 (.int .i64 e.kind) (by kernel_rfl) rfl rfl ((hM.row 0 rfl).cells 0 1) (by kernel_rfl) fun a hK => ?_
  refine stepP hK 12 (.pointer (some ((⟨1, 0, none⟩ : Addr).add (e.kind.toNat * 6)))) (by kernel_rfl) (run_ixArr (e := 92) (k := e.kind.toNat) (s := 6) (n := 12) rfl rfl rfl (by omega) (by kernel_rfl) (by kernel_rfl) (by omega)) fun a hK => ?_
  refine stepLoad hK 13 (.agg #[.bool (ptNm e.kind), .bool (ptLc e.kind), .bool (ptOr e.kind), .int .i64 (ptEx e.kind), .bool (ptTh e.kind), .bool (ptEl e.kind)]) (by kernel_rfl) rfl rfl (((hTab.stmts hk).on hM.below)) (by kernel_rfl) fun a hK => ?_
  refine stepAlloc hK hM 5 92 [.bool false, .bool false, .bool false, .int .i64 0, .bool false, .bool false] (fun b => pA b 0) (by kernel_rfl) (by kernel_rfl) fun b3 a w hK hM => ?_
  refine stepStore hK hM 0 [.bool (ptNm e.kind), .bool (ptLc e.kind), .bool (ptOr e.kind), .int .i64 (ptEx e.kind), .bool (ptTh e.kind), .bool (ptEl e.kind)] (by kernel_rfl) rfl rfl rfl rfl (by kernel_rfl) fun w hM => ?_
  replace hM := hM.to (.row b3 92 [.bool (ptNm e.kind), .bool (ptLc e.kind), .bool (ptOr e.kind), .int .i64 (ptEx e.kind), .bool (ptTh e.kind), .bool (ptEl e.kind)] :: .row b1 30 (cS e) :: F) (by kernel_rfl)
  refine region_done hK [(5, pA b3 0), (9, .bool false), (4, .bool false), (2, pA b1 0), (0, vS e)] ⟨rfl, rfl, rfl, rfl, rfl, trivial⟩ fun a hK => ?_
  refine wp_seq ?_
  refine region_go (lst := [0, 1, 2, 3, 4, 5, 6, 7, 8, 9, 10, 11, 12, 13, 14, 15, 16, 17, 18, 19, 20, 21, 22, 23, 24, 25, 26, 27, 28, 29, 30, 31, 32, 33, 34, 35, 36, 37, 38, 39, 40, 41, 42, 43, 44, 45, 46, 47]) (by kernel_rfl) ?_
  refine stepP hK 14 (pA b1 1) (by kernel_rfl) (by kernel_rfl) fun a hK => ?_
  refine stepLoad hK 15 (Str e.nm) (by kernel_rfl) rfl rfl ((hM.row 1 rfl).cells 1 1) (by kernel_rfl) fun a hK => ?_
  refine stepP hK 16 (pA b3 0) (by kernel_rfl) (by kernel_rfl) fun a hK => ?_
  refine stepLoad hK 17 (.bool (ptNm e.kind)) (by kernel_rfl) rfl rfl ((hM.row 0 rfl).cells 0 1) (by kernel_rfl) fun a hK => ?_
  rcases Bool.eq_false_or_eq_true (nameOk e.nm (ptNm e.kind)) with h4 | h4
  ·refine stepRet hK hM 18 #[Str e.nm, .bool (ptNm e.kind)] (.bool true) (by kernel_rfl) (run_callE en_ast_nameMayBe rfl rfl (by kernel_rfl)) (ret_eq (ast_nameMayBe e.nm (ptNm e.kind) _ (by omega)) (congrArg Value.bool h4)) fun a w hK hM => ?_
   refine stepM hK 19 18 (by kernel_rfl) (.inl rfl) rfl fun a hK => ?_
   refine stepP hK 20 (pA b1 2) (by kernel_rfl) (by kernel_rfl) fun a hK => ?_
   refine stepLoad hK 21 (Str e.loc) (by kernel_rfl) rfl rfl ((hM.row 1 rfl).cells 2 1) (by kernel_rfl) fun a hK => ?_
   refine stepP hK 22 (pA b3 1) (by kernel_rfl) (by kernel_rfl) fun a hK => ?_
   refine stepLoad hK 23 (.bool (ptLc e.kind)) (by kernel_rfl) rfl rfl ((hM.row 0 rfl).cells 1 1) (by kernel_rfl) fun a hK => ?_
   rcases Bool.eq_false_or_eq_true (nameOk e.loc (ptLc e.kind)) with h5 | h5
   ·refine stepRet hK hM 24 #[Str e.loc, .bool (ptLc e.kind)] (.bool true) (by kernel_rfl) (run_callE en_ast_nameMayBe rfl rfl (by kernel_rfl)) (ret_eq (ast_nameMayBe e.loc (ptLc e.kind) _ (by omega)) (congrArg Value.bool h5)) fun a w hK hM => ?_
    refine stepP hK 25 (.bool true) (by kernel_rfl) (by kernel_rfl) fun a hK => ?_
    refine stepM hK 26 25 (by kernel_rfl) (.inl rfl) rfl fun a hK => ?_
    refine stepP hK 27 (pA b1 3) (by kernel_rfl) (by kernel_rfl) fun a hK => ?_
    refine stepLoad hK 28 (.int .i64 e.ord) (by kernel_rfl) rfl rfl ((hM.row 1 rfl).cells 3 1) (by kernel_rfl) fun a hK => ?_
    refine stepP hK 29 (pA b3 2) (by kernel_rfl) (by kernel_rfl) fun a hK => ?_
    refine stepLoad hK 30 (.bool (ptOr e.kind)) (by kernel_rfl) rfl rfl ((hM.row 0 rfl).cells 2 1) (by kernel_rfl) fun a hK => ?_
    rcases Bool.eq_false_or_eq_true (ordOk e.ord (ptOr e.kind)) with h6 | h6
    ·refine stepRet hK hM 31 #[.int .i64 e.ord, .bool (ptOr e.kind)] (.bool true) (by kernel_rfl) (run_callE en_ast_orderMayBe rfl rfl (by kernel_rfl)) (ret_eq (ast_orderMayBe e.ord (ptOr e.kind) _) (congrArg Value.bool h6)) fun a w hK hM => ?_
     refine stepP hK 32 (.bool true) (by kernel_rfl) (by kernel_rfl) fun a hK => ?_
     refine stepM hK 33 32 (by kernel_rfl) (.inl rfl) rfl fun a hK => ?_
     refine stepP hK 34 (pA b1 4) (by kernel_rfl) (by kernel_rfl) fun a hK => ?_
     refine stepLoad hK 35 (.slice e.A1 e.es.length e.c1) (by kernel_rfl) rfl rfl ((hM.row 1 rfl).cells 4 1) (by kernel_rfl) fun a hK => ?_
     refine stepP hK 36 (.int .i64 ((e.es.length : Nat) : Int)) (by kernel_rfl) (by kernel_rfl) fun a hK => ?_
     refine stepP hK 37 (pA b3 3) (by kernel_rfl) (by kernel_rfl) fun a hK => ?_
     refine stepLoad hK 38 (.int .i64 (ptEx e.kind)) (by kernel_rfl) rfl rfl ((hM.row 0 rfl).cells 3 1) (by kernel_rfl) fun a hK => ?_
     by_cases h7 : (((e.es.length : Nat) : Int) : Int) = (ptEx e.kind)
     ·refine stepP hK 39 (.bool true) (by kernel_rfl) (okBool (b := (decide ((((e.es.length : Nat) : Int) : Int) = (ptEx e.kind)))) (by kernel_rfl) (decide_eq_true h7)) fun a hK => ?_
      refine stepP hK 40 (.bool true) (by kernel_rfl) (by kernel_rfl) fun a hK => ?_
      refine stepM hK 41 40 (by kernel_rfl) (.inl rfl) rfl fun a hK => ?_
      refine stepP hK 42 (pA b3 4) (by kernel_rfl) (by kernel_rfl) fun a hK => ?_
      refine stepLoad hK 43 (.bool (ptTh e.kind)) (by kernel_rfl) rfl rfl ((hM.row 0 rfl).cells 4 1) (by kernel_rfl) fun a hK => ?_
      rcases Bool.eq_false_or_eq_true (ptTh e.kind) with h8 | h8
      ·refine stepP hK 44 (.bool true) (by kernel_rfl) (okBool (b := (ptTh e.kind)) (by kernel_rfl) h8) fun a hK => ?_
       refine stepN hK 45 (by kernel_rfl) fun a hK => ?_
       refine stepN hK 46 (by kernel_rfl) fun a hK => ?_
       refine stepN hK 47 (by kernel_rfl) fun a hK => ?_
       refine stepN hK 48 (by kernel_rfl) fun a hK => ?_
       refine stepP hK 49 (.bool true) (by kernel_rfl) (by kernel_rfl) fun a hK => ?_
       refine stepP hK 50 (.bool true) (by kernel_rfl) (by kernel_rfl) fun a hK => ?_
       refine stepM hK 51 50 (by kernel_rfl) (.inl rfl) rfl fun a hK => ?_
       refine stepP hK 52 (pA b3 5) (by kernel_rfl) (by kernel_rfl) fun a hK => ?_
       refine stepLoad hK 53 (.bool (ptEl e.kind)) (by kernel_rfl) rfl rfl ((hM.row 0 rfl).cells 5 1) (by kernel_rfl) fun a hK => ?_
       rcases Bool.eq_false_or_eq_true (ptEl e.kind) with h9 | h9
       ·refine stepP hK 54 (.bool true) (by kernel_rfl) (okBool (b := (ptEl e.kind)) (by kernel_rfl) h9) fun a hK => ?_
        refine stepN hK 55 (by kernel_rfl) fun a hK => ?_
        refine stepN hK 56 (by kernel_rfl) fun a hK => ?_
        refine stepN hK 57 (by kernel_rfl) fun a hK => ?_
        refine stepN hK 58 (by kernel_rfl) fun a hK => ?_
        refine stepP hK 59 (.bool true) (by kernel_rfl) (by kernel_rfl) fun a hK => ?_
        refine stepP hK 60 (.bool true) (by kernel_rfl) (by kernel_rfl) fun a hK => ?_
        refine stepM hK 4 60 (by kernel_rfl) (.inr rfl) rfl fun a hK => ?_
        refine region_done hK [(4, .bool true), (5, pA b3 0), (9, .bool false), (2, pA b1 0), (0, vS e)] ⟨rfl, rfl, rfl, rfl, rfl, trivial⟩ fun a hK => ?_
        refine wp_ret ?_
        exact ret_t hK rfl (u := (.bool true)) rfl (⟨(true, ()), rfl, hM.drop 2, by unfold mayS; rw [sm_in h2, h4, h5, h6, (decide_eq_true h7), h8, h9]; rfl⟩)
       ·refine stepP hK 54 (.bool false) (by kernel_rfl) (okBool (b := (ptEl e.kind)) (by kernel_rfl) h9) fun a hK => ?_
        refine stepP hK 55 (pA b1 6) (by kernel_rfl) (by kernel_rfl) fun a hK => ?_
        refine stepLoad hK 56 (.slice e.A3 e.el.length e.c3) (by kernel_rfl) rfl rfl ((hM.row 1 rfl).cells 6 1) (by kernel_rfl) fun a hK => ?_
        refine stepP hK 57 (.int .i64 ((e.el.length : Nat) : Int)) (by kernel_rfl) (by kernel_rfl) fun a hK => ?_
        by_cases h10 : (((e.el.length : Nat) : Int) : Int) = 0
        ·refine stepP hK 58 (.bool true) (by kernel_rfl) (okBool (b := (decide ((((e.el.length : Nat) : Int) : Int) = 0))) (by kernel_rfl) (decide_eq_true h10)) fun a hK => ?_
         refine stepP hK 59 (.bool true) (by kernel_rfl) (by kernel_rfl) fun a hK => ?_
         refine stepP hK 60 (.bool true) (by kernel_rfl) (by kernel_rfl) fun a hK => ?_
         refine stepM hK 4 60 (by kernel_rfl) (.inr rfl) rfl fun a hK => ?_
         refine region_done hK [(4, .bool true), (5, pA b3 0), (9, .bool false), (2, pA b1 0), (0, vS e)] ⟨rfl, rfl, rfl, rfl, rfl, trivial⟩ fun a hK => ?_
         refine wp_ret ?_
         exact ret_t hK rfl (u := (.bool true)) rfl (⟨(true, ()), rfl, hM.drop 2, by unfold mayS; rw [sm_in h2, h4, h5, h6, (decide_eq_true h7), h8, h9, (decide_eq_true h10)]; rfl⟩)
        ·refine stepP hK 58 (.bool false) (by kernel_rfl) (okBool (b := (decide ((((e.el.length : Nat) : Int) : Int) = 0))) (by kernel_rfl) (decide_eq_false h10)) fun a hK => ?_
         refine stepP hK 59 (.bool false) (by kernel_rfl) (by kernel_rfl) fun a hK => ?_
         refine stepP hK 60 (.bool false) (by kernel_rfl) (by kernel_rfl) fun a hK => ?_
         refine stepM hK 4 60 (by kernel_rfl) (.inr rfl) rfl fun a hK => ?_
         refine region_done hK [(4, .bool false), (5, pA b3 0), (9, .bool false), (2, pA b1 0), (0, vS e)] ⟨rfl, rfl, rfl, rfl, rfl, trivial⟩ fun a hK => ?_
         refine wp_ret ?_
         exact ret_t hK rfl (u := (.bool false)) rfl (⟨(false, ()), rfl, hM.drop 2, by unfold mayS; rw [sm_in h2, h4, h5, h6, (decide_eq_true h7), h8, h9, (decide_eq_false h10)]; rfl⟩)
      ·refine stepP hK 44 (.bool false) (by kernel_rfl) (okBool (b := (ptTh e.kind)) (by kernel_rfl) h8) fun a hK => ?_
       refine stepP hK 45 (pA b1 5) (by kernel_rfl) (by kernel_rfl) fun a hK => ?_
       refine stepLoad hK 46 (.slice e.A2 e.th.length e.c2) (by kernel_rfl) rfl rfl ((hM.row 1 rfl).cells 5 1) (by kernel_rfl) fun a hK => ?_
       refine stepP hK 47 (.int .i64 ((e.th.length : Nat) : Int)) (by kernel_rfl) (by kernel_rfl) fun a hK => ?_
       by_cases h11 : (((e.th.length : Nat) : Int) : Int) = 0
       ·refine stepP hK 48 (.bool true) (by kernel_rfl) (okBool (b := (decide ((((e.th.length : Nat) : Int) : Int) = 0))) (by kernel_rfl) (decide_eq_true h11)) fun a hK => ?_
        refine stepP hK 49 (.bool true) (by kernel_rfl) (by kernel_rfl) fun a hK => ?_
        refine stepP hK 50 (.bool true) (by kernel_rfl) (by kernel_rfl) fun a hK => ?_
        refine stepM hK 51 50 (by kernel_rfl) (.inl rfl) rfl fun a hK => ?_
        refine stepP hK 52 (pA b3 5) (by kernel_rfl) (by kernel_rfl) fun a hK => ?_
        refine stepLoad hK 53 (.bool (ptEl e.kind)) (by kernel_rfl) rfl rfl ((hM.row 0 rfl).cells 5 1) (by kernel_rfl) fun a hK => ?_
        rcases Bool.eq_false_or_eq_true (ptEl e.kind) with h12 | h12
        ·refine stepP hK 54 (.bool true) (by kernel_rfl) (okBool (b := (ptEl e.kind)) (by kernel_rfl) h12) fun a hK => ?_
         refine stepN hK 55 (by kernel_rfl) fun a hK => ?_
         refine stepN hK 56 (by kernel_rfl) fun a hK => ?_
         refine stepN hK 57 (by kernel_rfl) fun a hK => ?_
         refine stepN hK 58 (by kernel_rfl) fun a hK => ?_
         refine stepP hK 59 (.bool true) (by kernel_rfl) (by kernel_rfl) fun a hK => ?_
         refine stepP hK 60 (.bool true) (by kernel_rfl) (by kernel_rfl) fun a hK => ?_
         refine stepM hK 4 60 (by kernel_rfl) (.inr rfl) rfl fun a hK => ?_
         refine region_done hK [(4, .bool true), (5, pA b3 0), (9, .bool false), (2, pA b1 0), (0, vS e)] ⟨rfl, rfl, rfl, rfl, rfl, trivial⟩ fun a hK => ?_
         refine wp_ret ?_
         exact ret_t hK rfl (u := (.bool true)) rfl (⟨(true, ()), rfl, hM.drop 2, by unfold mayS; rw [sm_in h2, h4, h5, h6, (decide_eq_true h7), h8, (decide_eq_true h11), h12]; rfl⟩)
        ·refine stepP hK 54 (.bool false) (by kernel_rfl) (okBool (b := (ptEl e.kind)) (by kernel_rfl) h12) fun a hK => ?_
         refine stepP hK 55 (pA b1 6) (by kernel_rfl) (by kernel_rfl) fun a hK => ?_
         refine stepLoad hK 56 (.slice e.A3 e.el.length e.c3) (by kernel_rfl) rfl rfl ((hM.row 1 rfl).cells 6 1) (by kernel_rfl) fun a hK => ?_
         refine stepP hK 57 (.int .i64 ((e.el.length : Nat) : Int)) (by kernel_rfl) (by kernel_rfl) fun a hK => ?_
         by_cases h13 : (((e.el.length : Nat) : Int) : Int) = 0
         ·refine stepP hK 58 (.bool true) (by kernel_rfl) (okBool (b := (decide ((((e.el.length : Nat) : Int) : Int) = 0))) (by kernel_rfl) (decide_eq_true h13)) fun a hK => ?_
          refine stepP hK 59 (.bool true) (by kernel_rfl) (by kernel_rfl) fun a hK => ?_
          refine stepP hK 60 (.bool true) (by kernel_rfl) (by kernel_rfl) fun a hK => ?_
          refine stepM hK 4 60 (by kernel_rfl) (.inr rfl) rfl fun a hK => ?_
          refine region_done hK [(4, .bool true), (5, pA b3 0), (9, .bool false), (2, pA b1 0), (0, vS e)] ⟨rfl, rfl, rfl, rfl, rfl, trivial⟩ fun a hK => ?_
          refine wp_ret ?_
          exact ret_t hK rfl (u := (.bool true)) rfl (⟨(true, ()), rfl, hM.drop 2, by unfold mayS; rw [sm_in h2, h4, h5, h6, (decide_eq_true h7), h8, (decide_eq_true h11), h12, (decide_eq_true h13)]; rfl⟩)
         ·refine stepP hK 58 (.bool false) (by kernel_rfl) (okBool (b := (decide ((((e.el.length : Nat) : Int) : Int) = 0))) (by kernel_rfl) (decide_eq_false h13)) fun a hK => ?_
          refine stepP hK 59 (.bool false) (by kernel_rfl) (by kernel_rfl) fun a hK => ?_
          refine stepP hK 60 (.bool false) (by kernel_rfl) (by kernel_rfl) fun a hK => ?_
          refine stepM hK 4 60 (by kernel_rfl) (.inr rfl) rfl fun a hK => ?_
          refine region_done hK [(4, .bool false), (5, pA b3 0), (9, .bool false), (2, pA b1 0), (0, vS e)] ⟨rfl, rfl, rfl, rfl, rfl, trivial⟩ fun a hK => ?_
          refine wp_ret ?_
          exact ret_t hK rfl (u := (.bool false)) rfl (⟨(false, ()), rfl, hM.drop 2, by unfold mayS; rw [sm_in h2, h4, h5, h6, (decide_eq_true h7), h8, (decide_eq_true h11), h12, (decide_eq_false h13)]; rfl⟩)
       ·refine stepP hK 48 (.bool false) (by kernel_rfl) (okBool (b := (decide ((((e.th.length : Nat) : Int) : Int) = 0))) (by kernel_rfl) (decide_eq_false h11)) fun a hK => ?_
        refine stepP hK 49 (.bool false) (by kernel_rfl) (by kernel_rfl) fun a hK => ?_
        refine stepP hK 50 (.bool false) (by kernel_rfl) (by kernel_rfl) fun a hK => ?_
        refine stepM hK 51 50 (by kernel_rfl) (.inl rfl) rfl fun a hK => ?_
        refine stepN hK 52 (by kernel_rfl) fun a hK => ?_
        refine stepN hK 53 (by kernel_rfl) fun a hK => ?_
        refine stepN hK 54 (by kernel_rfl) fun a hK => ?_
        refine stepN hK 55 (by kernel_rfl) fun a hK => ?_
        refine stepN hK 56 (by kernel_rfl) fun a hK => ?_
        refine stepN hK 57 (by kernel_rfl) fun a hK => ?_
        refine stepN hK 58 (by kernel_rfl) fun a hK => ?_
        refine stepN hK 59 (by kernel_rfl) fun a hK => ?_
        refine stepP hK 60 (.bool false) (by kernel_rfl) (by kernel_rfl) fun a hK => ?_
        refine stepM hK 4 60 (by kernel_rfl) (.inr rfl) rfl fun a hK => ?_
        refine region_done hK [(4, .bool false), (5, pA b3 0), (9, .bool false), (2, pA b1 0), (0, vS e)] ⟨rfl, rfl, rfl, rfl, rfl, trivial⟩ fun a hK => ?_
        refine wp_ret ?_
        exact ret_t hK rfl (u := (.bool false)) rfl (⟨(false, ()), rfl, hM.drop 2, by unfold mayS; rw [sm_in h2, h4, h5, h6, (decide_eq_true h7), h8, (decide_eq_false h11)]; rfl⟩)
     ·refine stepP hK 39 (.bool false) (by kernel_rfl) (okBool (b := (decide ((((e.es.length : Nat) : Int) : Int) = (ptEx e.kind)))) (by kernel_rfl) (decide_eq_false h7)) fun a hK => ?_
      refine stepP hK 40 (.bool false) (by kernel_rfl) (by kernel_rfl) fun a hK => ?_
      refine stepM hK 41 40 (by kernel_rfl) (.inl rfl) rfl fun a hK => ?_
      refine stepN hK 42 (by kernel_rfl) fun a hK => ?_
      refine stepN hK 43 (by kernel_rfl) fun a hK => ?_
      refine stepN hK 44 (by kernel_rfl) fun a hK => ?_
      refine stepN hK 45 (by kernel_rfl) fun a hK => ?_
      refine stepN hK 46 (by kernel_rfl) fun a hK => ?_
      refine stepN hK 47 (by kernel_rfl) fun a hK => ?_
      refine stepN hK 48 (by kernel_rfl) fun a hK => ?_
      refine stepN hK 49 (by kernel_rfl) fun a hK => ?_
      refine stepP hK 50 (.bool false) (by kernel_rfl) (by kernel_rfl) fun a hK => ?_
      refine stepM hK 51 50 (by kernel_rfl) (.inl rfl) rfl fun a hK => ?_
      refine stepN hK 52 (by kernel_rfl) fun a hK => ?_
      refine stepN hK 53 (by kernel_rfl) fun a hK => ?_
      refine stepN hK 54 (by kernel_rfl) fun a hK => ?_
      refine stepN hK 55 (by kernel_rfl) fun a hK => ?_
      refine stepN hK 56 (by kernel_rfl) fun a hK => ?_
      refine stepN hK 57 (by kernel_rfl) fun a hK => ?_
      refine stepN hK 58 (by kernel_rfl) fun a hK => ?_
      refine stepN hK 59 (by kernel_rfl) fun a hK => ?_
      refine stepP hK 60 (.bool false) (by kernel_rfl) (by kernel_rfl) fun a hK => ?_
      refine stepM hK 4 60 (by kernel_rfl) (.inr rfl) rfl fun a hK => ?_
      refine region_done hK [(4, .bool false), (5, pA b3 0), (9, .bool false), (2, pA b1 0), (0, vS e)] ⟨rfl, rfl, rfl, rfl, rfl, trivial⟩ fun a hK => ?_
      refine wp_ret ?_
      exact ret_t hK rfl (u := (.bool false)) rfl (⟨(false, ()), rfl, hM.drop 2, by unfold mayS; rw [sm_in h2, h4, h5, h6, (decide_eq_false h7)]; rfl⟩)
    ·refine stepRet hK hM 31 #[.int .i64 e.ord, .bool (ptOr e.kind)] (.bool false) (by kernel_rfl) (run_callE en_ast_orderMayBe rfl rfl (by kernel_rfl)) (ret_eq (ast_orderMayBe e.ord (ptOr e.kind) _) (congrArg Value.bool h6)) fun a w hK hM => ?_
     refine stepP hK 32 (.bool false) (by kernel_rfl) (by kernel_rfl) fun a hK => ?_
     refine stepM hK 33 32 (by kernel_rfl) (.inl rfl) rfl fun a hK => ?_
     refine stepN hK 34 (by kernel_rfl) fun a hK => ?_
     refine stepN hK 35 (by kernel_rfl) fun a hK => ?_
     refine stepN hK 36 (by kernel_rfl) fun a hK => ?_
     refine stepN hK 37 (by kernel_rfl) fun a hK => ?_
     refine stepN hK 38 (by kernel_rfl) fun a hK => ?_
     refine stepN hK 39 (by kernel_rfl) fun a hK => ?_
     refine stepP hK 40 (.bool false) (by kernel_rfl) (by kernel_rfl) fun a hK => ?_
     refine stepM hK 41 40 (by kernel_rfl) (.inl rfl) rfl fun a hK => ?_
     refine stepN hK 42 (by kernel_rfl) fun a hK => ?_
     refine stepN hK 43 (by kernel_rfl) fun a hK => ?_
     refine stepN hK 44 (by kernel_rfl) fun a hK => ?_
     refine stepN hK 45 (by kernel_rfl) fun a hK => ?_
     refine stepN hK 46 (by kernel_rfl) fun a hK => ?_
     refine stepN hK 47 (by kernel_rfl) fun a hK => ?_
     refine stepN hK 48 (by kernel_rfl) fun a hK => ?_
     refine stepN hK 49 (by kernel_rfl) fun a hK => ?_
     refine stepP hK 50 (.bool false) (by kernel_rfl) (by kernel_rfl) fun a hK => ?_
     refine stepM hK 51 50 (by kernel_rfl) (.inl rfl) rfl fun a hK => ?_
     refine stepN hK 52 (by kernel_rfl) fun a hK => ?_
     refine stepN hK 53 (by kernel_rfl) fun a hK => ?_
     refine stepN hK 54 (by kernel_rfl) fun a hK => ?_
     refine stepN hK 55 (by kernel_rfl) fun a hK => ?_
     refine stepN hK 56 (by kernel_rfl) fun a hK => ?_
     refine stepN hK 57 (by kernel_rfl) fun a hK => ?_
     refine stepN hK 58 (by kernel_rfl) fun a hK => ?_
     refine stepN hK 59 (by kernel_rfl) fun a hK => ?_
     refine stepP hK 60 (.bool false) (by kernel_rfl) (by kernel_rfl) fun a hK => ?_
     refine stepM hK 4 60 (by kernel_rfl) (.inr rfl) rfl fun a hK => ?_
     refine region_done hK [(4, .bool false), (5, pA b3 0), (9, .bool false), (2, pA b1 0), (0, vS e)] ⟨rfl, rfl, rfl, rfl, rfl, trivial⟩ fun a hK => ?_
     refine wp_ret ?_
     exact ret_t hK rfl (u := (.bool false)) rfl (⟨(false, ()), rfl, hM.drop 2, by unfold mayS; rw [sm_in h2, h4, h5, h6]; rfl⟩)
   ·refine stepRet hK hM 24 #[Str e.loc, .bool (ptLc e.kind)] (.bool false) (by kernel_rfl) (run_callE en_ast_nameMayBe rfl rfl (by kernel_rfl)) (ret_eq (ast_nameMayBe e.loc (ptLc e.kind) _ (by omega)) (congrArg Value.bool h5)) fun a w hK hM => ?_
    refine stepP hK 25 (.bool false) (by kernel_rfl) (by kernel_rfl) fun a hK => ?_
    refine stepM hK 26 25 (by kernel_rfl) (.inl rfl) rfl fun a hK => ?_
    refine stepN hK 27 (by kernel_rfl) fun a hK => ?_
    refine stepN hK 28 (by kernel_rfl) fun a hK => ?_
    refine stepN hK 29 (by kernel_rfl) fun a hK => ?_
    refine stepN hK 30 (by kernel_rfl) fun a hK => ?_
    refine stepN hK 31 (by kernel_rfl) fun a hK => ?_
    refine stepP hK 32 (.bool false) (by kernel_rfl) (by kernel_rfl) fun a hK => ?_
    refine stepM hK 33 32 (by kernel_rfl) (.inl rfl) rfl fun a hK => ?_
    refine stepN hK 34 (by kernel_rfl) fun a hK => ?_
    refine stepN hK 35 (by kernel_rfl) fun a hK => ?_
    refine stepN hK 36 (by kernel_rfl) fun a hK => ?_
    refine stepN hK 37 (by kernel_rfl) fun a hK => ?_
    refine stepN hK 38 (by kernel_rfl) fun a hK => ?_
    refine stepN hK 39 (by kernel_rfl) fun a hK => ?_
    refine stepP hK 40 (.bool false) (by kernel_rfl) (by kernel_rfl) fun a hK => ?_
    refine stepM hK 41 40 (by kernel_rfl) (.inl rfl) rfl fun a hK => ?_
    refine stepN hK 42 (by kernel_rfl) fun a hK => ?_
    refine stepN hK 43 (by kernel_rfl) fun a hK => ?_
    refine stepN hK 44 (by kernel_rfl) fun a hK => ?_
    refine stepN hK 45 (by kernel_rfl) fun a hK => ?_
    refine stepN hK 46 (by kernel_rfl) fun a hK => ?_
    refine stepN hK 47 (by kernel_rfl) fun a hK => ?_
    refine stepN hK 48 (by kernel_rfl) fun a hK => ?_
    refine stepN hK 49 (by kernel_rfl) fun a hK => ?_
    refine stepP hK 50 (.bool false) (by kernel_rfl) (by kernel_rfl) fun a hK => ?_
    refine stepM hK 51 50 (by kernel_rfl) (.inl rfl) rfl fun a hK => ?_
    refine stepN hK 52 (by kernel_rfl) fun a hK => ?_
    refine stepN hK 53 (by kernel_rfl) fun a hK => ?_
    refine stepN hK 54 (by kernel_rfl) fun a hK => ?_
    refine stepN hK 55 (by kernel_rfl) fun a hK => ?_
    refine stepN hK 56 (by kernel_rfl) fun a hK => ?_
    refine stepN hK 57 (by kernel_rfl) fun a hK => ?_
    refine stepN hK 58 (by kernel_rfl) fun a hK => ?_
    refine stepN hK 59 (by kernel_rfl) fun a hK => ?_
    refine stepP hK 60 (.bool false) (by kernel_rfl) (by kernel_rfl) fun a hK => ?_
    refine stepM hK 4 60 (by kernel_rfl) (.inr rfl) rfl fun a hK => ?_
    refine region_done hK [(4, .bool false), (5, pA b3 0), (9, .bool false), (2, pA b1 0), (0, vS e)] ⟨rfl, rfl, rfl, rfl, rfl, trivial⟩ fun a hK => ?_
    refine wp_ret ?_
    exact ret_t hK rfl (u := (.bool false)) rfl (⟨(false, ()), rfl, hM.drop 2, by unfold mayS; rw [sm_in h2, h4, h5]; rfl⟩)
  ·refine stepRet hK hM 18 #[Str e.nm, .bool (ptNm e.kind)] (.bool false) (by kernel_rfl) (run_callE en_ast_nameMayBe rfl rfl (by kernel_rfl)) (ret_eq (ast_nameMayBe e.nm (ptNm e.kind) _ (by omega)) (congrArg Value.bool h4)) fun a w hK hM => ?_
   refine stepM hK 19 18 (by kernel_rfl) (.inl rfl) rfl fun a hK => ?_
   refine stepN hK 20 (by kernel_rfl) fun a hK => ?_
   refine stepN hK 21 (by kernel_rfl) fun a hK => ?_
   refine stepN hK 22 (by kernel_rfl) fun a hK => ?_
   refine stepN hK 23 (by kernel_rfl) fun a hK => ?_
   refine stepN hK 24 (by kernel_rfl) fun a hK => ?_
   refine stepP hK 25 (.bool false) (by kernel_rfl) (by kernel_rfl) fun a hK => ?_
   refine stepM hK 26 25 (by kernel_rfl) (.inl rfl) rfl fun a hK => ?_
   refine stepN hK 27 (by kernel_rfl) fun a hK => ?_
   refine stepN hK 28 (by kernel_rfl) fun a hK => ?_
   refine stepN hK 29 (by kernel_rfl) fun a hK => ?_
   refine stepN hK 30 (by kernel_rfl) fun a hK => ?_
   refine stepN hK 31 (by kernel_rfl) fun a hK => ?_
   refine stepP hK 32 (.bool false) (by kernel_rfl) (by kernel_rfl) fun a hK => ?_
   refine stepM hK 33 32 (by kernel_rfl) (.inl rfl) rfl fun a hK => ?_
   refine stepN hK 34 (by kernel_rfl) fun a hK => ?_
   refine stepN hK 35 (by kernel_rfl) fun a hK => ?_
   refine stepN hK 36 (by kernel_rfl) fun a hK => ?_
   refine stepN hK 37 (by kernel_rfl) fun a hK => ?_
   refine stepN hK 38 (by kernel_rfl) fun a hK => ?_
   refine stepN hK 39 (by kernel_rfl) fun a hK => ?_
   refine stepP hK 40 (.bool false) (by kernel_rfl) (by kernel_rfl) fun a hK => ?_
   refine stepM hK 41 40 (by kernel_rfl) (.inl rfl) rfl fun a hK => ?_
   refine stepN hK 42 (by kernel_rfl) fun a hK => ?_
   refine stepN hK 43 (by kernel_rfl) fun a hK => ?_
   refine stepN hK 44 (by kernel_rfl) fun a hK => ?_
   refine stepN hK 45 (by kernel_rfl) fun a hK => ?_
   refine stepN hK 46 (by kernel_rfl) fun a hK => ?_
   refine stepN hK 47 (by kernel_rfl) fun a hK => ?_
   refine stepN hK 48 (by kernel_rfl) fun a hK => ?_
   refine stepN hK 49 (by kernel_rfl) fun a hK => ?_
   refine stepP hK 50 (.bool false) (by kernel_rfl) (by kernel_rfl) fun a hK => ?_
   refine stepM hK 51 50 (by kernel_rfl) (.inl rfl) rfl fun a hK => ?_
   refine stepN hK 52 (by kernel_rfl) fun a hK => ?_
   refine stepN hK 53 (by kernel_rfl) fun a hK => ?_
   refine stepN hK 54 (by kernel_rfl) fun a hK => ?_
   refine stepN hK 55 (by kernel_rfl) fun a hK => ?_
   refine stepN hK 56 (by kernel_rfl) fun a hK => ?_
   refine stepN hK 57 (by kernel_rfl) fun a hK => ?_
   refine stepN hK 58 (by kernel_rfl) fun a hK => ?_
   refine stepN hK 59 (by kernel_rfl) fun a hK => ?_
   refine stepP hK 60 (.bool false) (by kernel_rfl) (by kernel_rfl) fun a hK => ?_
   refine stepM hK 4 60 (by kernel_rfl) (.inr rfl) rfl fun a hK => ?_
   refine region_done hK [(4, .bool false), (5, pA b3 0), (9, .bool false), (2, pA b1 0), (0, vS e)] ⟨rfl, rfl, rfl, rfl, rfl, trivial⟩ fun a hK => ?_
   refine wp_ret ?_
   exact ret_t hK rfl (u := (.bool false)) rfl (⟨(false, ()), rfl, hM.drop 2, by unfold mayS; rw [sm_in h2, h4]; rfl⟩)
 ·refine stepRet hK hM 8 #[.int .i64 e.kind] (.bool false) (by kernel_rfl) (run_callE en_ast_isKind rfl rfl (by kernel_rfl)) (ret_eq (ast_isKind e.kind _) (congrArg Value.bool h2)) fun a w hK hM => ?_
  refine stepP hK 9 (.bool true) (by kernel_rfl) (by kernel_rfl) fun a hK => ?_
  refine region_done hK [(9, .bool true), (4, .bool false), (2, pA b1 0), (0, vS e)] ⟨rfl, rfl, rfl, rfl, trivial⟩ fun a hK => ?_
  refine wp_cond_true (hK.get rfl) ?_
  refine wp_seq ?_
  refine region_go (lst := [0]) (by kernel_rfl) ?_
  refine stepP hK 4 (.bool false) (by kernel_rfl) (by kernel_rfl) fun a hK => ?_
  refine region_done hK [(4, .bool false), (9, .bool true), (2, pA b1 0), (0, vS e)] ⟨rfl, rfl, rfl, rfl, trivial⟩ fun a hK => ?_
  refine wp_ret ?_
  exact ret_t hK rfl (u := (.bool false)) rfl (⟨(false, ()), rfl, hM.drop 1, by unfold mayS; rw [sm_out h2]; rfl⟩)
set_option maxRecDepth 100000 in
set_option maxHeartbeats 4000000 in
theorem ast_declsMayBe (p : Pg) (w0 : World) (hp : PgAt w0 p) (hsh : pgSh p = true) : Calls Tryd.prog 30 #[.slice p.A1 p.ds.length p.c1] w0 (Ret w0 (.bool (dcsOk p.ds))) := by
 have hpl := hp.len
 obtain ⟨hshD, hshT⟩ := pg_sh hsh
 refine calls_K (args := [.slice p.A1 p.ds.length p.c1]) (n := 21) (env := [(0, .slice p.A1 p.ds.length p.c1)]) Tryd.func30 rfl rfl rfl ⟨rfl, trivial⟩ fun a w hK hM => ?_
 refine wp_seq ?_
 refine region_go (lst := [0]) (by kernel_rfl) ?_
 refine stepP hK 2 (.bool false) (by kernel_rfl) (by kernel_rfl) fun a hK => ?_
 refine region_done hK [(2, .bool false), (0, .slice p.A1 p.ds.length p.c1)] ⟨rfl, rfl, trivial⟩ fun a hK => ?_
 refine wp_seq ?_
 refine wp_seq ?_
 refine region_go (lst := [0, 1, 2]) (by kernel_rfl) ?_
 refine stepM hK 5 0 (by kernel_rfl) (.inl rfl) rfl fun a hK => ?_
 refine stepP hK 6 (.int .i64 ((p.ds.length : Nat) : Int)) (by kernel_rfl) (by kernel_rfl) fun a hK => ?_
 refine stepP hK 7 (.int .i64 0) (by kernel_rfl) (by kernel_rfl) fun a hK => ?_
 refine region_done hK [(7, .int .i64 0), (6, .int .i64 ((p.ds.length : Nat) : Int)), (5, .slice p.A1 p.ds.length p.c1), (2, .bool false), (0, .slice p.A1 p.ds.length p.c1)] ⟨rfl, rfl, rfl, rfl, rfl, trivial⟩ fun a hK => ?_
 refine wp_block ?_
 refine wp_loopX (fun x : Nat => [(6, .int .i64 ((p.ds.length : Nat) : Int)), (5, .slice p.A1 p.ds.length p.c1), (2, .bool false), (0, .slice p.A1 p.ds.length p.c1), (7, vN x)]) (fun x : Nat => []) (fun x : Nat => x ≤ p.ds.length ∧ dcsOk (p.ds.drop x) = dcsOk p.ds) (fun x : Nat => p.ds.length - x) 0 (hK.sub ⟨rfl, rfl, rfl, rfl, rfl, trivial⟩) hM ⟨Nat.zero_le _, rfl⟩ ?_
 rintro i a w hK hM hR
 replace hK : Knows a 21 [(6, .int .i64 ((p.ds.length : Nat) : Int)), (5, .slice p.A1 p.ds.length p.c1), (2, .bool false), (0, .slice p.A1 p.ds.length p.c1), (7, vN i)] := hK
 replace hM : Mem w0 w [] := hM
 replace hR : i ≤ p.ds.length ∧ dcsOk (p.ds.drop i) = dcsOk p.ds := hR
 refine wp_seq ?_
 refine region_go (lst := [0]) (by kernel_rfl) ?_
 by_cases h1 : (((i : Nat) : Int) : Int) < ((p.ds.length : Nat) : Int)
 ·refine stepP hK 8 (.bool true) (by kernel_rfl) (okBool (b := (decide ((((i : Nat) : Int) : Int) < ((p.ds.length : Nat) : Int)))) (by kernel_rfl) (decide_eq_true h1)) fun a hK => ?_
  refine region_done hK [(8, .bool true), (6, .int .i64 ((p.ds.length : Nat) : Int)), (5, .slice p.A1 p.ds.length p.c1), (2, .bool false), (0, .slice p.A1 p.ds.length p.c1), (7, vN i)] ⟨rfl, rfl, rfl, rfl, rfl, rfl, trivial⟩ fun a hK => ?_
  refine wp_seq ?_
  refine wp_cond_true (hK.get rfl) ?_
  refine wp_skip ?_
  refine wp_seq ?_
  refine wp_block ?_
  refine wp_seq ?_
  refine region_go (lst := [0, 1, 2, 3]) (by kernel_rfl) ?_
  obtain ⟨t2, ht2⟩ : ∃ t, p.ds[(i : Nat)]? = some t := ⟨_, List.getElem?_eq_getElem (by omega)⟩
  obtain ⟨⟨at2, At2, ct2⟩, et2⟩ := hp.decls _ _ ht2; have nt2 := et2
  refine stepP hK 9 (.pointer (some (at2.add (i * 3)))) (by kernel_rfl) (run_ixA (k := i) (s := 3) rfl rfl At2 rfl Tryd.underlying22 (by kernel_rfl) (by omega)) fun a hK => ?_
  refine stepLoad hK 10 (.agg #[Str t2.nm, .bool t2.plain, .int .i64 t2.val]) (by kernel_rfl) rfl rfl ((ct2.on hM.below)) (by kernel_rfl) fun a hK => ?_
  refine stepAlloc hK hM 4 45 [Str [], .bool false, .int .i64 0] (fun b => pA b 0) (by kernel_rfl) (by kernel_rfl) fun b3 a w hK hM => ?_
  refine stepStore hK hM 0 [Str t2.nm, .bool t2.plain, .int .i64 t2.val] (by kernel_rfl) rfl rfl rfl rfl (by kernel_rfl) fun w hM => ?_
  replace hM := hM.to [.row b3 45 [Str t2.nm, .bool t2.plain, .int .i64 t2.val]] (by kernel_rfl)
  refine region_done hK [(4, pA b3 0), (8, .bool true), (6, .int .i64 ((p.ds.length : Nat) : Int)), (5, .slice p.A1 p.ds.length p.c1), (2, .bool false), (0, .slice p.A1 p.ds.length p.c1), (7, vN i)] ⟨rfl, rfl, rfl, rfl, rfl, rfl, rfl, trivial⟩ fun a hK => ?_
  refine wp_seq ?_
  refine region_go (lst := [0, 1, 2, 3, 4, 5, 6, 7, 8]) (by kernel_rfl) ?_
  refine stepP hK 11 (pA b3 0) (by kernel_rfl) (by kernel_rfl) fun a hK => ?_
  refine stepLoad hK 12 (Str t2.nm) (by kernel_rfl) rfl rfl ((hM.row 0 rfl).cells 0 1) (by kernel_rfl) fun a hK => ?_
  rcases Bool.eq_false_or_eq_true (isWd t2.nm) with h4 | h4
  ·refine stepRet hK hM 13 #[Str t2.nm] (.bool true) (by kernel_rfl) (run_callE en_ast_isWord rfl rfl (by kernel_rfl)) (ret_eq (ast_isWord t2.nm _ (hshD _ (List.mem_of_getElem? ht2))) (congrArg Value.bool h4)) fun a w hK hM => ?_
   refine stepP hK 14 (.bool false) (by kernel_rfl) (by kernel_rfl) fun a hK => ?_
   refine stepM hK 15 14 (by kernel_rfl) (.inl rfl) rfl fun a hK => ?_
   refine stepP hK 16 (pA b3 2) (by kernel_rfl) (by kernel_rfl) fun a hK => ?_
   refine stepLoad hK 17 (.int .i64 t2.val) (by kernel_rfl) rfl rfl ((hM.row 0 rfl).cells 2 1) (by kernel_rfl) fun a hK => ?_
   by_cases h5 : (t2.val : Int) < 0
   ·refine stepP hK 18 (.bool true) (by kernel_rfl) (okBool (b := (decide ((t2.val : Int) < 0))) (by kernel_rfl) (decide_eq_true h5)) fun a hK => ?_
    refine stepP hK 19 (.bool true) (by kernel_rfl) (by kernel_rfl) fun a hK => ?_
    refine region_done hK [(19, .bool true), (4, pA b3 0), (8, .bool true), (6, .int .i64 ((p.ds.length : Nat) : Int)), (5, .slice p.A1 p.ds.length p.c1), (2, .bool false), (0, .slice p.A1 p.ds.length p.c1), (7, vN i)] ⟨rfl, rfl, rfl, rfl, rfl, rfl, rfl, rfl, trivial⟩ fun a hK => ?_
    refine wp_cond_true (hK.get rfl) ?_
    refine wp_seq ?_
    refine region_go (lst := [0]) (by kernel_rfl) ?_
    refine stepP hK 2 (.bool false) (by kernel_rfl) (by kernel_rfl) fun a hK => ?_
    refine region_done hK [(2, .bool false), (19, .bool true), (4, pA b3 0), (8, .bool true), (6, .int .i64 ((p.ds.length : Nat) : Int)), (5, .slice p.A1 p.ds.length p.c1), (0, .slice p.A1 p.ds.length p.c1), (7, vN i)] ⟨rfl, rfl, rfl, rfl, rfl, rfl, rfl, rfl, trivial⟩ fun a hK => ?_
    refine wp_ret ?_
    exact ret_t hK rfl (u := (.bool false)) rfl (⟨by rw [← hR.2, dcsOk_step ht2, show dcOk t2 = false by unfold dcOk; rw [h4, (decide_eq_true h5)]; rfl]; rfl, hM.below⟩)
   ·refine stepP hK 18 (.bool false) (by kernel_rfl) (okBool (b := (decide ((t2.val : Int) < 0))) (by kernel_rfl) (decide_eq_false h5)) fun a hK => ?_
    refine stepP hK 19 (.bool false) (by kernel_rfl) (by kernel_rfl) fun a hK => ?_
    refine region_done hK [(19, .bool false), (4, pA b3 0), (8, .bool true), (6, .int .i64 ((p.ds.length : Nat) : Int)), (5, .slice p.A1 p.ds.length p.c1), (2, .bool false), (0, .slice p.A1 p.ds.length p.c1), (7, vN i)] ⟨rfl, rfl, rfl, rfl, rfl, rfl, rfl, rfl, trivial⟩ fun a hK => ?_
    refine wp_cond_false (hK.get rfl) ?_
    refine wp_skip ?_
    refine region_go (lst := [0, 1]) (by kernel_rfl) ?_
    refine stepP hK 20 (.int .i64 (((i + 1) : Nat) : Int)) (by kernel_rfl) (run_addN (i := i) (j := 1) rfl rfl rfl (by omega)) fun a hK => ?_
    refine stepM hK 7 20 (by kernel_rfl) (.inl rfl) rfl fun a hK => ?_
    refine region_done hK [(7, .int .i64 (((i + 1) : Nat) : Int)), (19, .bool false), (4, pA b3 0), (8, .bool true), (6, .int .i64 ((p.ds.length : Nat) : Int)), (5, .slice p.A1 p.ds.length p.c1), (2, .bool false), (0, .slice p.A1 p.ds.length p.c1)] ⟨rfl, rfl, rfl, rfl, rfl, rfl, rfl, rfl, trivial⟩ fun a hK => ?_
    have hRn : (i + 1) ≤ p.ds.length ∧ dcsOk (p.ds.drop (i + 1)) = dcsOk p.ds := ⟨by omega, by rw [← hR.2, dcsOk_step ht2, show dcOk t2 = true by unfold dcOk; rw [h4, (decide_eq_false h5)]; rfl]; rfl⟩
    have hmn : p.ds.length - (i + 1) < p.ds.length - i := by omega
    exact ⟨i + 1, hK.sub ⟨rfl, rfl, rfl, rfl, rfl, trivial⟩, (hM.drop 1), hRn, hmn⟩
  ·refine stepRet hK hM 13 #[Str t2.nm] (.bool false) (by kernel_rfl) (run_callE en_ast_isWord rfl rfl (by kernel_rfl)) (ret_eq (ast_isWord t2.nm _ (hshD _ (List.mem_of_getElem? ht2))) (congrArg Value.bool h4)) fun a w hK hM => ?_
   refine stepP hK 14 (.bool true) (by kernel_rfl) (by kernel_rfl) fun a hK => ?_
   refine stepM hK 15 14 (by kernel_rfl) (.inl rfl) rfl fun a hK => ?_
   refine stepN hK 16 (by kernel_rfl) fun a hK => ?_
   refine stepN hK 17 (by kernel_rfl) fun a hK => ?_
   refine stepN hK 18 (by kernel_rfl) fun a hK => ?_
   refine stepP hK 19 (.bool true) (by kernel_rfl) (by kernel_rfl) fun a hK => ?_
   refine region_done hK [(19, .bool true), (4, pA b3 0), (8, .bool true), (6, .int .i64 ((p.ds.length : Nat) : Int)), (5, .slice p.A1 p.ds.length p.c1), (2, .bool false), (0, .slice p.A1 p.ds.length p.c1), (7, vN i)] ⟨rfl, rfl, rfl, rfl, rfl, rfl, rfl, rfl, trivial⟩ fun a hK => ?_
   refine wp_cond_true (hK.get rfl) ?_
   refine wp_seq ?_
   refine region_go (lst := [0]) (by kernel_rfl) ?_
   refine stepP hK 2 (.bool false) (by kernel_rfl) (by kernel_rfl) fun a hK => ?_
   refine region_done hK [(2, .bool false), (19, .bool true), (4, pA b3 0), (8, .bool true), (6, .int .i64 ((p.ds.length : Nat) : Int)), (5, .slice p.A1 p.ds.length p.c1), (0, .slice p.A1 p.ds.length p.c1), (7, vN i)] ⟨rfl, rfl, rfl, rfl, rfl, rfl, rfl, rfl, trivial⟩ fun a hK => ?_
   refine wp_ret ?_
   exact ret_t hK rfl (u := (.bool false)) rfl (⟨by rw [← hR.2, dcsOk_step ht2, show dcOk t2 = false by unfold dcOk; rw [h4]; rfl]; rfl, hM.below⟩)
 ·refine stepP hK 8 (.bool false) (by kernel_rfl) (okBool (b := (decide ((((i : Nat) : Int) : Int) < ((p.ds.length : Nat) : Int)))) (by kernel_rfl) (decide_eq_false h1)) fun a hK => ?_
  refine region_done hK [(8, .bool false), (6, .int .i64 ((p.ds.length : Nat) : Int)), (5, .slice p.A1 p.ds.length p.c1), (2, .bool false), (0, .slice p.A1 p.ds.length p.c1), (7, vN i)] ⟨rfl, rfl, rfl, rfl, rfl, rfl, trivial⟩ fun a hK => ?_
  refine wp_seq ?_
  refine wp_cond_false (hK.get rfl) ?_
  refine wp_exit (exit_then (exit_then (exit_here 0 ?_)))
  refine wp_seq ?_
  refine region_go (lst := [0]) (by kernel_rfl) ?_
  refine stepP hK 2 (.bool true) (by kernel_rfl) (by kernel_rfl) fun a hK => ?_
  refine region_done hK [(2, .bool true), (8, .bool false), (6, .int .i64 ((p.ds.length : Nat) : Int)), (5, .slice p.A1 p.ds.length p.c1), (0, .slice p.A1 p.ds.length p.c1), (7, vN i)] ⟨rfl, rfl, rfl, rfl, rfl, rfl, trivial⟩ fun a hK => ?_
  refine wp_ret ?_
  exact ret_t hK rfl (u := (.bool true)) rfl (⟨by rw [← hR.2, dcsOk_end (by omega)], hM.below⟩)
end Go.Proofs.YtiigncmpbkfhmaaDoor
namespace Go.Proofs.YtiigncmpbkfhmaaDoor
open Go Go.RowKit
set_option maxRecDepth 100000 in
set_option maxHeartbeats 4000000 in
theorem ast_Check (p : Pg) (w0 : World) (hTab : TabOk w0) (hp : PgAt w0 p) (hsz : thsSz p.ts ≤ 100000) (hsh : pgSh p = true) : Calls Tryd.prog 8 #[vG p] w0 (Ret w0 (.int .i64 (chkP p))) := by
 refine calls_K (args := [vG p]) (n := 25) (env := [(0, vG p)]) Tryd.func8 rfl rfl rfl ⟨rfl, trivial⟩ fun a w hK hM => ?_
 refine wp_seq ?_
 refine region_go (lst := [0, 1]) (by kernel_rfl) ?_
 refine stepAlloc hK hM 1 25 [.slice p.A1 p.ds.length p.c1, .slice p.A2 p.ts.length p.c2] (fun b => pA b 0) (by kernel_rfl) (by kernel_rfl) fun b1 a w hK hM => ?_
 refine stepP hK 2 (.int .i64 0) (by kernel_rfl) (by kernel_rfl) fun a hK => ?_
 refine region_done hK [(2, .int .i64 0), (1, pA b1 0), (0, vG p)] ⟨rfl, rfl, rfl, trivial⟩ fun a hK => ?_
 refine wp_seq ?_
 refine region_go (lst := [0, 1, 2, 3, 4, 5]) (by kernel_rfl) ?_
 refine stepCall hK hM 6 #[] (by kernel_rfl) (run_callE en_ast_limits rfl rfl (by kernel_rfl)) (ast_limits _) ?_
 rintro ⟨x2, y3, z4⟩ a w - hK hM
 refine stepM hK 5 6 (by kernel_rfl) (.inl rfl) rfl fun a hK => ?_
 refine stepP hK 7 (.func (.func 70) #[] #[pA x2 0]) (by kernel_rfl) (by kernel_rfl) fun a hK => ?_
 refine stepP hK 8 (.func (.func 71) #[] #[pA y3 0]) (by kernel_rfl) (by kernel_rfl) fun a hK => ?_
 refine stepM hK 3 7 (by kernel_rfl) (.inr rfl) rfl fun a hK => ?_
 refine stepM hK 4 8 (by kernel_rfl) (.inr rfl) rfl fun a hK => ?_
 refine region_done hK [(4, .func (.func 71) #[] #[pA y3 0]), (3, .func (.func 70) #[] #[pA x2 0]), (2, .int .i64 0), (1, pA b1 0), (0, vG p)] ⟨rfl, rfl, rfl, rfl, rfl, trivial⟩ fun a hK => ?_
 refine wp_seq ?_
 refine wp_block ?_
 refine wp_seq ?_
 refine region_go (lst := [0, 1, 2, 3, 4, 5]) (by kernel_rfl) ?_
 refine stepLoad hK 10 (vG p) (by kernel_rfl) rfl rfl ((hM.row 3 rfl).cells 0 2) (by kernel_rfl) fun a hK => ?_
 refine stepM hK 11 3 (by kernel_rfl) (.inl rfl) rfl fun a hK => ?_
 refine stepM hK 12 4 (by kernel_rfl) (.inl rfl) rfl fun a hK => ?_
 have hc6m : Mem w0 _ [.row x2 61 [.func (.func 65) #[] #[pA z4 0]], .row y3 61 [.func (.func 65) #[] #[pA z4 0]], .row z4 3 [vN 0], .row b1 25 [.slice p.A1 p.ds.length p.c1, .slice p.A2 p.ts.length p.c2]] := hM
 have hc6 := ast_walkThreads (any_expr2 (step_lim _ z4) x2 y3) (any_stmt2 (step_lim _ z4) x2 y3) p 0 0 [.row b1 25 [.slice p.A1 p.ds.length p.c1, .slice p.A2 p.ts.length p.c2]] _ (hp.on (Below.refl _ _)) (by omega) hsh hc6m (by unfold okN; omega)
 refine stepCallIn hK 13 #[vG p, .func (.func 70) #[] #[pA x2 0], .func (.func 71) #[] #[pA y3 0]] (by kernel_rfl) (run_callE en_ast_walkThreads rfl rfl (by kernel_rfl)) (hc6) ?_
 rintro ⟨r7, q8⟩ a w ⟨hR9, -⟩ hK hM
 replace hM := hM.to [.row x2 61 [.func (.func 65) #[] #[pA z4 0]], .row y3 61 [.func (.func 65) #[] #[pA z4 0]], .row z4 3 [vN q8], .row b1 25 [.slice p.A1 p.ds.length p.c1, .slice p.A2 p.ts.length p.c2]] (by kernel_rfl)
 rcases Bool.eq_false_or_eq_true (!r7) with h11 | h11
 ·refine stepP hK 14 (.bool true) (by kernel_rfl) (okBool (b := (!r7)) (by kernel_rfl) h11) fun a hK => ?_
  refine stepM hK 9 14 (by kernel_rfl) (.inr rfl) rfl fun a hK => ?_
  refine region_done hK [(9, .bool true), (4, .func (.func 71) #[] #[pA y3 0]), (3, .func (.func 70) #[] #[pA x2 0]), (2, .int .i64 0), (1, pA b1 0), (0, vG p)] ⟨rfl, rfl, rfl, rfl, rfl, rfl, trivial⟩ fun a hK => ?_
  refine wp_cond_true (hK.get rfl) ?_
  refine wp_seq ?_
  refine region_go (lst := [0]) (by kernel_rfl) ?_
  refine stepP hK 2 (.int .i64 3) (by kernel_rfl) (by kernel_rfl) fun a hK => ?_
  refine region_done hK [(2, .int .i64 3), (9, .bool true), (4, .func (.func 71) #[] #[pA y3 0]), (3, .func (.func 70) #[] #[pA x2 0]), (1, pA b1 0), (0, vG p)] ⟨rfl, rfl, rfl, rfl, rfl, rfl, trivial⟩ fun a hK => ?_
  refine wp_ret ?_
  exact ret_t hK rfl (u := (.int .i64 3)) rfl (⟨by unfold chkP; rw [lim_chk hR9, h11, if_pos rfl], hM.below⟩)
 ·refine stepP hK 14 (.bool false) (by kernel_rfl) (okBool (b := (!r7)) (by kernel_rfl) h11) fun a hK => ?_
  refine stepM hK 9 14 (by kernel_rfl) (.inr rfl) rfl fun a hK => ?_
  refine region_done hK [(9, .bool false), (4, .func (.func 71) #[] #[pA y3 0]), (3, .func (.func 70) #[] #[pA x2 0]), (2, .int .i64 0), (1, pA b1 0), (0, vG p)] ⟨rfl, rfl, rfl, rfl, rfl, rfl, trivial⟩ fun a hK => ?_
  refine wp_cond_false (hK.get rfl) ?_
  refine wp_seq ?_
  refine region_go (lst := [0, 1, 2, 3, 4, 5, 6, 7, 8, 9]) (by kernel_rfl) ?_
  refine stepP hK 16 (pA b1 0) (by kernel_rfl) (by kernel_rfl) fun a hK => ?_
  refine stepLoad hK 17 (.slice p.A1 p.ds.length p.c1) (by kernel_rfl) rfl rfl ((hM.row 3 rfl).cells 0 1) (by kernel_rfl) fun a hK => ?_
  rcases Bool.eq_false_or_eq_true (dcsOk p.ds) with h12 | h12
  ·refine stepRet hK hM 18 #[.slice p.A1 p.ds.length p.c1] (.bool true) (by kernel_rfl) (run_callE en_ast_declsMayBe rfl rfl (by kernel_rfl)) (ret_eq (ast_declsMayBe p _ (hp.on hM.below) hsh) (congrArg Value.bool h12)) fun a w hK hM => ?_
   refine stepP hK 19 (.bool false) (by kernel_rfl) (by kernel_rfl) fun a hK => ?_
   refine stepM hK 20 19 (by kernel_rfl) (.inl rfl) rfl fun a hK => ?_
   refine stepLoad hK 21 (vG p) (by kernel_rfl) rfl rfl ((hM.row 3 rfl).cells 0 2) (by kernel_rfl) fun a hK => ?_
   have hc13m : Mem w0 _ [.row x2 61 [.func (.func 65) #[] #[pA z4 0]], .row y3 61 [.func (.func 65) #[] #[pA z4 0]], .row z4 3 [vN q8], .row b1 25 [.slice p.A1 p.ds.length p.c1, .slice p.A2 p.ts.length p.c2]] := hM
   have hc13 := ast_walkThreads (step_mayE w0 hTab) (step_mayS w0 hTab) p 0 () [.row x2 61 [.func (.func 65) #[] #[pA z4 0]], .row y3 61 [.func (.func 65) #[] #[pA z4 0]], .row z4 3 [vN q8], .row b1 25 [.slice p.A1 p.ds.length p.c1, .slice p.A2 p.ts.length p.c2]] _ (hp.on (Below.refl _ _)) (by omega) hsh hc13m trivial
   refine stepCallIn hK 22 #[vG p, .func (.func 31) #[] #[], .func (.func 32) #[] #[]] (by kernel_rfl) (run_callE en_ast_walkThreads rfl rfl (by kernel_rfl)) (hc13) ?_
   rintro ⟨r14, q15⟩ a w ⟨hR16, -⟩ hK hM
   replace hM := hM.to [.row x2 61 [.func (.func 65) #[] #[pA z4 0]], .row y3 61 [.func (.func 65) #[] #[pA z4 0]], .row z4 3 [vN q8], .row b1 25 [.slice p.A1 p.ds.length p.c1, .slice p.A2 p.ts.length p.c2]] (by kernel_rfl)
   have hth : thsOk p.ts = r14 := by rw [may_ths] at hR16; exact (congrArg Prod.fst hR16).symm
   rcases Bool.eq_false_or_eq_true (!r14) with h18 | h18
   ·refine stepP hK 23 (.bool true) (by kernel_rfl) (okBool (b := (!r14)) (by kernel_rfl) h18) fun a hK => ?_
    refine stepP hK 24 (.bool true) (by kernel_rfl) (by kernel_rfl) fun a hK => ?_
    refine stepM hK 15 24 (by kernel_rfl) (.inr rfl) rfl fun a hK => ?_
    refine region_done hK [(15, .bool true), (9, .bool false), (4, .func (.func 71) #[] #[pA y3 0]), (3, .func (.func 70) #[] #[pA x2 0]), (2, .int .i64 0), (1, pA b1 0), (0, vG p)] ⟨rfl, rfl, rfl, rfl, rfl, rfl, rfl, trivial⟩ fun a hK => ?_
    refine wp_cond_true (hK.get rfl) ?_
    refine wp_seq ?_
    refine region_go (lst := [0]) (by kernel_rfl) ?_
    refine stepP hK 2 (.int .i64 2) (by kernel_rfl) (by kernel_rfl) fun a hK => ?_
    refine region_done hK [(2, .int .i64 2), (15, .bool true), (9, .bool false), (4, .func (.func 71) #[] #[pA y3 0]), (3, .func (.func 70) #[] #[pA x2 0]), (1, pA b1 0), (0, vG p)] ⟨rfl, rfl, rfl, rfl, rfl, rfl, rfl, trivial⟩ fun a hK => ?_
    refine wp_ret ?_
    exact ret_t hK rfl (u := (.int .i64 2)) rfl (⟨by unfold chkP; rw [lim_chk hR9, h11, if_neg (by decide), h12, if_pos rfl, hth, bf_of h18, if_neg (by decide)], hM.below⟩)
   ·refine stepP hK 23 (.bool false) (by kernel_rfl) (okBool (b := (!r14)) (by kernel_rfl) h18) fun a hK => ?_
    refine stepP hK 24 (.bool false) (by kernel_rfl) (by kernel_rfl) fun a hK => ?_
    refine stepM hK 15 24 (by kernel_rfl) (.inr rfl) rfl fun a hK => ?_
    refine region_done hK [(15, .bool false), (9, .bool false), (4, .func (.func 71) #[] #[pA y3 0]), (3, .func (.func 70) #[] #[pA x2 0]), (2, .int .i64 0), (1, pA b1 0), (0, vG p)] ⟨rfl, rfl, rfl, rfl, rfl, rfl, rfl, trivial⟩ fun a hK => ?_
    refine wp_cond_false (hK.get rfl) ?_
    refine wp_skip ?_
    refine wp_seq ?_
    refine region_go (lst := [0]) (by kernel_rfl) ?_
    refine stepP hK 2 (.int .i64 0) (by kernel_rfl) (by kernel_rfl) fun a hK => ?_
    refine region_done hK [(2, .int .i64 0), (15, .bool false), (9, .bool false), (4, .func (.func 71) #[] #[pA y3 0]), (3, .func (.func 70) #[] #[pA x2 0]), (1, pA b1 0), (0, vG p)] ⟨rfl, rfl, rfl, rfl, rfl, rfl, rfl, trivial⟩ fun a hK => ?_
    refine wp_ret ?_
    exact ret_t hK rfl (u := (.int .i64 0)) rfl (⟨by unfold chkP; rw [lim_chk hR9, h11, if_neg (by decide), h12, if_pos rfl, hth, bt_of h18, if_pos rfl], hM.below⟩)
  ·refine stepRet hK hM 18 #[.slice p.A1 p.ds.length p.c1] (.bool false) (by kernel_rfl) (run_callE en_ast_declsMayBe rfl rfl (by kernel_rfl)) (ret_eq (ast_declsMayBe p _ (hp.on hM.below) hsh) (congrArg Value.bool h12)) fun a w hK hM => ?_
   refine stepP hK 19 (.bool true) (by kernel_rfl) (by kernel_rfl) fun a hK => ?_
   refine stepM hK 20 19 (by kernel_rfl) (.inl rfl) rfl fun a hK => ?_
   refine stepN hK 21 (by kernel_rfl) fun a hK => ?_
   refine stepN hK 22 (by kernel_rfl) fun a hK => ?_
   refine stepN hK 23 (by kernel_rfl) fun a hK => ?_
   refine stepP hK 24 (.bool true) (by kernel_rfl) (by kernel_rfl) fun a hK => ?_
   refine stepM hK 15 24 (by kernel_rfl) (.inr rfl) rfl fun a hK => ?_
   refine region_done hK [(15, .bool true), (9, .bool false), (4, .func (.func 71) #[] #[pA y3 0]), (3, .func (.func 70) #[] #[pA x2 0]), (2, .int .i64 0), (1, pA b1 0), (0, vG p)] ⟨rfl, rfl, rfl, rfl, rfl, rfl, rfl, trivial⟩ fun a hK => ?_
   refine wp_cond_true (hK.get rfl) ?_
   refine wp_seq ?_
   refine region_go (lst := [0]) (by kernel_rfl) ?_
   refine stepP hK 2 (.int .i64 2) (by kernel_rfl) (by kernel_rfl) fun a hK => ?_
   refine region_done hK [(2, .int .i64 2), (15, .bool true), (9, .bool false), (4, .func (.func 71) #[] #[pA y3 0]), (3, .func (.func 70) #[] #[pA x2 0]), (1, pA b1 0), (0, vG p)] ⟨rfl, rfl, rfl, rfl, rfl, rfl, rfl, trivial⟩ fun a hK => ?_
   refine wp_ret ?_
   exact ret_t hK rfl (u := (.int .i64 2)) rfl (⟨by unfold chkP; rw [lim_chk hR9, h11, if_neg (by decide), h12, if_neg (by decide)], hM.below⟩)
theorem StepE.more {σ : Type} {w0 : World} {G : σ → List It} {ok : Nat → σ → Prop} {f : Ex → Nat → σ → Bool × σ} {fe : FuncId} {ce : Array Value} (h : StepE w0 G ok f fe ce) (X : List It) : StepE w0 (fun s => X ++ G s) ok f fe ce := by
 refine ⟨h.enters, ?_, h.ok⟩
 intro e d k s F w hM he hs hd hok
 have h1 : Mem w0 w (G s ++ (X ++ F)) := hM.perm (by rw [List.append_assoc]; exact perm_mid X (G s) F)
 refine (h.call e d k s (X ++ F) w h1 he hs hd hok).mono fun _ _ h2 => Gives.perm (fun r => ?_) h2
 rw [List.append_assoc]; exact perm_mid2 X (G r.2) F
theorem StepS.more {σ : Type} {w0 : World} {G : σ → List It} {ok : Nat → σ → Prop} {f : Sm → Nat → σ → Bool × σ} {fe : FuncId} {ce : Array Value} (h : StepS w0 G ok f fe ce) (X : List It) : StepS w0 (fun s => X ++ G s) ok f fe ce := by
 refine ⟨h.enters, ?_, h.ok⟩
 intro e d k s F w hM he hs hd hok
 have h1 : Mem w0 w (G s ++ (X ++ F)) := hM.perm (by rw [List.append_assoc]; exact perm_mid X (G s) F)
 refine (h.call e d k s (X ++ F) w h1 he hs hd hok).mono fun _ _ h2 => Gives.perm (fun r => ?_) h2
 rw [List.append_assoc]; exact perm_mid2 X (G r.2) F
end Go.Proofs.YtiigncmpbkfhmaaDoor
namespace Go.Proofs
open Go.Shelf
def Tryd.laysM316_ren : Go.Shelf.Ren := ⟨fun | 316 => 83 | n => n, fun | 9 => 9 | 3 => 3 | 4 => 4 | 37 => 118 | 0 => 0 | 127 => 119 | 5 => 5 | n => n, fun | n => n⟩
theorem Tryd.laysM316 : Go.Proofs.LaysM.n316 Tryd.prog Tryd.laysM316_ren := {
  mixed := by kernel_rfl
  f316 := Tryd.func83.trans (congrArg some (by kernel_rfl))
  t0 := Tryd.underlying0
  a0 := Tryd.isAgg0
  z0 := Tryd.sizeOf0
  v0 := Tryd.zeroValue0
  t3 := Tryd.underlying3
  a3 := Tryd.isAgg3
  z3 := Tryd.sizeOf3
  v3 := Tryd.zeroValue3
  t4 := Tryd.underlying4
  a4 := Tryd.isAgg4
  z4 := Tryd.sizeOf4
  v4 := Tryd.zeroValue4
  t9 := Tryd.underlying9
  a9 := Tryd.isAgg9
  z9 := Tryd.sizeOf9
  v9 := Tryd.zeroValue9
  t37 := Tryd.underlying118
  a37 := Tryd.isAgg118
  z37 := Tryd.sizeOf118
  v37 := Tryd.zeroValue118
  t127 := Tryd.underlying119
  a127 := Tryd.isAgg119
  z127 := Tryd.sizeOf119
  v127 := Tryd.zeroValue119
  t5 := Tryd.underlying5
  a5 := Tryd.isAgg5
  z5 := Tryd.sizeOf5
  v5 := Tryd.zeroValue5
  i0 := by kernel_rfl
  i3 := by kernel_rfl
  i4 := by kernel_rfl
  i5 := by kernel_rfl
  i9 := by kernel_rfl
  i37 := by kernel_rfl
  i127 := by kernel_rfl }
open Go.RowKit in
theorem Tryd.stringslite_Clone (s : ByteArray) (w : World) (hlim : s.size ≤ 281474976710656) :
    Calls Tryd.prog 83 #[.string s] w fun e w' => e = .returned (.string s) ∧ Below w.heap.size w w' := Any.stringslite_Clone Tryd.laysM316 s w hlim
def Tryd.keys60_ren : Go.Shelf.Ren := ⟨fun | 7 => 60 | 10 => 82 | n => n, fun | 23 => 78 | 26 => 9 | 3 => 79 | 28 => 83 | 0 => 0 | 27 => 82 | 33 => 66 | 4 => 4 | n => n, fun | n => n⟩
theorem Tryd.keys60 : Go.Proofs.SlLaysZ.n7 Tryd.prog Tryd.keys60_ren := {
  mixed := by kernel_rfl
  f7 := ⟨Tryd.f60.name, by decide, Tryd.func60.trans (congrArg some (by kernel_rfl))⟩
  f10 := ⟨Tryd.f82.name, by decide, Tryd.func82.trans (congrArg some (by kernel_rfl))⟩
  t0 := Tryd.underlying0
  a0 := Tryd.isAgg0
  z0 := Tryd.sizeOf0
  v0 := Tryd.zeroValue0
  t4 := Tryd.underlying4
  a4 := Tryd.isAgg4
  z4 := Tryd.sizeOf4
  v4 := Tryd.zeroValue4
  t23 := Tryd.underlying78
  a23 := Tryd.isAgg78
  z23 := Tryd.sizeOf78
  v23 := Tryd.zeroValue78
  t26 := Tryd.underlying9
  a26 := Tryd.isAgg9
  z26 := Tryd.sizeOf9
  v26 := Tryd.zeroValue9
  t27 := Tryd.underlying82
  a27 := Tryd.isAgg82
  z27 := Tryd.sizeOf82
  v27 := Tryd.zeroValue82
  t28 := Tryd.underlying83
  a28 := Tryd.isAgg83
  z28 := Tryd.sizeOf83
  v28 := Tryd.zeroValue83
  t33 := Tryd.underlying66
  a33 := Tryd.isAgg66
  z33 := Tryd.sizeOf66
  v33 := Tryd.zeroValue66 }
def Tryd.sorted59_ren : Go.Shelf.Ren := ⟨fun | 6 => 59 | 8 => 80 | 9 => 81 | 11 => 93 | 13 => 95 | 12 => 94 | 23 => 111 | 24 => 112 | 14 => 102 | 15 => 103 | 16 => 104 | 17 => 105 | 18 => 106 | 19 => 107 | 20 => 108 | 21 => 109 | 22 => 110 | 25 => 114 | 26 => 115 | 27 => 116 | 28 => 117 | 29 => 118 | 30 => 119 | 31 => 120 | n => n, fun | 26 => 9 | 28 => 83 | 24 => 50 | 0 => 0 | 3 => 3 | 37 => 117 | 48 => 133 | 50 => 135 | 4 => 4 | 40 => 126 | 39 => 125 | 45 => 95 | 5 => 5 | 9 => 9 | 51 => 137 | 55 => 141 | 57 => 143 | 58 => 144 | 33 => 66 | n => n, fun | n => n⟩
theorem Tryd.sorted59 : Go.Proofs.SlLaysZ.n6 Tryd.prog Tryd.sorted59_ren := {
  mixed := by kernel_rfl
  f6 := ⟨Tryd.f59.name, by decide, Tryd.func59.trans (congrArg some (by kernel_rfl))⟩
  f8 := ⟨Tryd.f80.name, by decide, Tryd.func80.trans (congrArg some (by kernel_rfl))⟩
  f11 := ⟨Tryd.f93.name, by decide, Tryd.func93.trans (congrArg some (by kernel_rfl))⟩
  t0 := Tryd.underlying0
  a0 := Tryd.isAgg0
  z0 := Tryd.sizeOf0
  v0 := Tryd.zeroValue0
  t24 := Tryd.underlying50
  a24 := Tryd.isAgg50
  z24 := Tryd.sizeOf50
  v24 := Tryd.zeroValue50
  t26 := Tryd.underlying9
  a26 := Tryd.isAgg9
  z26 := Tryd.sizeOf9
  v26 := Tryd.zeroValue9
  t28 := Tryd.underlying83
  a28 := Tryd.isAgg83
  z28 := Tryd.sizeOf83
  v28 := Tryd.zeroValue83
  i26 := by kernel_rfl }
def Tryd.sort81_ren : Go.Shelf.Ren := ⟨fun | 6 => 81 | 8 => 95 | 9 => 94 | 19 => 111 | 20 => 112 | 21 => 102 | 22 => 103 | 23 => 104 | 24 => 105 | 25 => 106 | 26 => 107 | 27 => 108 | 28 => 109 | 29 => 110 | 36 => 114 | 31 => 115 | 32 => 116 | 37 => 117 | 38 => 118 | 39 => 119 | 41 => 120 | n => n, fun | 27 => 50 | 29 => 9 | 3 => 3 | 32 => 117 | 26 => 50 | 0 => 0 | 44 => 133 | 46 => 135 | 4 => 4 | 36 => 126 | 35 => 125 | 41 => 95 | 5 => 5 | 9 => 9 | 53 => 137 | 57 => 141 | 63 => 143 | 64 => 144 | n => n, fun | n => n⟩
theorem Tryd.sort81 : Go.Proofs.SlLaysM.n6 Tryd.prog Tryd.sort81_ren := {
  mixed := by kernel_rfl
  f6 := ⟨Tryd.f81.name, by decide, Tryd.func81.trans (congrArg some (by kernel_rfl))⟩
  f8 := Tryd.func95.trans (congrArg some (by kernel_rfl))
  f9 := ⟨Tryd.f94.name, by decide, Tryd.func94.trans (congrArg some (by kernel_rfl))⟩
  f19 := Tryd.func111.trans (congrArg some (by kernel_rfl))
  f20 := Tryd.func112.trans (congrArg some (by kernel_rfl))
  f21 := ⟨Tryd.f102.name, by decide, Tryd.func102.trans (congrArg some (by kernel_rfl))⟩
  f22 := ⟨Tryd.f103.name, by decide, Tryd.func103.trans (congrArg some (by kernel_rfl))⟩
  f23 := ⟨Tryd.f104.name, by decide, Tryd.func104.trans (congrArg some (by kernel_rfl))⟩
  f24 := ⟨Tryd.f105.name, by decide, Tryd.func105.trans (congrArg some (by kernel_rfl))⟩
  f25 := ⟨Tryd.f106.name, by decide, Tryd.func106.trans (congrArg some (by kernel_rfl))⟩
  f26 := ⟨Tryd.f107.name, by decide, Tryd.func107.trans (congrArg some (by kernel_rfl))⟩
  f27 := ⟨Tryd.f108.name, by decide, Tryd.func108.trans (congrArg some (by kernel_rfl))⟩
  f28 := ⟨Tryd.f109.name, by decide, Tryd.func109.trans (congrArg some (by kernel_rfl))⟩
  f29 := ⟨Tryd.f110.name, by decide, Tryd.func110.trans (congrArg some (by kernel_rfl))⟩
  f31 := Tryd.func115.trans (congrArg some (by kernel_rfl))
  f32 := Tryd.func116.trans (congrArg some (by kernel_rfl))
  f36 := ⟨Tryd.f114.name, by decide, Tryd.func114.trans (congrArg some (by kernel_rfl))⟩
  f37 := ⟨Tryd.f117.name, by decide, Tryd.func117.trans (congrArg some (by kernel_rfl))⟩
  f38 := ⟨Tryd.f118.name, by decide, Tryd.func118.trans (congrArg some (by kernel_rfl))⟩
  f39 := ⟨Tryd.f119.name, by decide, Tryd.func119.trans (congrArg some (by kernel_rfl))⟩
  f41 := ⟨Tryd.f120.name, by decide, Tryd.func120.trans (congrArg some (by kernel_rfl))⟩
  t0 := Tryd.underlying0
  a0 := Tryd.isAgg0
  z0 := Tryd.sizeOf0
  v0 := Tryd.zeroValue0
  t3 := Tryd.underlying3
  a3 := Tryd.isAgg3
  z3 := Tryd.sizeOf3
  v3 := Tryd.zeroValue3
  t4 := Tryd.underlying4
  a4 := Tryd.isAgg4
  z4 := Tryd.sizeOf4
  v4 := Tryd.zeroValue4
  t5 := Tryd.underlying5
  a5 := Tryd.isAgg5
  z5 := Tryd.sizeOf5
  v5 := Tryd.zeroValue5
  t9 := Tryd.underlying9
  a9 := Tryd.isAgg9
  z9 := Tryd.sizeOf9
  v9 := Tryd.zeroValue9
  t26 := Tryd.underlying50
  a26 := Tryd.isAgg50
  z26 := Tryd.sizeOf50
  v26 := Tryd.zeroValue50
  t27 := Tryd.underlying50
  a27 := Tryd.isAgg50
  z27 := Tryd.sizeOf50
  v27 := Tryd.zeroValue50
  t29 := Tryd.underlying9
  a29 := Tryd.isAgg9
  z29 := Tryd.sizeOf9
  v29 := Tryd.zeroValue9
  t32 := Tryd.underlying117
  a32 := Tryd.isAgg117
  z32 := Tryd.sizeOf117
  v32 := Tryd.zeroValue117
  t35 := Tryd.underlying125
  a35 := Tryd.isAgg125
  z35 := Tryd.sizeOf125
  v35 := Tryd.zeroValue125
  t36 := Tryd.underlying126
  a36 := Tryd.isAgg126
  z36 := Tryd.sizeOf126
  v36 := Tryd.zeroValue126
  t41 := Tryd.underlying95
  a41 := Tryd.isAgg95
  z41 := Tryd.sizeOf95
  v41 := Tryd.zeroValue95
  t44 := Tryd.underlying133
  a44 := Tryd.isAgg133
  z44 := Tryd.sizeOf133
  v44 := Tryd.zeroValue133
  t46 := Tryd.underlying135
  a46 := Tryd.isAgg135
  z46 := Tryd.sizeOf135
  v46 := Tryd.zeroValue135
  t53 := Tryd.underlying137
  a53 := Tryd.isAgg137
  z53 := Tryd.sizeOf137
  v53 := Tryd.zeroValue137
  t57 := Tryd.underlying141
  a57 := Tryd.isAgg141
  z57 := Tryd.sizeOf141
  v57 := Tryd.zeroValue141
  t63 := Tryd.underlying143
  a63 := Tryd.isAgg143
  z63 := Tryd.sizeOf143
  v63 := Tryd.zeroValue143
  t64 := Tryd.underlying144
  a64 := Tryd.isAgg144
  z64 := Tryd.sizeOf144
  v64 := Tryd.zeroValue144 }
open Go.RowKit Go.Maps Go.Sort in
theorem Tryd.sorts59 (m : Nat) : AnyZ.SortsIn Tryd.prog Tryd.sorted59_ren Fence.wide m :=
  ⟨fun blk off cap ss W hH hblk hsz => callsIn_wide.2 (AnyM.slices_Sort_string Tryd.sort81 blk off cap ss W hH hblk hsz),
   fun p cap W => callsIn_wide.2 (AnyM.slices_Sort_string_none Tryd.sort81 p cap W)⟩
end Go.Proofs
namespace Go.Proofs.YtiigncmpbkfhmaaDoor
open Go Go.RowKit
theorem en_cantileverkit_Texts : Enters Tryd.prog 24 := enters_of Tryd.func24 (by kernel_rfl) rfl
theorem en_cantileverkit_Ints : Enters Tryd.prog 26 := enters_of Tryd.func26 (by kernel_rfl) rfl
theorem en_strings_Clone : Enters Tryd.prog 61 := enters_of Tryd.func61 (by kernel_rfl) rfl
theorem list_same {α : Type} {l m : List α} (h : l.length = m.length) (h2 : ∀ j, j < l.length → l[j]? = m[j]?) : l = m := by
 apply List.ext_getElem?
 intro j
 rcases Nat.lt_or_ge j l.length with hj | hj
 ·exact h2 j hj
 ·rw [List.getElem?_eq_none (by omega), List.getElem?_eq_none (by omega)]
set_option maxRecDepth 100000 in
set_option maxHeartbeats 4000000 in
theorem kit_Texts {A B : Option Addr} {c d : Nat} (l m : List (List UInt8)) (w0 : World) (hl : HandAt w0 A (fun x => [Str x]) 1 l) (hm : HandAt w0 B (fun x => [Str x]) 1 m) (hbl : l.length ≤ 1000000) (hbm : m.length ≤ 1000000) : Calls Tryd.prog 24 #[.slice A l.length c, .slice B m.length d] w0 (Ret w0 (.bool (decide (l = m)))) := by
 refine calls_K (args := [.slice A l.length c, .slice B m.length d]) (n := 26) (env := [(0, .slice A l.length c), (1, .slice B m.length d)]) Tryd.func24 rfl rfl rfl ⟨rfl, rfl, trivial⟩ fun a w hK hM => ?_
 refine wp_seq ?_
 refine region_go (lst := [0]) (by kernel_rfl) ?_
 refine stepP hK 4 (.bool false) (by kernel_rfl) (by kernel_rfl) fun a hK => ?_
 refine region_done hK [(4, .bool false), (0, .slice A l.length c), (1, .slice B m.length d)] ⟨rfl, rfl, rfl, trivial⟩ fun a hK => ?_
 refine wp_seq ?_
 refine wp_seq ?_
 refine region_go (lst := [0, 1, 2, 3, 4]) (by kernel_rfl) ?_
 refine stepM hK 6 0 (by kernel_rfl) (.inl rfl) rfl fun a hK => ?_
 refine stepP hK 7 (.int .i64 ((l.length : Nat) : Int)) (by kernel_rfl) (by kernel_rfl) fun a hK => ?_
 refine stepM hK 8 1 (by kernel_rfl) (.inl rfl) rfl fun a hK => ?_
 refine stepP hK 9 (.int .i64 ((m.length : Nat) : Int)) (by kernel_rfl) (by kernel_rfl) fun a hK => ?_
 rcases Bool.eq_false_or_eq_true (!(decide ((((l.length : Nat) : Int) : Int) = ((m.length : Nat) : Int)))) with h1 | h1
 ·refine stepP hK 10 (.bool true) (by kernel_rfl) (okBool (b := (!(decide ((((l.length : Nat) : Int) : Int) = ((m.length : Nat) : Int))))) (by kernel_rfl) h1) fun a hK => ?_
  refine region_done hK [(10, .bool true), (4, .bool false), (0, .slice A l.length c), (1, .slice B m.length d)] ⟨rfl, rfl, rfl, rfl, trivial⟩ fun a hK => ?_
  refine wp_cond_true (hK.get rfl) ?_
  refine wp_seq ?_
  refine region_go (lst := [0]) (by kernel_rfl) ?_
  refine stepP hK 4 (.bool false) (by kernel_rfl) (by kernel_rfl) fun a hK => ?_
  refine region_done hK [(4, .bool false), (10, .bool true), (0, .slice A l.length c), (1, .slice B m.length d)] ⟨rfl, rfl, rfl, rfl, trivial⟩ fun a hK => ?_
  refine wp_ret ?_
  exact ret_t hK rfl (u := (.bool false)) rfl (⟨by rw [decide_eq_false (fun e => by subst e; have h9 := h1; simp at h9)], hM.below⟩)
 ·refine stepP hK 10 (.bool false) (by kernel_rfl) (okBool (b := (!(decide ((((l.length : Nat) : Int) : Int) = ((m.length : Nat) : Int))))) (by kernel_rfl) h1) fun a hK => ?_
  refine region_done hK [(10, .bool false), (4, .bool false), (0, .slice A l.length c), (1, .slice B m.length d)] ⟨rfl, rfl, rfl, rfl, trivial⟩ fun a hK => ?_
  refine wp_cond_false (hK.get rfl) ?_
  refine wp_skip ?_
  refine wp_seq ?_
  refine wp_seq ?_
  have hlen : l.length = m.length := by have q := h1; simp at q; omega
  refine region_go (lst := [0]) (by kernel_rfl) ?_
  refine stepP hK 5 (.int .i64 0) (by kernel_rfl) (by kernel_rfl) fun a hK => ?_
  refine region_done hK [(5, .int .i64 0), (10, .bool false), (4, .bool false), (0, .slice A l.length c), (1, .slice B m.length d)] ⟨rfl, rfl, rfl, rfl, rfl, trivial⟩ fun a hK => ?_
  refine wp_block ?_
  refine wp_loopX (fun x : Nat => [(10, .bool false), (4, .bool false), (0, .slice A l.length c), (1, .slice B m.length d), (5, vN x)]) (fun x : Nat => []) (fun x : Nat => x ≤ l.length ∧ ∀ j, j < x → l[j]? = m[j]?) (fun x : Nat => l.length - x) 0 (hK.sub ⟨rfl, rfl, rfl, rfl, rfl, trivial⟩) hM ⟨Nat.zero_le _, fun j hj => by omega⟩ ?_
  rintro i a w hK hM hR
  replace hK : Knows a 26 [(10, .bool false), (4, .bool false), (0, .slice A l.length c), (1, .slice B m.length d), (5, vN i)] := hK
  replace hM : Mem w0 w [] := hM
  replace hR : i ≤ l.length ∧ ∀ j, j < i → l[j]? = m[j]? := hR
  refine wp_seq ?_
  refine wp_seq ?_
  refine region_go (lst := [0, 1, 2, 3]) (by kernel_rfl) ?_
  refine stepM hK 11 5 (by kernel_rfl) (.inl rfl) rfl fun a hK => ?_
  refine stepM hK 12 0 (by kernel_rfl) (.inl rfl) rfl fun a hK => ?_
  refine stepP hK 13 (.int .i64 ((l.length : Nat) : Int)) (by kernel_rfl) (by kernel_rfl) fun a hK => ?_
  by_cases h2 : (((i : Nat) : Int) : Int) < ((l.length : Nat) : Int)
  ·refine stepP hK 14 (.bool true) (by kernel_rfl) (okBool (b := (decide ((((i : Nat) : Int) : Int) < ((l.length : Nat) : Int)))) (by kernel_rfl) (decide_eq_true h2)) fun a hK => ?_
   refine region_done hK [(14, .bool true), (10, .bool false), (4, .bool false), (0, .slice A l.length c), (1, .slice B m.length d), (5, vN i)] ⟨rfl, rfl, rfl, rfl, rfl, rfl, trivial⟩ fun a hK => ?_
   refine wp_cond_true (hK.get rfl) ?_
   refine wp_skip ?_
   refine wp_seq ?_
   refine wp_block ?_
   refine wp_seq ?_
   obtain ⟨t3, ht3⟩ : ∃ t, l[(i : Nat)]? = some t := ⟨_, List.getElem?_eq_getElem (by omega)⟩
   obtain ⟨at3, At3, ct3⟩ := hl _ _ ht3
   obtain ⟨t4, ht4⟩ : ∃ t, m[(i : Nat)]? = some t := ⟨_, List.getElem?_eq_getElem (by omega)⟩
   obtain ⟨at4, At4, ct4⟩ := hm _ _ ht4
   rcases Bool.eq_false_or_eq_true (!(decide (t3 = t4))) with h5 | h5
   ·refine region_any (F := fun w => Mem w0 w []) hK [some (.slice A l.length c), some (vN i), some (.pointer (some (at3.add (i * 1)))), some (Str t3), some (.slice B m.length d), some (vN i), some (.pointer (some (at4.add (i * 1)))), some (Str t4), some (.bool true)] 9 (fun _ _ hb hm => hm.go hb) hM (by kernel_rfl) (by kernel_rfl) ⟨⟨⟨⟨⟨⟨⟨⟨⟨trivial, ?_⟩, ?_⟩, ?_⟩, ?_⟩, ?_⟩, ?_⟩, ?_⟩, ?_⟩, ?_⟩ [(25, .bool true), (14, .bool true), (10, .bool false), (4, .bool false), (0, .slice A l.length c), (1, .slice B m.length d), (5, vN i)] (by kernel_rfl) fun a w hK hM => ?_
    ·exact .val (.slice A l.length c) rfl (by kernel_rfl) (fun w hM => (by kernel_rfl))
    ·exact .val (vN i) rfl (by kernel_rfl) (fun w hM => (by kernel_rfl))
    ·exact .val (.pointer (some (at3.add (i * 1)))) rfl (by kernel_rfl) (fun w hM => (run_ixA (k := i) (s := 1) rfl rfl At3 rfl Tryd.underlying50 (by kernel_rfl) (by omega)))
    ·exact .val (Str t3) rfl (by kernel_rfl) (fun w hM => run_loadE rfl rfl ((ct3.on hM.below)) (by kernel_rfl))
    ·exact .val (.slice B m.length d) rfl (by kernel_rfl) (fun w hM => (by kernel_rfl))
    ·exact .val (vN i) rfl (by kernel_rfl) (fun w hM => (by kernel_rfl))
    ·exact .val (.pointer (some (at4.add (i * 1)))) rfl (by kernel_rfl) (fun w hM => (run_ixA (k := i) (s := 1) rfl rfl At4 rfl Tryd.underlying50 (by kernel_rfl) (by omega)))
    ·exact .val (Str t4) rfl (by kernel_rfl) (fun w hM => run_loadE rfl rfl ((ct4.on hM.below)) (by kernel_rfl))
    ·exact .val (.bool true) rfl (by kernel_rfl) (fun w hM => (okBool (b := (!(decide (t3 = t4)))) (run_neS rfl rfl rfl) h5))
    refine wp_cond_true (hK.get rfl) ?_
    refine wp_seq ?_
    refine region_go (lst := [0]) (by kernel_rfl) ?_
    refine stepP hK 4 (.bool false) (by kernel_rfl) (by kernel_rfl) fun a hK => ?_
    refine region_done hK [(4, .bool false), (25, .bool true), (14, .bool true), (10, .bool false), (0, .slice A l.length c), (1, .slice B m.length d), (5, vN i)] ⟨rfl, rfl, rfl, rfl, rfl, rfl, rfl, trivial⟩ fun a hK => ?_
    refine wp_ret ?_
    exact ret_t hK rfl (u := (.bool false)) rfl (⟨by rw [decide_eq_false (fun e => by subst e; rw [ht3] at ht4; obtain rfl := Option.some.inj ht4; have h9 := h5; simp at h9)], hM.below⟩)
   ·refine region_any (F := fun w => Mem w0 w []) hK [some (.slice A l.length c), some (vN i), some (.pointer (some (at3.add (i * 1)))), some (Str t3), some (.slice B m.length d), some (vN i), some (.pointer (some (at4.add (i * 1)))), some (Str t4), some (.bool false)] 9 (fun _ _ hb hm => hm.go hb) hM (by kernel_rfl) (by kernel_rfl) ⟨⟨⟨⟨⟨⟨⟨⟨⟨trivial, ?_⟩, ?_⟩, ?_⟩, ?_⟩, ?_⟩, ?_⟩, ?_⟩, ?_⟩, ?_⟩ [(25, .bool false), (14, .bool true), (10, .bool false), (4, .bool false), (0, .slice A l.length c), (1, .slice B m.length d), (5, vN i)] (by kernel_rfl) fun a w hK hM => ?_
    ·exact .val (.slice A l.length c) rfl (by kernel_rfl) (fun w hM => (by kernel_rfl))
    ·exact .val (vN i) rfl (by kernel_rfl) (fun w hM => (by kernel_rfl))
    ·exact .val (.pointer (some (at3.add (i * 1)))) rfl (by kernel_rfl) (fun w hM => (run_ixA (k := i) (s := 1) rfl rfl At3 rfl Tryd.underlying50 (by kernel_rfl) (by omega)))
    ·exact .val (Str t3) rfl (by kernel_rfl) (fun w hM => run_loadE rfl rfl ((ct3.on hM.below)) (by kernel_rfl))
    ·exact .val (.slice B m.length d) rfl (by kernel_rfl) (fun w hM => (by kernel_rfl))
    ·exact .val (vN i) rfl (by kernel_rfl) (fun w hM => (by kernel_rfl))
    ·exact .val (.pointer (some (at4.add (i * 1)))) rfl (by kernel_rfl) (fun w hM => (run_ixA (k := i) (s := 1) rfl rfl At4 rfl Tryd.underlying50 (by kernel_rfl) (by omega)))
    ·exact .val (Str t4) rfl (by kernel_rfl) (fun w hM => run_loadE rfl rfl ((ct4.on hM.below)) (by kernel_rfl))
    ·exact .val (.bool false) rfl (by kernel_rfl) (fun w hM => (okBool (b := (!(decide (t3 = t4)))) (run_neS rfl rfl rfl) h5))
    refine wp_cond_false (hK.get rfl) ?_
    refine wp_skip ?_
    refine region_go (lst := [0, 1, 2]) (by kernel_rfl) ?_
    refine stepM hK 15 5 (by kernel_rfl) (.inl rfl) rfl fun a hK => ?_
    refine stepP hK 16 (.int .i64 (((i + 1) : Nat) : Int)) (by kernel_rfl) (run_addN (i := i) (j := 1) rfl rfl rfl (by omega)) fun a hK => ?_
    refine stepM hK 5 16 (by kernel_rfl) (.inr rfl) rfl fun a hK => ?_
    refine region_done hK [(5, .int .i64 (((i + 1) : Nat) : Int)), (25, .bool false), (14, .bool true), (10, .bool false), (4, .bool false), (0, .slice A l.length c), (1, .slice B m.length d)] ⟨rfl, rfl, rfl, rfl, rfl, rfl, rfl, trivial⟩ fun a hK => ?_
    have hRn : (i + 1) ≤ l.length ∧ ∀ j, j < (i + 1) → l[j]? = m[j]? := ⟨by omega, fun j hj => (Nat.lt_or_ge j i).elim (fun h8 => hR.2 j h8) (fun h8 => by obtain rfl : j = i := (by omega); rw [ht3, ht4]; have h9 := h5; simpa using h9)⟩
    have hmn : l.length - (i + 1) < l.length - i := by omega
    exact ⟨i + 1, hK.sub ⟨rfl, rfl, rfl, rfl, rfl, trivial⟩, hM, hRn, hmn⟩
  ·refine stepP hK 14 (.bool false) (by kernel_rfl) (okBool (b := (decide ((((i : Nat) : Int) : Int) < ((l.length : Nat) : Int)))) (by kernel_rfl) (decide_eq_false h2)) fun a hK => ?_
   refine region_done hK [(14, .bool false), (10, .bool false), (4, .bool false), (0, .slice A l.length c), (1, .slice B m.length d), (5, vN i)] ⟨rfl, rfl, rfl, rfl, rfl, rfl, trivial⟩ fun a hK => ?_
   refine wp_cond_false (hK.get rfl) ?_
   refine wp_exit (exit_then (exit_then (exit_here 0 ?_)))
   refine wp_seq ?_
   refine region_go (lst := [0]) (by kernel_rfl) ?_
   refine stepP hK 4 (.bool true) (by kernel_rfl) (by kernel_rfl) fun a hK => ?_
   refine region_done hK [(4, .bool true), (14, .bool false), (10, .bool false), (0, .slice A l.length c), (1, .slice B m.length d), (5, vN i)] ⟨rfl, rfl, rfl, rfl, rfl, rfl, trivial⟩ fun a hK => ?_
   refine wp_ret ?_
   exact ret_t hK rfl (u := (.bool true)) rfl (⟨by rw [decide_eq_true (list_same hlen fun j hj => hR.2 j (by omega))], hM.below⟩)
set_option maxRecDepth 100000 in
set_option maxHeartbeats 4000000 in
theorem kit_Ints {A B : Option Addr} {c d : Nat} (l m : List Int) (w0 : World) (hl : HandAt w0 A (fun x => [.int .i64 x]) 1 l) (hm : HandAt w0 B (fun x => [.int .i64 x]) 1 m) (hbl : l.length ≤ 1000000) (hbm : m.length ≤ 1000000) : Calls Tryd.prog 26 #[.slice A l.length c, .slice B m.length d] w0 (Ret w0 (.bool (decide (l = m)))) := by
 refine calls_K (args := [.slice A l.length c, .slice B m.length d]) (n := 26) (env := [(0, .slice A l.length c), (1, .slice B m.length d)]) Tryd.func26 rfl rfl rfl ⟨rfl, rfl, trivial⟩ fun a w hK hM => ?_
 refine wp_seq ?_
 refine region_go (lst := [0]) (by kernel_rfl) ?_
 refine stepP hK 4 (.bool false) (by kernel_rfl) (by kernel_rfl) fun a hK => ?_
 refine region_done hK [(4, .bool false), (0, .slice A l.length c), (1, .slice B m.length d)] ⟨rfl, rfl, rfl, trivial⟩ fun a hK => ?_
 refine wp_seq ?_
 refine wp_seq ?_
 refine region_go (lst := [0, 1, 2, 3, 4]) (by kernel_rfl) ?_
 refine stepM hK 6 0 (by kernel_rfl) (.inl rfl) rfl fun a hK => ?_
 refine stepP hK 7 (.int .i64 ((l.length : Nat) : Int)) (by kernel_rfl) (by kernel_rfl) fun a hK => ?_
 refine stepM hK 8 1 (by kernel_rfl) (.inl rfl) rfl fun a hK => ?_
 refine stepP hK 9 (.int .i64 ((m.length : Nat) : Int)) (by kernel_rfl) (by kernel_rfl) fun a hK => ?_
 rcases Bool.eq_false_or_eq_true (!(decide ((((l.length : Nat) : Int) : Int) = ((m.length : Nat) : Int)))) with h1 | h1
 ·refine stepP hK 10 (.bool true) (by kernel_rfl) (okBool (b := (!(decide ((((l.length : Nat) : Int) : Int) = ((m.length : Nat) : Int))))) (by kernel_rfl) h1) fun a hK => ?_
  refine region_done hK [(10, .bool true), (4, .bool false), (0, .slice A l.length c), (1, .slice B m.length d)] ⟨rfl, rfl, rfl, rfl, trivial⟩ fun a hK => ?_
  refine wp_cond_true (hK.get rfl) ?_
  refine wp_seq ?_
  refine region_go (lst := [0]) (by kernel_rfl) ?_
  refine stepP hK 4 (.bool false) (by kernel_rfl) (by kernel_rfl) fun a hK => ?_
  refine region_done hK [(4, .bool false), (10, .bool true), (0, .slice A l.length c), (1, .slice B m.length d)] ⟨rfl, rfl, rfl, rfl, trivial⟩ fun a hK => ?_
  refine wp_ret ?_
  exact ret_t hK rfl (u := (.bool false)) rfl (⟨by rw [decide_eq_false (fun e => by subst e; have h9 := h1; simp at h9)], hM.below⟩)
 ·refine stepP hK 10 (.bool false) (by kernel_rfl) (okBool (b := (!(decide ((((l.length : Nat) : Int) : Int) = ((m.length : Nat) : Int))))) (by kernel_rfl) h1) fun a hK => ?_
  refine region_done hK [(10, .bool false), (4, .bool false), (0, .slice A l.length c), (1, .slice B m.length d)] ⟨rfl, rfl, rfl, rfl, trivial⟩ fun a hK => ?_
  refine wp_cond_false (hK.get rfl) ?_
  refine wp_skip ?_
  refine wp_seq ?_
  refine wp_seq ?_
  have hlen : l.length = m.length := by have q := h1; simp at q; omega
  refine region_go (lst := [0]) (by kernel_rfl) ?_
  refine stepP hK 5 (.int .i64 0) (by kernel_rfl) (by kernel_rfl) fun a hK => ?_
  refine region_done hK [(5, .int .i64 0), (10, .bool false), (4, .bool false), (0, .slice A l.length c), (1, .slice B m.length d)] ⟨rfl, rfl, rfl, rfl, rfl, trivial⟩ fun a hK => ?_
  refine wp_block ?_
  refine wp_loopX (fun x : Nat => [(10, .bool false), (4, .bool false), (0, .slice A l.length c), (1, .slice B m.length d), (5, vN x)]) (fun x : Nat => []) (fun x : Nat => x ≤ l.length ∧ ∀ j, j < x → l[j]? = m[j]?) (fun x : Nat => l.length - x) 0 (hK.sub ⟨rfl, rfl, rfl, rfl, rfl, trivial⟩) hM ⟨Nat.zero_le _, fun j hj => by omega⟩ ?_
  rintro i a w hK hM hR
  replace hK : Knows a 26 [(10, .bool false), (4, .bool false), (0, .slice A l.length c), (1, .slice B m.length d), (5, vN i)] := hK
  replace hM : Mem w0 w [] := hM
  replace hR : i ≤ l.length ∧ ∀ j, j < i → l[j]? = m[j]? := hR
  refine wp_seq ?_
  refine wp_seq ?_
  refine region_go (lst := [0, 1, 2, 3]) (by kernel_rfl) ?_
  refine stepM hK 11 5 (by kernel_rfl) (.inl rfl) rfl fun a hK => ?_
  refine stepM hK 12 0 (by kernel_rfl) (.inl rfl) rfl fun a hK => ?_
  refine stepP hK 13 (.int .i64 ((l.length : Nat) : Int)) (by kernel_rfl) (by kernel_rfl) fun a hK => ?_
  by_cases h2 : (((i : Nat) : Int) : Int) < ((l.length : Nat) : Int)
  ·refine stepP hK 14 (.bool true) (by kernel_rfl) (okBool (b := (decide ((((i : Nat) : Int) : Int) < ((l.length : Nat) : Int)))) (by kernel_rfl) (decide_eq_true h2)) fun a hK => ?_
   refine region_done hK [(14, .bool true), (10, .bool false), (4, .bool false), (0, .slice A l.length c), (1, .slice B m.length d), (5, vN i)] ⟨rfl, rfl, rfl, rfl, rfl, rfl, trivial⟩ fun a hK => ?_
   refine wp_cond_true (hK.get rfl) ?_
   refine wp_skip ?_
   refine wp_seq ?_
   refine wp_block ?_
   refine wp_seq ?_
   obtain ⟨t3, ht3⟩ : ∃ t, l[(i : Nat)]? = some t := ⟨_, List.getElem?_eq_getElem (by omega)⟩
   obtain ⟨at3, At3, ct3⟩ := hl _ _ ht3
   obtain ⟨t4, ht4⟩ : ∃ t, m[(i : Nat)]? = some t := ⟨_, List.getElem?_eq_getElem (by omega)⟩
   obtain ⟨at4, At4, ct4⟩ := hm _ _ ht4
   rcases Bool.eq_false_or_eq_true (!(decide ((t3 : Int) = t4))) with h5 | h5
   ·refine region_any (F := fun w => Mem w0 w []) hK [some (.slice A l.length c), some (vN i), some (.pointer (some (at3.add (i * 1)))), some (.int .i64 t3), some (.slice B m.length d), some (vN i), some (.pointer (some (at4.add (i * 1)))), some (.int .i64 t4), some (.bool true)] 9 (fun _ _ hb hm => hm.go hb) hM (by kernel_rfl) (by kernel_rfl) ⟨⟨⟨⟨⟨⟨⟨⟨⟨trivial, ?_⟩, ?_⟩, ?_⟩, ?_⟩, ?_⟩, ?_⟩, ?_⟩, ?_⟩, ?_⟩ [(25, .bool true), (14, .bool true), (10, .bool false), (4, .bool false), (0, .slice A l.length c), (1, .slice B m.length d), (5, vN i)] (by kernel_rfl) fun a w hK hM => ?_
    ·exact .val (.slice A l.length c) rfl (by kernel_rfl) (fun w hM => (by kernel_rfl))
    ·exact .val (vN i) rfl (by kernel_rfl) (fun w hM => (by kernel_rfl))
    ·exact .val (.pointer (some (at3.add (i * 1)))) rfl (by kernel_rfl) (fun w hM => (run_ixA (k := i) (s := 1) rfl rfl At3 rfl Tryd.underlying53 (by kernel_rfl) (by omega)))
    ·exact .val (.int .i64 t3) rfl (by kernel_rfl) (fun w hM => run_loadE rfl rfl ((ct3.on hM.below)) (by kernel_rfl))
    ·exact .val (.slice B m.length d) rfl (by kernel_rfl) (fun w hM => (by kernel_rfl))
    ·exact .val (vN i) rfl (by kernel_rfl) (fun w hM => (by kernel_rfl))
    ·exact .val (.pointer (some (at4.add (i * 1)))) rfl (by kernel_rfl) (fun w hM => (run_ixA (k := i) (s := 1) rfl rfl At4 rfl Tryd.underlying53 (by kernel_rfl) (by omega)))
    ·exact .val (.int .i64 t4) rfl (by kernel_rfl) (fun w hM => run_loadE rfl rfl ((ct4.on hM.below)) (by kernel_rfl))
    ·exact .val (.bool true) rfl (by kernel_rfl) (fun w hM => (okBool (b := (!(decide ((t3 : Int) = t4)))) (by kernel_rfl) h5))
    refine wp_cond_true (hK.get rfl) ?_
    refine wp_seq ?_
    refine region_go (lst := [0]) (by kernel_rfl) ?_
    refine stepP hK 4 (.bool false) (by kernel_rfl) (by kernel_rfl) fun a hK => ?_
    refine region_done hK [(4, .bool false), (25, .bool true), (14, .bool true), (10, .bool false), (0, .slice A l.length c), (1, .slice B m.length d), (5, vN i)] ⟨rfl, rfl, rfl, rfl, rfl, rfl, rfl, trivial⟩ fun a hK => ?_
    refine wp_ret ?_
    exact ret_t hK rfl (u := (.bool false)) rfl (⟨by rw [decide_eq_false (fun e => by subst e; rw [ht3] at ht4; obtain rfl := Option.some.inj ht4; have h9 := h5; simp at h9)], hM.below⟩)
   ·refine region_any (F := fun w => Mem w0 w []) hK [some (.slice A l.length c), some (vN i), some (.pointer (some (at3.add (i * 1)))), some (.int .i64 t3), some (.slice B m.length d), some (vN i), some (.pointer (some (at4.add (i * 1)))), some (.int .i64 t4), some (.bool false)] 9 (fun _ _ hb hm => hm.go hb) hM (by kernel_rfl) (by kernel_rfl) ⟨⟨⟨⟨⟨⟨⟨⟨⟨trivial, ?_⟩, ?_⟩, ?_⟩, ?_⟩, ?_⟩, ?_⟩, ?_⟩, ?_⟩, ?_⟩ [(25, .bool false), (14, .bool true), (10, .bool false), (4, .bool false), (0, .slice A l.length c), (1, .slice B m.length d), (5, vN i)] (by kernel_rfl) fun a w hK hM => ?_
    ·exact .val (.slice A l.length c) rfl (by kernel_rfl) (fun w hM => (by kernel_rfl))
    ·exact .val (vN i) rfl (by kernel_rfl) (fun w hM => (by kernel_rfl))
    ·exact .val (.pointer (some (at3.add (i * 1)))) rfl (by kernel_rfl) (fun w hM => (run_ixA (k := i) (s := 1) rfl rfl At3 rfl Tryd.underlying53 (by kernel_rfl) (by omega)))
    ·exact .val (.int .i64 t3) rfl (by kernel_rfl) (fun w hM => run_loadE rfl rfl ((ct3.on hM.below)) (by kernel_rfl))
    ·exact .val (.slice B m.length d) rfl (by kernel_rfl) (fun w hM => (by kernel_rfl))
    ·exact .val (vN i) rfl (by kernel_rfl) (fun w hM => (by kernel_rfl))
    ·exact .val (.pointer (some (at4.add (i * 1)))) rfl (by kernel_rfl) (fun w hM => (run_ixA (k := i) (s := 1) rfl rfl At4 rfl Tryd.underlying53 (by kernel_rfl) (by omega)))
    ·exact .val (.int .i64 t4) rfl (by kernel_rfl) (fun w hM => run_loadE rfl rfl ((ct4.on hM.below)) (by kernel_rfl))
    ·exact .val (.bool false) rfl (by kernel_rfl) (fun w hM => (okBool (b := (!(decide ((t3 : Int) = t4)))) (by kernel_rfl) h5))
    refine wp_cond_false (hK.get rfl) ?_
    refine wp_skip ?_
    refine region_go (lst := [0, 1, 2]) (by kernel_rfl) ?_
    refine stepM hK 15 5 (by kernel_rfl) (.inl rfl) rfl fun a hK => ?_
    refine stepP hK 16 (.int .i64 (((i + 1) : Nat) : Int)) (by kernel_rfl) (run_addN (i := i) (j := 1) rfl rfl rfl (by omega)) fun a hK => ?_
    refine stepM hK 5 16 (by kernel_rfl) (.inr rfl) rfl fun a hK => ?_
    refine region_done hK [(5, .int .i64 (((i + 1) : Nat) : Int)), (25, .bool false), (14, .bool true), (10, .bool false), (4, .bool false), (0, .slice A l.length c), (1, .slice B m.length d)] ⟨rfl, rfl, rfl, rfl, rfl, rfl, rfl, trivial⟩ fun a hK => ?_
    have hRn : (i + 1) ≤ l.length ∧ ∀ j, j < (i + 1) → l[j]? = m[j]? := ⟨by omega, fun j hj => (Nat.lt_or_ge j i).elim (fun h8 => hR.2 j h8) (fun h8 => by obtain rfl : j = i := (by omega); rw [ht3, ht4]; have h9 := h5; simpa using h9)⟩
    have hmn : l.length - (i + 1) < l.length - i := by omega
    exact ⟨i + 1, hK.sub ⟨rfl, rfl, rfl, rfl, rfl, trivial⟩, hM, hRn, hmn⟩
  ·refine stepP hK 14 (.bool false) (by kernel_rfl) (okBool (b := (decide ((((i : Nat) : Int) : Int) < ((l.length : Nat) : Int)))) (by kernel_rfl) (decide_eq_false h2)) fun a hK => ?_
   refine region_done hK [(14, .bool false), (10, .bool false), (4, .bool false), (0, .slice A l.length c), (1, .slice B m.length d), (5, vN i)] ⟨rfl, rfl, rfl, rfl, rfl, rfl, trivial⟩ fun a hK => ?_
   refine wp_cond_false (hK.get rfl) ?_
   refine wp_exit (exit_then (exit_then (exit_here 0 ?_)))
   refine wp_seq ?_
   refine region_go (lst := [0]) (by kernel_rfl) ?_
   refine stepP hK 4 (.bool true) (by kernel_rfl) (by kernel_rfl) fun a hK => ?_
   refine region_done hK [(4, .bool true), (14, .bool false), (10, .bool false), (0, .slice A l.length c), (1, .slice B m.length d), (5, vN i)] ⟨rfl, rfl, rfl, rfl, rfl, rfl, trivial⟩ fun a hK => ?_
   refine wp_ret ?_
   exact ret_t hK rfl (u := (.bool true)) rfl (⟨by rw [decide_eq_true (list_same hlen fun j hj => hR.2 j (by omega))], hM.below⟩)
theorem lib_Clone0 (l : List UInt8) (w0 : World) (h : l.length ≤ 281474976710656) : Calls Tryd.prog 83 #[Str l] w0 (Ret w0 (Str l)) := Tryd.stringslite_Clone ⟨l.toArray⟩ w0 h
theorem en_stringslite_Clone : Enters Tryd.prog 83 := enters_of Tryd.func83 (by kernel_rfl) rfl
set_option maxRecDepth 100000 in
set_option maxHeartbeats 4000000 in
theorem lib_Clone (l : List UInt8) (w0 : World) (hln : l.length ≤ 65536) : Calls Tryd.prog 61 #[Str l] w0 (Ret w0 (Str l)) := by
 refine calls_K (args := [Str l]) (n := 5) (env := [(0, Str l)]) Tryd.func61 rfl rfl rfl ⟨rfl, trivial⟩ fun a w hK hM => ?_
 refine wp_seq ?_
 refine region_go (lst := [0]) (by kernel_rfl) ?_
 refine stepP hK 2 (Str []) (by kernel_rfl) (by kernel_rfl) fun a hK => ?_
 refine region_done hK [(2, Str []), (0, Str l)] ⟨rfl, rfl, trivial⟩ fun a hK => ?_
 refine wp_seq ?_
 refine region_go (lst := [0, 1, 2]) (by kernel_rfl) ?_
 refine stepM hK 3 0 (by kernel_rfl) (.inl rfl) rfl fun a hK => ?_
 refine stepRet hK hM 4 #[Str l] (Str l) (by kernel_rfl) (run_callE en_stringslite_Clone rfl rfl (by kernel_rfl)) (lib_Clone0 l _ (by omega)) fun a w hK hM => ?_
 refine stepM hK 2 4 (by kernel_rfl) (.inr rfl) rfl fun a hK => ?_
 refine region_done hK [(2, Str l), (0, Str l)] ⟨rfl, rfl, trivial⟩ fun a hK => ?_
 refine wp_ret ?_
 exact ret_t hK rfl (u := (Str l)) rfl (⟨rfl, hM.below⟩)
theorem Mem.start_own {w0 w : World} (hb : Below w0.heap.size w0 w) {l : List (List UInt8)} (hl : l = []) : Mem w0 w [.own 9 1 (.slice none 0 0) l.length (l.map Str)] := by
 subst hl
 exact ⟨hb, fun it hi => by obtain rfl := List.mem_singleton.1 hi; exact ⟨rfl, .inl ⟨rfl, rfl⟩⟩, List.pairwise_singleton _ _⟩
set_option maxRecDepth 100000 in
set_option maxHeartbeats 4000000 in
theorem ast_eachS {A : Option Addr} {c : Nat} (l : List (List UInt8)) (w0 : World) (hl : HandAt w0 A (fun x => [Str x]) 1 l) (hbl : l.length ≤ 1000000) (hs : ∀ x ∈ l, x.length ≤ 65536) (hnil : A = none → l = []) : Calls Tryd.prog 58 #[.slice A l.length c, .func (.func 61) #[] #[]] w0 (Gives w0 (fun v : Value => v) (fun v => [.own 9 1 v l.length (l.map Str)]) fun _ => True) := by
 refine calls_K (args := [.slice A l.length c, .func (.func 61) #[] #[]]) (n := 28) (env := [(0, .slice A l.length c), (1, .func (.func 61) #[] #[])]) Tryd.func58 rfl rfl rfl ⟨rfl, rfl, trivial⟩ fun a w hK hM => ?_
 refine wp_seq ?_
 refine region_go (lst := [0]) (by kernel_rfl) ?_
 refine stepP hK 4 (.slice none 0 0) (by kernel_rfl) (by kernel_rfl) fun a hK => ?_
 refine region_done hK [(4, .slice none 0 0), (0, .slice A l.length c), (1, .func (.func 61) #[] #[])] ⟨rfl, rfl, rfl, trivial⟩ fun a hK => ?_
 refine wp_seq ?_
 refine wp_seq ?_
 refine region_go (lst := [0, 1]) (by kernel_rfl) ?_
 refine stepM hK 8 0 (by kernel_rfl) (.inl rfl) rfl fun a hK => ?_
 rcases Bool.eq_false_or_eq_true (A).isNone with h1 | h1
 ·refine stepP hK 9 (.bool true) (by kernel_rfl) (okBool (b := (A).isNone) (run_eqNil rfl rfl rfl Tryd.underlying50) h1) fun a hK => ?_
  refine region_done hK [(9, .bool true), (4, .slice none 0 0), (0, .slice A l.length c), (1, .func (.func 61) #[] #[])] ⟨rfl, rfl, rfl, rfl, trivial⟩ fun a hK => ?_
  refine wp_cond_true (hK.get rfl) ?_
  refine wp_seq ?_
  refine region_go (lst := [0]) (by kernel_rfl) ?_
  refine stepP hK 4 (.slice none 0 0) (by kernel_rfl) (by kernel_rfl) fun a hK => ?_
  refine region_done hK [(4, .slice none 0 0), (9, .bool true), (0, .slice A l.length c), (1, .func (.func 61) #[] #[])] ⟨rfl, rfl, rfl, rfl, trivial⟩ fun a hK => ?_
  refine wp_ret ?_
  exact ret_t hK rfl (u := (.slice none 0 0)) rfl (⟨.slice none 0 0, rfl, Mem.start_own hM.below (hnil (by simpa using h1)), trivial⟩)
 ·refine stepP hK 9 (.bool false) (by kernel_rfl) (okBool (b := (A).isNone) (run_eqNil rfl rfl rfl Tryd.underlying50) h1) fun a hK => ?_
  refine region_done hK [(9, .bool false), (4, .slice none 0 0), (0, .slice A l.length c), (1, .func (.func 61) #[] #[])] ⟨rfl, rfl, rfl, rfl, trivial⟩ fun a hK => ?_
  refine wp_cond_false (hK.get rfl) ?_
  refine wp_skip ?_
  refine wp_seq ?_
  refine region_go (lst := [0, 1, 2, 3]) (by kernel_rfl) ?_
  refine stepM hK 10 0 (by kernel_rfl) (.inl rfl) rfl fun a hK => ?_
  refine stepP hK 11 (.int .i64 ((l.length : Nat) : Int)) (by kernel_rfl) (by kernel_rfl) fun a hK => ?_
  refine stepMake hK hM 12 [Str []] l.length 16 Tryd.underlying50 (by kernel_rfl) (by kernel_rfl) rfl rfl rfl (by omega) fun b2 a w hK hM => ?_
  refine stepM hK 5 12 (by kernel_rfl) (.inr rfl) rfl fun a hK => ?_
  refine region_done hK [(5, .slice (some ⟨b2, 0, none⟩) l.length l.length), (9, .bool false), (4, .slice none 0 0), (0, .slice A l.length c), (1, .func (.func 61) #[] #[])] ⟨rfl, rfl, rfl, rfl, rfl, trivial⟩ fun a hK => ?_
  refine wp_seq ?_
  refine wp_seq ?_
  refine region_go (lst := [0, 1, 2]) (by kernel_rfl) ?_
  refine stepM hK 13 0 (by kernel_rfl) (.inl rfl) rfl fun a hK => ?_
  refine stepP hK 14 (.int .i64 ((l.length : Nat) : Int)) (by kernel_rfl) (by kernel_rfl) fun a hK => ?_
  refine stepP hK 15 (.int .i64 0) (by kernel_rfl) (by kernel_rfl) fun a hK => ?_
  refine region_done hK [(15, .int .i64 0), (14, .int .i64 ((l.length : Nat) : Int)), (13, .slice A l.length c), (5, .slice (some ⟨b2, 0, none⟩) l.length l.length), (9, .bool false), (4, .slice none 0 0), (0, .slice A l.length c), (1, .func (.func 61) #[] #[])] ⟨rfl, rfl, rfl, rfl, rfl, rfl, rfl, rfl, trivial⟩ fun a hK => ?_
  refine wp_block ?_
  refine wp_loopX (fun x : Nat => [(14, .int .i64 ((l.length : Nat) : Int)), (13, .slice A l.length c), (5, .slice (some ⟨b2, 0, none⟩) l.length l.length), (9, .bool false), (4, .slice none 0 0), (0, .slice A l.length c), (1, .func (.func 61) #[] #[]), (15, vN x)]) (fun x : Nat => [.row b2 9 ((l.take x).map Str ++ zerosL (l.length - x) [Str []])]) (fun x : Nat => x ≤ l.length) (fun x : Nat => l.length - x) 0 (hK.sub ⟨rfl, rfl, rfl, rfl, rfl, rfl, rfl, rfl, trivial⟩) hM (Nat.zero_le _) ?_
  rintro i a w hK hM hR
  replace hK : Knows a 28 [(14, .int .i64 ((l.length : Nat) : Int)), (13, .slice A l.length c), (5, .slice (some ⟨b2, 0, none⟩) l.length l.length), (9, .bool false), (4, .slice none 0 0), (0, .slice A l.length c), (1, .func (.func 61) #[] #[]), (15, vN i)] := hK
  replace hM : Mem w0 w [.row b2 9 ((l.take i).map Str ++ zerosL (l.length - i) [Str []])] := hM
  replace hR : i ≤ l.length := hR
  refine wp_seq ?_
  refine region_go (lst := [0]) (by kernel_rfl) ?_
  by_cases h3 : (((i : Nat) : Int) : Int) < ((l.length : Nat) : Int)
  ·refine stepP hK 16 (.bool true) (by kernel_rfl) (okBool (b := (decide ((((i : Nat) : Int) : Int) < ((l.length : Nat) : Int)))) (by kernel_rfl) (decide_eq_true h3)) fun a hK => ?_
   refine region_done hK [(16, .bool true), (14, .int .i64 ((l.length : Nat) : Int)), (13, .slice A l.length c), (5, .slice (some ⟨b2, 0, none⟩) l.length l.length), (9, .bool false), (4, .slice none 0 0), (0, .slice A l.length c), (1, .func (.func 61) #[] #[]), (15, vN i)] ⟨rfl, rfl, rfl, rfl, rfl, rfl, rfl, rfl, rfl, trivial⟩ fun a hK => ?_
   refine wp_seq ?_
   refine wp_cond_true (hK.get rfl) ?_
   refine wp_skip ?_
   refine wp_seq ?_
   refine wp_block ?_
   refine wp_seq ?_
   refine region_go (lst := [0, 1, 2, 3, 4]) (by kernel_rfl) ?_
   refine stepM hK 17 15 (by kernel_rfl) (.inl rfl) rfl fun a hK => ?_
   obtain ⟨t4, ht4⟩ : ∃ t, l[(i : Nat)]? = some t := ⟨_, List.getElem?_eq_getElem (by omega)⟩
   obtain ⟨at4, At4, ct4⟩ := hl _ _ ht4
   refine stepP hK 18 (.pointer (some (at4.add (i * 1)))) (by kernel_rfl) (run_ixA (k := i) (s := 1) rfl rfl At4 rfl Tryd.underlying50 (by kernel_rfl) (by omega)) fun a hK => ?_
   refine stepLoad hK 19 (Str t4) (by kernel_rfl) rfl rfl ((ct4.on hM.below)) (by kernel_rfl) fun a hK => ?_
   refine stepM hK 6 17 (by kernel_rfl) (.inr rfl) rfl fun a hK => ?_
   refine stepM hK 7 19 (by kernel_rfl) (.inr rfl) rfl fun a hK => ?_
   refine region_done hK [(7, Str t4), (6, vN i), (16, .bool true), (14, .int .i64 ((l.length : Nat) : Int)), (13, .slice A l.length c), (5, .slice (some ⟨b2, 0, none⟩) l.length l.length), (9, .bool false), (4, .slice none 0 0), (0, .slice A l.length c), (1, .func (.func 61) #[] #[]), (15, vN i)] ⟨rfl, rfl, rfl, rfl, rfl, rfl, rfl, rfl, rfl, rfl, rfl, trivial⟩ fun a hK => ?_
   refine region_go (lst := [0, 1, 2, 3, 4, 5, 6]) (by kernel_rfl) ?_
   refine stepM hK 20 5 (by kernel_rfl) (.inl rfl) rfl fun a hK => ?_
   refine stepM hK 21 6 (by kernel_rfl) (.inl rfl) rfl fun a hK => ?_
   refine stepM hK 22 1 (by kernel_rfl) (.inl rfl) rfl fun a hK => ?_
   refine stepM hK 23 7 (by kernel_rfl) (.inl rfl) rfl fun a hK => ?_
   refine stepRet hK hM 24 #[Str t4] (Str t4) (by kernel_rfl) (run_callE en_strings_Clone rfl rfl (by kernel_rfl)) (lib_Clone t4 _ (hs _ (List.mem_of_getElem? ht4))) fun a w hK hM => ?_
   refine stepP hK 25 (.pointer (some ⟨b2, i * 1, none⟩)) (by kernel_rfl) (run_ixG (k := i) (s := 1) rfl rfl rfl Tryd.underlying50 (by kernel_rfl) (by omega)) fun a hK => ?_
   refine stepStoreAt hK hM 0 [Str t4] (((l.take (i + 1)).map Str ++ zerosL (l.length - (i + 1)) [Str []])) (by kernel_rfl) rfl rfl rfl rfl (by kernel_rfl) rfl rfl (by rw [List.length_append, List.length_map, List.length_take, zerosL_length]; simp only [List.length_cons, List.length_nil]; omega) ((put_next (A := (l.take i).map Str) (new := [Str t4]) (zs := [Str []]) (m := l.length - i) (k := i * 1) (by simp; omega) rfl (by omega)).trans (by rw [List.take_add_one, ht4]; simp [Nat.sub_sub])) fun w hM => ?_
   replace hM := hM.to ([.row b2 9 (((l.take (i + 1)).map Str ++ zerosL (l.length - (i + 1)) [Str []]))]) (by kernel_rfl)
   refine region_done hK [(7, Str t4), (6, vN i), (16, .bool true), (14, .int .i64 ((l.length : Nat) : Int)), (13, .slice A l.length c), (5, .slice (some ⟨b2, 0, none⟩) l.length l.length), (9, .bool false), (4, .slice none 0 0), (0, .slice A l.length c), (1, .func (.func 61) #[] #[]), (15, vN i)] ⟨rfl, rfl, rfl, rfl, rfl, rfl, rfl, rfl, rfl, rfl, rfl, trivial⟩ fun a hK => ?_
   refine region_go (lst := [0, 1]) (by kernel_rfl) ?_
   refine stepP hK 26 (.int .i64 (((i + 1) : Nat) : Int)) (by kernel_rfl) (run_addN (i := i) (j := 1) rfl rfl rfl (by omega)) fun a hK => ?_
   refine stepM hK 15 26 (by kernel_rfl) (.inl rfl) rfl fun a hK => ?_
   refine region_done hK [(15, .int .i64 (((i + 1) : Nat) : Int)), (7, Str t4), (6, vN i), (16, .bool true), (14, .int .i64 ((l.length : Nat) : Int)), (13, .slice A l.length c), (5, .slice (some ⟨b2, 0, none⟩) l.length l.length), (9, .bool false), (4, .slice none 0 0), (0, .slice A l.length c), (1, .func (.func 61) #[] #[])] ⟨rfl, rfl, rfl, rfl, rfl, rfl, rfl, rfl, rfl, rfl, rfl, trivial⟩ fun a hK => ?_
   have hRn : (i + 1) ≤ l.length := by omega
   have hmn : l.length - (i + 1) < l.length - i := by omega
   exact ⟨i + 1, hK.sub ⟨rfl, rfl, rfl, rfl, rfl, rfl, rfl, rfl, trivial⟩, hM, hRn, hmn⟩
  ·refine stepP hK 16 (.bool false) (by kernel_rfl) (okBool (b := (decide ((((i : Nat) : Int) : Int) < ((l.length : Nat) : Int)))) (by kernel_rfl) (decide_eq_false h3)) fun a hK => ?_
   refine region_done hK [(16, .bool false), (14, .int .i64 ((l.length : Nat) : Int)), (13, .slice A l.length c), (5, .slice (some ⟨b2, 0, none⟩) l.length l.length), (9, .bool false), (4, .slice none 0 0), (0, .slice A l.length c), (1, .func (.func 61) #[] #[]), (15, vN i)] ⟨rfl, rfl, rfl, rfl, rfl, rfl, rfl, rfl, rfl, trivial⟩ fun a hK => ?_
   refine wp_seq ?_
   refine wp_cond_false (hK.get rfl) ?_
   refine wp_exit (exit_then (exit_then (exit_here 0 ?_)))
   refine wp_seq ?_
   refine region_go (lst := [0, 1]) (by kernel_rfl) ?_
   refine stepM hK 27 5 (by kernel_rfl) (.inl rfl) rfl fun a hK => ?_
   refine stepM hK 4 27 (by kernel_rfl) (.inr rfl) rfl fun a hK => ?_
   refine region_done hK [(4, .slice (some ⟨b2, 0, none⟩) l.length l.length), (16, .bool false), (14, .int .i64 ((l.length : Nat) : Int)), (13, .slice A l.length c), (5, .slice (some ⟨b2, 0, none⟩) l.length l.length), (9, .bool false), (0, .slice A l.length c), (1, .func (.func 61) #[] #[]), (15, vN i)] ⟨rfl, rfl, rfl, rfl, rfl, rfl, rfl, rfl, rfl, trivial⟩ fun a hK => ?_
   refine wp_ret ?_
   exact ret_t hK rfl (u := (.slice (some ⟨b2, 0, none⟩) l.length l.length)) rfl (⟨.slice (some ⟨b2, 0, none⟩) l.length l.length, rfl, (hM.to [.row b2 9 (l.map Str)] (by rw [List.take_of_length_le (by omega), Nat.sub_eq_zero_of_le (by omega)]; simp [zerosL])).rowOwn (by simp) (by omega), trivial⟩)
end Go.Proofs.YtiigncmpbkfhmaaDoor
namespace Go.Proofs.YtiigncmpbkfhmaaDoor
open Go Go.RowKit
def exsEq (l m : List Ex) : Bool := !(neI ((l.length : Nat) : Int) ((m.length : Nat) : Int)) && exsSame l m
theorem same_ex (e g : Ex) : e.same g = (decide (e.op = g.op) && (decide (e.num = g.num) && (decide (e.nm = g.nm) && exsEq e.ks g.ks))) := by
 rw [same_eq]
 unfold exNe exsEq neI neS
 cases decide (e.op = g.op) <;> cases decide (e.num = g.num) <;> cases decide (e.nm = g.nm) <;> cases decide (((e.ks.length : Nat) : Int) = ((g.ks.length : Nat) : Int)) <;> rfl
theorem en_cantileverkit_Expr : Enters Tryd.prog 92 := enters_of Tryd.func92 (by kernel_rfl) rfl
theorem en_cantileverkit_Exprs : Enters Tryd.prog 79 := enters_of Tryd.func79 (by kernel_rfl) rfl
theorem en_ast_SameExpr : Enters Tryd.prog 91 := enters_of Tryd.func91 (by kernel_rfl) rfl
theorem en_api_Expr_ : Enters Tryd.prog 90 := enters_of Tryd.func90 (by kernel_rfl) rfl
set_option maxRecDepth 100000 in
set_option maxHeartbeats 4000000 in
theorem kit_Exprs0 (l : List Ex) (ih : ∀ x ∈ l, ∀ (g : Ex) (w0 : World), ExAt w0 x → ExAt w0 g → Calls Tryd.prog 92 #[vE x, vE g] w0 (Ret w0 (.bool (x.same g)))) : ∀ (m : List Ex) (A : Option Addr) (c : Nat) (B : Option Addr) (d : Nat) (w0 : World), ExsAt w0 A l → ExsAt w0 B m → l.length ≤ 9223372036854775807 → m.length ≤ 9223372036854775807 → Calls Tryd.prog 79 #[.slice A l.length c, .slice B m.length d] w0 (Ret w0 (.bool (exsEq l m))) := by
 intro m A c B d w0 hl hm hln hmn
 refine calls_K (args := [.slice A l.length c, .slice B m.length d]) (n := 27) (env := [(0, .slice A l.length c), (1, .slice B m.length d)]) Tryd.func79 rfl rfl rfl ⟨rfl, rfl, trivial⟩ fun a w hK hM => ?_
 refine wp_seq ?_
 refine region_go (lst := [0]) (by kernel_rfl) ?_
 refine stepP hK 4 (.bool false) (by kernel_rfl) (by kernel_rfl) fun a hK => ?_
 refine region_done hK [(4, .bool false), (0, .slice A l.length c), (1, .slice B m.length d)] ⟨rfl, rfl, rfl, trivial⟩ fun a hK => ?_
 refine wp_seq ?_
 refine wp_seq ?_
 refine region_go (lst := [0, 1, 2, 3, 4]) (by kernel_rfl) ?_
 refine stepM hK 6 0 (by kernel_rfl) (.inl rfl) rfl fun a hK => ?_
 refine stepP hK 7 (.int .i64 ((l.length : Nat) : Int)) (by kernel_rfl) (by kernel_rfl) fun a hK => ?_
 refine stepM hK 8 1 (by kernel_rfl) (.inl rfl) rfl fun a hK => ?_
 refine stepP hK 9 (.int .i64 ((m.length : Nat) : Int)) (by kernel_rfl) (by kernel_rfl) fun a hK => ?_
 rcases Bool.eq_false_or_eq_true (!(decide ((((l.length : Nat) : Int) : Int) = ((m.length : Nat) : Int)))) with h1 | h1
 ·refine stepP hK 10 (.bool true) (by kernel_rfl) (okBool (b := (!(decide ((((l.length : Nat) : Int) : Int) = ((m.length : Nat) : Int))))) (by kernel_rfl) h1) fun a hK => ?_
  refine region_done hK [(10, .bool true), (4, .bool false), (0, .slice A l.length c), (1, .slice B m.length d)] ⟨rfl, rfl, rfl, rfl, trivial⟩ fun a hK => ?_
  refine wp_cond_true (hK.get rfl) ?_
  refine wp_seq ?_
  refine region_go (lst := [0]) (by kernel_rfl) ?_
  refine stepP hK 4 (.bool false) (by kernel_rfl) (by kernel_rfl) fun a hK => ?_
  refine region_done hK [(4, .bool false), (10, .bool true), (0, .slice A l.length c), (1, .slice B m.length d)] ⟨rfl, rfl, rfl, rfl, trivial⟩ fun a hK => ?_
  refine wp_ret ?_
  exact ret_t hK rfl (u := (.bool false)) rfl (⟨by unfold exsEq neI; rw [h1]; rfl, hM.below⟩)
 ·refine stepP hK 10 (.bool false) (by kernel_rfl) (okBool (b := (!(decide ((((l.length : Nat) : Int) : Int) = ((m.length : Nat) : Int))))) (by kernel_rfl) h1) fun a hK => ?_
  refine region_done hK [(10, .bool false), (4, .bool false), (0, .slice A l.length c), (1, .slice B m.length d)] ⟨rfl, rfl, rfl, rfl, trivial⟩ fun a hK => ?_
  refine wp_cond_false (hK.get rfl) ?_
  refine wp_skip ?_
  refine wp_seq ?_
  refine wp_seq ?_
  have hne : neI ((l.length : Nat) : Int) ((m.length : Nat) : Int) = false := by unfold neI; rw [h1]
  have hlen : l.length = m.length := by have q := h1; simp at q; omega
  refine region_go (lst := [0]) (by kernel_rfl) ?_
  refine stepP hK 5 (.int .i64 0) (by kernel_rfl) (by kernel_rfl) fun a hK => ?_
  refine region_done hK [(5, .int .i64 0), (10, .bool false), (4, .bool false), (0, .slice A l.length c), (1, .slice B m.length d)] ⟨rfl, rfl, rfl, rfl, rfl, trivial⟩ fun a hK => ?_
  refine wp_block ?_
  refine wp_loopX (fun x : Nat => [(10, .bool false), (4, .bool false), (0, .slice A l.length c), (1, .slice B m.length d), (5, vN x)]) (fun x : Nat => []) (fun x : Nat => x ≤ l.length ∧ exsSame (l.drop x) (m.drop x) = exsSame l m) (fun x : Nat => l.length - x) 0 (hK.sub ⟨rfl, rfl, rfl, rfl, rfl, trivial⟩) hM ⟨Nat.zero_le _, rfl⟩ ?_
  rintro i a w hK hM hR
  replace hK : Knows a 27 [(10, .bool false), (4, .bool false), (0, .slice A l.length c), (1, .slice B m.length d), (5, vN i)] := hK
  replace hM : Mem w0 w [] := hM
  replace hR : i ≤ l.length ∧ exsSame (l.drop i) (m.drop i) = exsSame l m := hR
  refine wp_seq ?_
  refine wp_seq ?_
  refine region_go (lst := [0, 1, 2, 3]) (by kernel_rfl) ?_
  refine stepM hK 11 5 (by kernel_rfl) (.inl rfl) rfl fun a hK => ?_
  refine stepM hK 12 0 (by kernel_rfl) (.inl rfl) rfl fun a hK => ?_
  refine stepP hK 13 (.int .i64 ((l.length : Nat) : Int)) (by kernel_rfl) (by kernel_rfl) fun a hK => ?_
  by_cases h2 : (((i : Nat) : Int) : Int) < ((l.length : Nat) : Int)
  ·refine stepP hK 14 (.bool true) (by kernel_rfl) (okBool (b := (decide ((((i : Nat) : Int) : Int) < ((l.length : Nat) : Int)))) (by kernel_rfl) (decide_eq_true h2)) fun a hK => ?_
   refine region_done hK [(14, .bool true), (10, .bool false), (4, .bool false), (0, .slice A l.length c), (1, .slice B m.length d), (5, vN i)] ⟨rfl, rfl, rfl, rfl, rfl, rfl, trivial⟩ fun a hK => ?_
   refine wp_cond_true (hK.get rfl) ?_
   refine wp_skip ?_
   refine wp_seq ?_
   refine wp_block ?_
   refine wp_seq ?_
   obtain ⟨t3, ht3⟩ : ∃ t, l[(i : Nat)]? = some t := ⟨_, List.getElem?_eq_getElem (by omega)⟩
   obtain ⟨⟨at3, At3, ct3⟩, et3⟩ := hl _ _ ht3; have nt3 := et3.len
   obtain ⟨t4, ht4⟩ : ∃ t, m[(i : Nat)]? = some t := ⟨_, List.getElem?_eq_getElem (by omega)⟩
   obtain ⟨⟨at4, At4, ct4⟩, et4⟩ := hm _ _ ht4; have nt4 := et4.len
   rcases Bool.eq_false_or_eq_true (t3.same t4) with h5 | h5
   ·refine region_any (F := fun w => Mem w0 w []) hK [some (.slice A l.length c), some (vN i), some (.pointer (some (at3.add (i * 4)))), some (vE t3), some (.slice B m.length d), some (vN i), some (.pointer (some (at4.add (i * 4)))), some (vE t4), some (.bool true), some (.bool false)] 10 (fun _ _ hb hm => hm.go hb) hM (by kernel_rfl) (by kernel_rfl) ⟨⟨⟨⟨⟨⟨⟨⟨⟨⟨trivial, ?_⟩, ?_⟩, ?_⟩, ?_⟩, ?_⟩, ?_⟩, ?_⟩, ?_⟩, ?_⟩, ?_⟩ [(26, .bool false), (14, .bool true), (10, .bool false), (4, .bool false), (0, .slice A l.length c), (1, .slice B m.length d), (5, vN i)] (by kernel_rfl) fun a w hK hM => ?_
    ·exact .val (.slice A l.length c) rfl (by kernel_rfl) (fun w hM => (by kernel_rfl))
    ·exact .val (vN i) rfl (by kernel_rfl) (fun w hM => (by kernel_rfl))
    ·exact .val (.pointer (some (at3.add (i * 4)))) rfl (by kernel_rfl) (fun w hM => (run_ixA (k := i) (s := 4) rfl rfl At3 rfl Tryd.underlying27 (by kernel_rfl) (by omega)))
    ·exact .val (vE t3) rfl (by kernel_rfl) (fun w hM => run_loadE rfl rfl ((ct3.on hM.below)) (by kernel_rfl))
    ·exact .val (.slice B m.length d) rfl (by kernel_rfl) (fun w hM => (by kernel_rfl))
    ·exact .val (vN i) rfl (by kernel_rfl) (fun w hM => (by kernel_rfl))
    ·exact .val (.pointer (some (at4.add (i * 4)))) rfl (by kernel_rfl) (fun w hM => (run_ixA (k := i) (s := 4) rfl rfl At4 rfl Tryd.underlying27 (by kernel_rfl) (by omega)))
    ·exact .val (vE t4) rfl (by kernel_rfl) (fun w hM => run_loadE rfl rfl ((ct4.on hM.below)) (by kernel_rfl))
    ·exact .call _ #[vE t3, vE t4] (.bool true) rfl (by kernel_rfl) (fun w => (run_callE en_cantileverkit_Expr rfl rfl (by kernel_rfl))) (fun w hM => ret_eq (ih t3 (List.mem_of_getElem? ht3) t4 _ (et3.on hM.below) (et4.on hM.below)) (congrArg Value.bool h5))
    ·exact .val (.bool false) rfl (by kernel_rfl) (fun w hM => (by kernel_rfl))
    refine wp_cond_false (hK.get rfl) ?_
    refine wp_skip ?_
    refine region_go (lst := [0, 1, 2]) (by kernel_rfl) ?_
    refine stepM hK 15 5 (by kernel_rfl) (.inl rfl) rfl fun a hK => ?_
    refine stepP hK 16 (.int .i64 (((i + 1) : Nat) : Int)) (by kernel_rfl) (run_addN (i := i) (j := 1) rfl rfl rfl (by omega)) fun a hK => ?_
    refine stepM hK 5 16 (by kernel_rfl) (.inr rfl) rfl fun a hK => ?_
    refine region_done hK [(5, .int .i64 (((i + 1) : Nat) : Int)), (26, .bool false), (14, .bool true), (10, .bool false), (4, .bool false), (0, .slice A l.length c), (1, .slice B m.length d)] ⟨rfl, rfl, rfl, rfl, rfl, rfl, rfl, trivial⟩ fun a hK => ?_
    have hRn : (i + 1) ≤ l.length ∧ exsSame (l.drop (i + 1)) (m.drop (i + 1)) = exsSame l m := ⟨by omega, by rw [← hR.2, exsSame_step ht3 ht4, h5, Bool.true_and]⟩
    have hmn : l.length - (i + 1) < l.length - i := by omega
    exact ⟨i + 1, hK.sub ⟨rfl, rfl, rfl, rfl, rfl, trivial⟩, hM, hRn, hmn⟩
   ·refine region_any (F := fun w => Mem w0 w []) hK [some (.slice A l.length c), some (vN i), some (.pointer (some (at3.add (i * 4)))), some (vE t3), some (.slice B m.length d), some (vN i), some (.pointer (some (at4.add (i * 4)))), some (vE t4), some (.bool false), some (.bool true)] 10 (fun _ _ hb hm => hm.go hb) hM (by kernel_rfl) (by kernel_rfl) ⟨⟨⟨⟨⟨⟨⟨⟨⟨⟨trivial, ?_⟩, ?_⟩, ?_⟩, ?_⟩, ?_⟩, ?_⟩, ?_⟩, ?_⟩, ?_⟩, ?_⟩ [(26, .bool true), (14, .bool true), (10, .bool false), (4, .bool false), (0, .slice A l.length c), (1, .slice B m.length d), (5, vN i)] (by kernel_rfl) fun a w hK hM => ?_
    ·exact .val (.slice A l.length c) rfl (by kernel_rfl) (fun w hM => (by kernel_rfl))
    ·exact .val (vN i) rfl (by kernel_rfl) (fun w hM => (by kernel_rfl))
    ·exact .val (.pointer (some (at3.add (i * 4)))) rfl (by kernel_rfl) (fun w hM => (run_ixA (k := i) (s := 4) rfl rfl At3 rfl Tryd.underlying27 (by kernel_rfl) (by omega)))
    ·exact .val (vE t3) rfl (by kernel_rfl) (fun w hM => run_loadE rfl rfl ((ct3.on hM.below)) (by kernel_rfl))
    ·exact .val (.slice B m.length d) rfl (by kernel_rfl) (fun w hM => (by kernel_rfl))
    ·exact .val (vN i) rfl (by kernel_rfl) (fun w hM => (by kernel_rfl))
    ·exact .val (.pointer (some (at4.add (i * 4)))) rfl (by kernel_rfl) (fun w hM => (run_ixA (k := i) (s := 4) rfl rfl At4 rfl Tryd.underlying27 (by kernel_rfl) (by omega)))
    ·exact .val (vE t4) rfl (by kernel_rfl) (fun w hM => run_loadE rfl rfl ((ct4.on hM.below)) (by kernel_rfl))
    ·exact .call _ #[vE t3, vE t4] (.bool false) rfl (by kernel_rfl) (fun w => (run_callE en_cantileverkit_Expr rfl rfl (by kernel_rfl))) (fun w hM => ret_eq (ih t3 (List.mem_of_getElem? ht3) t4 _ (et3.on hM.below) (et4.on hM.below)) (congrArg Value.bool h5))
    ·exact .val (.bool true) rfl (by kernel_rfl) (fun w hM => (by kernel_rfl))
    refine wp_cond_true (hK.get rfl) ?_
    refine wp_seq ?_
    refine region_go (lst := [0]) (by kernel_rfl) ?_
    refine stepP hK 4 (.bool false) (by kernel_rfl) (by kernel_rfl) fun a hK => ?_
    refine region_done hK [(4, .bool false), (26, .bool true), (14, .bool true), (10, .bool false), (0, .slice A l.length c), (1, .slice B m.length d), (5, vN i)] ⟨rfl, rfl, rfl, rfl, rfl, rfl, rfl, trivial⟩ fun a hK => ?_
    refine wp_ret ?_
    exact ret_t hK rfl (u := (.bool false)) rfl (⟨by unfold exsEq; rw [hne, ← hR.2, exsSame_step ht3 ht4, h5]; rfl, hM.below⟩)
  ·refine stepP hK 14 (.bool false) (by kernel_rfl) (okBool (b := (decide ((((i : Nat) : Int) : Int) < ((l.length : Nat) : Int)))) (by kernel_rfl) (decide_eq_false h2)) fun a hK => ?_
   refine region_done hK [(14, .bool false), (10, .bool false), (4, .bool false), (0, .slice A l.length c), (1, .slice B m.length d), (5, vN i)] ⟨rfl, rfl, rfl, rfl, rfl, rfl, trivial⟩ fun a hK => ?_
   refine wp_cond_false (hK.get rfl) ?_
   refine wp_exit (exit_then (exit_then (exit_here 0 ?_)))
   refine wp_seq ?_
   refine region_go (lst := [0]) (by kernel_rfl) ?_
   refine stepP hK 4 (.bool true) (by kernel_rfl) (by kernel_rfl) fun a hK => ?_
   refine region_done hK [(4, .bool true), (14, .bool false), (10, .bool false), (0, .slice A l.length c), (1, .slice B m.length d), (5, vN i)] ⟨rfl, rfl, rfl, rfl, rfl, rfl, trivial⟩ fun a hK => ?_
   refine wp_ret ?_
   exact ret_t hK rfl (u := (.bool true)) rfl (⟨by unfold exsEq; rw [hne, ← hR.2, exsSame_end (by omega)]; rfl, hM.below⟩)
set_option maxRecDepth 100000 in
set_option maxHeartbeats 4000000 in
theorem kit_Expr (e : Ex) : ∀ (g : Ex) (w0 : World), ExAt w0 e → ExAt w0 g → Calls Tryd.prog 92 #[vE e, vE g] w0 (Ret w0 (.bool (e.same g))) := by
 induction e using Ex.rec_on
 rename_i e ih
 intro g w0 he hg
 have hel := he.len; have hgl := hg.len
 refine calls_K (args := [vE e, vE g]) (n := 31) (env := [(0, vE e), (1, vE g)]) Tryd.func92 rfl rfl rfl ⟨rfl, rfl, trivial⟩ fun a w hK hM => ?_
 refine wp_seq ?_
 refine region_go (lst := [0, 1, 2]) (by kernel_rfl) ?_
 refine stepAlloc hK hM 2 36 (cE e) (fun b => pA b 0) (by kernel_rfl) (by kernel_rfl) fun b1 a w hK hM => ?_
 refine stepAlloc hK hM 3 36 (cE g) (fun b => pA b 0) (by kernel_rfl) (by kernel_rfl) fun b2 a w hK hM => ?_
 refine stepP hK 4 (.bool false) (by kernel_rfl) (by kernel_rfl) fun a hK => ?_
 refine region_done hK [(4, .bool false), (3, pA b2 0), (2, pA b1 0), (0, vE e), (1, vE g)] ⟨rfl, rfl, rfl, rfl, rfl, trivial⟩ fun a hK => ?_
 refine wp_seq ?_
 refine region_go (lst := [0, 1, 2, 3, 4, 5, 6, 7, 8, 9, 10, 11, 12, 13, 14, 15, 16, 17, 18, 19, 20, 21, 22, 23, 24, 25, 26]) (by kernel_rfl) ?_
 refine stepP hK 5 (pA b1 0) (by kernel_rfl) (by kernel_rfl) fun a hK => ?_
 refine stepLoad hK 6 (.int .i64 e.op) (by kernel_rfl) rfl rfl ((hM.row 1 rfl).cells 0 1) (by kernel_rfl) fun a hK => ?_
 refine stepP hK 7 (pA b2 0) (by kernel_rfl) (by kernel_rfl) fun a hK => ?_
 refine stepLoad hK 8 (.int .i64 g.op) (by kernel_rfl) rfl rfl ((hM.row 0 rfl).cells 0 1) (by kernel_rfl) fun a hK => ?_
 by_cases h3 : (e.op : Int) = g.op
 ·refine stepP hK 9 (.bool true) (by kernel_rfl) (okBool (b := (decide ((e.op : Int) = g.op))) (by kernel_rfl) (decide_eq_true h3)) fun a hK => ?_
  refine stepM hK 10 9 (by kernel_rfl) (.inl rfl) rfl fun a hK => ?_
  refine stepP hK 11 (pA b1 1) (by kernel_rfl) (by kernel_rfl) fun a hK => ?_
  refine stepLoad hK 12 (.int .i64 e.num) (by kernel_rfl) rfl rfl ((hM.row 1 rfl).cells 1 1) (by kernel_rfl) fun a hK => ?_
  refine stepP hK 13 (pA b2 1) (by kernel_rfl) (by kernel_rfl) fun a hK => ?_
  refine stepLoad hK 14 (.int .i64 g.num) (by kernel_rfl) rfl rfl ((hM.row 0 rfl).cells 1 1) (by kernel_rfl) fun a hK => ?_
  by_cases h4 : (e.num : Int) = g.num
  ·refine stepP hK 15 (.bool true) (by kernel_rfl) (okBool (b := (decide ((e.num : Int) = g.num))) (by kernel_rfl) (decide_eq_true h4)) fun a hK => ?_
   refine stepP hK 16 (.bool true) (by kernel_rfl) (by kernel_rfl) fun a hK => ?_
   refine stepM hK 17 16 (by kernel_rfl) (.inl rfl) rfl fun a hK => ?_
   refine stepP hK 18 (pA b1 2) (by kernel_rfl) (by kernel_rfl) fun a hK => ?_
   refine stepLoad hK 19 (Str e.nm) (by kernel_rfl) rfl rfl ((hM.row 1 rfl).cells 2 1) (by kernel_rfl) fun a hK => ?_
   refine stepP hK 20 (pA b2 2) (by kernel_rfl) (by kernel_rfl) fun a hK => ?_
   refine stepLoad hK 21 (Str g.nm) (by kernel_rfl) rfl rfl ((hM.row 0 rfl).cells 2 1) (by kernel_rfl) fun a hK => ?_
   by_cases h5 : e.nm = g.nm
   ·refine stepP hK 22 (.bool true) (by kernel_rfl) (okBool (b := (decide (e.nm = g.nm))) (run_eqS rfl rfl rfl) (decide_eq_true h5)) fun a hK => ?_
    refine stepP hK 23 (.bool true) (by kernel_rfl) (by kernel_rfl) fun a hK => ?_
    refine stepM hK 24 23 (by kernel_rfl) (.inl rfl) rfl fun a hK => ?_
    refine stepP hK 25 (pA b1 3) (by kernel_rfl) (by kernel_rfl) fun a hK => ?_
    refine stepLoad hK 26 (.slice e.A e.ks.length e.c) (by kernel_rfl) rfl rfl ((hM.row 1 rfl).cells 3 1) (by kernel_rfl) fun a hK => ?_
    refine stepP hK 27 (pA b2 3) (by kernel_rfl) (by kernel_rfl) fun a hK => ?_
    refine stepLoad hK 28 (.slice g.A g.ks.length g.c) (by kernel_rfl) rfl rfl ((hM.row 0 rfl).cells 3 1) (by kernel_rfl) fun a hK => ?_
    rcases Bool.eq_false_or_eq_true (exsEq e.ks g.ks) with h6 | h6
    ·refine stepRet hK hM 29 #[.slice e.A e.ks.length e.c, .slice g.A g.ks.length g.c] (.bool true) (by kernel_rfl) (run_callE en_cantileverkit_Exprs rfl rfl (by kernel_rfl)) (ret_eq (kit_Exprs0 e.ks ih g.ks _ _ _ _ _ (he.kids.on hM.below) (hg.kids.on hM.below) (by omega) (by omega)) (congrArg Value.bool h6)) fun a w hK hM => ?_
     refine stepP hK 30 (.bool true) (by kernel_rfl) (by kernel_rfl) fun a hK => ?_
     refine stepM hK 4 30 (by kernel_rfl) (.inr rfl) rfl fun a hK => ?_
     refine region_done hK [(4, .bool true), (3, pA b2 0), (2, pA b1 0), (0, vE e), (1, vE g)] ⟨rfl, rfl, rfl, rfl, rfl, trivial⟩ fun a hK => ?_
     refine wp_ret ?_
     exact ret_t hK rfl (u := (.bool true)) rfl (⟨by rw [same_ex, (decide_eq_true h3), (decide_eq_true h4), (decide_eq_true h5), h6]; rfl, hM.below⟩)
    ·refine stepRet hK hM 29 #[.slice e.A e.ks.length e.c, .slice g.A g.ks.length g.c] (.bool false) (by kernel_rfl) (run_callE en_cantileverkit_Exprs rfl rfl (by kernel_rfl)) (ret_eq (kit_Exprs0 e.ks ih g.ks _ _ _ _ _ (he.kids.on hM.below) (hg.kids.on hM.below) (by omega) (by omega)) (congrArg Value.bool h6)) fun a w hK hM => ?_
     refine stepP hK 30 (.bool false) (by kernel_rfl) (by kernel_rfl) fun a hK => ?_
     refine stepM hK 4 30 (by kernel_rfl) (.inr rfl) rfl fun a hK => ?_
     refine region_done hK [(4, .bool false), (3, pA b2 0), (2, pA b1 0), (0, vE e), (1, vE g)] ⟨rfl, rfl, rfl, rfl, rfl, trivial⟩ fun a hK => ?_
     refine wp_ret ?_
     exact ret_t hK rfl (u := (.bool false)) rfl (⟨by rw [same_ex, (decide_eq_true h3), (decide_eq_true h4), (decide_eq_true h5), h6]; rfl, hM.below⟩)
   ·refine stepP hK 22 (.bool false) (by kernel_rfl) (okBool (b := (decide (e.nm = g.nm))) (run_eqS rfl rfl rfl) (decide_eq_false h5)) fun a hK => ?_
    refine stepP hK 23 (.bool false) (by kernel_rfl) (by kernel_rfl) fun a hK => ?_
    refine stepM hK 24 23 (by kernel_rfl) (.inl rfl) rfl fun a hK => ?_
    refine stepN hK 25 (by kernel_rfl) fun a hK => ?_
    refine stepN hK 26 (by kernel_rfl) fun a hK => ?_
    refine stepN hK 27 (by kernel_rfl) fun a hK => ?_
    refine stepN hK 28 (by kernel_rfl) fun a hK => ?_
    refine stepN hK 29 (by kernel_rfl) fun a hK => ?_
    refine stepP hK 30 (.bool false) (by kernel_rfl) (by kernel_rfl) fun a hK => ?_
    refine stepM hK 4 30 (by kernel_rfl) (.inr rfl) rfl fun a hK => ?_
    refine region_done hK [(4, .bool false), (3, pA b2 0), (2, pA b1 0), (0, vE e), (1, vE g)] ⟨rfl, rfl, rfl, rfl, rfl, trivial⟩ fun a hK => ?_
    refine wp_ret ?_
    exact ret_t hK rfl (u := (.bool false)) rfl (⟨by rw [same_ex, (decide_eq_true h3), (decide_eq_true h4), (decide_eq_false h5)]; rfl, hM.below⟩)
  ·refine stepP hK 15 (.bool false) (by kernel_rfl) (okBool (b := (decide ((e.num : Int) = g.num))) (by kernel_rfl) (decide_eq_false h4)) fun a hK => ?_
   refine stepP hK 16 (.bool false) (by kernel_rfl) (by kernel_rfl) fun a hK => ?_
   refine stepM hK 17 16 (by kernel_rfl) (.inl rfl) rfl fun a hK => ?_
   refine stepN hK 18 (by kernel_rfl) fun a hK => ?_
   refine stepN hK 19 (by kernel_rfl) fun a hK => ?_
   refine stepN hK 20 (by kernel_rfl) fun a hK => ?_
   refine stepN hK 21 (by kernel_rfl) fun a hK => ?_
   refine stepN hK 22 (by kernel_rfl) fun a hK => ?_
   refine stepP hK 23 (.bool false) (by kernel_rfl) (by kernel_rfl) fun a hK => ?_
   refine stepM hK 24 23 (by kernel_rfl) (.inl rfl) rfl fun a hK => ?_
   refine stepN hK 25 (by kernel_rfl) fun a hK => ?_
   refine stepN hK 26 (by kernel_rfl) fun a hK => ?_
   refine stepN hK 27 (by kernel_rfl) fun a hK => ?_
   refine stepN hK 28 (by kernel_rfl) fun a hK => ?_
   refine stepN hK 29 (by kernel_rfl) fun a hK => ?_
   refine stepP hK 30 (.bool false) (by kernel_rfl) (by kernel_rfl) fun a hK => ?_
   refine stepM hK 4 30 (by kernel_rfl) (.inr rfl) rfl fun a hK => ?_
   refine region_done hK [(4, .bool false), (3, pA b2 0), (2, pA b1 0), (0, vE e), (1, vE g)] ⟨rfl, rfl, rfl, rfl, rfl, trivial⟩ fun a hK => ?_
   refine wp_ret ?_
   exact ret_t hK rfl (u := (.bool false)) rfl (⟨by rw [same_ex, (decide_eq_true h3), (decide_eq_false h4)]; rfl, hM.below⟩)
 ·refine stepP hK 9 (.bool false) (by kernel_rfl) (okBool (b := (decide ((e.op : Int) = g.op))) (by kernel_rfl) (decide_eq_false h3)) fun a hK => ?_
  refine stepM hK 10 9 (by kernel_rfl) (.inl rfl) rfl fun a hK => ?_
  refine stepN hK 11 (by kernel_rfl) fun a hK => ?_
  refine stepN hK 12 (by kernel_rfl) fun a hK => ?_
  refine stepN hK 13 (by kernel_rfl) fun a hK => ?_
  refine stepN hK 14 (by kernel_rfl) fun a hK => ?_
  refine stepN hK 15 (by kernel_rfl) fun a hK => ?_
  refine stepP hK 16 (.bool false) (by kernel_rfl) (by kernel_rfl) fun a hK => ?_
  refine stepM hK 17 16 (by kernel_rfl) (.inl rfl) rfl fun a hK => ?_
  refine stepN hK 18 (by kernel_rfl) fun a hK => ?_
  refine stepN hK 19 (by kernel_rfl) fun a hK => ?_
  refine stepN hK 20 (by kernel_rfl) fun a hK => ?_
  refine stepN hK 21 (by kernel_rfl) fun a hK => ?_
  refine stepN hK 22 (by kernel_rfl) fun a hK => ?_
  refine stepP hK 23 (.bool false) (by kernel_rfl) (by kernel_rfl) fun a hK => ?_
  refine stepM hK 24 23 (by kernel_rfl) (.inl rfl) rfl fun a hK => ?_
  refine stepN hK 25 (by kernel_rfl) fun a hK => ?_
  refine stepN hK 26 (by kernel_rfl) fun a hK => ?_
  refine stepN hK 27 (by kernel_rfl) fun a hK => ?_
  refine stepN hK 28 (by kernel_rfl) fun a hK => ?_
  refine stepN hK 29 (by kernel_rfl) fun a hK => ?_
  refine stepP hK 30 (.bool false) (by kernel_rfl) (by kernel_rfl) fun a hK => ?_
  refine stepM hK 4 30 (by kernel_rfl) (.inr rfl) rfl fun a hK => ?_
  refine region_done hK [(4, .bool false), (3, pA b2 0), (2, pA b1 0), (0, vE e), (1, vE g)] ⟨rfl, rfl, rfl, rfl, rfl, trivial⟩ fun a hK => ?_
  refine wp_ret ?_
  exact ret_t hK rfl (u := (.bool false)) rfl (⟨by rw [same_ex, (decide_eq_false h3)]; rfl, hM.below⟩)
set_option maxRecDepth 100000 in
set_option maxHeartbeats 4000000 in
theorem ast_eqEx (l : List Ex) (ih : ∀ x ∈ l, ∀ (g : Ex) (w0 : World), ExAt w0 x → ExAt w0 g → Calls Tryd.prog 91 #[vE x, vE g] w0 (Ret w0 (.bool (x.same g)))) : ∀ (m : List Ex) (A : Option Addr) (c : Nat) (B : Option Addr) (d : Nat) (w0 : World), ExsAt w0 A l → ExsAt w0 B m → l.length ≤ 9223372036854775807 → m.length ≤ 9223372036854775807 → Calls Tryd.prog 90 #[.slice A l.length c, .slice B m.length d, .func (.func 91) #[] #[]] w0 (Ret w0 (.bool (exsEq l m))) := by
 intro m A c B d w0 hl hm hln hmn
 refine calls_K (args := [.slice A l.length c, .slice B m.length d, .func (.func 91) #[] #[]]) (n := 32) (env := [(0, .slice A l.length c), (1, .slice B m.length d), (2, .func (.func 91) #[] #[])]) Tryd.func90 rfl rfl rfl ⟨rfl, rfl, rfl, trivial⟩ fun a w hK hM => ?_
 refine wp_seq ?_
 refine region_go (lst := [0]) (by kernel_rfl) ?_
 refine stepP hK 6 (.bool false) (by kernel_rfl) (by kernel_rfl) fun a hK => ?_
 refine region_done hK [(6, .bool false), (0, .slice A l.length c), (1, .slice B m.length d), (2, .func (.func 91) #[] #[])] ⟨rfl, rfl, rfl, rfl, trivial⟩ fun a hK => ?_
 refine wp_seq ?_
 refine wp_seq ?_
 refine region_go (lst := [0, 1, 2, 3, 4]) (by kernel_rfl) ?_
 refine stepM hK 10 0 (by kernel_rfl) (.inl rfl) rfl fun a hK => ?_
 refine stepP hK 11 (.int .i64 ((l.length : Nat) : Int)) (by kernel_rfl) (by kernel_rfl) fun a hK => ?_
 refine stepM hK 12 1 (by kernel_rfl) (.inl rfl) rfl fun a hK => ?_
 refine stepP hK 13 (.int .i64 ((m.length : Nat) : Int)) (by kernel_rfl) (by kernel_rfl) fun a hK => ?_
 rcases Bool.eq_false_or_eq_true (!(decide ((((l.length : Nat) : Int) : Int) = ((m.length : Nat) : Int)))) with h1 | h1
 ·refine stepP hK 14 (.bool true) (by kernel_rfl) (okBool (b := (!(decide ((((l.length : Nat) : Int) : Int) = ((m.length : Nat) : Int))))) (by kernel_rfl) h1) fun a hK => ?_
  refine region_done hK [(14, .bool true), (6, .bool false), (0, .slice A l.length c), (1, .slice B m.length d), (2, .func (.func 91) #[] #[])] ⟨rfl, rfl, rfl, rfl, rfl, trivial⟩ fun a hK => ?_
  refine wp_cond_true (hK.get rfl) ?_
  refine wp_seq ?_
  refine region_go (lst := [0]) (by kernel_rfl) ?_
  refine stepP hK 6 (.bool false) (by kernel_rfl) (by kernel_rfl) fun a hK => ?_
  refine region_done hK [(6, .bool false), (14, .bool true), (0, .slice A l.length c), (1, .slice B m.length d), (2, .func (.func 91) #[] #[])] ⟨rfl, rfl, rfl, rfl, rfl, trivial⟩ fun a hK => ?_
  refine wp_ret ?_
  exact ret_t hK rfl (u := (.bool false)) rfl (⟨by unfold exsEq neI; rw [h1]; rfl, hM.below⟩)
 ·refine stepP hK 14 (.bool false) (by kernel_rfl) (okBool (b := (!(decide ((((l.length : Nat) : Int) : Int) = ((m.length : Nat) : Int))))) (by kernel_rfl) h1) fun a hK => ?_
  refine region_done hK [(14, .bool false), (6, .bool false), (0, .slice A l.length c), (1, .slice B m.length d), (2, .func (.func 91) #[] #[])] ⟨rfl, rfl, rfl, rfl, rfl, trivial⟩ fun a hK => ?_
  refine wp_cond_false (hK.get rfl) ?_
  refine wp_skip ?_
  refine wp_seq ?_
  refine wp_seq ?_
  have hne : neI ((l.length : Nat) : Int) ((m.length : Nat) : Int) = false := by unfold neI; rw [h1]
  have hlen : l.length = m.length := by have q := h1; simp at q; omega
  refine region_go (lst := [0, 1, 2]) (by kernel_rfl) ?_
  refine stepM hK 15 0 (by kernel_rfl) (.inl rfl) rfl fun a hK => ?_
  refine stepP hK 16 (.int .i64 ((l.length : Nat) : Int)) (by kernel_rfl) (by kernel_rfl) fun a hK => ?_
  refine stepP hK 17 (.int .i64 0) (by kernel_rfl) (by kernel_rfl) fun a hK => ?_
  refine region_done hK [(17, .int .i64 0), (16, .int .i64 ((l.length : Nat) : Int)), (15, .slice A l.length c), (14, .bool false), (6, .bool false), (0, .slice A l.length c), (1, .slice B m.length d), (2, .func (.func 91) #[] #[])] ⟨rfl, rfl, rfl, rfl, rfl, rfl, rfl, rfl, trivial⟩ fun a hK => ?_
  refine wp_block ?_
  refine wp_loopX (fun x : Nat => [(16, .int .i64 ((l.length : Nat) : Int)), (15, .slice A l.length c), (14, .bool false), (6, .bool false), (0, .slice A l.length c), (1, .slice B m.length d), (2, .func (.func 91) #[] #[]), (17, vN x)]) (fun x : Nat => []) (fun x : Nat => x ≤ l.length ∧ exsSame (l.drop x) (m.drop x) = exsSame l m) (fun x : Nat => l.length - x) 0 (hK.sub ⟨rfl, rfl, rfl, rfl, rfl, rfl, rfl, rfl, trivial⟩) hM ⟨Nat.zero_le _, rfl⟩ ?_
  rintro i a w hK hM hR
  replace hK : Knows a 32 [(16, .int .i64 ((l.length : Nat) : Int)), (15, .slice A l.length c), (14, .bool false), (6, .bool false), (0, .slice A l.length c), (1, .slice B m.length d), (2, .func (.func 91) #[] #[]), (17, vN i)] := hK
  replace hM : Mem w0 w [] := hM
  replace hR : i ≤ l.length ∧ exsSame (l.drop i) (m.drop i) = exsSame l m := hR
  refine wp_seq ?_
  refine region_go (lst := [0]) (by kernel_rfl) ?_
  by_cases h2 : (((i : Nat) : Int) : Int) < ((l.length : Nat) : Int)
  ·refine stepP hK 18 (.bool true) (by kernel_rfl) (okBool (b := (decide ((((i : Nat) : Int) : Int) < ((l.length : Nat) : Int)))) (by kernel_rfl) (decide_eq_true h2)) fun a hK => ?_
   refine region_done hK [(18, .bool true), (16, .int .i64 ((l.length : Nat) : Int)), (15, .slice A l.length c), (14, .bool false), (6, .bool false), (0, .slice A l.length c), (1, .slice B m.length d), (2, .func (.func 91) #[] #[]), (17, vN i)] ⟨rfl, rfl, rfl, rfl, rfl, rfl, rfl, rfl, rfl, trivial⟩ fun a hK => ?_
   refine wp_seq ?_
   refine wp_cond_true (hK.get rfl) ?_
   refine wp_skip ?_
   refine wp_seq ?_
   refine wp_block ?_
   refine wp_seq ?_
   refine region_go (lst := [0, 1, 2, 3, 4, 5]) (by kernel_rfl) ?_
   refine stepM hK 19 17 (by kernel_rfl) (.inl rfl) rfl fun a hK => ?_
   obtain ⟨t3, ht3⟩ : ∃ t, l[(i : Nat)]? = some t := ⟨_, List.getElem?_eq_getElem (by omega)⟩
   obtain ⟨⟨at3, At3, ct3⟩, et3⟩ := hl _ _ ht3; have nt3 := et3.len
   refine stepP hK 20 (.pointer (some (at3.add (i * 4)))) (by kernel_rfl) (run_ixA (k := i) (s := 4) rfl rfl At3 rfl Tryd.underlying27 (by kernel_rfl) (by omega)) fun a hK => ?_
   refine stepLoad hK 21 (vE t3) (by kernel_rfl) rfl rfl ((ct3.on hM.below)) (by kernel_rfl) fun a hK => ?_
   refine stepAlloc hK hM 8 36 [.int .i64 0, .int .i64 0, Str [], .slice none 0 0] (fun b => pA b 0) (by kernel_rfl) (by kernel_rfl) fun b4 a w hK hM => ?_
   refine stepM hK 7 19 (by kernel_rfl) (.inr rfl) rfl fun a hK => ?_
   refine stepStore hK hM 0 (cE t3) (by kernel_rfl) rfl rfl rfl rfl (by kernel_rfl) fun w hM => ?_
   replace hM := hM.to [.row b4 36 (cE t3)] (by kernel_rfl)
   refine region_done hK [(7, vN i), (8, pA b4 0), (18, .bool true), (16, .int .i64 ((l.length : Nat) : Int)), (15, .slice A l.length c), (14, .bool false), (6, .bool false), (0, .slice A l.length c), (1, .slice B m.length d), (2, .func (.func 91) #[] #[]), (17, vN i)] ⟨rfl, rfl, rfl, rfl, rfl, rfl, rfl, rfl, rfl, rfl, rfl, trivial⟩ fun a hK => ?_
   refine wp_seq ?_
   refine region_go (lst := [0, 1, 2, 3, 4, 5]) (by kernel_rfl) ?_
   refine stepM hK 22 1 (by kernel_rfl) (.inl rfl) rfl fun a hK => ?_
   refine stepM hK 23 7 (by kernel_rfl) (.inl rfl) rfl fun a hK => ?_
   obtain ⟨t5, ht5⟩ : ∃ t, m[(i : Nat)]? = some t := ⟨_, List.getElem?_eq_getElem (by omega)⟩
   obtain ⟨⟨at5, At5, ct5⟩, et5⟩ := hm _ _ ht5; have nt5 := et5.len
   refine stepP hK 24 (.pointer (some (at5.add (i * 4)))) (by kernel_rfl) (run_ixA (k := i) (s := 4) rfl rfl At5 rfl Tryd.underlying27 (by kernel_rfl) (by omega)) fun a hK => ?_
   refine stepLoad hK 25 (vE t5) (by kernel_rfl) rfl rfl ((ct5.on hM.below)) (by kernel_rfl) fun a hK => ?_
   refine stepAlloc hK hM 9 36 [.int .i64 0, .int .i64 0, Str [], .slice none 0 0] (fun b => pA b 0) (by kernel_rfl) (by kernel_rfl) fun b6 a w hK hM => ?_
   refine stepStore hK hM 0 (cE t5) (by kernel_rfl) rfl rfl rfl rfl (by kernel_rfl) fun w hM => ?_
   replace hM := hM.to [.row b6 36 (cE t5), .row b4 36 (cE t3)] (by kernel_rfl)
   refine region_done hK [(9, pA b6 0), (7, vN i), (8, pA b4 0), (18, .bool true), (16, .int .i64 ((l.length : Nat) : Int)), (15, .slice A l.length c), (14, .bool false), (6, .bool false), (0, .slice A l.length c), (1, .slice B m.length d), (2, .func (.func 91) #[] #[]), (17, vN i)] ⟨rfl, rfl, rfl, rfl, rfl, rfl, rfl, rfl, rfl, rfl, rfl, rfl, trivial⟩ fun a hK => ?_
   refine wp_seq ?_
   refine region_go (lst := [0, 1, 2, 3, 4]) (by kernel_rfl) ?_
   refine stepM hK 26 2 (by kernel_rfl) (.inl rfl) rfl fun a hK => ?_
   refine stepLoad hK 27 (vE t3) (by kernel_rfl) rfl rfl ((hM.row 1 rfl).cells 0 4) (by kernel_rfl) fun a hK => ?_
   refine stepLoad hK 28 (vE t5) (by kernel_rfl) rfl rfl ((hM.row 0 rfl).cells 0 4) (by kernel_rfl) fun a hK => ?_
   rcases Bool.eq_false_or_eq_true (t3.same t5) with h7 | h7
   ·refine stepRet hK hM 29 #[vE t3, vE t5] (.bool true) (by kernel_rfl) (run_callE en_ast_SameExpr rfl rfl (by kernel_rfl)) (ret_eq (ih t3 (List.mem_of_getElem? ht3) t5 _ (et3.on hM.below) (et5.on hM.below)) (congrArg Value.bool h7)) fun a w hK hM => ?_
    refine stepP hK 30 (.bool false) (by kernel_rfl) (by kernel_rfl) fun a hK => ?_
    refine region_done hK [(30, .bool false), (9, pA b6 0), (7, vN i), (8, pA b4 0), (18, .bool true), (16, .int .i64 ((l.length : Nat) : Int)), (15, .slice A l.length c), (14, .bool false), (6, .bool false), (0, .slice A l.length c), (1, .slice B m.length d), (2, .func (.func 91) #[] #[]), (17, vN i)] ⟨rfl, rfl, rfl, rfl, rfl, rfl, rfl, rfl, rfl, rfl, rfl, rfl, rfl, trivial⟩ fun a hK => ?_
    refine wp_cond_false (hK.get rfl) ?_
    refine wp_skip ?_
    refine region_go (lst := [0, 1]) (by kernel_rfl) ?_
    refine stepP hK 31 (.int .i64 (((i + 1) : Nat) : Int)) (by kernel_rfl) (run_addN (i := i) (j := 1) rfl rfl rfl (by omega)) fun a hK => ?_
    refine stepM hK 17 31 (by kernel_rfl) (.inl rfl) rfl fun a hK => ?_
    refine region_done hK [(17, .int .i64 (((i + 1) : Nat) : Int)), (30, .bool false), (9, pA b6 0), (7, vN i), (8, pA b4 0), (18, .bool true), (16, .int .i64 ((l.length : Nat) : Int)), (15, .slice A l.length c), (14, .bool false), (6, .bool false), (0, .slice A l.length c), (1, .slice B m.length d), (2, .func (.func 91) #[] #[])] ⟨rfl, rfl, rfl, rfl, rfl, rfl, rfl, rfl, rfl, rfl, rfl, rfl, rfl, trivial⟩ fun a hK => ?_
    have hRn : (i + 1) ≤ l.length ∧ exsSame (l.drop (i + 1)) (m.drop (i + 1)) = exsSame l m := ⟨by omega, by rw [← hR.2, exsSame_step ht3 ht5, h7, Bool.true_and]⟩
    have hmn : l.length - (i + 1) < l.length - i := by omega
    exact ⟨i + 1, hK.sub ⟨rfl, rfl, rfl, rfl, rfl, rfl, rfl, rfl, trivial⟩, (hM.drop 2), hRn, hmn⟩
   ·refine stepRet hK hM 29 #[vE t3, vE t5] (.bool false) (by kernel_rfl) (run_callE en_ast_SameExpr rfl rfl (by kernel_rfl)) (ret_eq (ih t3 (List.mem_of_getElem? ht3) t5 _ (et3.on hM.below) (et5.on hM.below)) (congrArg Value.bool h7)) fun a w hK hM => ?_
    refine stepP hK 30 (.bool true) (by kernel_rfl) (by kernel_rfl) fun a hK => ?_
    refine region_done hK [(30, .bool true), (9, pA b6 0), (7, vN i), (8, pA b4 0), (18, .bool true), (16, .int .i64 ((l.length : Nat) : Int)), (15, .slice A l.length c), (14, .bool false), (6, .bool false), (0, .slice A l.length c), (1, .slice B m.length d), (2, .func (.func 91) #[] #[]), (17, vN i)] ⟨rfl, rfl, rfl, rfl, rfl, rfl, rfl, rfl, rfl, rfl, rfl, rfl, rfl, trivial⟩ fun a hK => ?_
    refine wp_cond_true (hK.get rfl) ?_
    refine wp_seq ?_
    refine region_go (lst := [0]) (by kernel_rfl) ?_
    refine stepP hK 6 (.bool false) (by kernel_rfl) (by kernel_rfl) fun a hK => ?_
    refine region_done hK [(6, .bool false), (30, .bool true), (9, pA b6 0), (7, vN i), (8, pA b4 0), (18, .bool true), (16, .int .i64 ((l.length : Nat) : Int)), (15, .slice A l.length c), (14, .bool false), (0, .slice A l.length c), (1, .slice B m.length d), (2, .func (.func 91) #[] #[]), (17, vN i)] ⟨rfl, rfl, rfl, rfl, rfl, rfl, rfl, rfl, rfl, rfl, rfl, rfl, rfl, trivial⟩ fun a hK => ?_
    refine wp_ret ?_
    exact ret_t hK rfl (u := (.bool false)) rfl (⟨by unfold exsEq; rw [hne, ← hR.2, exsSame_step ht3 ht5, h7]; rfl, hM.below⟩)
  ·refine stepP hK 18 (.bool false) (by kernel_rfl) (okBool (b := (decide ((((i : Nat) : Int) : Int) < ((l.length : Nat) : Int)))) (by kernel_rfl) (decide_eq_false h2)) fun a hK => ?_
   refine region_done hK [(18, .bool false), (16, .int .i64 ((l.length : Nat) : Int)), (15, .slice A l.length c), (14, .bool false), (6, .bool false), (0, .slice A l.length c), (1, .slice B m.length d), (2, .func (.func 91) #[] #[]), (17, vN i)] ⟨rfl, rfl, rfl, rfl, rfl, rfl, rfl, rfl, rfl, trivial⟩ fun a hK => ?_
   refine wp_seq ?_
   refine wp_cond_false (hK.get rfl) ?_
   refine wp_exit (exit_then (exit_then (exit_here 0 ?_)))
   refine wp_seq ?_
   refine region_go (lst := [0]) (by kernel_rfl) ?_
   refine stepP hK 6 (.bool true) (by kernel_rfl) (by kernel_rfl) fun a hK => ?_
   refine region_done hK [(6, .bool true), (18, .bool false), (16, .int .i64 ((l.length : Nat) : Int)), (15, .slice A l.length c), (14, .bool false), (0, .slice A l.length c), (1, .slice B m.length d), (2, .func (.func 91) #[] #[]), (17, vN i)] ⟨rfl, rfl, rfl, rfl, rfl, rfl, rfl, rfl, rfl, trivial⟩ fun a hK => ?_
   refine wp_ret ?_
   exact ret_t hK rfl (u := (.bool true)) rfl (⟨by unfold exsEq; rw [hne, ← hR.2, exsSame_end (by omega)]; rfl, hM.below⟩)
set_option maxRecDepth 100000 in
set_option maxHeartbeats 4000000 in
theorem ast_SameExpr (e : Ex) : ∀ (g : Ex) (w0 : World), ExAt w0 e → ExAt w0 g → Calls Tryd.prog 91 #[vE e, vE g] w0 (Ret w0 (.bool (e.same g))) := by
 induction e using Ex.rec_on
 rename_i e ih
 intro g w0 he hg
 have hel := he.len; have hgl := hg.len
 refine calls_K (args := [vE e, vE g]) (n := 31) (env := [(0, vE e), (1, vE g)]) Tryd.func91 rfl rfl rfl ⟨rfl, rfl, trivial⟩ fun a w hK hM => ?_
 refine wp_seq ?_
 refine region_go (lst := [0, 1, 2]) (by kernel_rfl) ?_
 refine stepAlloc hK hM 2 36 (cE e) (fun b => pA b 0) (by kernel_rfl) (by kernel_rfl) fun b1 a w hK hM => ?_
 refine stepAlloc hK hM 3 36 (cE g) (fun b => pA b 0) (by kernel_rfl) (by kernel_rfl) fun b2 a w hK hM => ?_
 refine stepP hK 4 (.bool false) (by kernel_rfl) (by kernel_rfl) fun a hK => ?_
 refine region_done hK [(4, .bool false), (3, pA b2 0), (2, pA b1 0), (0, vE e), (1, vE g)] ⟨rfl, rfl, rfl, rfl, rfl, trivial⟩ fun a hK => ?_
 refine wp_seq ?_
 refine region_go (lst := [0, 1, 2, 3, 4, 5, 6, 7, 8, 9, 10, 11, 12, 13, 14, 15, 16, 17, 18, 19, 20, 21, 22, 23, 24, 25, 26]) (by kernel_rfl) ?_
 refine stepP hK 5 (pA b1 0) (by kernel_rfl) (by kernel_rfl) fun a hK => ?_
 refine stepLoad hK 6 (.int .i64 e.op) (by kernel_rfl) rfl rfl ((hM.row 1 rfl).cells 0 1) (by kernel_rfl) fun a hK => ?_
 refine stepP hK 7 (pA b2 0) (by kernel_rfl) (by kernel_rfl) fun a hK => ?_
 refine stepLoad hK 8 (.int .i64 g.op) (by kernel_rfl) rfl rfl ((hM.row 0 rfl).cells 0 1) (by kernel_rfl) fun a hK => ?_
 by_cases h3 : (e.op : Int) = g.op
 ·refine stepP hK 9 (.bool true) (by kernel_rfl) (okBool (b := (decide ((e.op : Int) = g.op))) (by kernel_rfl) (decide_eq_true h3)) fun a hK => ?_
  refine stepM hK 10 9 (by kernel_rfl) (.inl rfl) rfl fun a hK => ?_
  refine stepP hK 11 (pA b1 1) (by kernel_rfl) (by kernel_rfl) fun a hK => ?_
  refine stepLoad hK 12 (.int .i64 e.num) (by kernel_rfl) rfl rfl ((hM.row 1 rfl).cells 1 1) (by kernel_rfl) fun a hK => ?_
  refine stepP hK 13 (pA b2 1) (by kernel_rfl) (by kernel_rfl) fun a hK => ?_
  refine stepLoad hK 14 (.int .i64 g.num) (by kernel_rfl) rfl rfl ((hM.row 0 rfl).cells 1 1) (by kernel_rfl) fun a hK => ?_
  by_cases h4 : (e.num : Int) = g.num
  ·refine stepP hK 15 (.bool true) (by kernel_rfl) (okBool (b := (decide ((e.num : Int) = g.num))) (by kernel_rfl) (decide_eq_true h4)) fun a hK => ?_
   refine stepP hK 16 (.bool true) (by kernel_rfl) (by kernel_rfl) fun a hK => ?_
   refine stepM hK 17 16 (by kernel_rfl) (.inl rfl) rfl fun a hK => ?_
   refine stepP hK 18 (pA b1 2) (by kernel_rfl) (by kernel_rfl) fun a hK => ?_
   refine stepLoad hK 19 (Str e.nm) (by kernel_rfl) rfl rfl ((hM.row 1 rfl).cells 2 1) (by kernel_rfl) fun a hK => ?_
   refine stepP hK 20 (pA b2 2) (by kernel_rfl) (by kernel_rfl) fun a hK => ?_
   refine stepLoad hK 21 (Str g.nm) (by kernel_rfl) rfl rfl ((hM.row 0 rfl).cells 2 1) (by kernel_rfl) fun a hK => ?_
   by_cases h5 : e.nm = g.nm
   ·refine stepP hK 22 (.bool true) (by kernel_rfl) (okBool (b := (decide (e.nm = g.nm))) (run_eqS rfl rfl rfl) (decide_eq_true h5)) fun a hK => ?_
    refine stepP hK 23 (.bool true) (by kernel_rfl) (by kernel_rfl) fun a hK => ?_
    refine stepM hK 24 23 (by kernel_rfl) (.inl rfl) rfl fun a hK => ?_
    refine stepP hK 25 (pA b1 3) (by kernel_rfl) (by kernel_rfl) fun a hK => ?_
    refine stepLoad hK 26 (.slice e.A e.ks.length e.c) (by kernel_rfl) rfl rfl ((hM.row 1 rfl).cells 3 1) (by kernel_rfl) fun a hK => ?_
    refine stepP hK 27 (pA b2 3) (by kernel_rfl) (by kernel_rfl) fun a hK => ?_
    refine stepLoad hK 28 (.slice g.A g.ks.length g.c) (by kernel_rfl) rfl rfl ((hM.row 0 rfl).cells 3 1) (by kernel_rfl) fun a hK => ?_
    rcases Bool.eq_false_or_eq_true (exsEq e.ks g.ks) with h6 | h6
    ·refine stepRet hK hM 29 #[.slice e.A e.ks.length e.c, .slice g.A g.ks.length g.c, .func (.func 91) #[] #[]] (.bool true) (by kernel_rfl) (run_callE en_api_Expr_ rfl rfl (by kernel_rfl)) (ret_eq (ast_eqEx e.ks ih g.ks _ _ _ _ _ (he.kids.on hM.below) (hg.kids.on hM.below) (by omega) (by omega)) (congrArg Value.bool h6)) fun a w hK hM => ?_
     refine stepP hK 30 (.bool true) (by kernel_rfl) (by kernel_rfl) fun a hK => ?_
     refine stepM hK 4 30 (by kernel_rfl) (.inr rfl) rfl fun a hK => ?_
     refine region_done hK [(4, .bool true), (3, pA b2 0), (2, pA b1 0), (0, vE e), (1, vE g)] ⟨rfl, rfl, rfl, rfl, rfl, trivial⟩ fun a hK => ?_
     refine wp_ret ?_
     exact ret_t hK rfl (u := (.bool true)) rfl (⟨by rw [same_ex, (decide_eq_true h3), (decide_eq_true h4), (decide_eq_true h5), h6]; rfl, hM.below⟩)
    ·refine stepRet hK hM 29 #[.slice e.A e.ks.length e.c, .slice g.A g.ks.length g.c, .func (.func 91) #[] #[]] (.bool false) (by kernel_rfl) (run_callE en_api_Expr_ rfl rfl (by kernel_rfl)) (ret_eq (ast_eqEx e.ks ih g.ks _ _ _ _ _ (he.kids.on hM.below) (hg.kids.on hM.below) (by omega) (by omega)) (congrArg Value.bool h6)) fun a w hK hM => ?_
     refine stepP hK 30 (.bool false) (by kernel_rfl) (by kernel_rfl) fun a hK => ?_
     refine stepM hK 4 30 (by kernel_rfl) (.inr rfl) rfl fun a hK => ?_
     refine region_done hK [(4, .bool false), (3, pA b2 0), (2, pA b1 0), (0, vE e), (1, vE g)] ⟨rfl, rfl, rfl, rfl, rfl, trivial⟩ fun a hK => ?_
     refine wp_ret ?_
     exact ret_t hK rfl (u := (.bool false)) rfl (⟨by rw [same_ex, (decide_eq_true h3), (decide_eq_true h4), (decide_eq_true h5), h6]; rfl, hM.below⟩)
   ·refine stepP hK 22 (.bool false) (by kernel_rfl) (okBool (b := (decide (e.nm = g.nm))) (run_eqS rfl rfl rfl) (decide_eq_false h5)) fun a hK => ?_
    refine stepP hK 23 (.bool false) (by kernel_rfl) (by kernel_rfl) fun a hK => ?_
    refine stepM hK 24 23 (by kernel_rfl) (.inl rfl) rfl fun a hK => ?_
    refine stepN hK 25 (by kernel_rfl) fun a hK => ?_
    refine stepN hK 26 (by kernel_rfl) fun a hK => ?_
    refine stepN hK 27 (by kernel_rfl) fun a hK => ?_
    refine stepN hK 28 (by kernel_rfl) fun a hK => ?_
    refine stepN hK 29 (by kernel_rfl) fun a hK => ?_
    refine stepP hK 30 (.bool false) (by kernel_rfl) (by kernel_rfl) fun a hK => ?_
    refine stepM hK 4 30 (by kernel_rfl) (.inr rfl) rfl fun a hK => ?_
    refine region_done hK [(4, .bool false), (3, pA b2 0), (2, pA b1 0), (0, vE e), (1, vE g)] ⟨rfl, rfl, rfl, rfl, rfl, trivial⟩ fun a hK => ?_
    refine wp_ret ?_
    exact ret_t hK rfl (u := (.bool false)) rfl (⟨by rw [same_ex, (decide_eq_true h3), (decide_eq_true h4), (decide_eq_false h5)]; rfl, hM.below⟩)
  ·refine stepP hK 15 (.bool false) (by kernel_rfl) (okBool (b := (decide ((e.num : Int) = g.num))) (by kernel_rfl) (decide_eq_false h4)) fun a hK => ?_
   refine stepP hK 16 (.bool false) (by kernel_rfl) (by kernel_rfl) fun a hK => ?_
   refine stepM hK 17 16 (by kernel_rfl) (.inl rfl) rfl fun a hK => ?_
   refine stepN hK 18 (by kernel_rfl) fun a hK => ?_
   refine stepN hK 19 (by kernel_rfl) fun a hK => ?_
   refine stepN hK 20 (by kernel_rfl) fun a hK => ?_
   refine stepN hK 21 (by kernel_rfl) fun a hK => ?_
   refine stepN hK 22 (by kernel_rfl) fun a hK => ?_
   refine stepP hK 23 (.bool false) (by kernel_rfl) (by kernel_rfl) fun a hK => ?_
   refine stepM hK 24 23 (by kernel_rfl) (.inl rfl) rfl fun a hK => ?_
   refine stepN hK 25 (by kernel_rfl) fun a hK => ?_
   refine stepN hK 26 (by kernel_rfl) fun a hK => ?_
   refine stepN hK 27 (by kernel_rfl) fun a hK => ?_
   refine stepN hK 28 (by kernel_rfl) fun a hK => ?_
   refine stepN hK 29 (by kernel_rfl) fun a hK => ?_
   refine stepP hK 30 (.bool false) (by kernel_rfl) (by kernel_rfl) fun a hK => ?_
   refine stepM hK 4 30 (by kernel_rfl) (.inr rfl) rfl fun a hK => ?_
   refine region_done hK [(4, .bool false), (3, pA b2 0), (2, pA b1 0), (0, vE e), (1, vE g)] ⟨rfl, rfl, rfl, rfl, rfl, trivial⟩ fun a hK => ?_
   refine wp_ret ?_
   exact ret_t hK rfl (u := (.bool false)) rfl (⟨by rw [same_ex, (decide_eq_true h3), (decide_eq_false h4)]; rfl, hM.below⟩)
 ·refine stepP hK 9 (.bool false) (by kernel_rfl) (okBool (b := (decide ((e.op : Int) = g.op))) (by kernel_rfl) (decide_eq_false h3)) fun a hK => ?_
  refine stepM hK 10 9 (by kernel_rfl) (.inl rfl) rfl fun a hK => ?_
  refine stepN hK 11 (by kernel_rfl) fun a hK => ?_
  refine stepN hK 12 (by kernel_rfl) fun a hK => ?_
  refine stepN hK 13 (by kernel_rfl) fun a hK => ?_
  refine stepN hK 14 (by kernel_rfl) fun a hK => ?_
  refine stepN hK 15 (by kernel_rfl) fun a hK => ?_
  refine stepP hK 16 (.bool false) (by kernel_rfl) (by kernel_rfl) fun a hK => ?_
  refine stepM hK 17 16 (by kernel_rfl) (.inl rfl) rfl fun a hK => ?_
  refine stepN hK 18 (by kernel_rfl) fun a hK => ?_
  refine stepN hK 19 (by kernel_rfl) fun a hK => ?_
  refine stepN hK 20 (by kernel_rfl) fun a hK => ?_
  refine stepN hK 21 (by kernel_rfl) fun a hK => ?_
  refine stepN hK 22 (by kernel_rfl) fun a hK => ?_
  refine stepP hK 23 (.bool false) (by kernel_rfl) (by kernel_rfl) fun a hK => ?_
  refine stepM hK 24 23 (by kernel_rfl) (.inl rfl) rfl fun a hK => ?_
  refine stepN hK 25 (by kernel_rfl) fun a hK => ?_
  refine stepN hK 26 (by kernel_rfl) fun a hK => ?_
  refine stepN hK 27 (by kernel_rfl) fun a hK => ?_
  refine stepN hK 28 (by kernel_rfl) fun a hK => ?_
  refine stepN hK 29 (by kernel_rfl) fun a hK => ?_
  refine stepP hK 30 (.bool false) (by kernel_rfl) (by kernel_rfl) fun a hK => ?_
  refine stepM hK 4 30 (by kernel_rfl) (.inr rfl) rfl fun a hK => ?_
  refine region_done hK [(4, .bool false), (3, pA b2 0), (2, pA b1 0), (0, vE e), (1, vE g)] ⟨rfl, rfl, rfl, rfl, rfl, trivial⟩ fun a hK => ?_
  refine wp_ret ?_
  exact ret_t hK rfl (u := (.bool false)) rfl (⟨by rw [same_ex, (decide_eq_false h3)]; rfl, hM.below⟩)
end Go.Proofs.YtiigncmpbkfhmaaDoor
namespace Go.Proofs.YtiigncmpbkfhmaaDoor
open Go Go.RowKit
theorem en_ast_copyExpr : Enters Tryd.prog 89 := enters_of Tryd.func89 (by kernel_rfl) rfl
theorem en_each_Expr : Enters Tryd.prog 88 := enters_of Tryd.func88 (by kernel_rfl) rfl
def GivesE (w0 : World) (e : Ex) : Ending → World → Prop := Gives w0 (fun x : Ex × List It => (.agg #[.int .i64 x.1.op, .int .i64 x.1.num, Str x.1.nm, .slice x.1.A x.1.ks.length x.1.c] : Value)) (fun x => x.2) fun x => x.1.same e = true ∧ ExRows x.2 x.1
theorem Mem.comm {w0 w : World} {a b : List It} (h : Mem w0 w (a ++ b)) : Mem w0 w (b ++ a) where
 below := h.below
 each := fun it hi => h.each it (by simp only [List.mem_append] at hi ⊢; exact hi.symm)
 apart := by
  have h1 := List.pairwise_append.1 h.apart
  refine List.pairwise_append.2 ⟨h1.2.1, h1.1, fun x hx y hy => ?_⟩
  rcases h1.2.2 y hy x hx with q | q
  ·rcases hx0 : x.blk with _ | k
   ·exact .inl rfl
   ·exact .inr (by rw [q]; simp)
  ·exact .inr (Ne.symm q)
theorem flat_len {α : Type} {f : α → List Value} {s : Nat} (hf : ∀ x, (f x).length = s) (l : List α) : (l.flatMap f).length = l.length * s := by
 induction l with
 | nil => simp
 | cons x r ih => rw [List.flatMap_cons, List.length_append, hf, ih, List.length_cons, Nat.succ_mul]; omega
def samePts (done l : List Ex) : Prop := ∀ (k : Nat) (u v : Ex), done[k]? = some u → l[k]? = some v → u.same v = true
theorem samePts_all : ∀ {done l : List Ex}, samePts done l → exsSame done l = true := by
 intro done
 induction done with
 | nil => intro l _; cases l <;> rw [exsSame] <;> simp
 | cons x r ih =>
  intro l h
  cases l with
  | nil => rw [exsSame]; simp
  | cons y s => rw [exsSame, h 0 x y rfl rfl, ih (fun k u v hu hv => h (k + 1) u v (by simpa using hu) (by simpa using hv))]; rfl
theorem exs_none {w : World} {A : Option Addr} {l : List Ex} (h : ExsAt w A l) (hA : A.isNone = true) : l = [] := by
 cases l with
 | nil => rfl
 | cons x r => obtain ⟨⟨a, e, _⟩, _⟩ := h 0 x rfl; rw [e] at hA; simp at hA
theorem same_snoc {l done : List Ex} {i : Nat} {e q : Ex} (h : samePts done l) (hi : done.length = i) (hq : l[i]? = some q) (hs : e.same q = true) : samePts (done ++ [e]) l := by
 intro k x y hx hy
 rcases Nat.lt_or_ge k done.length with hk | hk
 ·rw [List.getElem?_append_left hk] at hx; exact h k x y hx hy
 ·rw [List.getElem?_append_right hk] at hx
  have hk2 : k = i := by
   have := (List.getElem?_eq_some_iff.1 hx).1
   simp at this; omega
  subst hk2
  rw [hi, Nat.sub_self] at hx
  obtain rfl : e = x := by simpa using hx
  rw [hq] at hy
  obtain rfl := Option.some.inj hy
  exact hs
set_option maxRecDepth 100000 in
set_option maxHeartbeats 4000000 in
theorem ast_eachE (l : List Ex) (ih : ∀ x ∈ l, ∀ w0 : World, ExAt w0 x → Calls Tryd.prog 89 #[vE x] w0 (GivesE w0 x)) : ∀ (A : Option Addr) (c : Nat) (w0 : World), ExsAt w0 A l → l.length ≤ 1000000 → Calls Tryd.prog 88 #[.slice A l.length c, .func (.func 89) #[] #[]] w0 (Gives w0 (fun x : List Ex × Option Addr × Nat × List It => (.slice x.2.1 x.1.length x.2.2.1 : Value)) (fun x => x.2.2.2) fun x => exsEq x.1 l = true ∧ RowIn x.2.2.2 36 x.2.1 (x.1.flatMap cE) ∧ ∀ y ∈ x.1, ExRows x.2.2.2 y) := by
 intro A c w0 hl hln
 refine calls_K (args := [.slice A l.length c, .func (.func 89) #[] #[]]) (n := 28) (env := [(0, .slice A l.length c), (1, .func (.func 89) #[] #[])]) Tryd.func88 rfl rfl rfl ⟨rfl, rfl, trivial⟩ fun a w hK hM => ?_
 refine wp_seq ?_
 refine region_go (lst := [0]) (by kernel_rfl) ?_
 refine stepP hK 4 (.slice none 0 0) (by kernel_rfl) (by kernel_rfl) fun a hK => ?_
 refine region_done hK [(4, .slice none 0 0), (0, .slice A l.length c), (1, .func (.func 89) #[] #[])] ⟨rfl, rfl, rfl, trivial⟩ fun a hK => ?_
 refine wp_seq ?_
 refine wp_seq ?_
 refine region_go (lst := [0, 1]) (by kernel_rfl) ?_
 refine stepM hK 8 0 (by kernel_rfl) (.inl rfl) rfl fun a hK => ?_
 rcases Bool.eq_false_or_eq_true (A).isNone with h1 | h1
 ·refine stepP hK 9 (.bool true) (by kernel_rfl) (okBool (b := (A).isNone) (run_eqNil rfl rfl rfl Tryd.underlying27) h1) fun a hK => ?_
  refine region_done hK [(9, .bool true), (4, .slice none 0 0), (0, .slice A l.length c), (1, .func (.func 89) #[] #[])] ⟨rfl, rfl, rfl, rfl, trivial⟩ fun a hK => ?_
  refine wp_cond_true (hK.get rfl) ?_
  refine wp_seq ?_
  refine region_go (lst := [0]) (by kernel_rfl) ?_
  refine stepP hK 4 (.slice none 0 0) (by kernel_rfl) (by kernel_rfl) fun a hK => ?_
  refine region_done hK [(4, .slice none 0 0), (9, .bool true), (0, .slice A l.length c), (1, .func (.func 89) #[] #[])] ⟨rfl, rfl, rfl, rfl, trivial⟩ fun a hK => ?_
  refine wp_ret ?_
  exact ret_t hK rfl (u := (.slice none 0 0)) rfl (⟨([], none, 0, []), rfl, hM, by rw [exs_none hl h1]; rfl, .inl rfl, fun y hy => by cases hy⟩)
 ·refine stepP hK 9 (.bool false) (by kernel_rfl) (okBool (b := (A).isNone) (run_eqNil rfl rfl rfl Tryd.underlying27) h1) fun a hK => ?_
  refine region_done hK [(9, .bool false), (4, .slice none 0 0), (0, .slice A l.length c), (1, .func (.func 89) #[] #[])] ⟨rfl, rfl, rfl, rfl, trivial⟩ fun a hK => ?_
  refine wp_cond_false (hK.get rfl) ?_
  refine wp_skip ?_
  refine wp_seq ?_
  refine region_go (lst := [0, 1, 2, 3]) (by kernel_rfl) ?_
  refine stepM hK 10 0 (by kernel_rfl) (.inl rfl) rfl fun a hK => ?_
  refine stepP hK 11 (.int .i64 ((l.length : Nat) : Int)) (by kernel_rfl) (by kernel_rfl) fun a hK => ?_
  refine stepMake hK hM 12 [.int .i64 0, .int .i64 0, Str [], .slice none 0 0] l.length 56 Tryd.underlying27 (by kernel_rfl) (by kernel_rfl) rfl rfl rfl (by omega) fun b2 a w hK hM => ?_
  refine stepM hK 5 12 (by kernel_rfl) (.inr rfl) rfl fun a hK => ?_
  refine region_done hK [(5, .slice (some ⟨b2, 0, none⟩) l.length l.length), (9, .bool false), (4, .slice none 0 0), (0, .slice A l.length c), (1, .func (.func 89) #[] #[])] ⟨rfl, rfl, rfl, rfl, rfl, trivial⟩ fun a hK => ?_
  refine wp_seq ?_
  refine wp_seq ?_
  refine region_go (lst := [0, 1, 2]) (by kernel_rfl) ?_
  refine stepM hK 13 0 (by kernel_rfl) (.inl rfl) rfl fun a hK => ?_
  refine stepP hK 14 (.int .i64 ((l.length : Nat) : Int)) (by kernel_rfl) (by kernel_rfl) fun a hK => ?_
  refine stepP hK 15 (.int .i64 0) (by kernel_rfl) (by kernel_rfl) fun a hK => ?_
  refine region_done hK [(15, .int .i64 0), (14, .int .i64 ((l.length : Nat) : Int)), (13, .slice A l.length c), (5, .slice (some ⟨b2, 0, none⟩) l.length l.length), (9, .bool false), (4, .slice none 0 0), (0, .slice A l.length c), (1, .func (.func 89) #[] #[])] ⟨rfl, rfl, rfl, rfl, rfl, rfl, rfl, rfl, trivial⟩ fun a hK => ?_
  refine wp_block ?_
  refine wp_loopX (fun x : Nat × (List Ex) × (List It) => [(14, .int .i64 ((l.length : Nat) : Int)), (13, .slice A l.length c), (5, .slice (some ⟨b2, 0, none⟩) l.length l.length), (9, .bool false), (4, .slice none 0 0), (0, .slice A l.length c), (1, .func (.func 89) #[] #[]), (15, .int .i64 ((x.1 : Nat) : Int))]) (fun x : Nat × (List Ex) × (List It) => (.row b2 36 (x.2.1.flatMap cE ++ zerosL (l.length - x.1) [.int .i64 0, .int .i64 0, Str [], .slice none 0 0]) :: x.2.2)) (fun x : Nat × (List Ex) × (List It) => x.1 ≤ l.length ∧ x.2.1.length = x.1 ∧ samePts x.2.1 l ∧ ∀ u ∈ x.2.1, ExRows x.2.2 u) (fun x : Nat × (List Ex) × (List It) => l.length - x.1) (0, [], []) (hK.sub ⟨rfl, rfl, rfl, rfl, rfl, rfl, rfl, rfl, trivial⟩) hM ⟨Nat.zero_le _, rfl, fun k x y hx => by simp at hx, fun x hx => by simp at hx⟩ ?_
  rintro ⟨i, done, F⟩ a w hK hM hR
  replace hK : Knows a 28 [(14, .int .i64 ((l.length : Nat) : Int)), (13, .slice A l.length c), (5, .slice (some ⟨b2, 0, none⟩) l.length l.length), (9, .bool false), (4, .slice none 0 0), (0, .slice A l.length c), (1, .func (.func 89) #[] #[]), (15, vN i)] := hK
  replace hM : Mem w0 w (.row b2 36 (done.flatMap cE ++ zerosL (l.length - i) [.int .i64 0, .int .i64 0, Str [], .slice none 0 0]) :: F) := hM
  replace hR : i ≤ l.length ∧ done.length = i ∧ samePts done l ∧ ∀ u ∈ done, ExRows F u := hR
  refine wp_seq ?_
  refine region_go (lst := [0]) (by kernel_rfl) ?_
  by_cases h3 : (((i : Nat) : Int) : Int) < ((l.length : Nat) : Int)
  ·refine stepP hK 16 (.bool true) (by kernel_rfl) (okBool (b := (decide ((((i : Nat) : Int) : Int) < ((l.length : Nat) : Int)))) (by kernel_rfl) (decide_eq_true h3)) fun a hK => ?_
   refine region_done hK [(16, .bool true), (14, .int .i64 ((l.length : Nat) : Int)), (13, .slice A l.length c), (5, .slice (some ⟨b2, 0, none⟩) l.length l.length), (9, .bool false), (4, .slice none 0 0), (0, .slice A l.length c), (1, .func (.func 89) #[] #[]), (15, vN i)] ⟨rfl, rfl, rfl, rfl, rfl, rfl, rfl, rfl, rfl, trivial⟩ fun a hK => ?_
   refine wp_seq ?_
   refine wp_cond_true (hK.get rfl) ?_
   refine wp_skip ?_
   refine wp_seq ?_
   refine wp_block ?_
   refine wp_seq ?_
   refine region_go (lst := [0, 1, 2, 3, 4, 5]) (by kernel_rfl) ?_
   refine stepM hK 17 15 (by kernel_rfl) (.inl rfl) rfl fun a hK => ?_
   obtain ⟨t4, ht4⟩ : ∃ t, l[(i : Nat)]? = some t := ⟨_, List.getElem?_eq_getElem (by omega)⟩
   obtain ⟨⟨at4, At4, ct4⟩, et4⟩ := hl _ _ ht4; have nt4 := et4.len
   refine stepP hK 18 (.pointer (some (at4.add (i * 4)))) (by kernel_rfl) (run_ixA (k := i) (s := 4) rfl rfl At4 rfl Tryd.underlying27 (by kernel_rfl) (by omega)) fun a hK => ?_
   refine stepLoad hK 19 (vE t4) (by kernel_rfl) rfl rfl ((ct4.on hM.below)) (by kernel_rfl) fun a hK => ?_
   refine stepAlloc hK hM 7 36 [.int .i64 0, .int .i64 0, Str [], .slice none 0 0] (fun b => pA b 0) (by kernel_rfl) (by kernel_rfl) fun b5 a w hK hM => ?_
   refine stepM hK 6 17 (by kernel_rfl) (.inr rfl) rfl fun a hK => ?_
   refine stepStore hK hM 0 (cE t4) (by kernel_rfl) rfl rfl rfl rfl (by kernel_rfl) fun w hM => ?_
   replace hM := hM.to (.row b5 36 (cE t4) :: .row b2 36 (done.flatMap cE ++ zerosL (l.length - i) [.int .i64 0, .int .i64 0, Str [], .slice none 0 0]) :: F) (by kernel_rfl)
   refine region_done hK [(6, vN i), (7, pA b5 0), (16, .bool true), (14, .int .i64 ((l.length : Nat) : Int)), (13, .slice A l.length c), (5, .slice (some ⟨b2, 0, none⟩) l.length l.length), (9, .bool false), (4, .slice none 0 0), (0, .slice A l.length c), (1, .func (.func 89) #[] #[]), (15, vN i)] ⟨rfl, rfl, rfl, rfl, rfl, rfl, rfl, rfl, rfl, rfl, rfl, trivial⟩ fun a hK => ?_
   refine region_go (lst := [0, 1, 2, 3, 4, 5, 6]) (by kernel_rfl) ?_
   refine stepM hK 20 5 (by kernel_rfl) (.inl rfl) rfl fun a hK => ?_
   refine stepM hK 21 6 (by kernel_rfl) (.inl rfl) rfl fun a hK => ?_
   refine stepM hK 22 1 (by kernel_rfl) (.inl rfl) rfl fun a hK => ?_
   refine stepLoad hK 23 (vE t4) (by kernel_rfl) rfl rfl ((hM.row 0 rfl).cells 0 4) (by kernel_rfl) fun a hK => ?_
   refine stepCall hK hM 24 #[vE t4] (by kernel_rfl) (run_callE en_ast_copyExpr rfl rfl (by kernel_rfl)) (ih t4 (List.mem_of_getElem? ht4) _ (et4.on hM.below)) ?_
   rintro ⟨e6, G6⟩ a w ⟨hs6, hr6⟩ hK hM
   replace hM := (Mem.comm hM).to ((.row b5 36 (cE t4) :: .row b2 36 (done.flatMap cE ++ zerosL (l.length - i) [.int .i64 0, .int .i64 0, Str [], .slice none 0 0]) :: (F ++ G6))) (by kernel_rfl)
   refine stepP hK 25 (.pointer (some ⟨b2, i * 4, none⟩)) (by kernel_rfl) (run_ixG (k := i) (s := 4) rfl rfl rfl Tryd.underlying27 (by kernel_rfl) (by omega)) fun a hK => ?_
   refine stepStoreAt hK hM 1 (cE e6) (((done ++ [e6]).flatMap cE ++ zerosL (l.length - (i + 1)) [.int .i64 0, .int .i64 0, Str [], .slice none 0 0])) (by kernel_rfl) rfl rfl rfl rfl (by kernel_rfl) rfl rfl (by rw [List.length_append, flat_len (s := 4) (fun _ => rfl), zerosL_length, hR.2.1]; simp only [List.length_cons, List.length_nil]; omega) ((put_next (A := done.flatMap cE) (new := cE e6) (zs := [.int .i64 0, .int .i64 0, Str [], .slice none 0 0]) (m := l.length - i) (k := i * 4) (by rw [flat_len (s := 4) (fun _ => rfl), hR.2.1]) rfl (by omega)).trans (by rw [List.flatMap_append]; simp [Nat.sub_sub])) fun w hM => ?_
   replace hM := hM.to ((.row b5 36 (cE t4) :: .row b2 36 (((done ++ [e6]).flatMap cE ++ zerosL (l.length - (i + 1)) [.int .i64 0, .int .i64 0, Str [], .slice none 0 0])) :: (F ++ G6))) (by kernel_rfl)
   refine region_done hK [(6, vN i), (7, pA b5 0), (16, .bool true), (14, .int .i64 ((l.length : Nat) : Int)), (13, .slice A l.length c), (5, .slice (some ⟨b2, 0, none⟩) l.length l.length), (9, .bool false), (4, .slice none 0 0), (0, .slice A l.length c), (1, .func (.func 89) #[] #[]), (15, vN i)] ⟨rfl, rfl, rfl, rfl, rfl, rfl, rfl, rfl, rfl, rfl, rfl, trivial⟩ fun a hK => ?_
   refine region_go (lst := [0, 1]) (by kernel_rfl) ?_
   refine stepP hK 26 (.int .i64 (((i + 1) : Nat) : Int)) (by kernel_rfl) (run_addN (i := i) (j := 1) rfl rfl rfl (by omega)) fun a hK => ?_
   refine stepM hK 15 26 (by kernel_rfl) (.inl rfl) rfl fun a hK => ?_
   refine region_done hK [(15, .int .i64 (((i + 1) : Nat) : Int)), (6, vN i), (7, pA b5 0), (16, .bool true), (14, .int .i64 ((l.length : Nat) : Int)), (13, .slice A l.length c), (5, .slice (some ⟨b2, 0, none⟩) l.length l.length), (9, .bool false), (4, .slice none 0 0), (0, .slice A l.length c), (1, .func (.func 89) #[] #[])] ⟨rfl, rfl, rfl, rfl, rfl, rfl, rfl, rfl, rfl, rfl, rfl, trivial⟩ fun a hK => ?_
   have hRn : (i + 1) ≤ l.length ∧ ((done ++ [e6])).length = (i + 1) ∧ samePts ((done ++ [e6])) l ∧ ∀ u ∈ ((done ++ [e6])), ExRows ((F ++ G6)) u := ⟨by omega, by simp [hR.2.1], same_snoc hR.2.2.1 hR.2.1 ht4 hs6, fun x hx => (List.mem_append.1 hx).elim (fun h => (hR.2.2.2 x h).mono fun it hi => List.mem_append_left _ hi) fun h => by obtain rfl := List.mem_singleton.1 h; exact hr6.mono fun it hi => List.mem_append_right _ hi⟩
   have hmn : l.length - (i + 1) < l.length - i := by omega
   exact ⟨(i + 1, (done ++ [e6]), (F ++ G6)), hK.sub ⟨rfl, rfl, rfl, rfl, rfl, rfl, rfl, rfl, trivial⟩, (hM.drop 1), hRn, hmn⟩
  ·refine stepP hK 16 (.bool false) (by kernel_rfl) (okBool (b := (decide ((((i : Nat) : Int) : Int) < ((l.length : Nat) : Int)))) (by kernel_rfl) (decide_eq_false h3)) fun a hK => ?_
   refine region_done hK [(16, .bool false), (14, .int .i64 ((l.length : Nat) : Int)), (13, .slice A l.length c), (5, .slice (some ⟨b2, 0, none⟩) l.length l.length), (9, .bool false), (4, .slice none 0 0), (0, .slice A l.length c), (1, .func (.func 89) #[] #[]), (15, vN i)] ⟨rfl, rfl, rfl, rfl, rfl, rfl, rfl, rfl, rfl, trivial⟩ fun a hK => ?_
   refine wp_seq ?_
   refine wp_cond_false (hK.get rfl) ?_
   refine wp_exit (exit_then (exit_then (exit_here 0 ?_)))
   refine wp_seq ?_
   refine region_go (lst := [0, 1]) (by kernel_rfl) ?_
   refine stepM hK 27 5 (by kernel_rfl) (.inl rfl) rfl fun a hK => ?_
   refine stepM hK 4 27 (by kernel_rfl) (.inr rfl) rfl fun a hK => ?_
   refine region_done hK [(4, .slice (some ⟨b2, 0, none⟩) l.length l.length), (16, .bool false), (14, .int .i64 ((l.length : Nat) : Int)), (13, .slice A l.length c), (5, .slice (some ⟨b2, 0, none⟩) l.length l.length), (9, .bool false), (0, .slice A l.length c), (1, .func (.func 89) #[] #[]), (15, vN i)] ⟨rfl, rfl, rfl, rfl, rfl, rfl, rfl, rfl, rfl, trivial⟩ fun a hK => ?_
   refine wp_ret ?_
   exact ret_t hK rfl (u := (.slice (some ⟨b2, 0, none⟩) l.length l.length)) rfl (⟨(done, some ⟨b2, 0, none⟩, l.length, .row b2 36 (done.flatMap cE) :: F), by show Ending.returned (Value.slice _ l.length l.length) = Ending.returned (Value.slice _ done.length l.length); rw [show done.length = l.length by omega], hM.to _ (by rw [Nat.sub_eq_zero_of_le (by omega)]; simp [zerosL]), by unfold exsEq neI; rw [show done.length = l.length by omega, samePts_all hR.2.2.1]; simp, .inr ⟨b2, rfl, List.mem_cons_self⟩, fun y hy => (hR.2.2.2 y hy).mono fun it hi => List.mem_cons_of_mem _ hi⟩)
theorem exsEq_len {l m : List Ex} (h : exsEq l m = true) : l.length = m.length := by
 unfold exsEq neI at h
 simp only [Bool.not_not, Bool.and_eq_true, decide_eq_true_eq] at h
 omega
theorem same_mk {e : Ex} {A : Option Addr} {c : Nat} {ks : List Ex} (h : exsEq ks e.ks = true) : (Ex.mk e.op e.num e.nm A c ks).same e = true := by
 rw [same_ex]
 show (decide (e.op = e.op) && (decide (e.num = e.num) && (decide (e.nm = e.nm) && exsEq ks e.ks))) = true
 rw [h]; simp
theorem rows_mk {e : Ex} {A : Option Addr} {c : Nat} {ks : List Ex} {F : List It} (hn : e.nm.length ≤ 65536) (hk : e.ks.length ≤ 1000000) (h : exsEq ks e.ks = true) (hr : RowIn F 36 A (ks.flatMap cE)) (hx : ∀ y ∈ ks, ExRows F y) : ExRows F (.mk e.op e.num e.nm A c ks) :=
 .mk _ ⟨by show e.nm.length ≤ _; omega, by show ks.length ≤ _; rw [exsEq_len h]; omega⟩ hr hx
set_option maxRecDepth 100000 in
set_option maxHeartbeats 4000000 in
theorem ast_copyExpr (e : Ex) : ∀ (w0 : World), ExAt w0 e → e.sh = true → e.sz ≤ 1000000 → Calls Tryd.prog 89 #[vE e] w0 (GivesE w0 e) := by
 induction e using Ex.rec_on
 rename_i e ih
 intro w0 he hsh hsz
 have hesh := ex_sh hsh; have hln := exsSz_len e.ks; have hse := sz_eq e
 refine calls_K (args := [vE e]) (n := 12) (env := [(0, vE e)]) Tryd.func89 rfl rfl rfl ⟨rfl, trivial⟩ fun a w hK hM => ?_
 refine wp_seq ?_
 refine region_go (lst := [0, 1]) (by kernel_rfl) ?_
 refine stepAlloc hK hM 1 36 (cE e) (fun b => pA b 0) (by kernel_rfl) (by kernel_rfl) fun b1 a w hK hM => ?_
 refine stepAlloc hK hM 2 36 [.int .i64 0, .int .i64 0, Str [], .slice none 0 0] (fun b => pA b 0) (by kernel_rfl) (by kernel_rfl) fun b2 a w hK hM => ?_
 refine region_done hK [(2, pA b2 0), (1, pA b1 0), (0, vE e)] ⟨rfl, rfl, rfl, trivial⟩ fun a hK => ?_
 refine wp_seq ?_
 refine region_go (lst := [0, 1, 2, 3, 4]) (by kernel_rfl) ?_
 refine stepP hK 3 (pA b1 2) (by kernel_rfl) (by kernel_rfl) fun a hK => ?_
 refine stepLoad hK 4 (Str e.nm) (by kernel_rfl) rfl rfl ((hM.row 1 rfl).cells 2 1) (by kernel_rfl) fun a hK => ?_
 refine stepRet hK hM 5 #[Str e.nm] (Str e.nm) (by kernel_rfl) (run_callE en_strings_Clone rfl rfl (by kernel_rfl)) (lib_Clone e.nm _ (by omega)) fun a w hK hM => ?_
 refine stepP hK 6 (pA b1 2) (by kernel_rfl) (by kernel_rfl) fun a hK => ?_
 refine stepStore hK hM 1 (cE e) (by kernel_rfl) rfl rfl rfl rfl (by kernel_rfl) fun w hM => ?_
 replace hM := hM.to [.row b2 36 [.int .i64 0, .int .i64 0, Str [], .slice none 0 0], .row b1 36 (cE e)] (by kernel_rfl)
 refine region_done hK [(2, pA b2 0), (1, pA b1 0), (0, vE e)] ⟨rfl, rfl, rfl, trivial⟩ fun a hK => ?_
 refine wp_seq ?_
 refine region_go (lst := [0, 1, 2, 3, 4]) (by kernel_rfl) ?_
 refine stepP hK 7 (pA b1 3) (by kernel_rfl) (by kernel_rfl) fun a hK => ?_
 refine stepLoad hK 8 (.slice e.A e.ks.length e.c) (by kernel_rfl) rfl rfl ((hM.row 1 rfl).cells 3 1) (by kernel_rfl) fun a hK => ?_
 refine stepCall hK hM 9 #[.slice e.A e.ks.length e.c, .func (.func 89) #[] #[]] (by kernel_rfl) (run_callE en_each_Expr rfl rfl (by kernel_rfl)) (ast_eachE e.ks (fun x hx w1 h1 => ih x hx w1 h1 (exsSh_mem hesh.2 hx) (by have h8 := exsSz_mem hx; have h9 := sz_eq e; omega)) _ _ _ (he.kids.on hM.below) (by omega)) ?_
 rintro ⟨K3, A3, c3, G3⟩ a w ⟨hq3, hi3, hr3⟩ hK hM
 replace hM := (Mem.comm hM).to ((.row b2 36 [.int .i64 0, .int .i64 0, Str [], .slice none 0 0] :: .row b1 36 (cE e) :: G3)) (by kernel_rfl)
 refine stepP hK 10 (pA b1 3) (by kernel_rfl) (by kernel_rfl) fun a hK => ?_
 refine stepStore hK hM 1 [.int .i64 e.op, .int .i64 e.num, Str e.nm, .slice A3 K3.length c3] (by kernel_rfl) rfl rfl rfl rfl (by kernel_rfl) fun w hM => ?_
 replace hM := hM.to (.row b2 36 [.int .i64 0, .int .i64 0, Str [], .slice none 0 0] :: .row b1 36 [.int .i64 e.op, .int .i64 e.num, Str e.nm, .slice A3 K3.length c3] :: G3) (by kernel_rfl)
 refine region_done hK [(2, pA b2 0), (1, pA b1 0), (0, vE e)] ⟨rfl, rfl, rfl, trivial⟩ fun a hK => ?_
 refine wp_seq ?_
 refine region_go (lst := [0, 1]) (by kernel_rfl) ?_
 refine stepLoad hK 11 (.agg #[.int .i64 e.op, .int .i64 e.num, Str e.nm, .slice A3 K3.length c3]) (by kernel_rfl) rfl rfl ((hM.row 1 rfl).cells 0 4) (by kernel_rfl) fun a hK => ?_
 refine stepStore hK hM 0 [.int .i64 e.op, .int .i64 e.num, Str e.nm, .slice A3 K3.length c3] (by kernel_rfl) rfl rfl rfl rfl (by kernel_rfl) fun w hM => ?_
 replace hM := hM.to (.row b2 36 [.int .i64 e.op, .int .i64 e.num, Str e.nm, .slice A3 K3.length c3] :: .row b1 36 [.int .i64 e.op, .int .i64 e.num, Str e.nm, .slice A3 K3.length c3] :: G3) (by kernel_rfl)
 refine region_done hK [(2, pA b2 0), (1, pA b1 0), (0, vE e)] ⟨rfl, rfl, rfl, trivial⟩ fun a hK => ?_
 refine wp_ret ?_
 exact ret_c hK rfl rfl ((hM.row 0 rfl).cells 0 4) (u := (.agg #[.int .i64 e.op, .int .i64 e.num, Str e.nm, .slice A3 K3.length c3])) (by kernel_rfl) (⟨(.mk e.op e.num e.nm A3 c3 K3, G3), rfl, hM.drop 2, same_mk hq3, rows_mk hesh.1 (by omega) hq3 hi3 hr3⟩)
end Go.Proofs.YtiigncmpbkfhmaaDoor
