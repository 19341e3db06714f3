/-
 What package ast asks of each node.
-/
import Derived.Test.YtmfiiapmkidmkaaDoorTreeY
import Derived.Test.YtmfiiapmkidmkaaDoorAwC
namespace Go.Proofs.YtmfiiapmkidmkaaDoor
open Go Go.RowKit

theorem en_ast_isKind : Enters Tryd.prog 64 := enters_of Tryd.func64 (by kernel_rfl) rfl
theorem en_ast_isWord : Enters Tryd.prog 66 := enters_of Tryd.func66 (by kernel_rfl) rfl
theorem en_ast_numMayBe : Enters Tryd.prog 67 := enters_of Tryd.func67 (by kernel_rfl) rfl
theorem en_ast_nameMayBe : Enters Tryd.prog 68 := enters_of Tryd.func68 (by kernel_rfl) rfl
theorem en_ast_orderMayBe : Enters Tryd.prog 69 := enters_of Tryd.func69 (by kernel_rfl) rfl
theorem en_ast_exprMayBe : Enters Tryd.prog 31 := enters_of Tryd.func31 (by kernel_rfl) rfl
theorem en_ast_stmtMayBe : Enters Tryd.prog 32 := enters_of Tryd.func32 (by kernel_rfl) rfl
theorem en_ast_declsMayBe : Enters Tryd.prog 30 := enters_of Tryd.func30 (by kernel_rfl) rfl
theorem en_ast_Check : Enters Tryd.prog 8 := enters_of Tryd.func8 (by kernel_rfl) rfl
theorem en_ast_CheckExpr : Enters Tryd.prog 9 := enters_of Tryd.func9 (by kernel_rfl) rfl
set_option maxRecDepth 100000 in
set_option maxHeartbeats 4000000 in
theorem ast_isKind (k : Int) (w0 : World) : Calls Tryd.prog 64 #[.int .i64 k] w0 (Ret w0 (.bool (ptIs k))) := by
 refine calls_K (args := [.int .i64 k]) (n := 9) (env := [(0, .int .i64 k)]) Tryd.func64 rfl rfl rfl ⟨rfl, trivial⟩ fun a w hK hM => ?_
 refine wp_seq ?_
 refine region_go (lst := [0]) (by kernel_rfl) ?_
 refine stepP hK 2 (.bool false) (by kernel_rfl) (by kernel_rfl) fun a hK => ?_
 refine region_done hK [(2, .bool false), (0, .int .i64 k)] ⟨rfl, rfl, trivial⟩ fun a hK => ?_
 refine wp_seq ?_
 refine region_go (lst := [0, 1, 2, 3, 4, 5, 6]) (by kernel_rfl) ?_
 refine stepM hK 3 0 (by kernel_rfl) (.inl rfl) rfl fun a hK => ?_
 by_cases h1 : (1 : Int) ≤ k
 ·refine stepP hK 4 (.bool true) (by kernel_rfl) (okBool (b := (decide ((1 : Int) ≤ k))) (by kernel_rfl) (decide_eq_true h1)) fun a hK => ?_
  refine stepM hK 5 4 (by kernel_rfl) (.inl rfl) rfl fun a hK => ?_
  refine stepM hK 6 0 (by kernel_rfl) (.inl rfl) rfl fun a hK => ?_
  by_cases h2 : (k : Int) ≤ 11
  ·refine stepP hK 7 (.bool true) (by kernel_rfl) (okBool (b := (decide ((k : Int) ≤ 11))) (by kernel_rfl) (decide_eq_true h2)) fun a hK => ?_
   refine stepP hK 8 (.bool true) (by kernel_rfl) (by kernel_rfl) fun a hK => ?_
   refine stepM hK 2 8 (by kernel_rfl) (.inr rfl) rfl fun a hK => ?_
   refine region_done hK [(2, .bool true), (0, .int .i64 k)] ⟨rfl, rfl, trivial⟩ fun a hK => ?_
   refine wp_ret ?_
   exact ret_t hK rfl (u := (.bool true)) rfl (⟨by unfold ptIs; rw [(decide_eq_true h1), (decide_eq_true h2)]; rfl, hM.below⟩)
  ·refine stepP hK 7 (.bool false) (by kernel_rfl) (okBool (b := (decide ((k : Int) ≤ 11))) (by kernel_rfl) (decide_eq_false h2)) fun a hK => ?_
   refine stepP hK 8 (.bool false) (by kernel_rfl) (by kernel_rfl) fun a hK => ?_
   refine stepM hK 2 8 (by kernel_rfl) (.inr rfl) rfl fun a hK => ?_
   refine region_done hK [(2, .bool false), (0, .int .i64 k)] ⟨rfl, rfl, trivial⟩ fun a hK => ?_
   refine wp_ret ?_
   exact ret_t hK rfl (u := (.bool false)) rfl (⟨by unfold ptIs; rw [(decide_eq_true h1), (decide_eq_false h2)]; rfl, hM.below⟩)
 ·refine stepP hK 4 (.bool false) (by kernel_rfl) (okBool (b := (decide ((1 : Int) ≤ k))) (by kernel_rfl) (decide_eq_false h1)) fun a hK => ?_
  refine stepM hK 5 4 (by kernel_rfl) (.inl rfl) rfl fun a hK => ?_
  refine stepN hK 6 (by kernel_rfl) fun a hK => ?_
  refine stepN hK 7 (by kernel_rfl) fun a hK => ?_
  refine stepP hK 8 (.bool false) (by kernel_rfl) (by kernel_rfl) fun a hK => ?_
  refine stepM hK 2 8 (by kernel_rfl) (.inr rfl) rfl fun a hK => ?_
  refine region_done hK [(2, .bool false), (0, .int .i64 k)] ⟨rfl, rfl, trivial⟩ fun a hK => ?_
  refine wp_ret ?_
  exact ret_t hK rfl (u := (.bool false)) rfl (⟨by unfold ptIs; rw [(decide_eq_false h1)]; rfl, hM.below⟩)
set_option maxRecDepth 100000 in
set_option maxHeartbeats 4000000 in
theorem ast_isWord (l : List UInt8) (w0 : World) (hl : l.length ≤ 65536) : Calls Tryd.prog 66 #[Str l] w0 (Ret w0 (.bool (isWd l))) := by
 refine calls_K (args := [Str l]) (n := 15) (env := [(0, Str l)]) Tryd.func66 rfl rfl rfl ⟨rfl, trivial⟩ fun a w hK hM => ?_
 refine wp_seq ?_
 refine region_go (lst := [0]) (by kernel_rfl) ?_
 refine stepP hK 2 (.bool false) (by kernel_rfl) (by kernel_rfl) fun a hK => ?_
 refine region_done hK [(2, .bool false), (0, Str l)] ⟨rfl, rfl, trivial⟩ fun a hK => ?_
 refine wp_seq ?_
 refine region_go (lst := [0, 1, 2, 3, 4, 5, 6]) (by kernel_rfl) ?_
 refine stepM hK 6 0 (by kernel_rfl) (.inl rfl) rfl fun a hK => ?_
 refine stepRet hK hM 7 #[Str l] (.tuple #[.int .i64 (((wordOf l).1 : Nat) : Int), .bool (wordOf l).2]) (by kernel_rfl) (run_callE en_lex_Word rfl rfl (by kernel_rfl)) (ret_eq (lex_Word l (by omega) _) (wordV_eq l)) fun a w hK hM => ?_
 refine stepM hK 5 7 (by kernel_rfl) (.inl rfl) rfl fun a hK => ?_
 refine stepP hK 8 (.int .i64 (((wordOf l).1 : Nat) : Int)) (by kernel_rfl) (by kernel_rfl) fun a hK => ?_
 rcases Bool.eq_false_or_eq_true (wordOf l).2 with h1 | h1
 ·refine stepP hK 9 (.bool true) (by kernel_rfl) (okBool (b := (wordOf l).2) (by kernel_rfl) h1) fun a hK => ?_
  refine stepM hK 3 8 (by kernel_rfl) (.inr rfl) rfl fun a hK => ?_
  refine stepM hK 4 9 (by kernel_rfl) (.inr rfl) rfl fun a hK => ?_
  refine region_done hK [(4, .bool true), (3, .int .i64 (((wordOf l).1 : Nat) : Int)), (2, .bool false), (0, Str l)] ⟨rfl, rfl, rfl, rfl, trivial⟩ fun a hK => ?_
  refine wp_seq ?_
  refine region_go (lst := [0, 1, 2, 3, 4, 5]) (by kernel_rfl) ?_
  refine stepM hK 10 4 (by kernel_rfl) (.inl rfl) rfl fun a hK => ?_
  refine stepM hK 11 10 (by kernel_rfl) (.inl rfl) rfl fun a hK => ?_
  refine stepM hK 12 3 (by kernel_rfl) (.inl rfl) rfl fun a hK => ?_
  by_cases h2 : ((((wordOf l).1 : Nat) : Int) : Int) = 1
  ·refine stepP hK 13 (.bool true) (by kernel_rfl) (okBool (b := (decide (((((wordOf l).1 : Nat) : Int) : Int) = 1))) (by kernel_rfl) (decide_eq_true h2)) fun a hK => ?_
   refine stepP hK 14 (.bool true) (by kernel_rfl) (by kernel_rfl) fun a hK => ?_
   refine stepM hK 2 14 (by kernel_rfl) (.inr rfl) rfl fun a hK => ?_
   refine region_done hK [(2, .bool true), (4, .bool true), (3, .int .i64 (((wordOf l).1 : Nat) : Int)), (0, Str l)] ⟨rfl, rfl, rfl, rfl, trivial⟩ fun a hK => ?_
   refine wp_ret ?_
   exact ret_t hK rfl (u := (.bool true)) rfl (⟨by unfold isWd; rw [h1, (decide_eq_true h2)]; rfl, hM.below⟩)
  ·refine stepP hK 13 (.bool false) (by kernel_rfl) (okBool (b := (decide (((((wordOf l).1 : Nat) : Int) : Int) = 1))) (by kernel_rfl) (decide_eq_false h2)) fun a hK => ?_
   refine stepP hK 14 (.bool false) (by kernel_rfl) (by kernel_rfl) fun a hK => ?_
   refine stepM hK 2 14 (by kernel_rfl) (.inr rfl) rfl fun a hK => ?_
   refine region_done hK [(2, .bool false), (4, .bool true), (3, .int .i64 (((wordOf l).1 : Nat) : Int)), (0, Str l)] ⟨rfl, rfl, rfl, rfl, trivial⟩ fun a hK => ?_
   refine wp_ret ?_
   exact ret_t hK rfl (u := (.bool false)) rfl (⟨by unfold isWd; rw [h1, (decide_eq_false h2)]; rfl, hM.below⟩)
 ·refine stepP hK 9 (.bool false) (by kernel_rfl) (okBool (b := (wordOf l).2) (by kernel_rfl) h1) fun a hK => ?_
  refine stepM hK 3 8 (by kernel_rfl) (.inr rfl) rfl fun a hK => ?_
  refine stepM hK 4 9 (by kernel_rfl) (.inr rfl) rfl fun a hK => ?_
  refine region_done hK [(4, .bool false), (3, .int .i64 (((wordOf l).1 : Nat) : Int)), (2, .bool false), (0, Str l)] ⟨rfl, rfl, rfl, rfl, trivial⟩ fun a hK => ?_
  refine wp_seq ?_
  refine region_go (lst := [0, 1, 2, 3, 4, 5]) (by kernel_rfl) ?_
  refine stepM hK 10 4 (by kernel_rfl) (.inl rfl) rfl fun a hK => ?_
  refine stepM hK 11 10 (by kernel_rfl) (.inl rfl) rfl fun a hK => ?_
  refine stepN hK 12 (by kernel_rfl) fun a hK => ?_
  refine stepN hK 13 (by kernel_rfl) fun a hK => ?_
  refine stepP hK 14 (.bool false) (by kernel_rfl) (by kernel_rfl) fun a hK => ?_
  refine stepM hK 2 14 (by kernel_rfl) (.inr rfl) rfl fun a hK => ?_
  refine region_done hK [(2, .bool false), (4, .bool false), (3, .int .i64 (((wordOf l).1 : Nat) : Int)), (0, Str l)] ⟨rfl, rfl, rfl, rfl, trivial⟩ fun a hK => ?_
  refine wp_ret ?_
  exact ret_t hK rfl (u := (.bool false)) rfl (⟨by unfold isWd; rw [h1]; rfl, hM.below⟩)
set_option maxRecDepth 100000 in
set_option maxHeartbeats 4000000 in
theorem ast_numMayBe (n : Int) (b : Bool) (w0 : World) : Calls Tryd.prog 67 #[.int .i64 n, .bool b] w0 (Ret w0 (.bool (numOk n b))) := by
 refine calls_K (args := [.int .i64 n, .bool b]) (n := 10) (env := [(0, .int .i64 n), (1, .bool b)]) Tryd.func67 rfl rfl rfl ⟨rfl, rfl, trivial⟩ fun a w hK hM => ?_
 refine wp_seq ?_
 refine region_go (lst := [0]) (by kernel_rfl) ?_
 refine stepP hK 4 (.bool false) (by kernel_rfl) (by kernel_rfl) fun a hK => ?_
 refine region_done hK [(4, .bool false), (0, .int .i64 n), (1, .bool b)] ⟨rfl, rfl, rfl, trivial⟩ fun a hK => ?_
 refine wp_seq ?_
 refine wp_seq ?_
 refine region_go (lst := [0]) (by kernel_rfl) ?_
 rcases Bool.eq_false_or_eq_true b with h1 | h1
 ·refine stepP hK 5 (.bool true) (by kernel_rfl) (okBool (b := b) (by kernel_rfl) h1) fun a hK => ?_
  refine region_done hK [(5, .bool true), (4, .bool false), (0, .int .i64 n), (1, .bool b)] ⟨rfl, rfl, rfl, rfl, trivial⟩ fun a hK => ?_
  refine wp_cond_true (hK.get rfl) ?_
  refine wp_seq ?_
  refine region_go (lst := [0, 1, 2]) (by kernel_rfl) ?_
  refine stepM hK 6 0 (by kernel_rfl) (.inl rfl) rfl fun a hK => ?_
  by_cases h2 : (0 : Int) ≤ n
  ·refine stepP hK 7 (.bool true) (by kernel_rfl) (okBool (b := (decide ((0 : Int) ≤ n))) (by kernel_rfl) (decide_eq_true h2)) fun a hK => ?_
   refine stepM hK 4 7 (by kernel_rfl) (.inr rfl) rfl fun a hK => ?_
   refine region_done hK [(4, .bool true), (5, .bool true), (0, .int .i64 n), (1, .bool b)] ⟨rfl, rfl, rfl, rfl, trivial⟩ fun a hK => ?_
   refine wp_ret ?_
   exact ret_t hK rfl (u := (.bool true)) rfl (⟨by unfold numOk; rw [h1, (decide_eq_true h2)]; rfl, hM.below⟩)
  ·refine stepP hK 7 (.bool false) (by kernel_rfl) (okBool (b := (decide ((0 : Int) ≤ n))) (by kernel_rfl) (decide_eq_false h2)) fun a hK => ?_
   refine stepM hK 4 7 (by kernel_rfl) (.inr rfl) rfl fun a hK => ?_
   refine region_done hK [(4, .bool false), (5, .bool true), (0, .int .i64 n), (1, .bool b)] ⟨rfl, rfl, rfl, rfl, trivial⟩ fun a hK => ?_
   refine wp_ret ?_
   exact ret_t hK rfl (u := (.bool false)) rfl (⟨by unfold numOk; rw [h1, (decide_eq_false h2)]; rfl, hM.below⟩)
 ·refine stepP hK 5 (.bool false) (by kernel_rfl) (okBool (b := b) (by kernel_rfl) h1) fun a hK => ?_
  refine region_done hK [(5, .bool false), (4, .bool false), (0, .int .i64 n), (1, .bool b)] ⟨rfl, rfl, rfl, rfl, trivial⟩ fun a hK => ?_
  refine wp_cond_false (hK.get rfl) ?_
  refine wp_skip ?_
  refine wp_seq ?_
  refine region_go (lst := [0, 1, 2]) (by kernel_rfl) ?_
  refine stepM hK 8 0 (by kernel_rfl) (.inl rfl) rfl fun a hK => ?_
  by_cases h3 : (n : Int) = 0
  ·refine stepP hK 9 (.bool true) (by kernel_rfl) (okBool (b := (decide ((n : Int) = 0))) (by kernel_rfl) (decide_eq_true h3)) fun a hK => ?_
   refine stepM hK 4 9 (by kernel_rfl) (.inr rfl) rfl fun a hK => ?_
   refine region_done hK [(4, .bool true), (5, .bool false), (0, .int .i64 n), (1, .bool b)] ⟨rfl, rfl, rfl, rfl, trivial⟩ fun a hK => ?_
   refine wp_ret ?_
   exact ret_t hK rfl (u := (.bool true)) rfl (⟨by unfold numOk; rw [h1, (decide_eq_true h3)]; rfl, hM.below⟩)
  ·refine stepP hK 9 (.bool false) (by kernel_rfl) (okBool (b := (decide ((n : Int) = 0))) (by kernel_rfl) (decide_eq_false h3)) fun a hK => ?_
   refine stepM hK 4 9 (by kernel_rfl) (.inr rfl) rfl fun a hK => ?_
   refine region_done hK [(4, .bool false), (5, .bool false), (0, .int .i64 n), (1, .bool b)] ⟨rfl, rfl, rfl, rfl, trivial⟩ fun a hK => ?_
   refine wp_ret ?_
   exact ret_t hK rfl (u := (.bool false)) rfl (⟨by unfold numOk; rw [h1, (decide_eq_false h3)]; rfl, hM.below⟩)
set_option maxRecDepth 100000 in
set_option maxHeartbeats 4000000 in
theorem ast_nameMayBe (l : List UInt8) (b : Bool) (w0 : World) (hl : l.length ≤ 65536) : Calls Tryd.prog 68 #[Str l, .bool b] w0 (Ret w0 (.bool (nameOk l b))) := by
 refine calls_K (args := [Str l, .bool b]) (n := 10) (env := [(0, Str l), (1, .bool b)]) Tryd.func68 rfl rfl rfl ⟨rfl, rfl, trivial⟩ fun a w hK hM => ?_
 refine wp_seq ?_
 refine region_go (lst := [0]) (by kernel_rfl) ?_
 refine stepP hK 4 (.bool false) (by kernel_rfl) (by kernel_rfl) fun a hK => ?_
 refine region_done hK [(4, .bool false), (0, Str l), (1, .bool b)] ⟨rfl, rfl, rfl, trivial⟩ fun a hK => ?_
 refine wp_seq ?_
 refine wp_seq ?_
 refine region_go (lst := [0]) (by kernel_rfl) ?_
 rcases Bool.eq_false_or_eq_true b with h1 | h1
 ·refine stepP hK 5 (.bool true) (by kernel_rfl) (okBool (b := b) (by kernel_rfl) h1) fun a hK => ?_
  refine region_done hK [(5, .bool true), (4, .bool false), (0, Str l), (1, .bool b)] ⟨rfl, rfl, rfl, rfl, trivial⟩ fun a hK => ?_
  refine wp_cond_true (hK.get rfl) ?_
  refine wp_seq ?_
  refine region_go (lst := [0, 1, 2]) (by kernel_rfl) ?_
  refine stepM hK 6 0 (by kernel_rfl) (.inl rfl) rfl fun a hK => ?_
  rcases Bool.eq_false_or_eq_true (isWd l) with h2 | h2
  ·refine stepRet hK hM 7 #[Str l] (.bool true) (by kernel_rfl) (run_callE en_ast_isWord rfl rfl (by kernel_rfl)) (ret_eq (ast_isWord l _ (by omega)) (congrArg Value.bool h2)) fun a w hK hM => ?_
   refine stepM hK 4 7 (by kernel_rfl) (.inr rfl) rfl fun a hK => ?_
   refine region_done hK [(4, .bool true), (5, .bool true), (0, Str l), (1, .bool b)] ⟨rfl, rfl, rfl, rfl, trivial⟩ fun a hK => ?_
   refine wp_ret ?_
   exact ret_t hK rfl (u := (.bool true)) rfl (⟨by unfold nameOk; rw [h1, h2]; rfl, hM.below⟩)
  ·refine stepRet hK hM 7 #[Str l] (.bool false) (by kernel_rfl) (run_callE en_ast_isWord rfl rfl (by kernel_rfl)) (ret_eq (ast_isWord l _ (by omega)) (congrArg Value.bool h2)) fun a w hK hM => ?_
   refine stepM hK 4 7 (by kernel_rfl) (.inr rfl) rfl fun a hK => ?_
   refine region_done hK [(4, .bool false), (5, .bool true), (0, Str l), (1, .bool b)] ⟨rfl, rfl, rfl, rfl, trivial⟩ fun a hK => ?_
   refine wp_ret ?_
   exact ret_t hK rfl (u := (.bool false)) rfl (⟨by unfold nameOk; rw [h1, h2]; rfl, hM.below⟩)
 ·refine stepP hK 5 (.bool false) (by kernel_rfl) (okBool (b := b) (by kernel_rfl) h1) fun a hK => ?_
  refine region_done hK [(5, .bool false), (4, .bool false), (0, Str l), (1, .bool b)] ⟨rfl, rfl, rfl, rfl, trivial⟩ fun a hK => ?_
  refine wp_cond_false (hK.get rfl) ?_
  refine wp_skip ?_
  refine wp_seq ?_
  refine region_go (lst := [0, 1, 2]) (by kernel_rfl) ?_
  refine stepM hK 8 0 (by kernel_rfl) (.inl rfl) rfl fun a hK => ?_
  by_cases h3 : l = []
  ·refine stepP hK 9 (.bool true) (by kernel_rfl) (okBool (b := (decide (l = []))) (run_eqS rfl rfl rfl) (decide_eq_true h3)) fun a hK => ?_
   refine stepM hK 4 9 (by kernel_rfl) (.inr rfl) rfl fun a hK => ?_
   refine region_done hK [(4, .bool true), (5, .bool false), (0, Str l), (1, .bool b)] ⟨rfl, rfl, rfl, rfl, trivial⟩ fun a hK => ?_
   refine wp_ret ?_
   exact ret_t hK rfl (u := (.bool true)) rfl (⟨by unfold nameOk; rw [h1, (decide_eq_true h3)]; rfl, hM.below⟩)
  ·refine stepP hK 9 (.bool false) (by kernel_rfl) (okBool (b := (decide (l = []))) (run_eqS rfl rfl rfl) (decide_eq_false h3)) fun a hK => ?_
   refine stepM hK 4 9 (by kernel_rfl) (.inr rfl) rfl fun a hK => ?_
   refine region_done hK [(4, .bool false), (5, .bool false), (0, Str l), (1, .bool b)] ⟨rfl, rfl, rfl, rfl, trivial⟩ fun a hK => ?_
   refine wp_ret ?_
   exact ret_t hK rfl (u := (.bool false)) rfl (⟨by unfold nameOk; rw [h1, (decide_eq_false h3)]; rfl, hM.below⟩)
set_option maxRecDepth 100000 in
set_option maxHeartbeats 4000000 in
theorem ast_orderMayBe (n : Int) (b : Bool) (w0 : World) : Calls Tryd.prog 69 #[.int .i64 n, .bool b] w0 (Ret w0 (.bool (ordOk n b))) := by
 refine calls_K (args := [.int .i64 n, .bool b]) (n := 14) (env := [(0, .int .i64 n), (1, .bool b)]) Tryd.func69 rfl rfl rfl ⟨rfl, rfl, trivial⟩ fun a w hK hM => ?_
 refine wp_seq ?_
 refine region_go (lst := [0]) (by kernel_rfl) ?_
 refine stepP hK 4 (.bool false) (by kernel_rfl) (by kernel_rfl) fun a hK => ?_
 refine region_done hK [(4, .bool false), (0, .int .i64 n), (1, .bool b)] ⟨rfl, rfl, rfl, trivial⟩ fun a hK => ?_
 refine wp_seq ?_
 refine wp_seq ?_
 refine region_go (lst := [0]) (by kernel_rfl) ?_
 rcases Bool.eq_false_or_eq_true b with h1 | h1
 ·refine stepP hK 5 (.bool true) (by kernel_rfl) (okBool (b := b) (by kernel_rfl) h1) fun a hK => ?_
  refine region_done hK [(5, .bool true), (4, .bool false), (0, .int .i64 n), (1, .bool b)] ⟨rfl, rfl, rfl, rfl, trivial⟩ fun a hK => ?_
  refine wp_cond_true (hK.get rfl) ?_
  refine wp_seq ?_
  refine region_go (lst := [0, 1, 2, 3, 4, 5, 6]) (by kernel_rfl) ?_
  refine stepM hK 6 0 (by kernel_rfl) (.inl rfl) rfl fun a hK => ?_
  by_cases h2 : (1 : Int) ≤ n
  ·refine stepP hK 7 (.bool true) (by kernel_rfl) (okBool (b := (decide ((1 : Int) ≤ n))) (by kernel_rfl) (decide_eq_true h2)) fun a hK => ?_
   refine stepM hK 8 7 (by kernel_rfl) (.inl rfl) rfl fun a hK => ?_
   refine stepM hK 9 0 (by kernel_rfl) (.inl rfl) rfl fun a hK => ?_
   by_cases h3 : (n : Int) ≤ 6
   ·refine stepP hK 10 (.bool true) (by kernel_rfl) (okBool (b := (decide ((n : Int) ≤ 6))) (by kernel_rfl) (decide_eq_true h3)) fun a hK => ?_
    refine stepP hK 11 (.bool true) (by kernel_rfl) (by kernel_rfl) fun a hK => ?_
    refine stepM hK 4 11 (by kernel_rfl) (.inr rfl) rfl fun a hK => ?_
    refine region_done hK [(4, .bool true), (5, .bool true), (0, .int .i64 n), (1, .bool b)] ⟨rfl, rfl, rfl, rfl, trivial⟩ fun a hK => ?_
    refine wp_ret ?_
    exact ret_t hK rfl (u := (.bool true)) rfl (⟨by unfold ordOk; rw [h1, (decide_eq_true h2), (decide_eq_true h3)]; rfl, hM.below⟩)
   ·refine stepP hK 10 (.bool false) (by kernel_rfl) (okBool (b := (decide ((n : Int) ≤ 6))) (by kernel_rfl) (decide_eq_false h3)) fun a hK => ?_
    refine stepP hK 11 (.bool false) (by kernel_rfl) (by kernel_rfl) fun a hK => ?_
    refine stepM hK 4 11 (by kernel_rfl) (.inr rfl) rfl fun a hK => ?_
    refine region_done hK [(4, .bool false), (5, .bool true), (0, .int .i64 n), (1, .bool b)] ⟨rfl, rfl, rfl, rfl, trivial⟩ fun a hK => ?_
    refine wp_ret ?_
    exact ret_t hK rfl (u := (.bool false)) rfl (⟨by unfold ordOk; rw [h1, (decide_eq_true h2), (decide_eq_false h3)]; rfl, hM.below⟩)
  ·refine stepP hK 7 (.bool false) (by kernel_rfl) (okBool (b := (decide ((1 : Int) ≤ n))) (by kernel_rfl) (decide_eq_false h2)) fun a hK => ?_
   refine stepM hK 8 7 (by kernel_rfl) (.inl rfl) rfl fun a hK => ?_
   refine stepN hK 9 (by kernel_rfl) fun a hK => ?_
   refine stepN hK 10 (by kernel_rfl) fun a hK => ?_
   refine stepP hK 11 (.bool false) (by kernel_rfl) (by kernel_rfl) fun a hK => ?_
   refine stepM hK 4 11 (by kernel_rfl) (.inr rfl) rfl fun a hK => ?_
   refine region_done hK [(4, .bool false), (5, .bool true), (0, .int .i64 n), (1, .bool b)] ⟨rfl, rfl, rfl, rfl, trivial⟩ fun a hK => ?_
   refine wp_ret ?_
   exact ret_t hK rfl (u := (.bool false)) rfl (⟨by unfold ordOk; rw [h1, (decide_eq_false h2)]; rfl, hM.below⟩)
 ·refine stepP hK 5 (.bool false) (by kernel_rfl) (okBool (b := b) (by kernel_rfl) h1) fun a hK => ?_
  refine region_done hK [(5, .bool false), (4, .bool false), (0, .int .i64 n), (1, .bool b)] ⟨rfl, rfl, rfl, rfl, trivial⟩ fun a hK => ?_
  refine wp_cond_false (hK.get rfl) ?_
  refine wp_skip ?_
  refine wp_seq ?_
  refine region_go (lst := [0, 1, 2]) (by kernel_rfl) ?_
  refine stepM hK 12 0 (by kernel_rfl) (.inl rfl) rfl fun a hK => ?_
  by_cases h4 : (n : Int) = 0
  ·refine stepP hK 13 (.bool true) (by kernel_rfl) (okBool (b := (decide ((n : Int) = 0))) (by kernel_rfl) (decide_eq_true h4)) fun a hK => ?_
   refine stepM hK 4 13 (by kernel_rfl) (.inr rfl) rfl fun a hK => ?_
   refine region_done hK [(4, .bool true), (5, .bool false), (0, .int .i64 n), (1, .bool b)] ⟨rfl, rfl, rfl, rfl, trivial⟩ fun a hK => ?_
   refine wp_ret ?_
   exact ret_t hK rfl (u := (.bool true)) rfl (⟨by unfold ordOk; rw [h1, (decide_eq_true h4)]; rfl, hM.below⟩)
  ·refine stepP hK 13 (.bool false) (by kernel_rfl) (okBool (b := (decide ((n : Int) = 0))) (by kernel_rfl) (decide_eq_false h4)) fun a hK => ?_
   refine stepM hK 4 13 (by kernel_rfl) (.inr rfl) rfl fun a hK => ?_
   refine region_done hK [(4, .bool false), (5, .bool false), (0, .int .i64 n), (1, .bool b)] ⟨rfl, rfl, rfl, rfl, trivial⟩ fun a hK => ?_
   refine wp_ret ?_
   exact ret_t hK rfl (u := (.bool false)) rfl (⟨by unfold ordOk; rw [h1, (decide_eq_false h4)]; rfl, hM.below⟩)
set_option maxRecDepth 100000 in
set_option maxHeartbeats 4000000 in
theorem step_mayE (w0 : World) (hTab : TabOk w0) : StepE w0 (fun _ : Unit => []) okU mayE 31 #[] := by
 refine ⟨en_ast_exprMayBe, ?_, fun _ _ _ _ _ _ => trivial⟩
 intro e d k s F w1 hM0 he hs hd hok
 obtain ⟨hnm, -⟩ := ex_sh hs
 replace hM0 : Mem w0 w1 F := hM0
 refine calls_KM (args := [.agg #[.int .i64 e.op, .int .i64 e.num, Str e.nm, .slice e.A e.ks.length e.c], .int .i64 ((d : Nat) : Int)]) (n := 38) (env := [(0, .agg #[.int .i64 e.op, .int .i64 e.num, Str e.nm, .slice e.A e.ks.length e.c]), (1, .int .i64 ((d : Nat) : Int))]) Tryd.func31 rfl rfl rfl ⟨rfl, rfl, trivial⟩ hM0 fun a w hK hM => ?_
 refine wp_seq ?_
 refine region_go (lst := [0, 1]) (by kernel_rfl) ?_
 refine stepAlloc hK hM 2 36 [.int .i64 e.op, .int .i64 e.num, Str e.nm, .slice e.A e.ks.length e.c] (fun b => .pointer (some ⟨b, 0, none⟩)) (by kernel_rfl) (by kernel_rfl) fun b1 a w hK hM => ?_
 refine stepP hK 4 (.bool false) (by kernel_rfl) (by kernel_rfl) fun a hK => ?_
 refine region_done hK [(4, .bool false), (2, .pointer (some ⟨b1, 0, none⟩)), (0, .agg #[.int .i64 e.op, .int .i64 e.num, Str e.nm, .slice e.A e.ks.length e.c])] ⟨rfl, rfl, rfl, trivial⟩ fun a hK => ?_
 refine wp_seq ?_
 refine wp_seq ?_
 refine region_go (lst := [0, 1, 2, 3, 4, 5, 6, 7]) (by kernel_rfl) ?_
 refine stepP hK 6 (.pointer (some ⟨b1, 0, none⟩)) (by kernel_rfl) (by kernel_rfl) fun a hK => ?_
 refine stepLoad hK 7 (.int .i64 e.op) (by kernel_rfl) rfl rfl ((hM.row 0 rfl).cells 0 1) (by kernel_rfl) fun a hK => ?_
 by_cases h2 : (e.op : Int) < 1
 ·refine stepP hK 8 (.bool true) (by kernel_rfl) (okBool (b := (decide ((e.op : Int) < 1))) (by kernel_rfl) (decide_eq_true h2)) fun a hK => ?_
  refine stepM hK 9 8 (by kernel_rfl) (.inl rfl) rfl fun a hK => ?_
  refine stepN hK 10 (by kernel_rfl) fun a hK => ?_
  refine stepN hK 11 (by kernel_rfl) fun a hK => ?_
  refine stepN hK 12 (by kernel_rfl) fun a hK => ?_
  refine stepP hK 13 (.bool true) (by kernel_rfl) (by kernel_rfl) fun a hK => ?_
  refine region_done hK [(13, .bool true), (4, .bool false), (2, .pointer (some ⟨b1, 0, none⟩)), (0, .agg #[.int .i64 e.op, .int .i64 e.num, Str e.nm, .slice e.A e.ks.length e.c])] ⟨rfl, rfl, rfl, rfl, trivial⟩ fun a hK => ?_
  refine wp_cond_true (hK.get rfl) ?_
  refine wp_seq ?_
  refine region_go (lst := [0]) (by kernel_rfl) ?_
  refine stepP hK 4 (.bool false) (by kernel_rfl) (by kernel_rfl) fun a hK => ?_
  refine region_done hK [(4, .bool false), (13, .bool true), (2, .pointer (some ⟨b1, 0, none⟩)), (0, .agg #[.int .i64 e.op, .int .i64 e.num, Str e.nm, .slice e.A e.ks.length e.c])] ⟨rfl, rfl, rfl, rfl, trivial⟩ fun a hK => ?_
  refine wp_ret ?_
  exact ret_t hK rfl (u := (.bool false)) rfl (⟨(false, ()), rfl, hM.drop 1, by unfold mayE; rw [ex_out (by omega)]; rfl⟩)
 ·refine stepP hK 8 (.bool false) (by kernel_rfl) (okBool (b := (decide ((e.op : Int) < 1))) (by kernel_rfl) (decide_eq_false h2)) fun a hK => ?_
  refine stepM hK 9 8 (by kernel_rfl) (.inl rfl) rfl fun a hK => ?_
  refine stepP hK 10 (.pointer (some ⟨b1, 0, none⟩)) (by kernel_rfl) (by kernel_rfl) fun a hK => ?_
  refine stepLoad hK 11 (.int .i64 e.op) (by kernel_rfl) rfl rfl ((hM.row 0 rfl).cells 0 1) (by kernel_rfl) fun a hK => ?_
  by_cases h3 : (16 : Int) < e.op
  ·refine stepP hK 12 (.bool true) (by kernel_rfl) (okBool (b := (decide ((16 : Int) < e.op))) (by kernel_rfl) (decide_eq_true h3)) fun a hK => ?_
   refine stepP hK 13 (.bool true) (by kernel_rfl) (by kernel_rfl) fun a hK => ?_
   refine region_done hK [(13, .bool true), (4, .bool false), (2, .pointer (some ⟨b1, 0, none⟩)), (0, .agg #[.int .i64 e.op, .int .i64 e.num, Str e.nm, .slice e.A e.ks.length e.c])] ⟨rfl, rfl, rfl, rfl, trivial⟩ fun a hK => ?_
   refine wp_cond_true (hK.get rfl) ?_
   refine wp_seq ?_
   refine region_go (lst := [0]) (by kernel_rfl) ?_
   refine stepP hK 4 (.bool false) (by kernel_rfl) (by kernel_rfl) fun a hK => ?_
   refine region_done hK [(4, .bool false), (13, .bool true), (2, .pointer (some ⟨b1, 0, none⟩)), (0, .agg #[.int .i64 e.op, .int .i64 e.num, Str e.nm, .slice e.A e.ks.length e.c])] ⟨rfl, rfl, rfl, rfl, trivial⟩ fun a hK => ?_
   refine wp_ret ?_
   exact ret_t hK rfl (u := (.bool false)) rfl (⟨(false, ()), rfl, hM.drop 1, by unfold mayE; rw [ex_out (by omega)]; rfl⟩)
  ·refine stepP hK 12 (.bool false) (by kernel_rfl) (okBool (b := (decide ((16 : Int) < e.op))) (by kernel_rfl) (decide_eq_false h3)) fun a hK => ?_
   refine stepP hK 13 (.bool false) (by kernel_rfl) (by kernel_rfl) fun a hK => ?_
   refine region_done hK [(13, .bool false), (4, .bool false), (2, .pointer (some ⟨b1, 0, none⟩)), (0, .agg #[.int .i64 e.op, .int .i64 e.num, Str e.nm, .slice e.A e.ks.length e.c])] ⟨rfl, rfl, rfl, rfl, trivial⟩ fun a hK => ?_
   refine wp_cond_false (hK.get rfl) ?_
   refine wp_skip ?_
   refine wp_seq ?_
   refine region_go (lst := [0, 1, 2, 3, 4, 5]) (by kernel_rfl) ?_
   refine stepP hK 14 (.pointer (some ⟨b1, 0, none⟩)) (by kernel_rfl) (by kernel_rfl) fun a hK => ?_
   refine stepLoad hK 15 (.int .i64 e.op) (by kernel_rfl) rfl rfl ((hM.row 0 rfl).cells 0 1) (by kernel_rfl) fun a hK => ?_
   refine stepP hK 16 (.pointer (some ((⟨0, 0, none⟩ : Addr).add (e.op.toNat * 3)))) (by kernel_rfl) (run_ixArr (e := 87) (k := e.op.toNat) (s := 3) (n := 17) rfl rfl rfl (by omega) (by kernel_rfl) (by kernel_rfl) (by omega)) fun a hK => ?_
   refine stepLoad hK 17 (.agg #[.bool (exN e.op), .bool (exR e.op), .int .i64 (kidsI e.op)]) (by kernel_rfl) rfl rfl (((hTab.exprs (op := e.op) (by omega) (by omega)).on hM.below)) (by kernel_rfl) fun a hK => ?_
   refine stepAlloc hK hM 5 87 [.bool false, .bool false, .int .i64 0] (fun b => .pointer (some ⟨b, 0, none⟩)) (by kernel_rfl) (by kernel_rfl) fun b4 a w hK hM => ?_
   refine stepStore hK hM 0 [.bool (exN e.op), .bool (exR e.op), .int .i64 (kidsI e.op)] (by kernel_rfl) rfl rfl rfl rfl (by kernel_rfl) fun w hM => ?_
   replace hM := hM.to (.row b4 87 [.bool (exN e.op), .bool (exR e.op), .int .i64 (kidsI e.op)] :: .row b1 36 [.int .i64 e.op, .int .i64 e.num, Str e.nm, .slice e.A e.ks.length e.c] :: F) (by kernel_rfl)
   refine region_done hK [(5, .pointer (some ⟨b4, 0, none⟩)), (13, .bool false), (4, .bool false), (2, .pointer (some ⟨b1, 0, none⟩)), (0, .agg #[.int .i64 e.op, .int .i64 e.num, Str e.nm, .slice e.A e.ks.length e.c])] ⟨rfl, rfl, rfl, rfl, rfl, trivial⟩ fun a hK => ?_
   refine wp_seq ?_
   refine region_go (lst := [0, 1, 2, 3, 4, 5, 6, 7, 8, 9, 10, 11, 12, 13, 14, 15, 16, 17, 18, 19, 20]) (by kernel_rfl) ?_
   refine stepP hK 18 (.pointer (some ⟨b1, 1, none⟩)) (by kernel_rfl) (by kernel_rfl) fun a hK => ?_
   refine stepLoad hK 19 (.int .i64 e.num) (by kernel_rfl) rfl rfl ((hM.row 1 rfl).cells 1 1) (by kernel_rfl) fun a hK => ?_
   refine stepP hK 20 (.pointer (some ⟨b4, 0, none⟩)) (by kernel_rfl) (by kernel_rfl) fun a hK => ?_
   refine stepLoad hK 21 (.bool (exN e.op)) (by kernel_rfl) rfl rfl ((hM.row 0 rfl).cells 0 1) (by kernel_rfl) fun a hK => ?_
   rcases Bool.eq_false_or_eq_true (numOk e.num (exN e.op)) with h5 | h5
   ·refine stepRet hK hM 22 #[.int .i64 e.num, .bool (exN e.op)] (.bool true) (by kernel_rfl) (run_callE en_ast_numMayBe rfl rfl (by kernel_rfl)) (ret_eq (ast_numMayBe e.num (exN e.op) _) (congrArg Value.bool h5)) fun a w hK hM => ?_
    refine stepM hK 23 22 (by kernel_rfl) (.inl rfl) rfl fun a hK => ?_
    refine stepP hK 24 (.pointer (some ⟨b1, 2, none⟩)) (by kernel_rfl) (by kernel_rfl) fun a hK => ?_
    refine stepLoad hK 25 (Str e.nm) (by kernel_rfl) rfl rfl ((hM.row 1 rfl).cells 2 1) (by kernel_rfl) fun a hK => ?_
    refine stepP hK 26 (.pointer (some ⟨b4, 1, none⟩)) (by kernel_rfl) (by kernel_rfl) fun a hK => ?_
    refine stepLoad hK 27 (.bool (exR e.op)) (by kernel_rfl) rfl rfl ((hM.row 0 rfl).cells 1 1) (by kernel_rfl) fun a hK => ?_
    rcases Bool.eq_false_or_eq_true (nameOk e.nm (exR e.op)) with h6 | h6
    ·refine stepRet hK hM 28 #[Str e.nm, .bool (exR e.op)] (.bool true) (by kernel_rfl) (run_callE en_ast_nameMayBe rfl rfl (by kernel_rfl)) (ret_eq (ast_nameMayBe e.nm (exR e.op) _ (by omega)) (congrArg Value.bool h6)) fun a w hK hM => ?_
     refine stepP hK 29 (.bool true) (by kernel_rfl) (by kernel_rfl) fun a hK => ?_
     refine stepM hK 30 29 (by kernel_rfl) (.inl rfl) rfl fun a hK => ?_
     refine stepP hK 31 (.pointer (some ⟨b1, 3, none⟩)) (by kernel_rfl) (by kernel_rfl) fun a hK => ?_
     refine stepLoad hK 32 (.slice e.A e.ks.length e.c) (by kernel_rfl) rfl rfl ((hM.row 1 rfl).cells 3 1) (by kernel_rfl) fun a hK => ?_
     refine stepP hK 33 (.int .i64 ((e.ks.length : Nat) : Int)) (by kernel_rfl) (by kernel_rfl) fun a hK => ?_
     refine stepP hK 34 (.pointer (some ⟨b4, 2, none⟩)) (by kernel_rfl) (by kernel_rfl) fun a hK => ?_
     refine stepLoad hK 35 (.int .i64 (kidsI e.op)) (by kernel_rfl) rfl rfl ((hM.row 0 rfl).cells 2 1) (by kernel_rfl) fun a hK => ?_
     by_cases h7 : (((e.ks.length : Nat) : Int) : Int) = (kidsI e.op)
     ·refine stepP hK 36 (.bool true) (by kernel_rfl) (okBool (b := (decide ((((e.ks.length : Nat) : Int) : Int) = (kidsI e.op)))) (by kernel_rfl) (decide_eq_true h7)) fun a hK => ?_
      refine stepP hK 37 (.bool true) (by kernel_rfl) (by kernel_rfl) fun a hK => ?_
      refine stepM hK 4 37 (by kernel_rfl) (.inr rfl) rfl fun a hK => ?_
      refine region_done hK [(4, .bool true), (5, .pointer (some ⟨b4, 0, none⟩)), (13, .bool false), (2, .pointer (some ⟨b1, 0, none⟩)), (0, .agg #[.int .i64 e.op, .int .i64 e.num, Str e.nm, .slice e.A e.ks.length e.c])] ⟨rfl, rfl, rfl, rfl, rfl, trivial⟩ fun a hK => ?_
      refine wp_ret ?_
      exact ret_t hK rfl (u := (.bool true)) rfl (⟨(true, ()), rfl, hM.drop 2, by unfold mayE; rw [ex_in e, h5, h6, (decide_eq_true h7)]; rfl⟩)
     ·refine stepP hK 36 (.bool false) (by kernel_rfl) (okBool (b := (decide ((((e.ks.length : Nat) : Int) : Int) = (kidsI e.op)))) (by kernel_rfl) (decide_eq_false h7)) fun a hK => ?_
      refine stepP hK 37 (.bool false) (by kernel_rfl) (by kernel_rfl) fun a hK => ?_
      refine stepM hK 4 37 (by kernel_rfl) (.inr rfl) rfl fun a hK => ?_
      refine region_done hK [(4, .bool false), (5, .pointer (some ⟨b4, 0, none⟩)), (13, .bool false), (2, .pointer (some ⟨b1, 0, none⟩)), (0, .agg #[.int .i64 e.op, .int .i64 e.num, Str e.nm, .slice e.A e.ks.length e.c])] ⟨rfl, rfl, rfl, rfl, rfl, trivial⟩ fun a hK => ?_
      refine wp_ret ?_
      exact ret_t hK rfl (u := (.bool false)) rfl (⟨(false, ()), rfl, hM.drop 2, by unfold mayE; rw [ex_in e, h5, h6, (decide_eq_false h7)]; rfl⟩)
    ·refine stepRet hK hM 28 #[Str e.nm, .bool (exR e.op)] (.bool false) (by kernel_rfl) (run_callE en_ast_nameMayBe rfl rfl (by kernel_rfl)) (ret_eq (ast_nameMayBe e.nm (exR e.op) _ (by omega)) (congrArg Value.bool h6)) fun a w hK hM => ?_
     refine stepP hK 29 (.bool false) (by kernel_rfl) (by kernel_rfl) fun a hK => ?_
     refine stepM hK 30 29 (by kernel_rfl) (.inl rfl) rfl fun a hK => ?_
     refine stepN hK 31 (by kernel_rfl) fun a hK => ?_
     refine stepN hK 32 (by kernel_rfl) fun a hK => ?_
     refine stepN hK 33 (by kernel_rfl) fun a hK => ?_
     refine stepN hK 34 (by kernel_rfl) fun a hK => ?_
     refine stepN hK 35 (by kernel_rfl) fun a hK => ?_
     refine stepN hK 36 (by kernel_rfl) fun a hK => ?_
     refine stepP hK 37 (.bool false) (by kernel_rfl) (by kernel_rfl) fun a hK => ?_
     refine stepM hK 4 37 (by kernel_rfl) (.inr rfl) rfl fun a hK => ?_
     refine region_done hK [(4, .bool false), (5, .pointer (some ⟨b4, 0, none⟩)), (13, .bool false), (2, .pointer (some ⟨b1, 0, none⟩)), (0, .agg #[.int .i64 e.op, .int .i64 e.num, Str e.nm, .slice e.A e.ks.length e.c])] ⟨rfl, rfl, rfl, rfl, rfl, trivial⟩ fun a hK => ?_
     refine wp_ret ?_
     exact ret_t hK rfl (u := (.bool false)) rfl (⟨(false, ()), rfl, hM.drop 2, by unfold mayE; rw [ex_in e, h5, h6]; rfl⟩)
   ·refine stepRet hK hM 22 #[.int .i64 e.num, .bool (exN e.op)] (.bool false) (by kernel_rfl) (run_callE en_ast_numMayBe rfl rfl (by kernel_rfl)) (ret_eq (ast_numMayBe e.num (exN e.op) _) (congrArg Value.bool h5)) fun a w hK hM => ?_
    refine stepM hK 23 22 (by kernel_rfl) (.inl rfl) rfl fun a hK => ?_
    refine stepN hK 24 (by kernel_rfl) fun a hK => ?_
    refine stepN hK 25 (by kernel_rfl) fun a hK => ?_
    refine stepN hK 26 (by kernel_rfl) fun a hK => ?_
    refine stepN hK 27 (by kernel_rfl) fun a hK => ?_
    refine stepN hK 28 (by kernel_rfl) fun a hK => ?_
    refine stepP hK 29 (.bool false) (by kernel_rfl) (by kernel_rfl) fun a hK => ?_
    refine stepM hK 30 29 (by kernel_rfl) (.inl rfl) rfl fun a hK => ?_
    refine stepN hK 31 (by kernel_rfl) fun a hK => ?_
    refine stepN hK 32 (by kernel_rfl) fun a hK => ?_
    refine stepN hK 33 (by kernel_rfl) fun a hK => ?_
    refine stepN hK 34 (by kernel_rfl) fun a hK => ?_
    refine stepN hK 35 (by kernel_rfl) fun a hK => ?_
    refine stepN hK 36 (by kernel_rfl) fun a hK => ?_
    refine stepP hK 37 (.bool false) (by kernel_rfl) (by kernel_rfl) fun a hK => ?_
    refine stepM hK 4 37 (by kernel_rfl) (.inr rfl) rfl fun a hK => ?_
    refine region_done hK [(4, .bool false), (5, .pointer (some ⟨b4, 0, none⟩)), (13, .bool false), (2, .pointer (some ⟨b1, 0, none⟩)), (0, .agg #[.int .i64 e.op, .int .i64 e.num, Str e.nm, .slice e.A e.ks.length e.c])] ⟨rfl, rfl, rfl, rfl, rfl, trivial⟩ fun a hK => ?_
    refine wp_ret ?_
    exact ret_t hK rfl (u := (.bool false)) rfl (⟨(false, ()), rfl, hM.drop 2, by unfold mayE; rw [ex_in e, h5]; rfl⟩)
set_option maxRecDepth 100000 in
set_option maxHeartbeats 4000000 in
theorem step_mayS (w0 : World) (hTab : TabOk w0) : StepS w0 (fun _ : Unit => []) okU mayS 32 #[] := by
 refine ⟨en_ast_stmtMayBe, ?_, fun _ _ _ _ _ _ => trivial⟩
 intro e d k s F w1 hM0 he hs hd hok
 obtain ⟨hnm, hlc, -⟩ := sm_sh hs
 replace hM0 : Mem w0 w1 F := hM0
 refine calls_KM (args := [.agg #[.int .i64 e.kind, Str e.nm, Str e.loc, .int .i64 e.ord, .slice e.A1 e.es.length e.c1, .slice e.A2 e.th.length e.c2, .slice e.A3 e.el.length e.c3], .int .i64 ((d : Nat) : Int)]) (n := 61) (env := [(0, .agg #[.int .i64 e.kind, Str e.nm, Str e.loc, .int .i64 e.ord, .slice e.A1 e.es.length e.c1, .slice e.A2 e.th.length e.c2, .slice e.A3 e.el.length e.c3]), (1, .int .i64 ((d : Nat) : Int))]) Tryd.func32 rfl rfl rfl ⟨rfl, rfl, trivial⟩ hM0 fun a w hK hM => ?_
 refine wp_seq ?_
 refine region_go (lst := [0, 1]) (by kernel_rfl) ?_
 refine stepAlloc hK hM 2 30 [.int .i64 e.kind, Str e.nm, Str e.loc, .int .i64 e.ord, .slice e.A1 e.es.length e.c1, .slice e.A2 e.th.length e.c2, .slice e.A3 e.el.length e.c3] (fun b => .pointer (some ⟨b, 0, none⟩)) (by kernel_rfl) (by kernel_rfl) fun b1 a w hK hM => ?_
 refine stepP hK 4 (.bool false) (by kernel_rfl) (by kernel_rfl) fun a hK => ?_
 refine region_done hK [(4, .bool false), (2, .pointer (some ⟨b1, 0, none⟩)), (0, .agg #[.int .i64 e.kind, Str e.nm, Str e.loc, .int .i64 e.ord, .slice e.A1 e.es.length e.c1, .slice e.A2 e.th.length e.c2, .slice e.A3 e.el.length e.c3])] ⟨rfl, rfl, rfl, trivial⟩ fun a hK => ?_
 refine wp_seq ?_
 refine wp_seq ?_
 refine region_go (lst := [0, 1, 2, 3]) (by kernel_rfl) ?_
 refine stepP hK 6 (.pointer (some ⟨b1, 0, none⟩)) (by kernel_rfl) (by kernel_rfl) fun a hK => ?_
 refine stepLoad hK 7 (.int .i64 e.kind) (by kernel_rfl) rfl rfl ((hM.row 0 rfl).cells 0 1) (by kernel_rfl) fun a hK => ?_
 rcases Bool.eq_false_or_eq_true (ptIs e.kind) with h2 | h2
 ·refine stepRet hK hM 8 #[.int .i64 e.kind] (.bool true) (by kernel_rfl) (run_callE en_ast_isKind rfl rfl (by kernel_rfl)) (ret_eq (ast_isKind e.kind _) (congrArg Value.bool h2)) fun a w hK hM => ?_
  refine stepP hK 9 (.bool false) (by kernel_rfl) (by kernel_rfl) fun a hK => ?_
  refine region_done hK [(9, .bool false), (4, .bool false), (2, .pointer (some ⟨b1, 0, none⟩)), (0, .agg #[.int .i64 e.kind, Str e.nm, Str e.loc, .int .i64 e.ord, .slice e.A1 e.es.length e.c1, .slice e.A2 e.th.length e.c2, .slice e.A3 e.el.length e.c3])] ⟨rfl, rfl, rfl, rfl, trivial⟩ fun a hK => ?_
  refine wp_cond_false (hK.get rfl) ?_
  refine wp_skip ?_
  refine wp_seq ?_
  have hk := h2; have hk2 : 1 ≤ e.kind ∧ e.kind ≤ 11 := by have := hk; unfold ptIs at this; simpa using this
  refine region_go (lst := [0, 1, 2, 3, 4, 5]) (by kernel_rfl) ?_
  refine stepP hK 10 (.pointer (some ⟨b1, 0, none⟩)) (by kernel_rfl) (by kernel_rfl) fun a hK => ?_
  refine stepLoad hK 11 (.int .i64 e.kind) (by kernel_rfl) rfl rfl ((hM.row 0 rfl).cells 0 1) (by kernel_rfl) fun a hK => ?_
  refine stepP hK 12 (.pointer (some ((⟨1, 0, none⟩ : Addr).add (e.kind.toNat * 6)))) (by kernel_rfl) (run_ixArr (e := 92) (k := e.kind.toNat) (s := 6) (n := 12) rfl rfl rfl (by omega) (by kernel_rfl) (by kernel_rfl) (by omega)) fun a hK => ?_
  refine stepLoad hK 13 (.agg #[.bool (ptNm e.kind), .bool (ptLc e.kind), .bool (ptOr e.kind), .int .i64 (ptEx e.kind), .bool (ptTh e.kind), .bool (ptEl e.kind)]) (by kernel_rfl) rfl rfl (((hTab.stmts hk).on hM.below)) (by kernel_rfl) fun a hK => ?_
  refine stepAlloc hK hM 5 92 [.bool false, .bool false, .bool false, .int .i64 0, .bool false, .bool false] (fun b => .pointer (some ⟨b, 0, none⟩)) (by kernel_rfl) (by kernel_rfl) fun b3 a w hK hM => ?_
  refine stepStore hK hM 0 [.bool (ptNm e.kind), .bool (ptLc e.kind), .bool (ptOr e.kind), .int .i64 (ptEx e.kind), .bool (ptTh e.kind), .bool (ptEl e.kind)] (by kernel_rfl) rfl rfl rfl rfl (by kernel_rfl) fun w hM => ?_
  replace hM := hM.to (.row b3 92 [.bool (ptNm e.kind), .bool (ptLc e.kind), .bool (ptOr e.kind), .int .i64 (ptEx e.kind), .bool (ptTh e.kind), .bool (ptEl e.kind)] :: .row b1 30 [.int .i64 e.kind, Str e.nm, Str e.loc, .int .i64 e.ord, .slice e.A1 e.es.length e.c1, .slice e.A2 e.th.length e.c2, .slice e.A3 e.el.length e.c3] :: F) (by kernel_rfl)
  refine region_done hK [(5, .pointer (some ⟨b3, 0, none⟩)), (9, .bool false), (4, .bool false), (2, .pointer (some ⟨b1, 0, none⟩)), (0, .agg #[.int .i64 e.kind, Str e.nm, Str e.loc, .int .i64 e.ord, .slice e.A1 e.es.length e.c1, .slice e.A2 e.th.length e.c2, .slice e.A3 e.el.length e.c3])] ⟨rfl, rfl, rfl, rfl, rfl, trivial⟩ fun a hK => ?_
  refine wp_seq ?_
  refine region_go (lst := [0, 1, 2, 3, 4, 5, 6, 7, 8, 9, 10, 11, 12, 13, 14, 15, 16, 17, 18, 19, 20, 21, 22, 23, 24, 25, 26, 27, 28, 29, 30, 31, 32, 33, 34, 35, 36, 37, 38, 39, 40, 41, 42, 43, 44, 45, 46, 47]) (by kernel_rfl) ?_
  refine stepP hK 14 (.pointer (some ⟨b1, 1, none⟩)) (by kernel_rfl) (by kernel_rfl) fun a hK => ?_
  refine stepLoad hK 15 (Str e.nm) (by kernel_rfl) rfl rfl ((hM.row 1 rfl).cells 1 1) (by kernel_rfl) fun a hK => ?_
  refine stepP hK 16 (.pointer (some ⟨b3, 0, none⟩)) (by kernel_rfl) (by kernel_rfl) fun a hK => ?_
  refine stepLoad hK 17 (.bool (ptNm e.kind)) (by kernel_rfl) rfl rfl ((hM.row 0 rfl).cells 0 1) (by kernel_rfl) fun a hK => ?_
  rcases Bool.eq_false_or_eq_true (nameOk e.nm (ptNm e.kind)) with h4 | h4
  ·refine stepRet hK hM 18 #[Str e.nm, .bool (ptNm e.kind)] (.bool true) (by kernel_rfl) (run_callE en_ast_nameMayBe rfl rfl (by kernel_rfl)) (ret_eq (ast_nameMayBe e.nm (ptNm e.kind) _ (by omega)) (congrArg Value.bool h4)) fun a w hK hM => ?_
   refine stepM hK 19 18 (by kernel_rfl) (.inl rfl) rfl fun a hK => ?_
   refine stepP hK 20 (.pointer (some ⟨b1, 2, none⟩)) (by kernel_rfl) (by kernel_rfl) fun a hK => ?_
   refine stepLoad hK 21 (Str e.loc) (by kernel_rfl) rfl rfl ((hM.row 1 rfl).cells 2 1) (by kernel_rfl) fun a hK => ?_
   refine stepP hK 22 (.pointer (some ⟨b3, 1, none⟩)) (by kernel_rfl) (by kernel_rfl) fun a hK => ?_
   refine stepLoad hK 23 (.bool (ptLc e.kind)) (by kernel_rfl) rfl rfl ((hM.row 0 rfl).cells 1 1) (by kernel_rfl) fun a hK => ?_
   rcases Bool.eq_false_or_eq_true (nameOk e.loc (ptLc e.kind)) with h5 | h5
   ·refine stepRet hK hM 24 #[Str e.loc, .bool (ptLc e.kind)] (.bool true) (by kernel_rfl) (run_callE en_ast_nameMayBe rfl rfl (by kernel_rfl)) (ret_eq (ast_nameMayBe e.loc (ptLc e.kind) _ (by omega)) (congrArg Value.bool h5)) fun a w hK hM => ?_
    refine stepP hK 25 (.bool true) (by kernel_rfl) (by kernel_rfl) fun a hK => ?_
    refine stepM hK 26 25 (by kernel_rfl) (.inl rfl) rfl fun a hK => ?_
    refine stepP hK 27 (.pointer (some ⟨b1, 3, none⟩)) (by kernel_rfl) (by kernel_rfl) fun a hK => ?_
    refine stepLoad hK 28 (.int .i64 e.ord) (by kernel_rfl) rfl rfl ((hM.row 1 rfl).cells 3 1) (by kernel_rfl) fun a hK => ?_
    refine stepP hK 29 (.pointer (some ⟨b3, 2, none⟩)) (by kernel_rfl) (by kernel_rfl) fun a hK => ?_
    refine stepLoad hK 30 (.bool (ptOr e.kind)) (by kernel_rfl) rfl rfl ((hM.row 0 rfl).cells 2 1) (by kernel_rfl) fun a hK => ?_
    rcases Bool.eq_false_or_eq_true (ordOk e.ord (ptOr e.kind)) with h6 | h6
    ·refine stepRet hK hM 31 #[.int .i64 e.ord, .bool (ptOr e.kind)] (.bool true) (by kernel_rfl) (run_callE en_ast_orderMayBe rfl rfl (by kernel_rfl)) (ret_eq (ast_orderMayBe e.ord (ptOr e.kind) _) (congrArg Value.bool h6)) fun a w hK hM => ?_
     refine stepP hK 32 (.bool true) (by kernel_rfl) (by kernel_rfl) fun a hK => ?_
     refine stepM hK 33 32 (by kernel_rfl) (.inl rfl) rfl fun a hK => ?_
     refine stepP hK 34 (.pointer (some ⟨b1, 4, none⟩)) (by kernel_rfl) (by kernel_rfl) fun a hK => ?_
     refine stepLoad hK 35 (.slice e.A1 e.es.length e.c1) (by kernel_rfl) rfl rfl ((hM.row 1 rfl).cells 4 1) (by kernel_rfl) fun a hK => ?_
     refine stepP hK 36 (.int .i64 ((e.es.length : Nat) : Int)) (by kernel_rfl) (by kernel_rfl) fun a hK => ?_
     refine stepP hK 37 (.pointer (some ⟨b3, 3, none⟩)) (by kernel_rfl) (by kernel_rfl) fun a hK => ?_
     refine stepLoad hK 38 (.int .i64 (ptEx e.kind)) (by kernel_rfl) rfl rfl ((hM.row 0 rfl).cells 3 1) (by kernel_rfl) fun a hK => ?_
     by_cases h7 : (((e.es.length : Nat) : Int) : Int) = (ptEx e.kind)
     ·refine stepP hK 39 (.bool true) (by kernel_rfl) (okBool (b := (decide ((((e.es.length : Nat) : Int) : Int) = (ptEx e.kind)))) (by kernel_rfl) (decide_eq_true h7)) fun a hK => ?_
      refine stepP hK 40 (.bool true) (by kernel_rfl) (by kernel_rfl) fun a hK => ?_
      refine stepM hK 41 40 (by kernel_rfl) (.inl rfl) rfl fun a hK => ?_
      refine stepP hK 42 (.pointer (some ⟨b3, 4, none⟩)) (by kernel_rfl) (by kernel_rfl) fun a hK => ?_
      refine stepLoad hK 43 (.bool (ptTh e.kind)) (by kernel_rfl) rfl rfl ((hM.row 0 rfl).cells 4 1) (by kernel_rfl) fun a hK => ?_
      rcases Bool.eq_false_or_eq_true (ptTh e.kind) with h8 | h8
      ·refine stepP hK 44 (.bool true) (by kernel_rfl) (okBool (b := (ptTh e.kind)) (by kernel_rfl) h8) fun a hK => ?_
       refine stepN hK 45 (by kernel_rfl) fun a hK => ?_
       refine stepN hK 46 (by kernel_rfl) fun a hK => ?_
       refine stepN hK 47 (by kernel_rfl) fun a hK => ?_
       refine stepN hK 48 (by kernel_rfl) fun a hK => ?_
       refine stepP hK 49 (.bool true) (by kernel_rfl) (by kernel_rfl) fun a hK => ?_
       refine stepP hK 50 (.bool true) (by kernel_rfl) (by kernel_rfl) fun a hK => ?_
       refine stepM hK 51 50 (by kernel_rfl) (.inl rfl) rfl fun a hK => ?_
       refine stepP hK 52 (.pointer (some ⟨b3, 5, none⟩)) (by kernel_rfl) (by kernel_rfl) fun a hK => ?_
       refine stepLoad hK 53 (.bool (ptEl e.kind)) (by kernel_rfl) rfl rfl ((hM.row 0 rfl).cells 5 1) (by kernel_rfl) fun a hK => ?_
       rcases Bool.eq_false_or_eq_true (ptEl e.kind) with h9 | h9
       ·refine stepP hK 54 (.bool true) (by kernel_rfl) (okBool (b := (ptEl e.kind)) (by kernel_rfl) h9) fun a hK => ?_
        refine stepN hK 55 (by kernel_rfl) fun a hK => ?_
        refine stepN hK 56 (by kernel_rfl) fun a hK => ?_
        refine stepN hK 57 (by kernel_rfl) fun a hK => ?_
        refine stepN hK 58 (by kernel_rfl) fun a hK => ?_
        refine stepP hK 59 (.bool true) (by kernel_rfl) (by kernel_rfl) fun a hK => ?_
        refine stepP hK 60 (.bool true) (by kernel_rfl) (by kernel_rfl) fun a hK => ?_
        refine stepM hK 4 60 (by kernel_rfl) (.inr rfl) rfl fun a hK => ?_
        refine region_done hK [(4, .bool true), (5, .pointer (some ⟨b3, 0, none⟩)), (9, .bool false), (2, .pointer (some ⟨b1, 0, none⟩)), (0, .agg #[.int .i64 e.kind, Str e.nm, Str e.loc, .int .i64 e.ord, .slice e.A1 e.es.length e.c1, .slice e.A2 e.th.length e.c2, .slice e.A3 e.el.length e.c3])] ⟨rfl, rfl, rfl, rfl, rfl, trivial⟩ fun a hK => ?_
        refine wp_ret ?_
        exact ret_t hK rfl (u := (.bool true)) rfl (⟨(true, ()), rfl, hM.drop 2, by unfold mayS; rw [sm_in h2, h4, h5, h6, (decide_eq_true h7), h8, h9]; rfl⟩)
       ·refine stepP hK 54 (.bool false) (by kernel_rfl) (okBool (b := (ptEl e.kind)) (by kernel_rfl) h9) fun a hK => ?_
        refine stepP hK 55 (.pointer (some ⟨b1, 6, none⟩)) (by kernel_rfl) (by kernel_rfl) fun a hK => ?_
        refine stepLoad hK 56 (.slice e.A3 e.el.length e.c3) (by kernel_rfl) rfl rfl ((hM.row 1 rfl).cells 6 1) (by kernel_rfl) fun a hK => ?_
        refine stepP hK 57 (.int .i64 ((e.el.length : Nat) : Int)) (by kernel_rfl) (by kernel_rfl) fun a hK => ?_
        by_cases h10 : (((e.el.length : Nat) : Int) : Int) = 0
        ·refine stepP hK 58 (.bool true) (by kernel_rfl) (okBool (b := (decide ((((e.el.length : Nat) : Int) : Int) = 0))) (by kernel_rfl) (decide_eq_true h10)) fun a hK => ?_
         refine stepP hK 59 (.bool true) (by kernel_rfl) (by kernel_rfl) fun a hK => ?_
         refine stepP hK 60 (.bool true) (by kernel_rfl) (by kernel_rfl) fun a hK => ?_
         refine stepM hK 4 60 (by kernel_rfl) (.inr rfl) rfl fun a hK => ?_
         refine region_done hK [(4, .bool true), (5, .pointer (some ⟨b3, 0, none⟩)), (9, .bool false), (2, .pointer (some ⟨b1, 0, none⟩)), (0, .agg #[.int .i64 e.kind, Str e.nm, Str e.loc, .int .i64 e.ord, .slice e.A1 e.es.length e.c1, .slice e.A2 e.th.length e.c2, .slice e.A3 e.el.length e.c3])] ⟨rfl, rfl, rfl, rfl, rfl, trivial⟩ fun a hK => ?_
         refine wp_ret ?_
         exact ret_t hK rfl (u := (.bool true)) rfl (⟨(true, ()), rfl, hM.drop 2, by unfold mayS; rw [sm_in h2, h4, h5, h6, (decide_eq_true h7), h8, h9, (decide_eq_true h10)]; rfl⟩)
        ·refine stepP hK 58 (.bool false) (by kernel_rfl) (okBool (b := (decide ((((e.el.length : Nat) : Int) : Int) = 0))) (by kernel_rfl) (decide_eq_false h10)) fun a hK => ?_
         refine stepP hK 59 (.bool false) (by kernel_rfl) (by kernel_rfl) fun a hK => ?_
         refine stepP hK 60 (.bool false) (by kernel_rfl) (by kernel_rfl) fun a hK => ?_
         refine stepM hK 4 60 (by kernel_rfl) (.inr rfl) rfl fun a hK => ?_
         refine region_done hK [(4, .bool false), (5, .pointer (some ⟨b3, 0, none⟩)), (9, .bool false), (2, .pointer (some ⟨b1, 0, none⟩)), (0, .agg #[.int .i64 e.kind, Str e.nm, Str e.loc, .int .i64 e.ord, .slice e.A1 e.es.length e.c1, .slice e.A2 e.th.length e.c2, .slice e.A3 e.el.length e.c3])] ⟨rfl, rfl, rfl, rfl, rfl, trivial⟩ fun a hK => ?_
         refine wp_ret ?_
         exact ret_t hK rfl (u := (.bool false)) rfl (⟨(false, ()), rfl, hM.drop 2, by unfold mayS; rw [sm_in h2, h4, h5, h6, (decide_eq_true h7), h8, h9, (decide_eq_false h10)]; rfl⟩)
      ·refine stepP hK 44 (.bool false) (by kernel_rfl) (okBool (b := (ptTh e.kind)) (by kernel_rfl) h8) fun a hK => ?_
       refine stepP hK 45 (.pointer (some ⟨b1, 5, none⟩)) (by kernel_rfl) (by kernel_rfl) fun a hK => ?_
       refine stepLoad hK 46 (.slice e.A2 e.th.length e.c2) (by kernel_rfl) rfl rfl ((hM.row 1 rfl).cells 5 1) (by kernel_rfl) fun a hK => ?_
       refine stepP hK 47 (.int .i64 ((e.th.length : Nat) : Int)) (by kernel_rfl) (by kernel_rfl) fun a hK => ?_
       by_cases h11 : (((e.th.length : Nat) : Int) : Int) = 0
       ·refine stepP hK 48 (.bool true) (by kernel_rfl) (okBool (b := (decide ((((e.th.length : Nat) : Int) : Int) = 0))) (by kernel_rfl) (decide_eq_true h11)) fun a hK => ?_
        refine stepP hK 49 (.bool true) (by kernel_rfl) (by kernel_rfl) fun a hK => ?_
        refine stepP hK 50 (.bool true) (by kernel_rfl) (by kernel_rfl) fun a hK => ?_
        refine stepM hK 51 50 (by kernel_rfl) (.inl rfl) rfl fun a hK => ?_
        refine stepP hK 52 (.pointer (some ⟨b3, 5, none⟩)) (by kernel_rfl) (by kernel_rfl) fun a hK => ?_
        refine stepLoad hK 53 (.bool (ptEl e.kind)) (by kernel_rfl) rfl rfl ((hM.row 0 rfl).cells 5 1) (by kernel_rfl) fun a hK => ?_
        rcases Bool.eq_false_or_eq_true (ptEl e.kind) with h12 | h12
        ·refine stepP hK 54 (.bool true) (by kernel_rfl) (okBool (b := (ptEl e.kind)) (by kernel_rfl) h12) fun a hK => ?_
         refine stepN hK 55 (by kernel_rfl) fun a hK => ?_
         refine stepN hK 56 (by kernel_rfl) fun a hK => ?_
         refine stepN hK 57 (by kernel_rfl) fun a hK => ?_
         refine stepN hK 58 (by kernel_rfl) fun a hK => ?_
         refine stepP hK 59 (.bool true) (by kernel_rfl) (by kernel_rfl) fun a hK => ?_
         refine stepP hK 60 (.bool true) (by kernel_rfl) (by kernel_rfl) fun a hK => ?_
         refine stepM hK 4 60 (by kernel_rfl) (.inr rfl) rfl fun a hK => ?_
         refine region_done hK [(4, .bool true), (5, .pointer (some ⟨b3, 0, none⟩)), (9, .bool false), (2, .pointer (some ⟨b1, 0, none⟩)), (0, .agg #[.int .i64 e.kind, Str e.nm, Str e.loc, .int .i64 e.ord, .slice e.A1 e.es.length e.c1, .slice e.A2 e.th.length e.c2, .slice e.A3 e.el.length e.c3])] ⟨rfl, rfl, rfl, rfl, rfl, trivial⟩ fun a hK => ?_
         refine wp_ret ?_
         exact ret_t hK rfl (u := (.bool true)) rfl (⟨(true, ()), rfl, hM.drop 2, by unfold mayS; rw [sm_in h2, h4, h5, h6, (decide_eq_true h7), h8, (decide_eq_true h11), h12]; rfl⟩)
        ·refine stepP hK 54 (.bool false) (by kernel_rfl) (okBool (b := (ptEl e.kind)) (by kernel_rfl) h12) fun a hK => ?_
         refine stepP hK 55 (.pointer (some ⟨b1, 6, none⟩)) (by kernel_rfl) (by kernel_rfl) fun a hK => ?_
         refine stepLoad hK 56 (.slice e.A3 e.el.length e.c3) (by kernel_rfl) rfl rfl ((hM.row 1 rfl).cells 6 1) (by kernel_rfl) fun a hK => ?_
         refine stepP hK 57 (.int .i64 ((e.el.length : Nat) : Int)) (by kernel_rfl) (by kernel_rfl) fun a hK => ?_
         by_cases h13 : (((e.el.length : Nat) : Int) : Int) = 0
         ·refine stepP hK 58 (.bool true) (by kernel_rfl) (okBool (b := (decide ((((e.el.length : Nat) : Int) : Int) = 0))) (by kernel_rfl) (decide_eq_true h13)) fun a hK => ?_
          refine stepP hK 59 (.bool true) (by kernel_rfl) (by kernel_rfl) fun a hK => ?_
          refine stepP hK 60 (.bool true) (by kernel_rfl) (by kernel_rfl) fun a hK => ?_
          refine stepM hK 4 60 (by kernel_rfl) (.inr rfl) rfl fun a hK => ?_
          refine region_done hK [(4, .bool true), (5, .pointer (some ⟨b3, 0, none⟩)), (9, .bool false), (2, .pointer (some ⟨b1, 0, none⟩)), (0, .agg #[.int .i64 e.kind, Str e.nm, Str e.loc, .int .i64 e.ord, .slice e.A1 e.es.length e.c1, .slice e.A2 e.th.length e.c2, .slice e.A3 e.el.length e.c3])] ⟨rfl, rfl, rfl, rfl, rfl, trivial⟩ fun a hK => ?_
          refine wp_ret ?_
          exact ret_t hK rfl (u := (.bool true)) rfl (⟨(true, ()), rfl, hM.drop 2, by unfold mayS; rw [sm_in h2, h4, h5, h6, (decide_eq_true h7), h8, (decide_eq_true h11), h12, (decide_eq_true h13)]; rfl⟩)
         ·refine stepP hK 58 (.bool false) (by kernel_rfl) (okBool (b := (decide ((((e.el.length : Nat) : Int) : Int) = 0))) (by kernel_rfl) (decide_eq_false h13)) fun a hK => ?_
          refine stepP hK 59 (.bool false) (by kernel_rfl) (by kernel_rfl) fun a hK => ?_
          refine stepP hK 60 (.bool false) (by kernel_rfl) (by kernel_rfl) fun a hK => ?_
          refine stepM hK 4 60 (by kernel_rfl) (.inr rfl) rfl fun a hK => ?_
          refine region_done hK [(4, .bool false), (5, .pointer (some ⟨b3, 0, none⟩)), (9, .bool false), (2, .pointer (some ⟨b1, 0, none⟩)), (0, .agg #[.int .i64 e.kind, Str e.nm, Str e.loc, .int .i64 e.ord, .slice e.A1 e.es.length e.c1, .slice e.A2 e.th.length e.c2, .slice e.A3 e.el.length e.c3])] ⟨rfl, rfl, rfl, rfl, rfl, trivial⟩ fun a hK => ?_
          refine wp_ret ?_
          exact ret_t hK rfl (u := (.bool false)) rfl (⟨(false, ()), rfl, hM.drop 2, by unfold mayS; rw [sm_in h2, h4, h5, h6, (decide_eq_true h7), h8, (decide_eq_true h11), h12, (decide_eq_false h13)]; rfl⟩)
       ·refine stepP hK 48 (.bool false) (by kernel_rfl) (okBool (b := (decide ((((e.th.length : Nat) : Int) : Int) = 0))) (by kernel_rfl) (decide_eq_false h11)) fun a hK => ?_
        refine stepP hK 49 (.bool false) (by kernel_rfl) (by kernel_rfl) fun a hK => ?_
        refine stepP hK 50 (.bool false) (by kernel_rfl) (by kernel_rfl) fun a hK => ?_
        refine stepM hK 51 50 (by kernel_rfl) (.inl rfl) rfl fun a hK => ?_
        refine stepN hK 52 (by kernel_rfl) fun a hK => ?_
        refine stepN hK 53 (by kernel_rfl) fun a hK => ?_
        refine stepN hK 54 (by kernel_rfl) fun a hK => ?_
        refine stepN hK 55 (by kernel_rfl) fun a hK => ?_
        refine stepN hK 56 (by kernel_rfl) fun a hK => ?_
        refine stepN hK 57 (by kernel_rfl) fun a hK => ?_
        refine stepN hK 58 (by kernel_rfl) fun a hK => ?_
        refine stepN hK 59 (by kernel_rfl) fun a hK => ?_
        refine stepP hK 60 (.bool false) (by kernel_rfl) (by kernel_rfl) fun a hK => ?_
        refine stepM hK 4 60 (by kernel_rfl) (.inr rfl) rfl fun a hK => ?_
        refine region_done hK [(4, .bool false), (5, .pointer (some ⟨b3, 0, none⟩)), (9, .bool false), (2, .pointer (some ⟨b1, 0, none⟩)), (0, .agg #[.int .i64 e.kind, Str e.nm, Str e.loc, .int .i64 e.ord, .slice e.A1 e.es.length e.c1, .slice e.A2 e.th.length e.c2, .slice e.A3 e.el.length e.c3])] ⟨rfl, rfl, rfl, rfl, rfl, trivial⟩ fun a hK => ?_
        refine wp_ret ?_
        exact ret_t hK rfl (u := (.bool false)) rfl (⟨(false, ()), rfl, hM.drop 2, by unfold mayS; rw [sm_in h2, h4, h5, h6, (decide_eq_true h7), h8, (decide_eq_false h11)]; rfl⟩)
     ·refine stepP hK 39 (.bool false) (by kernel_rfl) (okBool (b := (decide ((((e.es.length : Nat) : Int) : Int) = (ptEx e.kind)))) (by kernel_rfl) (decide_eq_false h7)) fun a hK => ?_
      refine stepP hK 40 (.bool false) (by kernel_rfl) (by kernel_rfl) fun a hK => ?_
      refine stepM hK 41 40 (by kernel_rfl) (.inl rfl) rfl fun a hK => ?_
      refine stepN hK 42 (by kernel_rfl) fun a hK => ?_
      refine stepN hK 43 (by kernel_rfl) fun a hK => ?_
      refine stepN hK 44 (by kernel_rfl) fun a hK => ?_
      refine stepN hK 45 (by kernel_rfl) fun a hK => ?_
      refine stepN hK 46 (by kernel_rfl) fun a hK => ?_
      refine stepN hK 47 (by kernel_rfl) fun a hK => ?_
      refine stepN hK 48 (by kernel_rfl) fun a hK => ?_
      refine stepN hK 49 (by kernel_rfl) fun a hK => ?_
      refine stepP hK 50 (.bool false) (by kernel_rfl) (by kernel_rfl) fun a hK => ?_
      refine stepM hK 51 50 (by kernel_rfl) (.inl rfl) rfl fun a hK => ?_
      refine stepN hK 52 (by kernel_rfl) fun a hK => ?_
      refine stepN hK 53 (by kernel_rfl) fun a hK => ?_
      refine stepN hK 54 (by kernel_rfl) fun a hK => ?_
      refine stepN hK 55 (by kernel_rfl) fun a hK => ?_
      refine stepN hK 56 (by kernel_rfl) fun a hK => ?_
      refine stepN hK 57 (by kernel_rfl) fun a hK => ?_
      refine stepN hK 58 (by kernel_rfl) fun a hK => ?_
      refine stepN hK 59 (by kernel_rfl) fun a hK => ?_
      refine stepP hK 60 (.bool false) (by kernel_rfl) (by kernel_rfl) fun a hK => ?_
      refine stepM hK 4 60 (by kernel_rfl) (.inr rfl) rfl fun a hK => ?_
      refine region_done hK [(4, .bool false), (5, .pointer (some ⟨b3, 0, none⟩)), (9, .bool false), (2, .pointer (some ⟨b1, 0, none⟩)), (0, .agg #[.int .i64 e.kind, Str e.nm, Str e.loc, .int .i64 e.ord, .slice e.A1 e.es.length e.c1, .slice e.A2 e.th.length e.c2, .slice e.A3 e.el.length e.c3])] ⟨rfl, rfl, rfl, rfl, rfl, trivial⟩ fun a hK => ?_
      refine wp_ret ?_
      exact ret_t hK rfl (u := (.bool false)) rfl (⟨(false, ()), rfl, hM.drop 2, by unfold mayS; rw [sm_in h2, h4, h5, h6, (decide_eq_false h7)]; rfl⟩)
    ·refine stepRet hK hM 31 #[.int .i64 e.ord, .bool (ptOr e.kind)] (.bool false) (by kernel_rfl) (run_callE en_ast_orderMayBe rfl rfl (by kernel_rfl)) (ret_eq (ast_orderMayBe e.ord (ptOr e.kind) _) (congrArg Value.bool h6)) fun a w hK hM => ?_
     refine stepP hK 32 (.bool false) (by kernel_rfl) (by kernel_rfl) fun a hK => ?_
     refine stepM hK 33 32 (by kernel_rfl) (.inl rfl) rfl fun a hK => ?_
     refine stepN hK 34 (by kernel_rfl) fun a hK => ?_
     refine stepN hK 35 (by kernel_rfl) fun a hK => ?_
     refine stepN hK 36 (by kernel_rfl) fun a hK => ?_
     refine stepN hK 37 (by kernel_rfl) fun a hK => ?_
     refine stepN hK 38 (by kernel_rfl) fun a hK => ?_
     refine stepN hK 39 (by kernel_rfl) fun a hK => ?_
     refine stepP hK 40 (.bool false) (by kernel_rfl) (by kernel_rfl) fun a hK => ?_
     refine stepM hK 41 40 (by kernel_rfl) (.inl rfl) rfl fun a hK => ?_
     refine stepN hK 42 (by kernel_rfl) fun a hK => ?_
     refine stepN hK 43 (by kernel_rfl) fun a hK => ?_
     refine stepN hK 44 (by kernel_rfl) fun a hK => ?_
     refine stepN hK 45 (by kernel_rfl) fun a hK => ?_
     refine stepN hK 46 (by kernel_rfl) fun a hK => ?_
     refine stepN hK 47 (by kernel_rfl) fun a hK => ?_
     refine stepN hK 48 (by kernel_rfl) fun a hK => ?_
     refine stepN hK 49 (by kernel_rfl) fun a hK => ?_
     refine stepP hK 50 (.bool false) (by kernel_rfl) (by kernel_rfl) fun a hK => ?_
     refine stepM hK 51 50 (by kernel_rfl) (.inl rfl) rfl fun a hK => ?_
     refine stepN hK 52 (by kernel_rfl) fun a hK => ?_
     refine stepN hK 53 (by kernel_rfl) fun a hK => ?_
     refine stepN hK 54 (by kernel_rfl) fun a hK => ?_
     refine stepN hK 55 (by kernel_rfl) fun a hK => ?_
     refine stepN hK 56 (by kernel_rfl) fun a hK => ?_
     refine stepN hK 57 (by kernel_rfl) fun a hK => ?_
     refine stepN hK 58 (by kernel_rfl) fun a hK => ?_
     refine stepN hK 59 (by kernel_rfl) fun a hK => ?_
     refine stepP hK 60 (.bool false) (by kernel_rfl) (by kernel_rfl) fun a hK => ?_
     refine stepM hK 4 60 (by kernel_rfl) (.inr rfl) rfl fun a hK => ?_
     refine region_done hK [(4, .bool false), (5, .pointer (some ⟨b3, 0, none⟩)), (9, .bool false), (2, .pointer (some ⟨b1, 0, none⟩)), (0, .agg #[.int .i64 e.kind, Str e.nm, Str e.loc, .int .i64 e.ord, .slice e.A1 e.es.length e.c1, .slice e.A2 e.th.length e.c2, .slice e.A3 e.el.length e.c3])] ⟨rfl, rfl, rfl, rfl, rfl, trivial⟩ fun a hK => ?_
     refine wp_ret ?_
     exact ret_t hK rfl (u := (.bool false)) rfl (⟨(false, ()), rfl, hM.drop 2, by unfold mayS; rw [sm_in h2, h4, h5, h6]; rfl⟩)
   ·refine stepRet hK hM 24 #[Str e.loc, .bool (ptLc e.kind)] (.bool false) (by kernel_rfl) (run_callE en_ast_nameMayBe rfl rfl (by kernel_rfl)) (ret_eq (ast_nameMayBe e.loc (ptLc e.kind) _ (by omega)) (congrArg Value.bool h5)) fun a w hK hM => ?_
    refine stepP hK 25 (.bool false) (by kernel_rfl) (by kernel_rfl) fun a hK => ?_
    refine stepM hK 26 25 (by kernel_rfl) (.inl rfl) rfl fun a hK => ?_
    refine stepN hK 27 (by kernel_rfl) fun a hK => ?_
    refine stepN hK 28 (by kernel_rfl) fun a hK => ?_
    refine stepN hK 29 (by kernel_rfl) fun a hK => ?_
    refine stepN hK 30 (by kernel_rfl) fun a hK => ?_
    refine stepN hK 31 (by kernel_rfl) fun a hK => ?_
    refine stepP hK 32 (.bool false) (by kernel_rfl) (by kernel_rfl) fun a hK => ?_
    refine stepM hK 33 32 (by kernel_rfl) (.inl rfl) rfl fun a hK => ?_
    refine stepN hK 34 (by kernel_rfl) fun a hK => ?_
    refine stepN hK 35 (by kernel_rfl) fun a hK => ?_
    refine stepN hK 36 (by kernel_rfl) fun a hK => ?_
    refine stepN hK 37 (by kernel_rfl) fun a hK => ?_
    refine stepN hK 38 (by kernel_rfl) fun a hK => ?_
    refine stepN hK 39 (by kernel_rfl) fun a hK => ?_
    refine stepP hK 40 (.bool false) (by kernel_rfl) (by kernel_rfl) fun a hK => ?_
    refine stepM hK 41 40 (by kernel_rfl) (.inl rfl) rfl fun a hK => ?_
    refine stepN hK 42 (by kernel_rfl) fun a hK => ?_
    refine stepN hK 43 (by kernel_rfl) fun a hK => ?_
    refine stepN hK 44 (by kernel_rfl) fun a hK => ?_
    refine stepN hK 45 (by kernel_rfl) fun a hK => ?_
    refine stepN hK 46 (by kernel_rfl) fun a hK => ?_
    refine stepN hK 47 (by kernel_rfl) fun a hK => ?_
    refine stepN hK 48 (by kernel_rfl) fun a hK => ?_
    refine stepN hK 49 (by kernel_rfl) fun a hK => ?_
    refine stepP hK 50 (.bool false) (by kernel_rfl) (by kernel_rfl) fun a hK => ?_
    refine stepM hK 51 50 (by kernel_rfl) (.inl rfl) rfl fun a hK => ?_
    refine stepN hK 52 (by kernel_rfl) fun a hK => ?_
    refine stepN hK 53 (by kernel_rfl) fun a hK => ?_
    refine stepN hK 54 (by kernel_rfl) fun a hK => ?_
    refine stepN hK 55 (by kernel_rfl) fun a hK => ?_
    refine stepN hK 56 (by kernel_rfl) fun a hK => ?_
    refine stepN hK 57 (by kernel_rfl) fun a hK => ?_
    refine stepN hK 58 (by kernel_rfl) fun a hK => ?_
    refine stepN hK 59 (by kernel_rfl) fun a hK => ?_
    refine stepP hK 60 (.bool false) (by kernel_rfl) (by kernel_rfl) fun a hK => ?_
    refine stepM hK 4 60 (by kernel_rfl) (.inr rfl) rfl fun a hK => ?_
    refine region_done hK [(4, .bool false), (5, .pointer (some ⟨b3, 0, none⟩)), (9, .bool false), (2, .pointer (some ⟨b1, 0, none⟩)), (0, .agg #[.int .i64 e.kind, Str e.nm, Str e.loc, .int .i64 e.ord, .slice e.A1 e.es.length e.c1, .slice e.A2 e.th.length e.c2, .slice e.A3 e.el.length e.c3])] ⟨rfl, rfl, rfl, rfl, rfl, trivial⟩ fun a hK => ?_
    refine wp_ret ?_
    exact ret_t hK rfl (u := (.bool false)) rfl (⟨(false, ()), rfl, hM.drop 2, by unfold mayS; rw [sm_in h2, h4, h5]; rfl⟩)
  ·refine stepRet hK hM 18 #[Str e.nm, .bool (ptNm e.kind)] (.bool false) (by kernel_rfl) (run_callE en_ast_nameMayBe rfl rfl (by kernel_rfl)) (ret_eq (ast_nameMayBe e.nm (ptNm e.kind) _ (by omega)) (congrArg Value.bool h4)) fun a w hK hM => ?_
   refine stepM hK 19 18 (by kernel_rfl) (.inl rfl) rfl fun a hK => ?_
   refine stepN hK 20 (by kernel_rfl) fun a hK => ?_
   refine stepN hK 21 (by kernel_rfl) fun a hK => ?_
   refine stepN hK 22 (by kernel_rfl) fun a hK => ?_
   refine stepN hK 23 (by kernel_rfl) fun a hK => ?_
   refine stepN hK 24 (by kernel_rfl) fun a hK => ?_
   refine stepP hK 25 (.bool false) (by kernel_rfl) (by kernel_rfl) fun a hK => ?_
   refine stepM hK 26 25 (by kernel_rfl) (.inl rfl) rfl fun a hK => ?_
   refine stepN hK 27 (by kernel_rfl) fun a hK => ?_
   refine stepN hK 28 (by kernel_rfl) fun a hK => ?_
   refine stepN hK 29 (by kernel_rfl) fun a hK => ?_
   refine stepN hK 30 (by kernel_rfl) fun a hK => ?_
   refine stepN hK 31 (by kernel_rfl) fun a hK => ?_
   refine stepP hK 32 (.bool false) (by kernel_rfl) (by kernel_rfl) fun a hK => ?_
   refine stepM hK 33 32 (by kernel_rfl) (.inl rfl) rfl fun a hK => ?_
   refine stepN hK 34 (by kernel_rfl) fun a hK => ?_
   refine stepN hK 35 (by kernel_rfl) fun a hK => ?_
   refine stepN hK 36 (by kernel_rfl) fun a hK => ?_
   refine stepN hK 37 (by kernel_rfl) fun a hK => ?_
   refine stepN hK 38 (by kernel_rfl) fun a hK => ?_
   refine stepN hK 39 (by kernel_rfl) fun a hK => ?_
   refine stepP hK 40 (.bool false) (by kernel_rfl) (by kernel_rfl) fun a hK => ?_
   refine stepM hK 41 40 (by kernel_rfl) (.inl rfl) rfl fun a hK => ?_
   refine stepN hK 42 (by kernel_rfl) fun a hK => ?_
   refine stepN hK 43 (by kernel_rfl) fun a hK => ?_
   refine stepN hK 44 (by kernel_rfl) fun a hK => ?_
   refine stepN hK 45 (by kernel_rfl) fun a hK => ?_
   refine stepN hK 46 (by kernel_rfl) fun a hK => ?_
   refine stepN hK 47 (by kernel_rfl) fun a hK => ?_
   refine stepN hK 48 (by kernel_rfl) fun a hK => ?_
   refine stepN hK 49 (by kernel_rfl) fun a hK => ?_
   refine stepP hK 50 (.bool false) (by kernel_rfl) (by kernel_rfl) fun a hK => ?_
   refine stepM hK 51 50 (by kernel_rfl) (.inl rfl) rfl fun a hK => ?_
   refine stepN hK 52 (by kernel_rfl) fun a hK => ?_
   refine stepN hK 53 (by kernel_rfl) fun a hK => ?_
   refine stepN hK 54 (by kernel_rfl) fun a hK => ?_
   refine stepN hK 55 (by kernel_rfl) fun a hK => ?_
   refine stepN hK 56 (by kernel_rfl) fun a hK => ?_
   refine stepN hK 57 (by kernel_rfl) fun a hK => ?_
   refine stepN hK 58 (by kernel_rfl) fun a hK => ?_
   refine stepN hK 59 (by kernel_rfl) fun a hK => ?_
   refine stepP hK 60 (.bool false) (by kernel_rfl) (by kernel_rfl) fun a hK => ?_
   refine stepM hK 4 60 (by kernel_rfl) (.inr rfl) rfl fun a hK => ?_
   refine region_done hK [(4, .bool false), (5, .pointer (some ⟨b3, 0, none⟩)), (9, .bool false), (2, .pointer (some ⟨b1, 0, none⟩)), (0, .agg #[.int .i64 e.kind, Str e.nm, Str e.loc, .int .i64 e.ord, .slice e.A1 e.es.length e.c1, .slice e.A2 e.th.length e.c2, .slice e.A3 e.el.length e.c3])] ⟨rfl, rfl, rfl, rfl, rfl, trivial⟩ fun a hK => ?_
   refine wp_ret ?_
   exact ret_t hK rfl (u := (.bool false)) rfl (⟨(false, ()), rfl, hM.drop 2, by unfold mayS; rw [sm_in h2, h4]; rfl⟩)
 ·refine stepRet hK hM 8 #[.int .i64 e.kind] (.bool false) (by kernel_rfl) (run_callE en_ast_isKind rfl rfl (by kernel_rfl)) (ret_eq (ast_isKind e.kind _) (congrArg Value.bool h2)) fun a w hK hM => ?_
  refine stepP hK 9 (.bool true) (by kernel_rfl) (by kernel_rfl) fun a hK => ?_
  refine region_done hK [(9, .bool true), (4, .bool false), (2, .pointer (some ⟨b1, 0, none⟩)), (0, .agg #[.int .i64 e.kind, Str e.nm, Str e.loc, .int .i64 e.ord, .slice e.A1 e.es.length e.c1, .slice e.A2 e.th.length e.c2, .slice e.A3 e.el.length e.c3])] ⟨rfl, rfl, rfl, rfl, trivial⟩ fun a hK => ?_
  refine wp_cond_true (hK.get rfl) ?_
  refine wp_seq ?_
  refine region_go (lst := [0]) (by kernel_rfl) ?_
  refine stepP hK 4 (.bool false) (by kernel_rfl) (by kernel_rfl) fun a hK => ?_
  refine region_done hK [(4, .bool false), (9, .bool true), (2, .pointer (some ⟨b1, 0, none⟩)), (0, .agg #[.int .i64 e.kind, Str e.nm, Str e.loc, .int .i64 e.ord, .slice e.A1 e.es.length e.c1, .slice e.A2 e.th.length e.c2, .slice e.A3 e.el.length e.c3])] ⟨rfl, rfl, rfl, rfl, trivial⟩ fun a hK => ?_
  refine wp_ret ?_
  exact ret_t hK rfl (u := (.bool false)) rfl (⟨(false, ()), rfl, hM.drop 1, by unfold mayS; rw [sm_out h2]; rfl⟩)
set_option maxRecDepth 100000 in
set_option maxHeartbeats 4000000 in
theorem ast_declsMayBe (p : Pg) (w0 : World) (hp : PgAt w0 p) (hsh : pgSh p = true) : Calls Tryd.prog 30 #[.slice p.A1 p.ds.length p.c1] w0 (Ret w0 (.bool (dcsOk p.ds))) := by
 have hpl := hp.len
 obtain ⟨hshD, hshT⟩ := pg_sh hsh
 refine calls_K (args := [.slice p.A1 p.ds.length p.c1]) (n := 21) (env := [(0, .slice p.A1 p.ds.length p.c1)]) Tryd.func30 rfl rfl rfl ⟨rfl, trivial⟩ fun a w hK hM => ?_
 refine wp_seq ?_
 refine region_go (lst := [0]) (by kernel_rfl) ?_
 refine stepP hK 2 (.bool false) (by kernel_rfl) (by kernel_rfl) fun a hK => ?_
 refine region_done hK [(2, .bool false), (0, .slice p.A1 p.ds.length p.c1)] ⟨rfl, rfl, trivial⟩ fun a hK => ?_
 refine wp_seq ?_
 refine wp_seq ?_
 refine region_go (lst := [0, 1, 2]) (by kernel_rfl) ?_
 refine stepM hK 5 0 (by kernel_rfl) (.inl rfl) rfl fun a hK => ?_
 refine stepP hK 6 (.int .i64 ((p.ds.length : Nat) : Int)) (by kernel_rfl) (by kernel_rfl) fun a hK => ?_
 refine stepP hK 7 (.int .i64 0) (by kernel_rfl) (by kernel_rfl) fun a hK => ?_
 refine region_done hK [(7, .int .i64 0), (6, .int .i64 ((p.ds.length : Nat) : Int)), (5, .slice p.A1 p.ds.length p.c1), (2, .bool false), (0, .slice p.A1 p.ds.length p.c1)] ⟨rfl, rfl, rfl, rfl, rfl, trivial⟩ fun a hK => ?_
 refine wp_block ?_
 refine wp_loopX (fun x : Nat => [(6, .int .i64 ((p.ds.length : Nat) : Int)), (5, .slice p.A1 p.ds.length p.c1), (2, .bool false), (0, .slice p.A1 p.ds.length p.c1), (7, .int .i64 ((x : Nat) : Int))]) (fun x : Nat => []) (fun x : Nat => x ≤ p.ds.length ∧ dcsOk (p.ds.drop x) = dcsOk p.ds) (fun x : Nat => p.ds.length - x) 0 (hK.sub ⟨rfl, rfl, rfl, rfl, rfl, trivial⟩) hM ⟨Nat.zero_le _, rfl⟩ ?_
 rintro i a w hK hM hR
 replace hK : Knows a 21 [(6, .int .i64 ((p.ds.length : Nat) : Int)), (5, .slice p.A1 p.ds.length p.c1), (2, .bool false), (0, .slice p.A1 p.ds.length p.c1), (7, .int .i64 ((i : Nat) : Int))] := hK
 replace hM : Mem w0 w [] := hM
 replace hR : i ≤ p.ds.length ∧ dcsOk (p.ds.drop i) = dcsOk p.ds := hR
 refine wp_seq ?_
 refine region_go (lst := [0]) (by kernel_rfl) ?_
 by_cases h1 : (((i : Nat) : Int) : Int) < ((p.ds.length : Nat) : Int)
 ·refine stepP hK 8 (.bool true) (by kernel_rfl) (okBool (b := (decide ((((i : Nat) : Int) : Int) < ((p.ds.length : Nat) : Int)))) (by kernel_rfl) (decide_eq_true h1)) fun a hK => ?_
  refine region_done hK [(8, .bool true), (6, .int .i64 ((p.ds.length : Nat) : Int)), (5, .slice p.A1 p.ds.length p.c1), (2, .bool false), (0, .slice p.A1 p.ds.length p.c1), (7, .int .i64 ((i : Nat) : Int))] ⟨rfl, rfl, rfl, rfl, rfl, rfl, trivial⟩ fun a hK => ?_
  refine wp_seq ?_
  refine wp_cond_true (hK.get rfl) ?_
  refine wp_skip ?_
  refine wp_seq ?_
  refine wp_block ?_
  refine wp_seq ?_
  refine region_go (lst := [0, 1, 2, 3]) (by kernel_rfl) ?_
  obtain ⟨t2, ht2⟩ : ∃ t, p.ds[(i : Nat)]? = some t := ⟨_, List.getElem?_eq_getElem (by omega)⟩
  obtain ⟨⟨at2, At2, ct2⟩, et2⟩ := hp.decls _ _ ht2; have nt2 := et2
  refine stepP hK 9 (.pointer (some (at2.add (i * 3)))) (by kernel_rfl) (run_ixA (k := i) (s := 3) rfl rfl At2 rfl Tryd.underlying22 (by kernel_rfl) (by omega)) fun a hK => ?_
  refine stepLoad hK 10 (.agg #[Str t2.nm, .bool t2.plain, .int .i64 t2.val]) (by kernel_rfl) rfl rfl ((ct2.on hM.below)) (by kernel_rfl) fun a hK => ?_
  refine stepAlloc hK hM 4 45 [Str [], .bool false, .int .i64 0] (fun b => .pointer (some ⟨b, 0, none⟩)) (by kernel_rfl) (by kernel_rfl) fun b3 a w hK hM => ?_
  refine stepStore hK hM 0 [Str t2.nm, .bool t2.plain, .int .i64 t2.val] (by kernel_rfl) rfl rfl rfl rfl (by kernel_rfl) fun w hM => ?_
  replace hM := hM.to [.row b3 45 [Str t2.nm, .bool t2.plain, .int .i64 t2.val]] (by kernel_rfl)
  refine region_done hK [(4, .pointer (some ⟨b3, 0, none⟩)), (8, .bool true), (6, .int .i64 ((p.ds.length : Nat) : Int)), (5, .slice p.A1 p.ds.length p.c1), (2, .bool false), (0, .slice p.A1 p.ds.length p.c1), (7, .int .i64 ((i : Nat) : Int))] ⟨rfl, rfl, rfl, rfl, rfl, rfl, rfl, trivial⟩ fun a hK => ?_
  refine wp_seq ?_
  refine region_go (lst := [0, 1, 2, 3, 4, 5, 6, 7, 8]) (by kernel_rfl) ?_
  refine stepP hK 11 (.pointer (some ⟨b3, 0, none⟩)) (by kernel_rfl) (by kernel_rfl) fun a hK => ?_
  refine stepLoad hK 12 (Str t2.nm) (by kernel_rfl) rfl rfl ((hM.row 0 rfl).cells 0 1) (by kernel_rfl) fun a hK => ?_
  rcases Bool.eq_false_or_eq_true (isWd t2.nm) with h4 | h4
  ·refine stepRet hK hM 13 #[Str t2.nm] (.bool true) (by kernel_rfl) (run_callE en_ast_isWord rfl rfl (by kernel_rfl)) (ret_eq (ast_isWord t2.nm _ (hshD _ (List.mem_of_getElem? ht2))) (congrArg Value.bool h4)) fun a w hK hM => ?_
   refine stepP hK 14 (.bool false) (by kernel_rfl) (by kernel_rfl) fun a hK => ?_
   refine stepM hK 15 14 (by kernel_rfl) (.inl rfl) rfl fun a hK => ?_
   refine stepP hK 16 (.pointer (some ⟨b3, 2, none⟩)) (by kernel_rfl) (by kernel_rfl) fun a hK => ?_
   refine stepLoad hK 17 (.int .i64 t2.val) (by kernel_rfl) rfl rfl ((hM.row 0 rfl).cells 2 1) (by kernel_rfl) fun a hK => ?_
   by_cases h5 : (t2.val : Int) < 0
   ·refine stepP hK 18 (.bool true) (by kernel_rfl) (okBool (b := (decide ((t2.val : Int) < 0))) (by kernel_rfl) (decide_eq_true h5)) fun a hK => ?_
    refine stepP hK 19 (.bool true) (by kernel_rfl) (by kernel_rfl) fun a hK => ?_
    refine region_done hK [(19, .bool true), (4, .pointer (some ⟨b3, 0, none⟩)), (8, .bool true), (6, .int .i64 ((p.ds.length : Nat) : Int)), (5, .slice p.A1 p.ds.length p.c1), (2, .bool false), (0, .slice p.A1 p.ds.length p.c1), (7, .int .i64 ((i : Nat) : Int))] ⟨rfl, rfl, rfl, rfl, rfl, rfl, rfl, rfl, trivial⟩ fun a hK => ?_
    refine wp_cond_true (hK.get rfl) ?_
    refine wp_seq ?_
    refine region_go (lst := [0]) (by kernel_rfl) ?_
    refine stepP hK 2 (.bool false) (by kernel_rfl) (by kernel_rfl) fun a hK => ?_
    refine region_done hK [(2, .bool false), (19, .bool true), (4, .pointer (some ⟨b3, 0, none⟩)), (8, .bool true), (6, .int .i64 ((p.ds.length : Nat) : Int)), (5, .slice p.A1 p.ds.length p.c1), (0, .slice p.A1 p.ds.length p.c1), (7, .int .i64 ((i : Nat) : Int))] ⟨rfl, rfl, rfl, rfl, rfl, rfl, rfl, rfl, trivial⟩ fun a hK => ?_
    refine wp_ret ?_
    exact ret_t hK rfl (u := (.bool false)) rfl (⟨by rw [← hR.2, dcsOk_step ht2, show dcOk t2 = false by unfold dcOk; rw [h4, (decide_eq_true h5)]; rfl]; rfl, hM.below⟩)
   ·refine stepP hK 18 (.bool false) (by kernel_rfl) (okBool (b := (decide ((t2.val : Int) < 0))) (by kernel_rfl) (decide_eq_false h5)) fun a hK => ?_
    refine stepP hK 19 (.bool false) (by kernel_rfl) (by kernel_rfl) fun a hK => ?_
    refine region_done hK [(19, .bool false), (4, .pointer (some ⟨b3, 0, none⟩)), (8, .bool true), (6, .int .i64 ((p.ds.length : Nat) : Int)), (5, .slice p.A1 p.ds.length p.c1), (2, .bool false), (0, .slice p.A1 p.ds.length p.c1), (7, .int .i64 ((i : Nat) : Int))] ⟨rfl, rfl, rfl, rfl, rfl, rfl, rfl, rfl, trivial⟩ fun a hK => ?_
    refine wp_cond_false (hK.get rfl) ?_
    refine wp_skip ?_
    refine region_go (lst := [0, 1]) (by kernel_rfl) ?_
    refine stepP hK 20 (.int .i64 (((i + 1) : Nat) : Int)) (by kernel_rfl) (run_addN (i := i) (j := 1) rfl rfl rfl (by omega)) fun a hK => ?_
    refine stepM hK 7 20 (by kernel_rfl) (.inl rfl) rfl fun a hK => ?_
    refine region_done hK [(7, .int .i64 (((i + 1) : Nat) : Int)), (19, .bool false), (4, .pointer (some ⟨b3, 0, none⟩)), (8, .bool true), (6, .int .i64 ((p.ds.length : Nat) : Int)), (5, .slice p.A1 p.ds.length p.c1), (2, .bool false), (0, .slice p.A1 p.ds.length p.c1)] ⟨rfl, rfl, rfl, rfl, rfl, rfl, rfl, rfl, trivial⟩ fun a hK => ?_
    have hRn : (i + 1) ≤ p.ds.length ∧ dcsOk (p.ds.drop (i + 1)) = dcsOk p.ds := ⟨by omega, by rw [← hR.2, dcsOk_step ht2, show dcOk t2 = true by unfold dcOk; rw [h4, (decide_eq_false h5)]; rfl]; rfl⟩
    have hmn : p.ds.length - (i + 1) < p.ds.length - i := by omega
    exact ⟨i + 1, hK.sub ⟨rfl, rfl, rfl, rfl, rfl, trivial⟩, (hM.drop 1), hRn, hmn⟩
  ·refine stepRet hK hM 13 #[Str t2.nm] (.bool false) (by kernel_rfl) (run_callE en_ast_isWord rfl rfl (by kernel_rfl)) (ret_eq (ast_isWord t2.nm _ (hshD _ (List.mem_of_getElem? ht2))) (congrArg Value.bool h4)) fun a w hK hM => ?_
   refine stepP hK 14 (.bool true) (by kernel_rfl) (by kernel_rfl) fun a hK => ?_
   refine stepM hK 15 14 (by kernel_rfl) (.inl rfl) rfl fun a hK => ?_
   refine stepN hK 16 (by kernel_rfl) fun a hK => ?_
   refine stepN hK 17 (by kernel_rfl) fun a hK => ?_
   refine stepN hK 18 (by kernel_rfl) fun a hK => ?_
   refine stepP hK 19 (.bool true) (by kernel_rfl) (by kernel_rfl) fun a hK => ?_
   refine region_done hK [(19, .bool true), (4, .pointer (some ⟨b3, 0, none⟩)), (8, .bool true), (6, .int .i64 ((p.ds.length : Nat) : Int)), (5, .slice p.A1 p.ds.length p.c1), (2, .bool false), (0, .slice p.A1 p.ds.length p.c1), (7, .int .i64 ((i : Nat) : Int))] ⟨rfl, rfl, rfl, rfl, rfl, rfl, rfl, rfl, trivial⟩ fun a hK => ?_
   refine wp_cond_true (hK.get rfl) ?_
   refine wp_seq ?_
   refine region_go (lst := [0]) (by kernel_rfl) ?_
   refine stepP hK 2 (.bool false) (by kernel_rfl) (by kernel_rfl) fun a hK => ?_
   refine region_done hK [(2, .bool false), (19, .bool true), (4, .pointer (some ⟨b3, 0, none⟩)), (8, .bool true), (6, .int .i64 ((p.ds.length : Nat) : Int)), (5, .slice p.A1 p.ds.length p.c1), (0, .slice p.A1 p.ds.length p.c1), (7, .int .i64 ((i : Nat) : Int))] ⟨rfl, rfl, rfl, rfl, rfl, rfl, rfl, rfl, trivial⟩ fun a hK => ?_
   refine wp_ret ?_
   exact ret_t hK rfl (u := (.bool false)) rfl (⟨by rw [← hR.2, dcsOk_step ht2, show dcOk t2 = false by unfold dcOk; rw [h4]; rfl]; rfl, hM.below⟩)
 ·refine stepP hK 8 (.bool false) (by kernel_rfl) (okBool (b := (decide ((((i : Nat) : Int) : Int) < ((p.ds.length : Nat) : Int)))) (by kernel_rfl) (decide_eq_false h1)) fun a hK => ?_
  refine region_done hK [(8, .bool false), (6, .int .i64 ((p.ds.length : Nat) : Int)), (5, .slice p.A1 p.ds.length p.c1), (2, .bool false), (0, .slice p.A1 p.ds.length p.c1), (7, .int .i64 ((i : Nat) : Int))] ⟨rfl, rfl, rfl, rfl, rfl, rfl, trivial⟩ fun a hK => ?_
  refine wp_seq ?_
  refine wp_cond_false (hK.get rfl) ?_
  refine wp_exit (exit_then (exit_then (exit_here 0 ?_)))
  refine wp_seq ?_
  refine region_go (lst := [0]) (by kernel_rfl) ?_
  refine stepP hK 2 (.bool true) (by kernel_rfl) (by kernel_rfl) fun a hK => ?_
  refine region_done hK [(2, .bool true), (8, .bool false), (6, .int .i64 ((p.ds.length : Nat) : Int)), (5, .slice p.A1 p.ds.length p.c1), (0, .slice p.A1 p.ds.length p.c1), (7, .int .i64 ((i : Nat) : Int))] ⟨rfl, rfl, rfl, rfl, rfl, rfl, trivial⟩ fun a hK => ?_
  refine wp_ret ?_
  exact ret_t hK rfl (u := (.bool true)) rfl (⟨by rw [← hR.2, dcsOk_end (by omega)], hM.below⟩)
end Go.Proofs.YtmfiiapmkidmkaaDoor
