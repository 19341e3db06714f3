/-
  AstNames at its contract.
-/
import Derived.Test.YtmfiiapmkidmkaaDoorAwJ
namespace Go.Proofs.YtmfiiapmkidmkaaDoor
open Go Go.RowKit

theorem en_cantileverlaw03_AstNames : Enters Tryd.prog 3 := enters_of Tryd.func3 (by kernel_rfl) rfl
def fence0 : Sm := .mk 7 [] [] 6 none 0 [] none 0 [] none 0 []
theorem fence_at {w : World} {b : Nat} (h : RowT w b 30 ([fence0].flatMap cS)) : SmsAt w (some ⟨b, 0, none⟩) [fence0] := sms_row h fun x hx => by
  obtain rfl := List.mem_singleton.1 hx
  exact sm_node ⟨Nat.zero_le _, Nat.zero_le _, Nat.zero_le _, Nat.zero_le _, Nat.zero_le _⟩ (exs_nil _ _) (sms_nil _ _) (sms_nil _ _)
theorem leaf_at (w : World) (o n : Int) : ExAt w (.mk o n [] none 0 []) := ex_node (Nat.zero_le _) (Nat.zero_le _) (exs_nil _ _)
theorem none_at (w : World) : PgAt w ⟨none, 0, [], none, 0, []⟩ := ⟨fun k d hd => by simp at hd, fun k t ht => by simp at ht, Nat.zero_le _, Nat.zero_le _⟩
set_option maxRecDepth 100000 in
set_option maxHeartbeats 4000000 in
theorem names_yes  (w0 : World) (hTab : TabOk w0) : Calls Tryd.prog 3 #[] w0 (Ret w0 (.bool true)) := by
  refine calls_K (args := []) (n := 32) (env := []) Tryd.func3 rfl rfl rfl trivial fun a w hK hM => ?_
  refine wp_seq ?_
  refine region_go (lst := [0]) (by kernel_rfl) ?_
  refine stepP hK 0 (.bool false) (by kernel_rfl) (by kernel_rfl) fun a hK => ?_
  refine region_done hK [(0, .bool false)] ⟨rfl, trivial⟩ fun a hK => ?_
  refine wp_seq ?_
  refine region_go (lst := [0, 1, 2]) (by kernel_rfl) ?_
  refine stepCall hK hM 2 #[] (by kernel_rfl) (run_callE en_cantileverkit_Pages rfl rfl (by kernel_rfl)) (kit_Pages _) ?_
  rintro ⟨k1_1, e1_1, s1_1, d0_1, k2_1, e2_1, s0_1, t0_1⟩ a w - hK hM
  refine stepAlloc hK hM 1 25 [.slice none 0 0, .slice none 0 0] (fun b => .pointer (some ⟨b, 0, none⟩)) (by kernel_rfl) (by kernel_rfl) fun b3 a w hK hM => ?_
  refine stepStore hK hM 0 [.slice (some ⟨d0_1, 0, none⟩) 1 1, .slice (some ⟨t0_1, 0, none⟩) 1 1] (by kernel_rfl) rfl rfl rfl rfl (by kernel_rfl) fun w hM => ?_
  replace hM := hM.to [.row b3 25 [.slice (some ⟨d0_1, 0, none⟩) 1 1, .slice (some ⟨t0_1, 0, none⟩) 1 1], .row k1_1 36 [.int .i64 2, .int .i64 0, Str [114], .slice none 0 0, .int .i64 1, .int .i64 1, Str [], .slice none 0 0], .row e1_1 36 [.int .i64 14, .int .i64 0, Str [], .slice (some ⟨k1_1, 0, none⟩) 2 2], .row s1_1 30 [.int .i64 3, Str [], Str [120], .int .i64 4, .slice (some ⟨e1_1, 0, none⟩) 1 1, .slice none 0 0, .slice none 0 0], .row d0_1 45 [Str [120], .bool false, .int .i64 0], .row k2_1 36 [.int .i64 2, .int .i64 0, Str [114], .slice none 0 0, .int .i64 1, .int .i64 1, Str [], .slice none 0 0], .row e2_1 36 [.int .i64 7, .int .i64 0, Str [], .slice (some ⟨k2_1, 0, none⟩) 2 2], .row s0_1 30 [.int .i64 2, Str [114], Str [120], .int .i64 3, .slice none 0 0, .slice none 0 0, .slice none 0 0, .int .i64 10, Str [], Str [], .int .i64 0, .slice (some ⟨e2_1, 0, none⟩) 1 1, .slice (some ⟨s1_1, 0, none⟩) 1 1, .slice none 0 0], .row t0_1 28 [.slice (some ⟨s0_1, 0, none⟩) 2 2]] (by kernel_rfl)
  refine region_done hK [(1, .pointer (some ⟨b3, 0, none⟩)), (0, .bool false)] ⟨rfl, rfl, trivial⟩ fun a hK => ?_
  refine wp_seq ?_
  refine region_go (lst := [0, 1, 2, 3, 4, 5, 6, 7, 8]) (by kernel_rfl) ?_
  refine stepP hK 3 (.pointer (some ⟨b3, 1, none⟩)) (by kernel_rfl) (by kernel_rfl) fun a hK => ?_
  refine stepLoad hK 4 (.slice (some ⟨t0_1, 0, none⟩) 1 1) (by kernel_rfl) rfl rfl ((hM.row 0 rfl).cells 1 1) (by kernel_rfl) fun a hK => ?_
  refine stepP hK 5 (.pointer (some ⟨t0_1, 0, none⟩)) (by kernel_rfl) (run_ixG (k := 0) (s := 1) rfl rfl rfl Tryd.underlying23 (by kernel_rfl) (by decide)) fun a hK => ?_
  refine stepLoad hK 6 (.slice (some ⟨s0_1, 0, none⟩) 2 2) (by kernel_rfl) rfl rfl ((hM.row 8 rfl).cells 0 1) (by kernel_rfl) fun a hK => ?_
  refine stepP hK 7 (.agg #[.int .i64 7, Str [], Str [], .int .i64 6, .slice none 0 0, .slice none 0 0, .slice none 0 0]) (by kernel_rfl) (by kernel_rfl) fun a hK => ?_
  refine stepAlloc hK hM 8 30 [.int .i64 7, Str [], Str [], .int .i64 6, .slice none 0 0, .slice none 0 0, .slice none 0 0] (fun b => .slice (some ⟨b, 0, none⟩) 1 1) (by kernel_rfl) (by kernel_rfl) fun b4 a w hK hM => ?_
  refine stepP hK 9 (.pointer (some ⟨s0_1, 0, none⟩)) (by kernel_rfl) (run_ixG (k := 0) (s := 7) rfl rfl rfl Tryd.underlying28 (by kernel_rfl) (by decide)) fun a hK => ?_
  refine stepP hK 10 (.pointer (some ⟨s0_1, 6, none⟩)) (by kernel_rfl) (by kernel_rfl) fun a hK => ?_
  refine stepStore hK hM 8 [.int .i64 2, Str [114], Str [120], .int .i64 3, .slice none 0 0, .slice none 0 0, .slice (some ⟨b4, 0, none⟩) 1 1, .int .i64 10, Str [], Str [], .int .i64 0, .slice (some ⟨e2_1, 0, none⟩) 1 1, .slice (some ⟨s1_1, 0, none⟩) 1 1, .slice none 0 0] (by kernel_rfl) rfl rfl rfl rfl (by kernel_rfl) fun w hM => ?_
  replace hM := hM.to [.row b4 30 [.int .i64 7, Str [], Str [], .int .i64 6, .slice none 0 0, .slice none 0 0, .slice none 0 0], .row b3 25 [.slice (some ⟨d0_1, 0, none⟩) 1 1, .slice (some ⟨t0_1, 0, none⟩) 1 1], .row k1_1 36 [.int .i64 2, .int .i64 0, Str [114], .slice none 0 0, .int .i64 1, .int .i64 1, Str [], .slice none 0 0], .row e1_1 36 [.int .i64 14, .int .i64 0, Str [], .slice (some ⟨k1_1, 0, none⟩) 2 2], .row s1_1 30 [.int .i64 3, Str [], Str [120], .int .i64 4, .slice (some ⟨e1_1, 0, none⟩) 1 1, .slice none 0 0, .slice none 0 0], .row d0_1 45 [Str [120], .bool false, .int .i64 0], .row k2_1 36 [.int .i64 2, .int .i64 0, Str [114], .slice none 0 0, .int .i64 1, .int .i64 1, Str [], .slice none 0 0], .row e2_1 36 [.int .i64 7, .int .i64 0, Str [], .slice (some ⟨k2_1, 0, none⟩) 2 2], .row s0_1 30 [.int .i64 2, Str [114], Str [120], .int .i64 3, .slice none 0 0, .slice none 0 0, .slice (some ⟨b4, 0, none⟩) 1 1, .int .i64 10, Str [], Str [], .int .i64 0, .slice (some ⟨e2_1, 0, none⟩) 1 1, .slice (some ⟨s1_1, 0, none⟩) 1 1, .slice none 0 0], .row t0_1 28 [.slice (some ⟨s0_1, 0, none⟩) 2 2]] (by kernel_rfl)
  refine region_done hK [(1, .pointer (some ⟨b3, 0, none⟩)), (0, .bool false)] ⟨rfl, rfl, trivial⟩ fun a hK => ?_
  refine wp_seq ?_
  refine region_go (lst := [0, 1, 2, 3, 4, 5, 6, 7, 8, 9, 10, 11, 12, 13, 14, 15, 16, 17, 18, 19, 20, 21]) (by kernel_rfl) ?_
  refine stepRet hK hM 11 #[] (.bool true) (by kernel_rfl) (run_callE en_cantileverlaw03_lives rfl rfl (by kernel_rfl)) (lives_yes _ (hTab.on hM.below)) fun a w hK hM => ?_
  refine stepM hK 12 11 (by kernel_rfl) (.inl rfl) rfl fun a hK => ?_
  refine stepLoad hK 13 (.agg #[.slice (some ⟨d0_1, 0, none⟩) 1 1, .slice (some ⟨t0_1, 0, none⟩) 1 1]) (by kernel_rfl) rfl rfl ((hM.row 1 rfl).cells 0 2) (by kernel_rfl) fun a hK => ?_
  refine stepRet hK hM 14 #[.agg #[.slice (some ⟨d0_1, 0, none⟩) 1 1, .slice (some ⟨t0_1, 0, none⟩) 1 1]] (.int .i64 2) (by kernel_rfl) (run_callE en_ast_Check rfl rfl (by kernel_rfl)) (ret_eq (ast_Check (pgT k1_1 e1_1 s1_1 d0_1 k2_1 e2_1 s0_1 t0_1 (some ⟨b4, 0, none⟩) 1 [fence0]) _ (hTab.on hM.below) (pages_at (hM.row 2 rfl) (hM.row 3 rfl) (hM.row 4 rfl) (hM.row 5 rfl) (hM.row 6 rfl) (hM.row 7 rfl) (hM.row 8 rfl) (hM.row 9 rfl) (by decide) (fence_at (hM.row 0 rfl))) (Nat.le_of_ble_eq_true (by kernel_rfl)) (by kernel_rfl)) (v' := (.int .i64 2)) (by kernel_rfl)) fun a w hK hM => ?_
  refine stepP hK 15 (.bool true) (by kernel_rfl) (by kernel_rfl) fun a hK => ?_
  refine stepP hK 16 (.bool true) (by kernel_rfl) (by kernel_rfl) fun a hK => ?_
  refine stepM hK 17 16 (by kernel_rfl) (.inl rfl) rfl fun a hK => ?_
  refine stepRet hK hM 18 #[.int .i64 (-1)] (.agg #[.int .i64 1, .int .i64 (-1), Str [], .slice none 0 0]) (by kernel_rfl) (run_callE en_cantileverkit_Num rfl rfl (by kernel_rfl)) (kit_Num (-1) _) fun a w hK hM => ?_
  refine stepRet hK hM 19 #[.agg #[.int .i64 1, .int .i64 (-1), Str [], .slice none 0 0]] (.int .i64 2) (by kernel_rfl) (run_callE en_ast_CheckExpr rfl rfl (by kernel_rfl)) (ret_eq (ast_CheckExpr (.mk 1 (-1) [] none 0 []) _ (hTab.on hM.below) (leaf_at _ _ _) (Nat.le_of_ble_eq_true (by kernel_rfl)) (by kernel_rfl)) (v' := .int .i64 2) (by kernel_rfl)) fun a w hK hM => ?_
  refine stepP hK 20 (.bool true) (by kernel_rfl) (by kernel_rfl) fun a hK => ?_
  refine stepP hK 21 (.bool true) (by kernel_rfl) (by kernel_rfl) fun a hK => ?_
  refine stepM hK 22 21 (by kernel_rfl) (.inl rfl) rfl fun a hK => ?_
  refine stepP hK 23 (.agg #[.slice none 0 0, .slice none 0 0]) (by kernel_rfl) (by kernel_rfl) fun a hK => ?_
  refine stepRet hK hM 24 #[.agg #[.slice none 0 0, .slice none 0 0]] (.int .i64 0) (by kernel_rfl) (run_callE en_ast_Deep rfl rfl (by kernel_rfl)) (ret_eq (ast_Deep ⟨none, 0, [], none, 0, []⟩ _ (none_at _) (Nat.le_of_ble_eq_true (by kernel_rfl)) (by kernel_rfl)) (v' := .int .i64 0) (by kernel_rfl)) fun a w hK hM => ?_
  refine stepP hK 25 (.bool true) (by kernel_rfl) (by kernel_rfl) fun a hK => ?_
  refine stepP hK 26 (.bool true) (by kernel_rfl) (by kernel_rfl) fun a hK => ?_
  refine stepM hK 27 26 (by kernel_rfl) (.inl rfl) rfl fun a hK => ?_
  refine stepP hK 28 (.agg #[.int .i64 0, .int .i64 0, Str [], .slice none 0 0]) (by kernel_rfl) (by kernel_rfl) fun a hK => ?_
  refine stepRet hK hM 29 #[.agg #[.int .i64 0, .int .i64 0, Str [], .slice none 0 0]] (.int .i64 2) (by kernel_rfl) (run_callE en_ast_CheckExpr rfl rfl (by kernel_rfl)) (ret_eq (ast_CheckExpr (.mk 0 0 [] none 0 []) _ (hTab.on hM.below) (leaf_at _ _ _) (Nat.le_of_ble_eq_true (by kernel_rfl)) (by kernel_rfl)) (v' := .int .i64 2) (by kernel_rfl)) fun a w hK hM => ?_
  refine stepP hK 30 (.bool true) (by kernel_rfl) (by kernel_rfl) fun a hK => ?_
  refine stepP hK 31 (.bool true) (by kernel_rfl) (by kernel_rfl) fun a hK => ?_
  refine stepM hK 0 31 (by kernel_rfl) (.inr rfl) rfl fun a hK => ?_
  refine region_done hK [(0, .bool true), (1, .pointer (some ⟨b3, 0, none⟩))] ⟨rfl, rfl, trivial⟩ fun a hK => ?_
  refine wp_ret ?_
  exact ret_t hK rfl (u := (.bool true)) rfl (⟨rfl, hM.below⟩)
end Go.Proofs.YtmfiiapmkidmkaaDoor
