/-
  The chapter's examples come out as it tells.
-/
import Derived.Test.YtmfiiapmkidmkaaDoorTreeP
import Derived.Test.YtmfiiapmkidmkaaDoorAwI
import Derived.Test.YtmfiiapmkidmkaaDoorAwH
import Derived.Test.YtmfiiapmkidmkaaDoorAwG
import Derived.Test.YtmfiiapmkidmkaaDoorAwF
import Derived.Test.YtmfiiapmkidmkaaDoorAwE
namespace Go.Proofs.YtmfiiapmkidmkaaDoor
open Go Go.RowKit

theorem en_cantileverlaw03_lives : Enters Tryd.prog 7 := enters_of Tryd.func7 (by kernel_rfl) rfl
set_option maxRecDepth 100000 in
set_option maxHeartbeats 4000000 in
theorem lives_yes  (w0 : World) (hTab : TabOk w0) : Calls Tryd.prog 7 #[] w0 (Ret w0 (.bool true)) := by
  refine calls_K (args := []) (n := 34) (env := []) Tryd.func7 rfl rfl rfl trivial fun a w hK hM => ?_
  refine wp_seq ?_
  refine region_go (lst := [0]) (by kernel_rfl) ?_
  refine stepP hK 0 (.bool false) (by kernel_rfl) (by kernel_rfl) fun a hK => ?_
  refine region_done hK [(0, .bool false)] ⟨rfl, trivial⟩ fun a hK => ?_
  refine wp_seq ?_
  refine region_go (lst := [0, 1, 2]) (by kernel_rfl) ?_
  refine stepCall hK hM 2 #[] (by kernel_rfl) (run_callE en_cantileverkit_Pages rfl rfl (by kernel_rfl)) (kit_Pages _) ?_
  rintro ⟨k1_1, e1_1, s1_1, d0_1, k2_1, e2_1, s0_1, t0_1⟩ a w - hK hM
  refine stepAlloc hK hM 1 25 [.slice none 0 0, .slice none 0 0] (fun b => .pointer (some ⟨b, 0, none⟩)) (by kernel_rfl) (by kernel_rfl) fun b3 a w hK hM => ?_
  refine stepStore hK hM 0 [.slice (some ⟨d0_1, 0, none⟩) 1 1, .slice (some ⟨t0_1, 0, none⟩) 1 1] (by kernel_rfl) rfl rfl rfl rfl (by kernel_rfl) fun w hM => ?_
  replace hM := hM.to [.row b3 25 [.slice (some ⟨d0_1, 0, none⟩) 1 1, .slice (some ⟨t0_1, 0, none⟩) 1 1], .row k1_1 36 [.int .i64 2, .int .i64 0, Str [114], .slice none 0 0, .int .i64 1, .int .i64 1, Str [], .slice none 0 0], .row e1_1 36 [.int .i64 14, .int .i64 0, Str [], .slice (some ⟨k1_1, 0, none⟩) 2 2], .row s1_1 30 [.int .i64 3, Str [], Str [120], .int .i64 4, .slice (some ⟨e1_1, 0, none⟩) 1 1, .slice none 0 0, .slice none 0 0], .row d0_1 45 [Str [120], .bool false, .int .i64 0], .row k2_1 36 [.int .i64 2, .int .i64 0, Str [114], .slice none 0 0, .int .i64 1, .int .i64 1, Str [], .slice none 0 0], .row e2_1 36 [.int .i64 7, .int .i64 0, Str [], .slice (some ⟨k2_1, 0, none⟩) 2 2], .row s0_1 30 [.int .i64 2, Str [114], Str [120], .int .i64 3, .slice none 0 0, .slice none 0 0, .slice none 0 0, .int .i64 10, Str [], Str [], .int .i64 0, .slice (some ⟨e2_1, 0, none⟩) 1 1, .slice (some ⟨s1_1, 0, none⟩) 1 1, .slice none 0 0], .row t0_1 28 [.slice (some ⟨s0_1, 0, none⟩) 2 2]] (by kernel_rfl)
  refine region_done hK [(1, .pointer (some ⟨b3, 0, none⟩)), (0, .bool false)] ⟨rfl, rfl, trivial⟩ fun a hK => ?_
  refine wp_seq ?_
  refine region_go (lst := [0, 1, 2, 3, 4, 5, 6, 7, 8, 9, 10, 11, 12, 13, 14, 15, 16, 17, 18, 19, 20, 21, 22, 23, 24, 25, 26, 27, 28, 29, 30, 31]) (by kernel_rfl) ?_
  refine stepLoad hK 3 (.agg #[.slice (some ⟨d0_1, 0, none⟩) 1 1, .slice (some ⟨t0_1, 0, none⟩) 1 1]) (by kernel_rfl) rfl rfl ((hM.row 0 rfl).cells 0 2) (by kernel_rfl) fun a hK => ?_
  refine stepRet hK hM 4 #[.agg #[.slice (some ⟨d0_1, 0, none⟩) 1 1, .slice (some ⟨t0_1, 0, none⟩) 1 1]] (.int .i64 0) (by kernel_rfl) (run_callE en_ast_Check rfl rfl (by kernel_rfl)) (ret_eq (ast_Check (pgT k1_1 e1_1 s1_1 d0_1 k2_1 e2_1 s0_1 t0_1 none 0 []) _ (hTab.on hM.below) (pages_at (hM.row 1 rfl) (hM.row 2 rfl) (hM.row 3 rfl) (hM.row 4 rfl) (hM.row 5 rfl) (hM.row 6 rfl) (hM.row 7 rfl) (hM.row 8 rfl) (by decide) (sms_nil _ _)) (Nat.le_of_ble_eq_true (by kernel_rfl)) (by kernel_rfl)) (v' := (.int .i64 0)) (by kernel_rfl)) fun a w hK hM => ?_
  refine stepP hK 5 (.bool true) (by kernel_rfl) (by kernel_rfl) fun a hK => ?_
  refine stepM hK 6 5 (by kernel_rfl) (.inl rfl) rfl fun a hK => ?_
  refine stepLoad hK 7 (.agg #[.slice (some ⟨d0_1, 0, none⟩) 1 1, .slice (some ⟨t0_1, 0, none⟩) 1 1]) (by kernel_rfl) rfl rfl ((hM.row 0 rfl).cells 0 2) (by kernel_rfl) fun a hK => ?_
  refine stepRet hK hM 8 #[.agg #[.slice (some ⟨d0_1, 0, none⟩) 1 1, .slice (some ⟨t0_1, 0, none⟩) 1 1]] (.int .i64 9) (by kernel_rfl) (run_callE en_ast_Size rfl rfl (by kernel_rfl)) (ret_eq (ast_Size (pgT k1_1 e1_1 s1_1 d0_1 k2_1 e2_1 s0_1 t0_1 none 0 []) _ (pages_at (hM.row 1 rfl) (hM.row 2 rfl) (hM.row 3 rfl) (hM.row 4 rfl) (hM.row 5 rfl) (hM.row 6 rfl) (hM.row 7 rfl) (hM.row 8 rfl) (by decide) (sms_nil _ _)) (Nat.le_of_ble_eq_true (by kernel_rfl)) (by kernel_rfl)) (v' := (.int .i64 9)) (by kernel_rfl)) fun a w hK hM => ?_
  refine stepP hK 9 (.bool true) (by kernel_rfl) (by kernel_rfl) fun a hK => ?_
  refine stepP hK 10 (.bool true) (by kernel_rfl) (by kernel_rfl) fun a hK => ?_
  refine stepM hK 11 10 (by kernel_rfl) (.inl rfl) rfl fun a hK => ?_
  refine stepLoad hK 12 (.agg #[.slice (some ⟨d0_1, 0, none⟩) 1 1, .slice (some ⟨t0_1, 0, none⟩) 1 1]) (by kernel_rfl) rfl rfl ((hM.row 0 rfl).cells 0 2) (by kernel_rfl) fun a hK => ?_
  refine stepRet hK hM 13 #[.agg #[.slice (some ⟨d0_1, 0, none⟩) 1 1, .slice (some ⟨t0_1, 0, none⟩) 1 1]] (.int .i64 4) (by kernel_rfl) (run_callE en_ast_Deep rfl rfl (by kernel_rfl)) (ret_eq (ast_Deep (pgT k1_1 e1_1 s1_1 d0_1 k2_1 e2_1 s0_1 t0_1 none 0 []) _ (pages_at (hM.row 1 rfl) (hM.row 2 rfl) (hM.row 3 rfl) (hM.row 4 rfl) (hM.row 5 rfl) (hM.row 6 rfl) (hM.row 7 rfl) (hM.row 8 rfl) (by decide) (sms_nil _ _)) (Nat.le_of_ble_eq_true (by kernel_rfl)) (by kernel_rfl)) (v' := (.int .i64 4)) (by kernel_rfl)) fun a w hK hM => ?_
  refine stepP hK 14 (.bool true) (by kernel_rfl) (by kernel_rfl) fun a hK => ?_
  refine stepP hK 15 (.bool true) (by kernel_rfl) (by kernel_rfl) fun a hK => ?_
  refine stepM hK 16 15 (by kernel_rfl) (.inl rfl) rfl fun a hK => ?_
  refine stepP hK 17 (.pointer (some ⟨b3, 1, none⟩)) (by kernel_rfl) (by kernel_rfl) fun a hK => ?_
  refine stepLoad hK 18 (.slice (some ⟨t0_1, 0, none⟩) 1 1) (by kernel_rfl) rfl rfl ((hM.row 0 rfl).cells 1 1) (by kernel_rfl) fun a hK => ?_
  refine stepP hK 19 (.pointer (some ⟨t0_1, 0, none⟩)) (by kernel_rfl) (run_ixG (k := 0) (s := 1) rfl rfl rfl Tryd.underlying23 (by kernel_rfl) (by decide)) fun a hK => ?_
  refine stepLoad hK 20 (.slice (some ⟨s0_1, 0, none⟩) 2 2) (by kernel_rfl) rfl rfl ((hM.row 8 rfl).cells 0 1) (by kernel_rfl) fun a hK => ?_
  refine stepCall hK hM 21 #[.slice (some ⟨s0_1, 0, none⟩) 2 2] (by kernel_rfl) (run_callE en_ast_Regs rfl rfl (by kernel_rfl)) (ast_Regs [st1 none 0 [], stIf k1_1 e1_1 s1_1 k2_1 e2_1] _ ((pages_at (hM.row 1 rfl) (hM.row 2 rfl) (hM.row 3 rfl) (hM.row 4 rfl) (hM.row 5 rfl) (hM.row 6 rfl) (hM.row 7 rfl) (hM.row 8 rfl) (by decide) (sms_nil _ _)).threads 0 _ rfl).2.1 (Nat.le_of_ble_eq_true (by kernel_rfl)) (by kernel_rfl)) ?_
  rintro v4 a w - hK hM
  rw [show (regsL [st1 none 0 [], stIf k1_1 e1_1 s1_1 k2_1 e2_1]).mergeSort Go.leB = [[114]] by rw [show regsL [st1 none 0 [], stIf k1_1 e1_1 s1_1 k2_1 e2_1] = [[114]] by kernel_rfl]; simp] at hM
  obtain ⟨A9, c9, rfl, -, -⟩ := own_hand (hM.own 0 rfl)
  refine stepAlloc hK hM 22 9 [Str [114]] (fun b => .slice (some ⟨b, 0, none⟩) 1 1) (by kernel_rfl) (by kernel_rfl) fun b6 a w hK hM => ?_
  refine stepRet hK hM 23 #[.slice A9 [[114]].length c9, .slice (some ⟨b6, 0, none⟩) 1 1] (.bool true) (by kernel_rfl) (run_callE en_cantileverkit_Texts rfl rfl (by kernel_rfl)) (ret_eq (kit_Texts [[114]] [[114]] _ (own_at (f := Str) (l := [[114]]) (hM.own 1 rfl)) (HandAt.row (f := Str) (l := [[114]]) (hM.row 0 rfl)) (by decide) (by decide)) (v' := .bool true) (by kernel_rfl)) fun a w hK hM => ?_
  refine stepP hK 24 (.bool true) (by kernel_rfl) (by kernel_rfl) fun a hK => ?_
  refine stepM hK 25 24 (by kernel_rfl) (.inl rfl) rfl fun a hK => ?_
  refine stepP hK 26 (.pointer (some ⟨b3, 1, none⟩)) (by kernel_rfl) (by kernel_rfl) fun a hK => ?_
  refine stepLoad hK 27 (.slice (some ⟨t0_1, 0, none⟩) 1 1) (by kernel_rfl) rfl rfl ((hM.row 2 rfl).cells 1 1) (by kernel_rfl) fun a hK => ?_
  refine stepP hK 28 (.pointer (some ⟨t0_1, 0, none⟩)) (by kernel_rfl) (run_ixG (k := 0) (s := 1) rfl rfl rfl Tryd.underlying23 (by kernel_rfl) (by decide)) fun a hK => ?_
  refine stepLoad hK 29 (.slice (some ⟨s0_1, 0, none⟩) 2 2) (by kernel_rfl) rfl rfl ((hM.row 10 rfl).cells 0 1) (by kernel_rfl) fun a hK => ?_
  refine stepCall hK hM 30 #[.slice (some ⟨s0_1, 0, none⟩) 2 2] (by kernel_rfl) (run_callE en_ast_Kinds rfl rfl (by kernel_rfl)) (ast_Kinds [st1 none 0 [], stIf k1_1 e1_1 s1_1 k2_1 e2_1] _ ((pages_at (hM.row 3 rfl) (hM.row 4 rfl) (hM.row 5 rfl) (hM.row 6 rfl) (hM.row 7 rfl) (hM.row 8 rfl) (hM.row 9 rfl) (hM.row 10 rfl) (by decide) (sms_nil _ _)).threads 0 _ rfl).2.1 (Nat.le_of_ble_eq_true (by kernel_rfl)) (by kernel_rfl)) ?_
  rintro b7 a w - hK hM
  replace hM := hM.to ([.row b7 3 [.int .i64 0, .int .i64 1, .int .i64 1, .int .i64 0, .int .i64 0, .int .i64 0, .int .i64 0, .int .i64 0, .int .i64 0, .int .i64 1, .int .i64 0], .row b6 9 [Str [114]], .own 9 1 (.slice A9 [[114]].length c9) 1 [Str [114]], .row b3 25 [.slice (some ⟨d0_1, 0, none⟩) 1 1, .slice (some ⟨t0_1, 0, none⟩) 1 1], .row k1_1 36 [.int .i64 2, .int .i64 0, Str [114], .slice none 0 0, .int .i64 1, .int .i64 1, Str [], .slice none 0 0], .row e1_1 36 [.int .i64 14, .int .i64 0, Str [], .slice (some ⟨k1_1, 0, none⟩) 2 2], .row s1_1 30 [.int .i64 3, Str [], Str [120], .int .i64 4, .slice (some ⟨e1_1, 0, none⟩) 1 1, .slice none 0 0, .slice none 0 0], .row d0_1 45 [Str [120], .bool false, .int .i64 0], .row k2_1 36 [.int .i64 2, .int .i64 0, Str [114], .slice none 0 0, .int .i64 1, .int .i64 1, Str [], .slice none 0 0], .row e2_1 36 [.int .i64 7, .int .i64 0, Str [], .slice (some ⟨k2_1, 0, none⟩) 2 2], .row s0_1 30 [.int .i64 2, Str [114], Str [120], .int .i64 3, .slice none 0 0, .slice none 0 0, .slice none 0 0, .int .i64 10, Str [], Str [], .int .i64 0, .slice (some ⟨e2_1, 0, none⟩) 1 1, .slice (some ⟨s1_1, 0, none⟩) 1 1, .slice none 0 0], .row t0_1 28 [.slice (some ⟨s0_1, 0, none⟩) 2 2]]) (by kernel_rfl)
  refine stepAlloc hK hM 31 3 [.int .i64 0, .int .i64 1, .int .i64 1, .int .i64 0, .int .i64 0, .int .i64 0, .int .i64 0, .int .i64 0, .int .i64 0, .int .i64 1, .int .i64 0] (fun b => .slice (some ⟨b, 0, none⟩) 11 11) (by kernel_rfl) (by kernel_rfl) fun b9 a w hK hM => ?_
  refine stepRet hK hM 32 #[.slice (some ⟨b7, 0, none⟩) 11 11, .slice (some ⟨b9, 0, none⟩) 11 11] (.bool true) (by kernel_rfl) (run_callE en_cantileverkit_Ints rfl rfl (by kernel_rfl)) (ret_eq (kit_Ints [0, 1, 1, 0, 0, 0, 0, 0, 0, 1, 0] [0, 1, 1, 0, 0, 0, 0, 0, 0, 1, 0] _ (HandAt.row (f := fun x => .int .i64 x) (l := [0, 1, 1, 0, 0, 0, 0, 0, 0, 1, 0]) (hM.row 1 rfl)) (HandAt.row (f := fun x => .int .i64 x) (l := [0, 1, 1, 0, 0, 0, 0, 0, 0, 1, 0]) (hM.row 0 rfl)) (by decide) (by decide)) (v' := .bool true) (by kernel_rfl)) fun a w hK hM => ?_
  refine stepP hK 33 (.bool true) (by kernel_rfl) (by kernel_rfl) fun a hK => ?_
  refine stepM hK 0 33 (by kernel_rfl) (.inr rfl) rfl fun a hK => ?_
  refine region_done hK [(0, .bool true), (1, .pointer (some ⟨b3, 0, none⟩))] ⟨rfl, rfl, trivial⟩ fun a hK => ?_
  refine wp_ret ?_
  exact ret_t hK rfl (u := (.bool true)) rfl (⟨rfl, hM.below⟩)
end Go.Proofs.YtmfiiapmkidmkaaDoor
