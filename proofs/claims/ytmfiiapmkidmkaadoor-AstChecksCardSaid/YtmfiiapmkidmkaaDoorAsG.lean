/-
  How many kids an operator has, as the document says.
-/
import Derived.Test.YtmfiiapmkidmkaaDoorAsB
namespace Go.Proofs.YtmfiiapmkidmkaaDoor
open Go Go.RowKit

def kidsI (op : Int) : Int := if (decide (op = 1) || decide (op = 2)) = true then 0 else if (decide (op = 3) || decide (op = 4)) = true then 1 else if (decide ((5 : Int) ≤ op) && decide (op ≤ 16)) = true then 2 else -1
theorem en_cantileverref03_kids : Enters Tryd.prog 74 := enters_of Tryd.func74 (by kernel_rfl) rfl
set_option maxRecDepth 100000 in
set_option maxHeartbeats 4000000 in
theorem ref_kids (op_ : Int) (w0 : World) : Calls Tryd.prog 74 #[.int .i64 op_] w0 (Ret w0 (.int .i64 (kidsI op_))) := by
  refine calls_K (args := [.int .i64 op_]) (n := 24) (env := [(0, .int .i64 op_)]) Tryd.func74 rfl rfl rfl ⟨rfl, trivial⟩ fun a w hK hM => ?_
  refine wp_seq ?_
  refine region_go (lst := [0]) (by kernel_rfl) ?_
  refine stepP hK 2 (.int .i64 0) (by kernel_rfl) (by kernel_rfl) fun a hK => ?_
  refine region_done hK [(2, .int .i64 0), (0, .int .i64 op_)] ⟨rfl, rfl, trivial⟩ fun a hK => ?_
  refine wp_seq ?_
  refine wp_block ?_
  refine wp_seq ?_
  refine region_go (lst := [0, 1, 2, 3, 4, 5, 6]) (by kernel_rfl) ?_
  refine stepM hK 4 0 (by kernel_rfl) (.inl rfl) rfl fun a hK => ?_
  by_cases h1 : (op_ : Int) = 1
  · refine stepP hK 5 (.bool true) (by kernel_rfl) (okBool (b := (decide ((op_ : Int) = 1))) (by kernel_rfl) (decide_eq_true h1)) fun a hK => ?_
    refine stepM hK 6 5 (by kernel_rfl) (.inl rfl) rfl fun a hK => ?_
    refine stepN hK 7 (by kernel_rfl) fun a hK => ?_
    refine stepN hK 8 (by kernel_rfl) fun a hK => ?_
    refine stepP hK 9 (.bool true) (by kernel_rfl) (by kernel_rfl) fun a hK => ?_
    refine stepM hK 3 9 (by kernel_rfl) (.inr rfl) rfl fun a hK => ?_
    refine region_done hK [(3, .bool true), (2, .int .i64 0), (0, .int .i64 op_)] ⟨rfl, rfl, rfl, trivial⟩ fun a hK => ?_
    refine wp_cond_true (hK.get rfl) ?_
    refine wp_seq ?_
    refine region_go (lst := [0]) (by kernel_rfl) ?_
    refine stepP hK 2 (.int .i64 0) (by kernel_rfl) (by kernel_rfl) fun a hK => ?_
    refine region_done hK [(2, .int .i64 0), (3, .bool true), (0, .int .i64 op_)] ⟨rfl, rfl, rfl, trivial⟩ fun a hK => ?_
    refine wp_ret ?_
    exact ret_t hK rfl (u := (.int .i64 0)) rfl (⟨by unfold kidsI; rw [(decide_eq_true h1)]; rfl, hM.below⟩)
  · refine stepP hK 5 (.bool false) (by kernel_rfl) (okBool (b := (decide ((op_ : Int) = 1))) (by kernel_rfl) (decide_eq_false h1)) fun a hK => ?_
    refine stepM hK 6 5 (by kernel_rfl) (.inl rfl) rfl fun a hK => ?_
    refine stepM hK 7 0 (by kernel_rfl) (.inl rfl) rfl fun a hK => ?_
    by_cases h2 : (op_ : Int) = 2
    · refine stepP hK 8 (.bool true) (by kernel_rfl) (okBool (b := (decide ((op_ : Int) = 2))) (by kernel_rfl) (decide_eq_true h2)) fun a hK => ?_
      refine stepP hK 9 (.bool true) (by kernel_rfl) (by kernel_rfl) fun a hK => ?_
      refine stepM hK 3 9 (by kernel_rfl) (.inr rfl) rfl fun a hK => ?_
      refine region_done hK [(3, .bool true), (2, .int .i64 0), (0, .int .i64 op_)] ⟨rfl, rfl, rfl, trivial⟩ fun a hK => ?_
      refine wp_cond_true (hK.get rfl) ?_
      refine wp_seq ?_
      refine region_go (lst := [0]) (by kernel_rfl) ?_
      refine stepP hK 2 (.int .i64 0) (by kernel_rfl) (by kernel_rfl) fun a hK => ?_
      refine region_done hK [(2, .int .i64 0), (3, .bool true), (0, .int .i64 op_)] ⟨rfl, rfl, rfl, trivial⟩ fun a hK => ?_
      refine wp_ret ?_
      exact ret_t hK rfl (u := (.int .i64 0)) rfl (⟨by unfold kidsI; rw [(decide_eq_false h1), (decide_eq_true h2)]; rfl, hM.below⟩)
    · refine stepP hK 8 (.bool false) (by kernel_rfl) (okBool (b := (decide ((op_ : Int) = 2))) (by kernel_rfl) (decide_eq_false h2)) fun a hK => ?_
      refine stepP hK 9 (.bool false) (by kernel_rfl) (by kernel_rfl) fun a hK => ?_
      refine stepM hK 3 9 (by kernel_rfl) (.inr rfl) rfl fun a hK => ?_
      refine region_done hK [(3, .bool false), (2, .int .i64 0), (0, .int .i64 op_)] ⟨rfl, rfl, rfl, trivial⟩ fun a hK => ?_
      refine wp_cond_false (hK.get rfl) ?_
      refine wp_seq ?_
      refine region_go (lst := [0, 1, 2, 3, 4, 5, 6]) (by kernel_rfl) ?_
      refine stepM hK 11 0 (by kernel_rfl) (.inl rfl) rfl fun a hK => ?_
      by_cases h3 : (op_ : Int) = 3
      · refine stepP hK 12 (.bool true) (by kernel_rfl) (okBool (b := (decide ((op_ : Int) = 3))) (by kernel_rfl) (decide_eq_true h3)) fun a hK => ?_
        refine stepM hK 13 12 (by kernel_rfl) (.inl rfl) rfl fun a hK => ?_
        refine stepN hK 14 (by kernel_rfl) fun a hK => ?_
        refine stepN hK 15 (by kernel_rfl) fun a hK => ?_
        refine stepP hK 16 (.bool true) (by kernel_rfl) (by kernel_rfl) fun a hK => ?_
        refine stepM hK 10 16 (by kernel_rfl) (.inr rfl) rfl fun a hK => ?_
        refine region_done hK [(10, .bool true), (3, .bool false), (2, .int .i64 0), (0, .int .i64 op_)] ⟨rfl, rfl, rfl, rfl, trivial⟩ fun a hK => ?_
        refine wp_cond_true (hK.get rfl) ?_
        refine wp_seq ?_
        refine region_go (lst := [0]) (by kernel_rfl) ?_
        refine stepP hK 2 (.int .i64 1) (by kernel_rfl) (by kernel_rfl) fun a hK => ?_
        refine region_done hK [(2, .int .i64 1), (10, .bool true), (3, .bool false), (0, .int .i64 op_)] ⟨rfl, rfl, rfl, rfl, trivial⟩ fun a hK => ?_
        refine wp_ret ?_
        exact ret_t hK rfl (u := (.int .i64 1)) rfl (⟨by unfold kidsI; rw [(decide_eq_false h1), (decide_eq_false h2), (decide_eq_true h3)]; rfl, hM.below⟩)
      · refine stepP hK 12 (.bool false) (by kernel_rfl) (okBool (b := (decide ((op_ : Int) = 3))) (by kernel_rfl) (decide_eq_false h3)) fun a hK => ?_
        refine stepM hK 13 12 (by kernel_rfl) (.inl rfl) rfl fun a hK => ?_
        refine stepM hK 14 0 (by kernel_rfl) (.inl rfl) rfl fun a hK => ?_
        by_cases h4 : (op_ : Int) = 4
        · refine stepP hK 15 (.bool true) (by kernel_rfl) (okBool (b := (decide ((op_ : Int) = 4))) (by kernel_rfl) (decide_eq_true h4)) fun a hK => ?_
          refine stepP hK 16 (.bool true) (by kernel_rfl) (by kernel_rfl) fun a hK => ?_
          refine stepM hK 10 16 (by kernel_rfl) (.inr rfl) rfl fun a hK => ?_
          refine region_done hK [(10, .bool true), (3, .bool false), (2, .int .i64 0), (0, .int .i64 op_)] ⟨rfl, rfl, rfl, rfl, trivial⟩ fun a hK => ?_
          refine wp_cond_true (hK.get rfl) ?_
          refine wp_seq ?_
          refine region_go (lst := [0]) (by kernel_rfl) ?_
          refine stepP hK 2 (.int .i64 1) (by kernel_rfl) (by kernel_rfl) fun a hK => ?_
          refine region_done hK [(2, .int .i64 1), (10, .bool true), (3, .bool false), (0, .int .i64 op_)] ⟨rfl, rfl, rfl, rfl, trivial⟩ fun a hK => ?_
          refine wp_ret ?_
          exact ret_t hK rfl (u := (.int .i64 1)) rfl (⟨by unfold kidsI; rw [(decide_eq_false h1), (decide_eq_false h2), (decide_eq_false h3), (decide_eq_true h4)]; rfl, hM.below⟩)
        · refine stepP hK 15 (.bool false) (by kernel_rfl) (okBool (b := (decide ((op_ : Int) = 4))) (by kernel_rfl) (decide_eq_false h4)) fun a hK => ?_
          refine stepP hK 16 (.bool false) (by kernel_rfl) (by kernel_rfl) fun a hK => ?_
          refine stepM hK 10 16 (by kernel_rfl) (.inr rfl) rfl fun a hK => ?_
          refine region_done hK [(10, .bool false), (3, .bool false), (2, .int .i64 0), (0, .int .i64 op_)] ⟨rfl, rfl, rfl, rfl, trivial⟩ fun a hK => ?_
          refine wp_cond_false (hK.get rfl) ?_
          refine wp_seq ?_
          refine region_go (lst := [0, 1, 2, 3, 4, 5, 6]) (by kernel_rfl) ?_
          refine stepM hK 18 0 (by kernel_rfl) (.inl rfl) rfl fun a hK => ?_
          by_cases h5 : (5 : Int) ≤ op_
          · refine stepP hK 19 (.bool true) (by kernel_rfl) (okBool (b := (decide ((5 : Int) ≤ op_))) (by kernel_rfl) (decide_eq_true h5)) fun a hK => ?_
            refine stepM hK 20 19 (by kernel_rfl) (.inl rfl) rfl fun a hK => ?_
            refine stepM hK 21 0 (by kernel_rfl) (.inl rfl) rfl fun a hK => ?_
            by_cases h6 : (op_ : Int) ≤ 16
            · refine stepP hK 22 (.bool true) (by kernel_rfl) (okBool (b := (decide ((op_ : Int) ≤ 16))) (by kernel_rfl) (decide_eq_true h6)) fun a hK => ?_
              refine stepP hK 23 (.bool true) (by kernel_rfl) (by kernel_rfl) fun a hK => ?_
              refine stepM hK 17 23 (by kernel_rfl) (.inr rfl) rfl fun a hK => ?_
              refine region_done hK [(17, .bool true), (10, .bool false), (3, .bool false), (2, .int .i64 0), (0, .int .i64 op_)] ⟨rfl, rfl, rfl, rfl, rfl, trivial⟩ fun a hK => ?_
              refine wp_cond_true (hK.get rfl) ?_
              refine wp_seq ?_
              refine region_go (lst := [0]) (by kernel_rfl) ?_
              refine stepP hK 2 (.int .i64 2) (by kernel_rfl) (by kernel_rfl) fun a hK => ?_
              refine region_done hK [(2, .int .i64 2), (17, .bool true), (10, .bool false), (3, .bool false), (0, .int .i64 op_)] ⟨rfl, rfl, rfl, rfl, rfl, trivial⟩ fun a hK => ?_
              refine wp_ret ?_
              exact ret_t hK rfl (u := (.int .i64 2)) rfl (⟨by unfold kidsI; rw [(decide_eq_false h1), (decide_eq_false h2), (decide_eq_false h3), (decide_eq_false h4), (decide_eq_true h5), (decide_eq_true h6)]; rfl, hM.below⟩)
            · refine stepP hK 22 (.bool false) (by kernel_rfl) (okBool (b := (decide ((op_ : Int) ≤ 16))) (by kernel_rfl) (decide_eq_false h6)) fun a hK => ?_
              refine stepP hK 23 (.bool false) (by kernel_rfl) (by kernel_rfl) fun a hK => ?_
              refine stepM hK 17 23 (by kernel_rfl) (.inr rfl) rfl fun a hK => ?_
              refine region_done hK [(17, .bool false), (10, .bool false), (3, .bool false), (2, .int .i64 0), (0, .int .i64 op_)] ⟨rfl, rfl, rfl, rfl, rfl, trivial⟩ fun a hK => ?_
              refine wp_cond_false (hK.get rfl) ?_
              refine wp_skip ?_
              refine wp_seq ?_
              refine region_go (lst := [0]) (by kernel_rfl) ?_
              refine stepP hK 2 (.int .i64 (-1)) (by kernel_rfl) (by kernel_rfl) fun a hK => ?_
              refine region_done hK [(2, .int .i64 (-1)), (17, .bool false), (10, .bool false), (3, .bool false), (0, .int .i64 op_)] ⟨rfl, rfl, rfl, rfl, rfl, trivial⟩ fun a hK => ?_
              refine wp_ret ?_
              exact ret_t hK rfl (u := (.int .i64 (-1))) rfl (⟨by unfold kidsI; rw [(decide_eq_false h1), (decide_eq_false h2), (decide_eq_false h3), (decide_eq_false h4), (decide_eq_true h5), (decide_eq_false h6)]; rfl, hM.below⟩)
          · refine stepP hK 19 (.bool false) (by kernel_rfl) (okBool (b := (decide ((5 : Int) ≤ op_))) (by kernel_rfl) (decide_eq_false h5)) fun a hK => ?_
            refine stepM hK 20 19 (by kernel_rfl) (.inl rfl) rfl fun a hK => ?_
            refine stepN hK 21 (by kernel_rfl) fun a hK => ?_
            refine stepN hK 22 (by kernel_rfl) fun a hK => ?_
            refine stepP hK 23 (.bool false) (by kernel_rfl) (by kernel_rfl) fun a hK => ?_
            refine stepM hK 17 23 (by kernel_rfl) (.inr rfl) rfl fun a hK => ?_
            refine region_done hK [(17, .bool false), (10, .bool false), (3, .bool false), (2, .int .i64 0), (0, .int .i64 op_)] ⟨rfl, rfl, rfl, rfl, rfl, trivial⟩ fun a hK => ?_
            refine wp_cond_false (hK.get rfl) ?_
            refine wp_skip ?_
            refine wp_seq ?_
            refine region_go (lst := [0]) (by kernel_rfl) ?_
            refine stepP hK 2 (.int .i64 (-1)) (by kernel_rfl) (by kernel_rfl) fun a hK => ?_
            refine region_done hK [(2, .int .i64 (-1)), (17, .bool false), (10, .bool false), (3, .bool false), (0, .int .i64 op_)] ⟨rfl, rfl, rfl, rfl, rfl, trivial⟩ fun a hK => ?_
            refine wp_ret ?_
            exact ret_t hK rfl (u := (.int .i64 (-1))) rfl (⟨by unfold kidsI; rw [(decide_eq_false h1), (decide_eq_false h2), (decide_eq_false h3), (decide_eq_false h4), (decide_eq_false h5)]; rfl, hM.below⟩)
end Go.Proofs.YtmfiiapmkidmkaaDoor
