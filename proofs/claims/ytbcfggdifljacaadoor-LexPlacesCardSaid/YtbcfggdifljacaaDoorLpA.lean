/-
  Package lex: what sort of byte one is.
-/
import Derived.Test.YtbcfggdifljacaaDoorOps
import Derived.Test.YtbcfggdifljacaaDoorLexE
namespace Go.Proofs.YtbcfggdifljacaaDoor
open Go Go.RowKit

/-- A byte of a word, as lex asks. -/
def inWordB (c : UInt8) : Bool := isLetter c || isDigit c || (decide ((((c.toNat : Nat) : Int)) = 95))
def inLineB (c : UInt8) : Bool := !(decide ((((c.toNat : Nat) : Int)) = 10))
def isBlankB (c : UInt8) : Bool := decide ((((c.toNat : Nat) : Int)) = 32) || decide ((((c.toNat : Nat) : Int)) = 9) || decide ((((c.toNat : Nat) : Int)) = 10) || decide ((((c.toNat : Nat) : Int)) = 13)
set_option maxRecDepth 100000 in
set_option maxHeartbeats 4000000 in
theorem lex_isLetter (c : UInt8) (w0 : World) : Calls Tryd.prog 19 #[.int .u8 ((c.toNat : Nat) : Int)] w0 (Ret w0 (.bool (isLetter c))) := by
  refine calls_K (args := [.int .u8 ((c.toNat : Nat) : Int)]) (n := 17) (env := [(0, .int .u8 ((c.toNat : Nat) : Int))]) Tryd.func19 rfl rfl rfl ⟨rfl, trivial⟩ fun a w hK hM => ?_
  refine wp_seq ?_
  refine region_go (lst := [0]) (by kernel_rfl) ?_
  refine stepP hK 2 (.bool false) (by kernel_rfl) (by kernel_rfl) fun a hK => ?_
  refine region_done hK [(2, .bool false), (0, .int .u8 ((c.toNat : Nat) : Int))] ⟨rfl, rfl, trivial⟩ fun a hK => ?_
  refine wp_seq ?_
  refine region_go (lst := [0, 1, 2, 3, 4, 5, 6, 7, 8, 9, 10, 11, 12, 13, 14]) (by kernel_rfl) ?_
  refine stepM hK 3 0 (by kernel_rfl) (.inl rfl) rfl fun a hK => ?_
  by_cases h1 : (97 : Int) ≤ ((c.toNat : Nat) : Int)
  · refine stepP hK 4 (.bool true) (by kernel_rfl) (okBool (b := (decide ((97 : Int) ≤ ((c.toNat : Nat) : Int)))) (by kernel_rfl) (decide_eq_true h1)) fun a hK => ?_
    refine stepM hK 5 4 (by kernel_rfl) (.inl rfl) rfl fun a hK => ?_
    refine stepM hK 6 0 (by kernel_rfl) (.inl rfl) rfl fun a hK => ?_
    by_cases h2 : (((c.toNat : Nat) : Int) : Int) ≤ 122
    · refine stepP hK 7 (.bool true) (by kernel_rfl) (okBool (b := (decide ((((c.toNat : Nat) : Int) : Int) ≤ 122))) (by kernel_rfl) (decide_eq_true h2)) fun a hK => ?_
      refine stepP hK 8 (.bool true) (by kernel_rfl) (by kernel_rfl) fun a hK => ?_
      refine stepM hK 9 8 (by kernel_rfl) (.inl rfl) rfl fun a hK => ?_
      refine stepN hK 10 (by kernel_rfl) fun a hK => ?_
      refine stepN hK 11 (by kernel_rfl) fun a hK => ?_
      refine stepN hK 12 (by kernel_rfl) fun a hK => ?_
      refine stepN hK 13 (by kernel_rfl) fun a hK => ?_
      refine stepN hK 14 (by kernel_rfl) fun a hK => ?_
      refine stepN hK 15 (by kernel_rfl) fun a hK => ?_
      refine stepP hK 16 (.bool true) (by kernel_rfl) (by kernel_rfl) fun a hK => ?_
      refine stepM hK 2 16 (by kernel_rfl) (.inr rfl) rfl fun a hK => ?_
      refine region_done hK [(2, .bool true), (0, .int .u8 ((c.toNat : Nat) : Int))] ⟨rfl, rfl, trivial⟩ fun a hK => ?_
      refine wp_ret ?_
      exact ret_t hK rfl (u := (.bool true)) rfl (⟨congrArg Ending.returned (congrArg Value.bool (by unfold isLetter; rw [(decide_eq_true h1), (decide_eq_true h2)]; try rfl)), hM.below⟩)
    · refine stepP hK 7 (.bool false) (by kernel_rfl) (okBool (b := (decide ((((c.toNat : Nat) : Int) : Int) ≤ 122))) (by kernel_rfl) (decide_eq_false h2)) fun a hK => ?_
      refine stepP hK 8 (.bool false) (by kernel_rfl) (by kernel_rfl) fun a hK => ?_
      refine stepM hK 9 8 (by kernel_rfl) (.inl rfl) rfl fun a hK => ?_
      refine stepM hK 10 0 (by kernel_rfl) (.inl rfl) rfl fun a hK => ?_
      by_cases h3 : (65 : Int) ≤ ((c.toNat : Nat) : Int)
      · refine stepP hK 11 (.bool true) (by kernel_rfl) (okBool (b := (decide ((65 : Int) ≤ ((c.toNat : Nat) : Int)))) (by kernel_rfl) (decide_eq_true h3)) fun a hK => ?_
        refine stepM hK 12 11 (by kernel_rfl) (.inl rfl) rfl fun a hK => ?_
        refine stepM hK 13 0 (by kernel_rfl) (.inl rfl) rfl fun a hK => ?_
        by_cases h4 : (((c.toNat : Nat) : Int) : Int) ≤ 90
        · refine stepP hK 14 (.bool true) (by kernel_rfl) (okBool (b := (decide ((((c.toNat : Nat) : Int) : Int) ≤ 90))) (by kernel_rfl) (decide_eq_true h4)) fun a hK => ?_
          refine stepP hK 15 (.bool true) (by kernel_rfl) (by kernel_rfl) fun a hK => ?_
          refine stepP hK 16 (.bool true) (by kernel_rfl) (by kernel_rfl) fun a hK => ?_
          refine stepM hK 2 16 (by kernel_rfl) (.inr rfl) rfl fun a hK => ?_
          refine region_done hK [(2, .bool true), (0, .int .u8 ((c.toNat : Nat) : Int))] ⟨rfl, rfl, trivial⟩ fun a hK => ?_
          refine wp_ret ?_
          exact ret_t hK rfl (u := (.bool true)) rfl (⟨congrArg Ending.returned (congrArg Value.bool (by unfold isLetter; rw [(decide_eq_true h1), (decide_eq_false h2), (decide_eq_true h3), (decide_eq_true h4)]; try rfl)), hM.below⟩)
        · refine stepP hK 14 (.bool false) (by kernel_rfl) (okBool (b := (decide ((((c.toNat : Nat) : Int) : Int) ≤ 90))) (by kernel_rfl) (decide_eq_false h4)) fun a hK => ?_
          refine stepP hK 15 (.bool false) (by kernel_rfl) (by kernel_rfl) fun a hK => ?_
          refine stepP hK 16 (.bool false) (by kernel_rfl) (by kernel_rfl) fun a hK => ?_
          refine stepM hK 2 16 (by kernel_rfl) (.inr rfl) rfl fun a hK => ?_
          refine region_done hK [(2, .bool false), (0, .int .u8 ((c.toNat : Nat) : Int))] ⟨rfl, rfl, trivial⟩ fun a hK => ?_
          refine wp_ret ?_
          exact ret_t hK rfl (u := (.bool false)) rfl (⟨congrArg Ending.returned (congrArg Value.bool (by unfold isLetter; rw [(decide_eq_true h1), (decide_eq_false h2), (decide_eq_true h3), (decide_eq_false h4)]; try rfl)), hM.below⟩)
      · refine stepP hK 11 (.bool false) (by kernel_rfl) (okBool (b := (decide ((65 : Int) ≤ ((c.toNat : Nat) : Int)))) (by kernel_rfl) (decide_eq_false h3)) fun a hK => ?_
        refine stepM hK 12 11 (by kernel_rfl) (.inl rfl) rfl fun a hK => ?_
        refine stepN hK 13 (by kernel_rfl) fun a hK => ?_
        refine stepN hK 14 (by kernel_rfl) fun a hK => ?_
        refine stepP hK 15 (.bool false) (by kernel_rfl) (by kernel_rfl) fun a hK => ?_
        refine stepP hK 16 (.bool false) (by kernel_rfl) (by kernel_rfl) fun a hK => ?_
        refine stepM hK 2 16 (by kernel_rfl) (.inr rfl) rfl fun a hK => ?_
        refine region_done hK [(2, .bool false), (0, .int .u8 ((c.toNat : Nat) : Int))] ⟨rfl, rfl, trivial⟩ fun a hK => ?_
        refine wp_ret ?_
        exact ret_t hK rfl (u := (.bool false)) rfl (⟨congrArg Ending.returned (congrArg Value.bool (by unfold isLetter; rw [(decide_eq_true h1), (decide_eq_false h2), (decide_eq_false h3)]; try rfl)), hM.below⟩)
  · refine stepP hK 4 (.bool false) (by kernel_rfl) (okBool (b := (decide ((97 : Int) ≤ ((c.toNat : Nat) : Int)))) (by kernel_rfl) (decide_eq_false h1)) fun a hK => ?_
    refine stepM hK 5 4 (by kernel_rfl) (.inl rfl) rfl fun a hK => ?_
    refine stepN hK 6 (by kernel_rfl) fun a hK => ?_
    refine stepN hK 7 (by kernel_rfl) fun a hK => ?_
    refine stepP hK 8 (.bool false) (by kernel_rfl) (by kernel_rfl) fun a hK => ?_
    refine stepM hK 9 8 (by kernel_rfl) (.inl rfl) rfl fun a hK => ?_
    refine stepM hK 10 0 (by kernel_rfl) (.inl rfl) rfl fun a hK => ?_
    by_cases h5 : (65 : Int) ≤ ((c.toNat : Nat) : Int)
    · refine stepP hK 11 (.bool true) (by kernel_rfl) (okBool (b := (decide ((65 : Int) ≤ ((c.toNat : Nat) : Int)))) (by kernel_rfl) (decide_eq_true h5)) fun a hK => ?_
      refine stepM hK 12 11 (by kernel_rfl) (.inl rfl) rfl fun a hK => ?_
      refine stepM hK 13 0 (by kernel_rfl) (.inl rfl) rfl fun a hK => ?_
      by_cases h6 : (((c.toNat : Nat) : Int) : Int) ≤ 90
      · refine stepP hK 14 (.bool true) (by kernel_rfl) (okBool (b := (decide ((((c.toNat : Nat) : Int) : Int) ≤ 90))) (by kernel_rfl) (decide_eq_true h6)) fun a hK => ?_
        refine stepP hK 15 (.bool true) (by kernel_rfl) (by kernel_rfl) fun a hK => ?_
        refine stepP hK 16 (.bool true) (by kernel_rfl) (by kernel_rfl) fun a hK => ?_
        refine stepM hK 2 16 (by kernel_rfl) (.inr rfl) rfl fun a hK => ?_
        refine region_done hK [(2, .bool true), (0, .int .u8 ((c.toNat : Nat) : Int))] ⟨rfl, rfl, trivial⟩ fun a hK => ?_
        refine wp_ret ?_
        exact ret_t hK rfl (u := (.bool true)) rfl (⟨congrArg Ending.returned (congrArg Value.bool (by unfold isLetter; rw [(decide_eq_false h1), (decide_eq_true h5), (decide_eq_true h6)]; try rfl)), hM.below⟩)
      · refine stepP hK 14 (.bool false) (by kernel_rfl) (okBool (b := (decide ((((c.toNat : Nat) : Int) : Int) ≤ 90))) (by kernel_rfl) (decide_eq_false h6)) fun a hK => ?_
        refine stepP hK 15 (.bool false) (by kernel_rfl) (by kernel_rfl) fun a hK => ?_
        refine stepP hK 16 (.bool false) (by kernel_rfl) (by kernel_rfl) fun a hK => ?_
        refine stepM hK 2 16 (by kernel_rfl) (.inr rfl) rfl fun a hK => ?_
        refine region_done hK [(2, .bool false), (0, .int .u8 ((c.toNat : Nat) : Int))] ⟨rfl, rfl, trivial⟩ fun a hK => ?_
        refine wp_ret ?_
        exact ret_t hK rfl (u := (.bool false)) rfl (⟨congrArg Ending.returned (congrArg Value.bool (by unfold isLetter; rw [(decide_eq_false h1), (decide_eq_true h5), (decide_eq_false h6)]; try rfl)), hM.below⟩)
    · refine stepP hK 11 (.bool false) (by kernel_rfl) (okBool (b := (decide ((65 : Int) ≤ ((c.toNat : Nat) : Int)))) (by kernel_rfl) (decide_eq_false h5)) fun a hK => ?_
      refine stepM hK 12 11 (by kernel_rfl) (.inl rfl) rfl fun a hK => ?_
      refine stepN hK 13 (by kernel_rfl) fun a hK => ?_
      refine stepN hK 14 (by kernel_rfl) fun a hK => ?_
      refine stepP hK 15 (.bool false) (by kernel_rfl) (by kernel_rfl) fun a hK => ?_
      refine stepP hK 16 (.bool false) (by kernel_rfl) (by kernel_rfl) fun a hK => ?_
      refine stepM hK 2 16 (by kernel_rfl) (.inr rfl) rfl fun a hK => ?_
      refine region_done hK [(2, .bool false), (0, .int .u8 ((c.toNat : Nat) : Int))] ⟨rfl, rfl, trivial⟩ fun a hK => ?_
      refine wp_ret ?_
      exact ret_t hK rfl (u := (.bool false)) rfl (⟨congrArg Ending.returned (congrArg Value.bool (by unfold isLetter; rw [(decide_eq_false h1), (decide_eq_false h5)]; try rfl)), hM.below⟩)
theorem en_lex_isLetter : Enters Tryd.prog 19 := enters_of Tryd.func19 (by kernel_rfl) rfl
set_option maxRecDepth 100000 in
set_option maxHeartbeats 4000000 in
theorem lex_isDigit (c : UInt8) (w0 : World) : Calls Tryd.prog 36 #[.int .u8 ((c.toNat : Nat) : Int)] w0 (Ret w0 (.bool (isDigit c))) := by
  refine calls_K (args := [.int .u8 ((c.toNat : Nat) : Int)]) (n := 9) (env := [(0, .int .u8 ((c.toNat : Nat) : Int))]) Tryd.func36 rfl rfl rfl ⟨rfl, trivial⟩ fun a w hK hM => ?_
  refine wp_seq ?_
  refine region_go (lst := [0]) (by kernel_rfl) ?_
  refine stepP hK 2 (.bool false) (by kernel_rfl) (by kernel_rfl) fun a hK => ?_
  refine region_done hK [(2, .bool false), (0, .int .u8 ((c.toNat : Nat) : Int))] ⟨rfl, rfl, trivial⟩ fun a hK => ?_
  refine wp_seq ?_
  refine region_go (lst := [0, 1, 2, 3, 4, 5, 6]) (by kernel_rfl) ?_
  refine stepM hK 3 0 (by kernel_rfl) (.inl rfl) rfl fun a hK => ?_
  by_cases h1 : (48 : Int) ≤ ((c.toNat : Nat) : Int)
  · refine stepP hK 4 (.bool true) (by kernel_rfl) (okBool (b := (decide ((48 : Int) ≤ ((c.toNat : Nat) : Int)))) (by kernel_rfl) (decide_eq_true h1)) fun a hK => ?_
    refine stepM hK 5 4 (by kernel_rfl) (.inl rfl) rfl fun a hK => ?_
    refine stepM hK 6 0 (by kernel_rfl) (.inl rfl) rfl fun a hK => ?_
    by_cases h2 : (((c.toNat : Nat) : Int) : Int) ≤ 57
    · refine stepP hK 7 (.bool true) (by kernel_rfl) (okBool (b := (decide ((((c.toNat : Nat) : Int) : Int) ≤ 57))) (by kernel_rfl) (decide_eq_true h2)) fun a hK => ?_
      refine stepP hK 8 (.bool true) (by kernel_rfl) (by kernel_rfl) fun a hK => ?_
      refine stepM hK 2 8 (by kernel_rfl) (.inr rfl) rfl fun a hK => ?_
      refine region_done hK [(2, .bool true), (0, .int .u8 ((c.toNat : Nat) : Int))] ⟨rfl, rfl, trivial⟩ fun a hK => ?_
      refine wp_ret ?_
      exact ret_t hK rfl (u := (.bool true)) rfl (⟨congrArg Ending.returned (congrArg Value.bool (by unfold isDigit; rw [(decide_eq_true h1), (decide_eq_true h2)]; try rfl)), hM.below⟩)
    · refine stepP hK 7 (.bool false) (by kernel_rfl) (okBool (b := (decide ((((c.toNat : Nat) : Int) : Int) ≤ 57))) (by kernel_rfl) (decide_eq_false h2)) fun a hK => ?_
      refine stepP hK 8 (.bool false) (by kernel_rfl) (by kernel_rfl) fun a hK => ?_
      refine stepM hK 2 8 (by kernel_rfl) (.inr rfl) rfl fun a hK => ?_
      refine region_done hK [(2, .bool false), (0, .int .u8 ((c.toNat : Nat) : Int))] ⟨rfl, rfl, trivial⟩ fun a hK => ?_
      refine wp_ret ?_
      exact ret_t hK rfl (u := (.bool false)) rfl (⟨congrArg Ending.returned (congrArg Value.bool (by unfold isDigit; rw [(decide_eq_true h1), (decide_eq_false h2)]; try rfl)), hM.below⟩)
  · refine stepP hK 4 (.bool false) (by kernel_rfl) (okBool (b := (decide ((48 : Int) ≤ ((c.toNat : Nat) : Int)))) (by kernel_rfl) (decide_eq_false h1)) fun a hK => ?_
    refine stepM hK 5 4 (by kernel_rfl) (.inl rfl) rfl fun a hK => ?_
    refine stepN hK 6 (by kernel_rfl) fun a hK => ?_
    refine stepN hK 7 (by kernel_rfl) fun a hK => ?_
    refine stepP hK 8 (.bool false) (by kernel_rfl) (by kernel_rfl) fun a hK => ?_
    refine stepM hK 2 8 (by kernel_rfl) (.inr rfl) rfl fun a hK => ?_
    refine region_done hK [(2, .bool false), (0, .int .u8 ((c.toNat : Nat) : Int))] ⟨rfl, rfl, trivial⟩ fun a hK => ?_
    refine wp_ret ?_
    exact ret_t hK rfl (u := (.bool false)) rfl (⟨congrArg Ending.returned (congrArg Value.bool (by unfold isDigit; rw [(decide_eq_false h1)]; try rfl)), hM.below⟩)
theorem en_lex_isDigit : Enters Tryd.prog 36 := enters_of Tryd.func36 (by kernel_rfl) rfl
set_option maxRecDepth 100000 in
set_option maxHeartbeats 4000000 in
theorem lex_inWord (c : UInt8) (w0 : World) : Calls Tryd.prog 21 #[.int .u8 ((c.toNat : Nat) : Int)] w0 (Ret w0 (.bool (inWordB c))) := by
  refine calls_K (args := [.int .u8 ((c.toNat : Nat) : Int)]) (n := 13) (env := [(0, .int .u8 ((c.toNat : Nat) : Int))]) Tryd.func21 rfl rfl rfl ⟨rfl, trivial⟩ fun a w hK hM => ?_
  refine wp_seq ?_
  refine region_go (lst := [0]) (by kernel_rfl) ?_
  refine stepP hK 2 (.bool false) (by kernel_rfl) (by kernel_rfl) fun a hK => ?_
  refine region_done hK [(2, .bool false), (0, .int .u8 ((c.toNat : Nat) : Int))] ⟨rfl, rfl, trivial⟩ fun a hK => ?_
  refine wp_seq ?_
  refine region_go (lst := [0, 1, 2, 3, 4, 5, 6, 7, 8, 9, 10]) (by kernel_rfl) ?_
  refine stepM hK 3 0 (by kernel_rfl) (.inl rfl) rfl fun a hK => ?_
  rcases Bool.eq_false_or_eq_true (isLetter c) with h1 | h1
  · refine stepRet hK hM 4 #[.int .u8 ((c.toNat : Nat) : Int)] (.bool true) (by kernel_rfl) (run_callE en_lex_isLetter rfl rfl (by kernel_rfl)) (ret_eq (lex_isLetter c _) (congrArg Value.bool h1)) fun a w hK hM => ?_
    refine stepM hK 5 4 (by kernel_rfl) (.inl rfl) rfl fun a hK => ?_
    refine stepN hK 6 (by kernel_rfl) fun a hK => ?_
    refine stepN hK 7 (by kernel_rfl) fun a hK => ?_
    refine stepP hK 8 (.bool true) (by kernel_rfl) (by kernel_rfl) fun a hK => ?_
    refine stepM hK 9 8 (by kernel_rfl) (.inl rfl) rfl fun a hK => ?_
    refine stepN hK 10 (by kernel_rfl) fun a hK => ?_
    refine stepN hK 11 (by kernel_rfl) fun a hK => ?_
    refine stepP hK 12 (.bool true) (by kernel_rfl) (by kernel_rfl) fun a hK => ?_
    refine stepM hK 2 12 (by kernel_rfl) (.inr rfl) rfl fun a hK => ?_
    refine region_done hK [(2, .bool true), (0, .int .u8 ((c.toNat : Nat) : Int))] ⟨rfl, rfl, trivial⟩ fun a hK => ?_
    refine wp_ret ?_
    exact ret_t hK rfl (u := (.bool true)) rfl (⟨congrArg Ending.returned (congrArg Value.bool (by unfold inWordB; rw [h1]; try rfl)), hM.below⟩)
  · refine stepRet hK hM 4 #[.int .u8 ((c.toNat : Nat) : Int)] (.bool false) (by kernel_rfl) (run_callE en_lex_isLetter rfl rfl (by kernel_rfl)) (ret_eq (lex_isLetter c _) (congrArg Value.bool h1)) fun a w hK hM => ?_
    refine stepM hK 5 4 (by kernel_rfl) (.inl rfl) rfl fun a hK => ?_
    refine stepM hK 6 0 (by kernel_rfl) (.inl rfl) rfl fun a hK => ?_
    rcases Bool.eq_false_or_eq_true (isDigit c) with h2 | h2
    · refine stepRet hK hM 7 #[.int .u8 ((c.toNat : Nat) : Int)] (.bool true) (by kernel_rfl) (run_callE en_lex_isDigit rfl rfl (by kernel_rfl)) (ret_eq (lex_isDigit c _) (congrArg Value.bool h2)) fun a w hK hM => ?_
      refine stepP hK 8 (.bool true) (by kernel_rfl) (by kernel_rfl) fun a hK => ?_
      refine stepM hK 9 8 (by kernel_rfl) (.inl rfl) rfl fun a hK => ?_
      refine stepN hK 10 (by kernel_rfl) fun a hK => ?_
      refine stepN hK 11 (by kernel_rfl) fun a hK => ?_
      refine stepP hK 12 (.bool true) (by kernel_rfl) (by kernel_rfl) fun a hK => ?_
      refine stepM hK 2 12 (by kernel_rfl) (.inr rfl) rfl fun a hK => ?_
      refine region_done hK [(2, .bool true), (0, .int .u8 ((c.toNat : Nat) : Int))] ⟨rfl, rfl, trivial⟩ fun a hK => ?_
      refine wp_ret ?_
      exact ret_t hK rfl (u := (.bool true)) rfl (⟨congrArg Ending.returned (congrArg Value.bool (by unfold inWordB; rw [h1, h2]; try rfl)), hM.below⟩)
    · refine stepRet hK hM 7 #[.int .u8 ((c.toNat : Nat) : Int)] (.bool false) (by kernel_rfl) (run_callE en_lex_isDigit rfl rfl (by kernel_rfl)) (ret_eq (lex_isDigit c _) (congrArg Value.bool h2)) fun a w hK hM => ?_
      refine stepP hK 8 (.bool false) (by kernel_rfl) (by kernel_rfl) fun a hK => ?_
      refine stepM hK 9 8 (by kernel_rfl) (.inl rfl) rfl fun a hK => ?_
      refine stepM hK 10 0 (by kernel_rfl) (.inl rfl) rfl fun a hK => ?_
      by_cases h3 : (((c.toNat : Nat) : Int) : Int) = 95
      · refine stepP hK 11 (.bool true) (by kernel_rfl) (okBool (b := (decide ((((c.toNat : Nat) : Int) : Int) = 95))) (by kernel_rfl) (decide_eq_true h3)) fun a hK => ?_
        refine stepP hK 12 (.bool true) (by kernel_rfl) (by kernel_rfl) fun a hK => ?_
        refine stepM hK 2 12 (by kernel_rfl) (.inr rfl) rfl fun a hK => ?_
        refine region_done hK [(2, .bool true), (0, .int .u8 ((c.toNat : Nat) : Int))] ⟨rfl, rfl, trivial⟩ fun a hK => ?_
        refine wp_ret ?_
        exact ret_t hK rfl (u := (.bool true)) rfl (⟨congrArg Ending.returned (congrArg Value.bool (by unfold inWordB; rw [h1, h2, (decide_eq_true h3)]; try rfl)), hM.below⟩)
      · refine stepP hK 11 (.bool false) (by kernel_rfl) (okBool (b := (decide ((((c.toNat : Nat) : Int) : Int) = 95))) (by kernel_rfl) (decide_eq_false h3)) fun a hK => ?_
        refine stepP hK 12 (.bool false) (by kernel_rfl) (by kernel_rfl) fun a hK => ?_
        refine stepM hK 2 12 (by kernel_rfl) (.inr rfl) rfl fun a hK => ?_
        refine region_done hK [(2, .bool false), (0, .int .u8 ((c.toNat : Nat) : Int))] ⟨rfl, rfl, trivial⟩ fun a hK => ?_
        refine wp_ret ?_
        exact ret_t hK rfl (u := (.bool false)) rfl (⟨congrArg Ending.returned (congrArg Value.bool (by unfold inWordB; rw [h1, h2, (decide_eq_false h3)]; try rfl)), hM.below⟩)
theorem en_lex_inWord : Enters Tryd.prog 21 := enters_of Tryd.func21 (by kernel_rfl) rfl
set_option maxRecDepth 100000 in
set_option maxHeartbeats 4000000 in
theorem lex_isBlank (c : UInt8) (w0 : World) : Calls Tryd.prog 37 #[.int .u8 ((c.toNat : Nat) : Int)] w0 (Ret w0 (.bool (isBlankB c))) := by
  refine calls_K (args := [.int .u8 ((c.toNat : Nat) : Int)]) (n := 17) (env := [(0, .int .u8 ((c.toNat : Nat) : Int))]) Tryd.func37 rfl rfl rfl ⟨rfl, trivial⟩ fun a w hK hM => ?_
  refine wp_seq ?_
  refine region_go (lst := [0]) (by kernel_rfl) ?_
  refine stepP hK 2 (.bool false) (by kernel_rfl) (by kernel_rfl) fun a hK => ?_
  refine region_done hK [(2, .bool false), (0, .int .u8 ((c.toNat : Nat) : Int))] ⟨rfl, rfl, trivial⟩ fun a hK => ?_
  refine wp_seq ?_
  refine region_go (lst := [0, 1, 2, 3, 4, 5, 6, 7, 8, 9, 10, 11, 12, 13, 14]) (by kernel_rfl) ?_
  refine stepM hK 3 0 (by kernel_rfl) (.inl rfl) rfl fun a hK => ?_
  by_cases h1 : (((c.toNat : Nat) : Int) : Int) = 32
  · refine stepP hK 4 (.bool true) (by kernel_rfl) (okBool (b := (decide ((((c.toNat : Nat) : Int) : Int) = 32))) (by kernel_rfl) (decide_eq_true h1)) fun a hK => ?_
    refine stepM hK 5 4 (by kernel_rfl) (.inl rfl) rfl fun a hK => ?_
    refine stepN hK 6 (by kernel_rfl) fun a hK => ?_
    refine stepN hK 7 (by kernel_rfl) fun a hK => ?_
    refine stepP hK 8 (.bool true) (by kernel_rfl) (by kernel_rfl) fun a hK => ?_
    refine stepM hK 9 8 (by kernel_rfl) (.inl rfl) rfl fun a hK => ?_
    refine stepN hK 10 (by kernel_rfl) fun a hK => ?_
    refine stepN hK 11 (by kernel_rfl) fun a hK => ?_
    refine stepP hK 12 (.bool true) (by kernel_rfl) (by kernel_rfl) fun a hK => ?_
    refine stepM hK 13 12 (by kernel_rfl) (.inl rfl) rfl fun a hK => ?_
    refine stepN hK 14 (by kernel_rfl) fun a hK => ?_
    refine stepN hK 15 (by kernel_rfl) fun a hK => ?_
    refine stepP hK 16 (.bool true) (by kernel_rfl) (by kernel_rfl) fun a hK => ?_
    refine stepM hK 2 16 (by kernel_rfl) (.inr rfl) rfl fun a hK => ?_
    refine region_done hK [(2, .bool true), (0, .int .u8 ((c.toNat : Nat) : Int))] ⟨rfl, rfl, trivial⟩ fun a hK => ?_
    refine wp_ret ?_
    exact ret_t hK rfl (u := (.bool true)) rfl (⟨congrArg Ending.returned (congrArg Value.bool (by unfold isBlankB; rw [(decide_eq_true h1)]; try rfl)), hM.below⟩)
  · refine stepP hK 4 (.bool false) (by kernel_rfl) (okBool (b := (decide ((((c.toNat : Nat) : Int) : Int) = 32))) (by kernel_rfl) (decide_eq_false h1)) fun a hK => ?_
    refine stepM hK 5 4 (by kernel_rfl) (.inl rfl) rfl fun a hK => ?_
    refine stepM hK 6 0 (by kernel_rfl) (.inl rfl) rfl fun a hK => ?_
    by_cases h2 : (((c.toNat : Nat) : Int) : Int) = 9
    · refine stepP hK 7 (.bool true) (by kernel_rfl) (okBool (b := (decide ((((c.toNat : Nat) : Int) : Int) = 9))) (by kernel_rfl) (decide_eq_true h2)) fun a hK => ?_
      refine stepP hK 8 (.bool true) (by kernel_rfl) (by kernel_rfl) fun a hK => ?_
      refine stepM hK 9 8 (by kernel_rfl) (.inl rfl) rfl fun a hK => ?_
      refine stepN hK 10 (by kernel_rfl) fun a hK => ?_
      refine stepN hK 11 (by kernel_rfl) fun a hK => ?_
      refine stepP hK 12 (.bool true) (by kernel_rfl) (by kernel_rfl) fun a hK => ?_
      refine stepM hK 13 12 (by kernel_rfl) (.inl rfl) rfl fun a hK => ?_
      refine stepN hK 14 (by kernel_rfl) fun a hK => ?_
      refine stepN hK 15 (by kernel_rfl) fun a hK => ?_
      refine stepP hK 16 (.bool true) (by kernel_rfl) (by kernel_rfl) fun a hK => ?_
      refine stepM hK 2 16 (by kernel_rfl) (.inr rfl) rfl fun a hK => ?_
      refine region_done hK [(2, .bool true), (0, .int .u8 ((c.toNat : Nat) : Int))] ⟨rfl, rfl, trivial⟩ fun a hK => ?_
      refine wp_ret ?_
      exact ret_t hK rfl (u := (.bool true)) rfl (⟨congrArg Ending.returned (congrArg Value.bool (by unfold isBlankB; rw [(decide_eq_false h1), (decide_eq_true h2)]; try rfl)), hM.below⟩)
    · refine stepP hK 7 (.bool false) (by kernel_rfl) (okBool (b := (decide ((((c.toNat : Nat) : Int) : Int) = 9))) (by kernel_rfl) (decide_eq_false h2)) fun a hK => ?_
      refine stepP hK 8 (.bool false) (by kernel_rfl) (by kernel_rfl) fun a hK => ?_
      refine stepM hK 9 8 (by kernel_rfl) (.inl rfl) rfl fun a hK => ?_
      refine stepM hK 10 0 (by kernel_rfl) (.inl rfl) rfl fun a hK => ?_
      by_cases h3 : (((c.toNat : Nat) : Int) : Int) = 10
      · refine stepP hK 11 (.bool true) (by kernel_rfl) (okBool (b := (decide ((((c.toNat : Nat) : Int) : Int) = 10))) (by kernel_rfl) (decide_eq_true h3)) fun a hK => ?_
        refine stepP hK 12 (.bool true) (by kernel_rfl) (by kernel_rfl) fun a hK => ?_
        refine stepM hK 13 12 (by kernel_rfl) (.inl rfl) rfl fun a hK => ?_
        refine stepN hK 14 (by kernel_rfl) fun a hK => ?_
        refine stepN hK 15 (by kernel_rfl) fun a hK => ?_
        refine stepP hK 16 (.bool true) (by kernel_rfl) (by kernel_rfl) fun a hK => ?_
        refine stepM hK 2 16 (by kernel_rfl) (.inr rfl) rfl fun a hK => ?_
        refine region_done hK [(2, .bool true), (0, .int .u8 ((c.toNat : Nat) : Int))] ⟨rfl, rfl, trivial⟩ fun a hK => ?_
        refine wp_ret ?_
        exact ret_t hK rfl (u := (.bool true)) rfl (⟨congrArg Ending.returned (congrArg Value.bool (by unfold isBlankB; rw [(decide_eq_false h1), (decide_eq_false h2), (decide_eq_true h3)]; try rfl)), hM.below⟩)
      · refine stepP hK 11 (.bool false) (by kernel_rfl) (okBool (b := (decide ((((c.toNat : Nat) : Int) : Int) = 10))) (by kernel_rfl) (decide_eq_false h3)) fun a hK => ?_
        refine stepP hK 12 (.bool false) (by kernel_rfl) (by kernel_rfl) fun a hK => ?_
        refine stepM hK 13 12 (by kernel_rfl) (.inl rfl) rfl fun a hK => ?_
        refine stepM hK 14 0 (by kernel_rfl) (.inl rfl) rfl fun a hK => ?_
        by_cases h4 : (((c.toNat : Nat) : Int) : Int) = 13
        · refine stepP hK 15 (.bool true) (by kernel_rfl) (okBool (b := (decide ((((c.toNat : Nat) : Int) : Int) = 13))) (by kernel_rfl) (decide_eq_true h4)) fun a hK => ?_
          refine stepP hK 16 (.bool true) (by kernel_rfl) (by kernel_rfl) fun a hK => ?_
          refine stepM hK 2 16 (by kernel_rfl) (.inr rfl) rfl fun a hK => ?_
          refine region_done hK [(2, .bool true), (0, .int .u8 ((c.toNat : Nat) : Int))] ⟨rfl, rfl, trivial⟩ fun a hK => ?_
          refine wp_ret ?_
          exact ret_t hK rfl (u := (.bool true)) rfl (⟨congrArg Ending.returned (congrArg Value.bool (by unfold isBlankB; rw [(decide_eq_false h1), (decide_eq_false h2), (decide_eq_false h3), (decide_eq_true h4)]; try rfl)), hM.below⟩)
        · refine stepP hK 15 (.bool false) (by kernel_rfl) (okBool (b := (decide ((((c.toNat : Nat) : Int) : Int) = 13))) (by kernel_rfl) (decide_eq_false h4)) fun a hK => ?_
          refine stepP hK 16 (.bool false) (by kernel_rfl) (by kernel_rfl) fun a hK => ?_
          refine stepM hK 2 16 (by kernel_rfl) (.inr rfl) rfl fun a hK => ?_
          refine region_done hK [(2, .bool false), (0, .int .u8 ((c.toNat : Nat) : Int))] ⟨rfl, rfl, trivial⟩ fun a hK => ?_
          refine wp_ret ?_
          exact ret_t hK rfl (u := (.bool false)) rfl (⟨congrArg Ending.returned (congrArg Value.bool (by unfold isBlankB; rw [(decide_eq_false h1), (decide_eq_false h2), (decide_eq_false h3), (decide_eq_false h4)]; try rfl)), hM.below⟩)
theorem en_lex_isBlank : Enters Tryd.prog 37 := enters_of Tryd.func37 (by kernel_rfl) rfl
set_option maxRecDepth 100000 in
set_option maxHeartbeats 4000000 in
theorem lex_inLine (c : UInt8) (w0 : World) : Calls Tryd.prog 39 #[.int .u8 ((c.toNat : Nat) : Int)] w0 (Ret w0 (.bool (inLineB c))) := by
  refine calls_K (args := [.int .u8 ((c.toNat : Nat) : Int)]) (n := 5) (env := [(0, .int .u8 ((c.toNat : Nat) : Int))]) Tryd.func39 rfl rfl rfl ⟨rfl, trivial⟩ fun a w hK hM => ?_
  refine wp_seq ?_
  refine region_go (lst := [0]) (by kernel_rfl) ?_
  refine stepP hK 2 (.bool false) (by kernel_rfl) (by kernel_rfl) fun a hK => ?_
  refine region_done hK [(2, .bool false), (0, .int .u8 ((c.toNat : Nat) : Int))] ⟨rfl, rfl, trivial⟩ fun a hK => ?_
  refine wp_seq ?_
  refine region_go (lst := [0, 1, 2]) (by kernel_rfl) ?_
  refine stepM hK 3 0 (by kernel_rfl) (.inl rfl) rfl fun a hK => ?_
  rcases Bool.eq_false_or_eq_true (!(decide ((((c.toNat : Nat) : Int) : Int) = 10))) with h1 | h1
  · refine stepP hK 4 (.bool true) (by kernel_rfl) (okBool (b := (!(decide ((((c.toNat : Nat) : Int) : Int) = 10)))) (by kernel_rfl) h1) fun a hK => ?_
    refine stepM hK 2 4 (by kernel_rfl) (.inr rfl) rfl fun a hK => ?_
    refine region_done hK [(2, .bool true), (0, .int .u8 ((c.toNat : Nat) : Int))] ⟨rfl, rfl, trivial⟩ fun a hK => ?_
    refine wp_ret ?_
    exact ret_t hK rfl (u := (.bool true)) rfl (⟨congrArg Ending.returned (congrArg Value.bool (by unfold inLineB; rw [h1]; try rfl)), hM.below⟩)
  · refine stepP hK 4 (.bool false) (by kernel_rfl) (okBool (b := (!(decide ((((c.toNat : Nat) : Int) : Int) = 10)))) (by kernel_rfl) h1) fun a hK => ?_
    refine stepM hK 2 4 (by kernel_rfl) (.inr rfl) rfl fun a hK => ?_
    refine region_done hK [(2, .bool false), (0, .int .u8 ((c.toNat : Nat) : Int))] ⟨rfl, rfl, trivial⟩ fun a hK => ?_
    refine wp_ret ?_
    exact ret_t hK rfl (u := (.bool false)) rfl (⟨congrArg Ending.returned (congrArg Value.bool (by unfold inLineB; rw [h1]; try rfl)), hM.below⟩)
theorem en_lex_inLine : Enters Tryd.prog 39 := enters_of Tryd.func39 (by kernel_rfl) rfl
end Go.Proofs.YtbcfggdifljacaaDoor
