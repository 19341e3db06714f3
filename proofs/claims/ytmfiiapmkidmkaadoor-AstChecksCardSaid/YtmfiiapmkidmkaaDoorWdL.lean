/-
 Package lex's Word.
-/
import Derived.Test.YtmfiiapmkidmkaaDoorWdR
import Derived.Test.YtmfiiapmkidmkaaDoorMaps
namespace Go.Proofs.YtmfiiapmkidmkaaDoor
open Go Go.RowKit
/-- A byte that may stand in a word. -/
def wordB (c : UInt8) : Bool := isLetter c || (isDigit c || (((c.toNat : Nat) : Int) == 95))
theorem take_of_all {P : UInt8 → Bool} : ∀ (r : List UInt8) (n : Nat), n ≤ r.length → (∀ j c, j < n → r[j]? = some c → P c = true) → (∀ c, r[n]? = some c → P c = false) → r.take n = r.takeWhile P := by
 intro r
 induction r with
 | nil => intro n _ _ _; simp
 | cons c r ih =>
  intro n hn h1 h2
  cases n with
  | zero => rw [List.takeWhile_cons, if_neg (by rw [h2 c rfl]; decide)]; rfl
  | succ n =>
   rw [List.takeWhile_cons, if_pos (h1 0 c (by omega) rfl), List.take_succ_cons, ih n (by simpa using hn) (fun j d hj hd => h1 (j + 1) d (by omega) (by simpa using hd)) (fun d hd => h2 d (by simpa using hd))]
/-- A byte of a word, as lex asks. -/
def inWordB (c : UInt8) : Bool := isLetter c || isDigit c || (decide ((((c.toNat : Nat) : Int)) = 95))
set_option maxRecDepth 100000 in
set_option maxHeartbeats 4000000 in
theorem lex_isLetter (c : UInt8) (w0 : World) : Calls Tryd.prog 96 #[.int .u8 ((c.toNat : Nat) : Int)] w0 (Ret w0 (.bool (isLetter c))) := by
 refine calls_K (args := [.int .u8 ((c.toNat : Nat) : Int)]) (n := 17) (env := [(0, .int .u8 ((c.toNat : Nat) : Int))]) Tryd.func96 rfl rfl rfl ⟨rfl, trivial⟩ fun a w hK hM => ?_
 refine wp_seq ?_
 refine region_go (lst := [0]) (by kernel_rfl) ?_
 refine stepP hK 2 (.bool false) (by kernel_rfl) (by kernel_rfl) fun a hK => ?_
 refine region_done hK [(2, .bool false), (0, .int .u8 ((c.toNat : Nat) : Int))] ⟨rfl, rfl, trivial⟩ fun a hK => ?_
 refine wp_seq ?_
 refine region_go (lst := [0, 1, 2, 3, 4, 5, 6, 7, 8, 9, 10, 11, 12, 13, 14]) (by kernel_rfl) ?_
 refine stepM hK 3 0 (by kernel_rfl) (.inl rfl) rfl fun a hK => ?_
 by_cases h1 : (97 : Int) ≤ ((c.toNat : Nat) : Int)
 ·refine stepP hK 4 (.bool true) (by kernel_rfl) (okBool (b := (decide ((97 : Int) ≤ ((c.toNat : Nat) : Int)))) (by kernel_rfl) (decide_eq_true h1)) fun a hK => ?_
  refine stepM hK 5 4 (by kernel_rfl) (.inl rfl) rfl fun a hK => ?_
  refine stepM hK 6 0 (by kernel_rfl) (.inl rfl) rfl fun a hK => ?_
  by_cases h2 : (((c.toNat : Nat) : Int) : Int) ≤ 122
  ·refine stepP hK 7 (.bool true) (by kernel_rfl) (okBool (b := (decide ((((c.toNat : Nat) : Int) : Int) ≤ 122))) (by kernel_rfl) (decide_eq_true h2)) fun a hK => ?_
   refine stepP hK 8 (.bool true) (by kernel_rfl) (by kernel_rfl) fun a hK => ?_
   refine stepM hK 9 8 (by kernel_rfl) (.inl rfl) rfl fun a hK => ?_
   refine stepN hK 10 (by kernel_rfl) fun a hK => ?_
   refine stepN hK 11 (by kernel_rfl) fun a hK => ?_
   refine stepN hK 12 (by kernel_rfl) fun a hK => ?_
   refine stepN hK 13 (by kernel_rfl) fun a hK => ?_
   refine stepN hK 14 (by kernel_rfl) fun a hK => ?_
   refine stepN hK 15 (by kernel_rfl) fun a hK => ?_
   refine stepP hK 16 (.bool true) (by kernel_rfl) (by kernel_rfl) fun a hK => ?_
   refine stepM hK 2 16 (by kernel_rfl) (.inr rfl) rfl fun a hK => ?_
   refine region_done hK [(2, .bool true), (0, .int .u8 ((c.toNat : Nat) : Int))] ⟨rfl, rfl, trivial⟩ fun a hK => ?_
   refine wp_ret ?_
   exact ret_t hK rfl (u := (.bool true)) rfl (⟨congrArg Ending.returned (congrArg Value.bool (by unfold isLetter; rw [(decide_eq_true h1), (decide_eq_true h2)]; try rfl)), hM.below⟩)
  ·refine stepP hK 7 (.bool false) (by kernel_rfl) (okBool (b := (decide ((((c.toNat : Nat) : Int) : Int) ≤ 122))) (by kernel_rfl) (decide_eq_false h2)) fun a hK => ?_
   refine stepP hK 8 (.bool false) (by kernel_rfl) (by kernel_rfl) fun a hK => ?_
   refine stepM hK 9 8 (by kernel_rfl) (.inl rfl) rfl fun a hK => ?_
   refine stepM hK 10 0 (by kernel_rfl) (.inl rfl) rfl fun a hK => ?_
   by_cases h3 : (65 : Int) ≤ ((c.toNat : Nat) : Int)
   ·refine stepP hK 11 (.bool true) (by kernel_rfl) (okBool (b := (decide ((65 : Int) ≤ ((c.toNat : Nat) : Int)))) (by kernel_rfl) (decide_eq_true h3)) fun a hK => ?_
    refine stepM hK 12 11 (by kernel_rfl) (.inl rfl) rfl fun a hK => ?_
    refine stepM hK 13 0 (by kernel_rfl) (.inl rfl) rfl fun a hK => ?_
    by_cases h4 : (((c.toNat : Nat) : Int) : Int) ≤ 90
    ·refine stepP hK 14 (.bool true) (by kernel_rfl) (okBool (b := (decide ((((c.toNat : Nat) : Int) : Int) ≤ 90))) (by kernel_rfl) (decide_eq_true h4)) fun a hK => ?_
     refine stepP hK 15 (.bool true) (by kernel_rfl) (by kernel_rfl) fun a hK => ?_
     refine stepP hK 16 (.bool true) (by kernel_rfl) (by kernel_rfl) fun a hK => ?_
     refine stepM hK 2 16 (by kernel_rfl) (.inr rfl) rfl fun a hK => ?_
     refine region_done hK [(2, .bool true), (0, .int .u8 ((c.toNat : Nat) : Int))] ⟨rfl, rfl, trivial⟩ fun a hK => ?_
     refine wp_ret ?_
     exact ret_t hK rfl (u := (.bool true)) rfl (⟨congrArg Ending.returned (congrArg Value.bool (by unfold isLetter; rw [(decide_eq_true h1), (decide_eq_false h2), (decide_eq_true h3), (decide_eq_true h4)]; try rfl)), hM.below⟩)
    ·refine stepP hK 14 (.bool false) (by kernel_rfl) (okBool (b := (decide ((((c.toNat : Nat) : Int) : Int) ≤ 90))) (by kernel_rfl) (decide_eq_false h4)) fun a hK => ?_
     refine stepP hK 15 (.bool false) (by kernel_rfl) (by kernel_rfl) fun a hK => ?_
     refine stepP hK 16 (.bool false) (by kernel_rfl) (by kernel_rfl) fun a hK => ?_
     refine stepM hK 2 16 (by kernel_rfl) (.inr rfl) rfl fun a hK => ?_
     refine region_done hK [(2, .bool false), (0, .int .u8 ((c.toNat : Nat) : Int))] ⟨rfl, rfl, trivial⟩ fun a hK => ?_
     refine wp_ret ?_
     exact ret_t hK rfl (u := (.bool false)) rfl (⟨congrArg Ending.returned (congrArg Value.bool (by unfold isLetter; rw [(decide_eq_true h1), (decide_eq_false h2), (decide_eq_true h3), (decide_eq_false h4)]; try rfl)), hM.below⟩)
   ·refine stepP hK 11 (.bool false) (by kernel_rfl) (okBool (b := (decide ((65 : Int) ≤ ((c.toNat : Nat) : Int)))) (by kernel_rfl) (decide_eq_false h3)) fun a hK => ?_
    refine stepM hK 12 11 (by kernel_rfl) (.inl rfl) rfl fun a hK => ?_
    refine stepN hK 13 (by kernel_rfl) fun a hK => ?_
    refine stepN hK 14 (by kernel_rfl) fun a hK => ?_
    refine stepP hK 15 (.bool false) (by kernel_rfl) (by kernel_rfl) fun a hK => ?_
    refine stepP hK 16 (.bool false) (by kernel_rfl) (by kernel_rfl) fun a hK => ?_
    refine stepM hK 2 16 (by kernel_rfl) (.inr rfl) rfl fun a hK => ?_
    refine region_done hK [(2, .bool false), (0, .int .u8 ((c.toNat : Nat) : Int))] ⟨rfl, rfl, trivial⟩ fun a hK => ?_
    refine wp_ret ?_
    exact ret_t hK rfl (u := (.bool false)) rfl (⟨congrArg Ending.returned (congrArg Value.bool (by unfold isLetter; rw [(decide_eq_true h1), (decide_eq_false h2), (decide_eq_false h3)]; try rfl)), hM.below⟩)
 ·refine stepP hK 4 (.bool false) (by kernel_rfl) (okBool (b := (decide ((97 : Int) ≤ ((c.toNat : Nat) : Int)))) (by kernel_rfl) (decide_eq_false h1)) fun a hK => ?_
  refine stepM hK 5 4 (by kernel_rfl) (.inl rfl) rfl fun a hK => ?_
  refine stepN hK 6 (by kernel_rfl) fun a hK => ?_
  refine stepN hK 7 (by kernel_rfl) fun a hK => ?_
  refine stepP hK 8 (.bool false) (by kernel_rfl) (by kernel_rfl) fun a hK => ?_
  refine stepM hK 9 8 (by kernel_rfl) (.inl rfl) rfl fun a hK => ?_
  refine stepM hK 10 0 (by kernel_rfl) (.inl rfl) rfl fun a hK => ?_
  by_cases h5 : (65 : Int) ≤ ((c.toNat : Nat) : Int)
  ·refine stepP hK 11 (.bool true) (by kernel_rfl) (okBool (b := (decide ((65 : Int) ≤ ((c.toNat : Nat) : Int)))) (by kernel_rfl) (decide_eq_true h5)) fun a hK => ?_
   refine stepM hK 12 11 (by kernel_rfl) (.inl rfl) rfl fun a hK => ?_
   refine stepM hK 13 0 (by kernel_rfl) (.inl rfl) rfl fun a hK => ?_
   by_cases h6 : (((c.toNat : Nat) : Int) : Int) ≤ 90
   ·refine stepP hK 14 (.bool true) (by kernel_rfl) (okBool (b := (decide ((((c.toNat : Nat) : Int) : Int) ≤ 90))) (by kernel_rfl) (decide_eq_true h6)) fun a hK => ?_
    refine stepP hK 15 (.bool true) (by kernel_rfl) (by kernel_rfl) fun a hK => ?_
    refine stepP hK 16 (.bool true) (by kernel_rfl) (by kernel_rfl) fun a hK => ?_
    refine stepM hK 2 16 (by kernel_rfl) (.inr rfl) rfl fun a hK => ?_
    refine region_done hK [(2, .bool true), (0, .int .u8 ((c.toNat : Nat) : Int))] ⟨rfl, rfl, trivial⟩ fun a hK => ?_
    refine wp_ret ?_
    exact ret_t hK rfl (u := (.bool true)) rfl (⟨congrArg Ending.returned (congrArg Value.bool (by unfold isLetter; rw [(decide_eq_false h1), (decide_eq_true h5), (decide_eq_true h6)]; try rfl)), hM.below⟩)
   ·refine stepP hK 14 (.bool false) (by kernel_rfl) (okBool (b := (decide ((((c.toNat : Nat) : Int) : Int) ≤ 90))) (by kernel_rfl) (decide_eq_false h6)) fun a hK => ?_
    refine stepP hK 15 (.bool false) (by kernel_rfl) (by kernel_rfl) fun a hK => ?_
    refine stepP hK 16 (.bool false) (by kernel_rfl) (by kernel_rfl) fun a hK => ?_
    refine stepM hK 2 16 (by kernel_rfl) (.inr rfl) rfl fun a hK => ?_
    refine region_done hK [(2, .bool false), (0, .int .u8 ((c.toNat : Nat) : Int))] ⟨rfl, rfl, trivial⟩ fun a hK => ?_
    refine wp_ret ?_
    exact ret_t hK rfl (u := (.bool false)) rfl (⟨congrArg Ending.returned (congrArg Value.bool (by unfold isLetter; rw [(decide_eq_false h1), (decide_eq_true h5), (decide_eq_false h6)]; try rfl)), hM.below⟩)
  ·refine stepP hK 11 (.bool false) (by kernel_rfl) (okBool (b := (decide ((65 : Int) ≤ ((c.toNat : Nat) : Int)))) (by kernel_rfl) (decide_eq_false h5)) fun a hK => ?_
   refine stepM hK 12 11 (by kernel_rfl) (.inl rfl) rfl fun a hK => ?_
   refine stepN hK 13 (by kernel_rfl) fun a hK => ?_
   refine stepN hK 14 (by kernel_rfl) fun a hK => ?_
   refine stepP hK 15 (.bool false) (by kernel_rfl) (by kernel_rfl) fun a hK => ?_
   refine stepP hK 16 (.bool false) (by kernel_rfl) (by kernel_rfl) fun a hK => ?_
   refine stepM hK 2 16 (by kernel_rfl) (.inr rfl) rfl fun a hK => ?_
   refine region_done hK [(2, .bool false), (0, .int .u8 ((c.toNat : Nat) : Int))] ⟨rfl, rfl, trivial⟩ fun a hK => ?_
   refine wp_ret ?_
   exact ret_t hK rfl (u := (.bool false)) rfl (⟨congrArg Ending.returned (congrArg Value.bool (by unfold isLetter; rw [(decide_eq_false h1), (decide_eq_false h5)]; try rfl)), hM.below⟩)
theorem en_lex_isLetter : Enters Tryd.prog 96 := enters_of Tryd.func96 (by kernel_rfl) rfl
set_option maxRecDepth 100000 in
set_option maxHeartbeats 4000000 in
theorem lex_isDigit (c : UInt8) (w0 : World) : Calls Tryd.prog 113 #[.int .u8 ((c.toNat : Nat) : Int)] w0 (Ret w0 (.bool (isDigit c))) := by
 refine calls_K (args := [.int .u8 ((c.toNat : Nat) : Int)]) (n := 9) (env := [(0, .int .u8 ((c.toNat : Nat) : Int))]) Tryd.func113 rfl rfl rfl ⟨rfl, trivial⟩ fun a w hK hM => ?_
 refine wp_seq ?_
 refine region_go (lst := [0]) (by kernel_rfl) ?_
 refine stepP hK 2 (.bool false) (by kernel_rfl) (by kernel_rfl) fun a hK => ?_
 refine region_done hK [(2, .bool false), (0, .int .u8 ((c.toNat : Nat) : Int))] ⟨rfl, rfl, trivial⟩ fun a hK => ?_
 refine wp_seq ?_
 refine region_go (lst := [0, 1, 2, 3, 4, 5, 6]) (by kernel_rfl) ?_
 refine stepM hK 3 0 (by kernel_rfl) (.inl rfl) rfl fun a hK => ?_
 by_cases h1 : (48 : Int) ≤ ((c.toNat : Nat) : Int)
 ·refine stepP hK 4 (.bool true) (by kernel_rfl) (okBool (b := (decide ((48 : Int) ≤ ((c.toNat : Nat) : Int)))) (by kernel_rfl) (decide_eq_true h1)) fun a hK => ?_
  refine stepM hK 5 4 (by kernel_rfl) (.inl rfl) rfl fun a hK => ?_
  refine stepM hK 6 0 (by kernel_rfl) (.inl rfl) rfl fun a hK => ?_
  by_cases h2 : (((c.toNat : Nat) : Int) : Int) ≤ 57
  ·refine stepP hK 7 (.bool true) (by kernel_rfl) (okBool (b := (decide ((((c.toNat : Nat) : Int) : Int) ≤ 57))) (by kernel_rfl) (decide_eq_true h2)) fun a hK => ?_
   refine stepP hK 8 (.bool true) (by kernel_rfl) (by kernel_rfl) fun a hK => ?_
   refine stepM hK 2 8 (by kernel_rfl) (.inr rfl) rfl fun a hK => ?_
   refine region_done hK [(2, .bool true), (0, .int .u8 ((c.toNat : Nat) : Int))] ⟨rfl, rfl, trivial⟩ fun a hK => ?_
   refine wp_ret ?_
   exact ret_t hK rfl (u := (.bool true)) rfl (⟨congrArg Ending.returned (congrArg Value.bool (by unfold isDigit; rw [(decide_eq_true h1), (decide_eq_true h2)]; try rfl)), hM.below⟩)
  ·refine stepP hK 7 (.bool false) (by kernel_rfl) (okBool (b := (decide ((((c.toNat : Nat) : Int) : Int) ≤ 57))) (by kernel_rfl) (decide_eq_false h2)) fun a hK => ?_
   refine stepP hK 8 (.bool false) (by kernel_rfl) (by kernel_rfl) fun a hK => ?_
   refine stepM hK 2 8 (by kernel_rfl) (.inr rfl) rfl fun a hK => ?_
   refine region_done hK [(2, .bool false), (0, .int .u8 ((c.toNat : Nat) : Int))] ⟨rfl, rfl, trivial⟩ fun a hK => ?_
   refine wp_ret ?_
   exact ret_t hK rfl (u := (.bool false)) rfl (⟨congrArg Ending.returned (congrArg Value.bool (by unfold isDigit; rw [(decide_eq_true h1), (decide_eq_false h2)]; try rfl)), hM.below⟩)
 ·refine stepP hK 4 (.bool false) (by kernel_rfl) (okBool (b := (decide ((48 : Int) ≤ ((c.toNat : Nat) : Int)))) (by kernel_rfl) (decide_eq_false h1)) fun a hK => ?_
  refine stepM hK 5 4 (by kernel_rfl) (.inl rfl) rfl fun a hK => ?_
  refine stepN hK 6 (by kernel_rfl) fun a hK => ?_
  refine stepN hK 7 (by kernel_rfl) fun a hK => ?_
  refine stepP hK 8 (.bool false) (by kernel_rfl) (by kernel_rfl) fun a hK => ?_
  refine stepM hK 2 8 (by kernel_rfl) (.inr rfl) rfl fun a hK => ?_
  refine region_done hK [(2, .bool false), (0, .int .u8 ((c.toNat : Nat) : Int))] ⟨rfl, rfl, trivial⟩ fun a hK => ?_
  refine wp_ret ?_
  exact ret_t hK rfl (u := (.bool false)) rfl (⟨congrArg Ending.returned (congrArg Value.bool (by unfold isDigit; rw [(decide_eq_false h1)]; try rfl)), hM.below⟩)
theorem en_lex_isDigit : Enters Tryd.prog 113 := enters_of Tryd.func113 (by kernel_rfl) rfl
set_option maxRecDepth 100000 in
set_option maxHeartbeats 4000000 in
theorem lex_inWord (c : UInt8) (w0 : World) : Calls Tryd.prog 98 #[.int .u8 ((c.toNat : Nat) : Int)] w0 (Ret w0 (.bool (inWordB c))) := by
 refine calls_K (args := [.int .u8 ((c.toNat : Nat) : Int)]) (n := 13) (env := [(0, .int .u8 ((c.toNat : Nat) : Int))]) Tryd.func98 rfl rfl rfl ⟨rfl, trivial⟩ fun a w hK hM => ?_
 refine wp_seq ?_
 refine region_go (lst := [0]) (by kernel_rfl) ?_
 refine stepP hK 2 (.bool false) (by kernel_rfl) (by kernel_rfl) fun a hK => ?_
 refine region_done hK [(2, .bool false), (0, .int .u8 ((c.toNat : Nat) : Int))] ⟨rfl, rfl, trivial⟩ fun a hK => ?_
 refine wp_seq ?_
 refine region_go (lst := [0, 1, 2, 3, 4, 5, 6, 7, 8, 9, 10]) (by kernel_rfl) ?_
 refine stepM hK 3 0 (by kernel_rfl) (.inl rfl) rfl fun a hK => ?_
 rcases Bool.eq_false_or_eq_true (isLetter c) with h1 | h1
 ·refine stepRet hK hM 4 #[.int .u8 ((c.toNat : Nat) : Int)] (.bool true) (by kernel_rfl) (run_callE en_lex_isLetter rfl rfl (by kernel_rfl)) (ret_eq (lex_isLetter c _) (congrArg Value.bool h1)) fun a w hK hM => ?_
  refine stepM hK 5 4 (by kernel_rfl) (.inl rfl) rfl fun a hK => ?_
  refine stepN hK 6 (by kernel_rfl) fun a hK => ?_
  refine stepN hK 7 (by kernel_rfl) fun a hK => ?_
  refine stepP hK 8 (.bool true) (by kernel_rfl) (by kernel_rfl) fun a hK => ?_
  refine stepM hK 9 8 (by kernel_rfl) (.inl rfl) rfl fun a hK => ?_
  refine stepN hK 10 (by kernel_rfl) fun a hK => ?_
  refine stepN hK 11 (by kernel_rfl) fun a hK => ?_
  refine stepP hK 12 (.bool true) (by kernel_rfl) (by kernel_rfl) fun a hK => ?_
  refine stepM hK 2 12 (by kernel_rfl) (.inr rfl) rfl fun a hK => ?_
  refine region_done hK [(2, .bool true), (0, .int .u8 ((c.toNat : Nat) : Int))] ⟨rfl, rfl, trivial⟩ fun a hK => ?_
  refine wp_ret ?_
  exact ret_t hK rfl (u := (.bool true)) rfl (⟨congrArg Ending.returned (congrArg Value.bool (by unfold inWordB; rw [h1]; try rfl)), hM.below⟩)
 ·refine stepRet hK hM 4 #[.int .u8 ((c.toNat : Nat) : Int)] (.bool false) (by kernel_rfl) (run_callE en_lex_isLetter rfl rfl (by kernel_rfl)) (ret_eq (lex_isLetter c _) (congrArg Value.bool h1)) fun a w hK hM => ?_
  refine stepM hK 5 4 (by kernel_rfl) (.inl rfl) rfl fun a hK => ?_
  refine stepM hK 6 0 (by kernel_rfl) (.inl rfl) rfl fun a hK => ?_
  rcases Bool.eq_false_or_eq_true (isDigit c) with h2 | h2
  ·refine stepRet hK hM 7 #[.int .u8 ((c.toNat : Nat) : Int)] (.bool true) (by kernel_rfl) (run_callE en_lex_isDigit rfl rfl (by kernel_rfl)) (ret_eq (lex_isDigit c _) (congrArg Value.bool h2)) fun a w hK hM => ?_
   refine stepP hK 8 (.bool true) (by kernel_rfl) (by kernel_rfl) fun a hK => ?_
   refine stepM hK 9 8 (by kernel_rfl) (.inl rfl) rfl fun a hK => ?_
   refine stepN hK 10 (by kernel_rfl) fun a hK => ?_
   refine stepN hK 11 (by kernel_rfl) fun a hK => ?_
   refine stepP hK 12 (.bool true) (by kernel_rfl) (by kernel_rfl) fun a hK => ?_
   refine stepM hK 2 12 (by kernel_rfl) (.inr rfl) rfl fun a hK => ?_
   refine region_done hK [(2, .bool true), (0, .int .u8 ((c.toNat : Nat) : Int))] ⟨rfl, rfl, trivial⟩ fun a hK => ?_
   refine wp_ret ?_
   exact ret_t hK rfl (u := (.bool true)) rfl (⟨congrArg Ending.returned (congrArg Value.bool (by unfold inWordB; rw [h1, h2]; try rfl)), hM.below⟩)
  ·refine stepRet hK hM 7 #[.int .u8 ((c.toNat : Nat) : Int)] (.bool false) (by kernel_rfl) (run_callE en_lex_isDigit rfl rfl (by kernel_rfl)) (ret_eq (lex_isDigit c _) (congrArg Value.bool h2)) fun a w hK hM => ?_
   refine stepP hK 8 (.bool false) (by kernel_rfl) (by kernel_rfl) fun a hK => ?_
   refine stepM hK 9 8 (by kernel_rfl) (.inl rfl) rfl fun a hK => ?_
   refine stepM hK 10 0 (by kernel_rfl) (.inl rfl) rfl fun a hK => ?_
   by_cases h3 : (((c.toNat : Nat) : Int) : Int) = 95
   ·refine stepP hK 11 (.bool true) (by kernel_rfl) (okBool (b := (decide ((((c.toNat : Nat) : Int) : Int) = 95))) (by kernel_rfl) (decide_eq_true h3)) fun a hK => ?_
    refine stepP hK 12 (.bool true) (by kernel_rfl) (by kernel_rfl) fun a hK => ?_
    refine stepM hK 2 12 (by kernel_rfl) (.inr rfl) rfl fun a hK => ?_
    refine region_done hK [(2, .bool true), (0, .int .u8 ((c.toNat : Nat) : Int))] ⟨rfl, rfl, trivial⟩ fun a hK => ?_
    refine wp_ret ?_
    exact ret_t hK rfl (u := (.bool true)) rfl (⟨congrArg Ending.returned (congrArg Value.bool (by unfold inWordB; rw [h1, h2, (decide_eq_true h3)]; try rfl)), hM.below⟩)
   ·refine stepP hK 11 (.bool false) (by kernel_rfl) (okBool (b := (decide ((((c.toNat : Nat) : Int) : Int) = 95))) (by kernel_rfl) (decide_eq_false h3)) fun a hK => ?_
    refine stepP hK 12 (.bool false) (by kernel_rfl) (by kernel_rfl) fun a hK => ?_
    refine stepM hK 2 12 (by kernel_rfl) (.inr rfl) rfl fun a hK => ?_
    refine region_done hK [(2, .bool false), (0, .int .u8 ((c.toNat : Nat) : Int))] ⟨rfl, rfl, trivial⟩ fun a hK => ?_
    refine wp_ret ?_
    exact ret_t hK rfl (u := (.bool false)) rfl (⟨congrArg Ending.returned (congrArg Value.bool (by unfold inWordB; rw [h1, h2, (decide_eq_false h3)]; try rfl)), hM.below⟩)
theorem en_lex_inWord : Enters Tryd.prog 98 := enters_of Tryd.func98 (by kernel_rfl) rfl
/-- How many bytes of one sort stand at a text's beginning. -/
def runL (p : UInt8 → Bool) (l : List UInt8) : Nat := (l.takeWhile p).length
theorem takeWhile_all {p : UInt8 → Bool} : ∀ {l : List UInt8}, (∀ (j : Nat) (c : UInt8), j < l.length → l[j]? = some c → p c = true) → l.takeWhile p = l := by
 intro l h
 have := take_of_all l l.length (Nat.le_refl _) (fun j c hj hc => h j c hj hc) (fun c hc => by rw [List.getElem?_eq_none (Nat.le_refl _)] at hc; cases hc)
 rw [← this, List.take_length]
theorem runL_all {p : UInt8 → Bool} {l : List UInt8} (h : ∀ (j : Nat) (c : UInt8), j < l.length → l[j]? = some c → p c = true) : l.length = runL p l := by
 unfold runL; rw [takeWhile_all h]
theorem runL_at {p : UInt8 → Bool} {l : List UInt8} {i : Nat} {c : UInt8} (hi : i ≤ l.length) (h : ∀ (j : Nat) (c : UInt8), j < i → l[j]? = some c → p c = true) (hc : l[i]? = some c) (hp : p c = false) : i = runL p l := by
 unfold runL
 rw [← take_of_all l i hi h (fun d hd => by rw [hc] at hd; rw [← Option.some.inj hd]; exact hp), List.length_take]
 omega
set_option maxRecDepth 100000 in
set_option maxHeartbeats 4000000 in
theorem lex_run (l : List UInt8) (hlen : l.length ≤ 4611686018427387904) (g : Nat) (p : UInt8 → Bool) (he : Enters Tryd.prog g) (hp : ∀ (c : UInt8) (w : World), Calls Tryd.prog g #[.int .u8 ((c.toNat : Nat) : Int)] w (Ret w (.bool (p c)))) (w0 : World) : Calls Tryd.prog 97 #[Str l, .func (.func g) #[] #[]] w0 (Ret w0 (.int .i64 ((runL p l : Nat) : Int))) := by
 refine calls_K (args := [Str l, .func (.func g) #[] #[]]) (n := 21) (env := [(0, Str l), (1, .func (.func g) #[] #[])]) Tryd.func97 rfl rfl rfl ⟨rfl, rfl, trivial⟩ fun a w hK hM => ?_
 refine wp_seq ?_
 refine region_go (lst := [0]) (by kernel_rfl) ?_
 refine stepP hK 4 (.int .i64 0) (by kernel_rfl) (by kernel_rfl) fun a hK => ?_
 refine region_done hK [(4, .int .i64 0), (0, Str l), (1, .func (.func g) #[] #[])] ⟨rfl, rfl, rfl, trivial⟩ fun a hK => ?_
 refine wp_seq ?_
 refine wp_seq ?_
 refine region_go (lst := [0, 1, 2]) (by kernel_rfl) ?_
 refine stepM hK 6 0 (by kernel_rfl) (.inl rfl) rfl fun a hK => ?_
 refine stepP hK 7 (.int .i64 ((l.length : Nat) : Int)) (by kernel_rfl) (by kernel_rfl) fun a hK => ?_
 refine stepP hK 8 (.int .i64 0) (by kernel_rfl) (by kernel_rfl) fun a hK => ?_
 refine region_done hK [(8, .int .i64 0), (7, .int .i64 ((l.length : Nat) : Int)), (4, .int .i64 0), (0, Str l), (1, .func (.func g) #[] #[])] ⟨rfl, rfl, rfl, rfl, rfl, trivial⟩ fun a hK => ?_
 refine wp_block ?_
 refine wp_loopX (fun x : Nat => [(7, .int .i64 ((l.length : Nat) : Int)), (4, .int .i64 0), (0, Str l), (1, .func (.func g) #[] #[]), (8, .int .i64 ((x : Nat) : Int))]) (fun x : Nat => []) (fun x : Nat => x ≤ l.length ∧ ∀ (j : Nat) (c : UInt8), j < x → l[j]? = some c → p c = true) (fun x : Nat => l.length - x) 0 (hK.sub ⟨rfl, rfl, rfl, rfl, rfl, trivial⟩) hM ⟨Nat.zero_le _, fun j c hj => absurd hj (Nat.not_lt_zero j)⟩ ?_
 rintro i a w hK hM hR
 replace hK : Knows a 21 [(7, .int .i64 ((l.length : Nat) : Int)), (4, .int .i64 0), (0, Str l), (1, .func (.func g) #[] #[]), (8, .int .i64 ((i : Nat) : Int))] := hK
 replace hM : Mem w0 w [] := hM
 replace hR : i ≤ l.length ∧ ∀ (j : Nat) (c : UInt8), j < i → l[j]? = some c → p c = true := hR
 refine wp_seq ?_
 refine region_go (lst := [0]) (by kernel_rfl) ?_
 by_cases h1 : (((i : Nat) : Int) : Int) < ((l.length : Nat) : Int)
 ·refine stepP hK 9 (.bool true) (by kernel_rfl) (okBool (b := (decide ((((i : Nat) : Int) : Int) < ((l.length : Nat) : Int)))) (by kernel_rfl) (decide_eq_true h1)) fun a hK => ?_
  refine region_done hK [(9, .bool true), (7, .int .i64 ((l.length : Nat) : Int)), (4, .int .i64 0), (0, Str l), (1, .func (.func g) #[] #[]), (8, .int .i64 ((i : Nat) : Int))] ⟨rfl, rfl, rfl, rfl, rfl, rfl, trivial⟩ fun a hK => ?_
  refine wp_seq ?_
  refine wp_cond_true (hK.get rfl) ?_
  refine wp_skip ?_
  refine wp_seq ?_
  refine wp_block ?_
  refine wp_seq ?_
  refine region_go (lst := [0, 1]) (by kernel_rfl) ?_
  refine stepM hK 10 8 (by kernel_rfl) (.inl rfl) rfl fun a hK => ?_
  refine stepM hK 5 10 (by kernel_rfl) (.inr rfl) rfl fun a hK => ?_
  refine region_done hK [(5, .int .i64 ((i : Nat) : Int)), (9, .bool true), (7, .int .i64 ((l.length : Nat) : Int)), (4, .int .i64 0), (0, Str l), (1, .func (.func g) #[] #[]), (8, .int .i64 ((i : Nat) : Int))] ⟨rfl, rfl, rfl, rfl, rfl, rfl, rfl, trivial⟩ fun a hK => ?_
  refine wp_seq ?_
  refine region_go (lst := [0, 1, 2, 3, 4, 5]) (by kernel_rfl) ?_
  refine stepM hK 11 1 (by kernel_rfl) (.inl rfl) rfl fun a hK => ?_
  refine stepM hK 12 0 (by kernel_rfl) (.inl rfl) rfl fun a hK => ?_
  refine stepM hK 13 5 (by kernel_rfl) (.inl rfl) rfl fun a hK => ?_
  obtain ⟨c2, hc2⟩ : ∃ c, l[(i : Nat)]? = some c := ⟨_, List.getElem?_eq_getElem (by omega)⟩
  refine stepP hK 14 (.int .u8 ((c2.toNat : Nat) : Int)) (by kernel_rfl) (run_idxS (k := i) rfl rfl rfl hc2) fun a hK => ?_
  rcases Bool.eq_false_or_eq_true (p c2) with h3 | h3
  ·refine stepRet hK hM 15 #[.int .u8 ((c2.toNat : Nat) : Int)] (.bool true) (by kernel_rfl) (run_callE he rfl rfl (by kernel_rfl)) (ret_eq (hp c2 _) (congrArg Value.bool h3)) fun a w hK hM => ?_
   refine stepP hK 16 (.bool false) (by kernel_rfl) (by kernel_rfl) fun a hK => ?_
   refine region_done hK [(16, .bool false), (5, .int .i64 ((i : Nat) : Int)), (9, .bool true), (7, .int .i64 ((l.length : Nat) : Int)), (4, .int .i64 0), (0, Str l), (1, .func (.func g) #[] #[]), (8, .int .i64 ((i : Nat) : Int))] ⟨rfl, rfl, rfl, rfl, rfl, rfl, rfl, rfl, trivial⟩ fun a hK => ?_
   refine wp_cond_false (hK.get rfl) ?_
   refine wp_skip ?_
   refine region_go (lst := [0, 1]) (by kernel_rfl) ?_
   refine stepP hK 18 (.int .i64 (((i + 1) : Nat) : Int)) (by kernel_rfl) (run_addN (i := i) (j := 1) rfl rfl rfl (by omega)) fun a hK => ?_
   refine stepM hK 8 18 (by kernel_rfl) (.inl rfl) rfl fun a hK => ?_
   refine region_done hK [(8, .int .i64 (((i + 1) : Nat) : Int)), (16, .bool false), (5, .int .i64 ((i : Nat) : Int)), (9, .bool true), (7, .int .i64 ((l.length : Nat) : Int)), (4, .int .i64 0), (0, Str l), (1, .func (.func g) #[] #[])] ⟨rfl, rfl, rfl, rfl, rfl, rfl, rfl, rfl, trivial⟩ fun a hK => ?_
   have hRn : (i + 1) ≤ l.length ∧ ∀ (j : Nat) (c : UInt8), j < (i + 1) → l[j]? = some c → p c = true := ⟨by omega, fun j d hj hd => (Nat.lt_succ_iff_lt_or_eq.1 hj).elim (fun h => hR.2 j d h hd) (fun h => by subst h; rw [hc2] at hd; rw [← Option.some.inj hd]; exact h3)⟩
   have hmn : l.length - (i + 1) < l.length - i := by omega
   exact ⟨i + 1, hK.sub ⟨rfl, rfl, rfl, rfl, rfl, trivial⟩, hM, hRn, hmn⟩
  ·refine stepRet hK hM 15 #[.int .u8 ((c2.toNat : Nat) : Int)] (.bool false) (by kernel_rfl) (run_callE he rfl rfl (by kernel_rfl)) (ret_eq (hp c2 _) (congrArg Value.bool h3)) fun a w hK hM => ?_
   refine stepP hK 16 (.bool true) (by kernel_rfl) (by kernel_rfl) fun a hK => ?_
   refine region_done hK [(16, .bool true), (5, .int .i64 ((i : Nat) : Int)), (9, .bool true), (7, .int .i64 ((l.length : Nat) : Int)), (4, .int .i64 0), (0, Str l), (1, .func (.func g) #[] #[]), (8, .int .i64 ((i : Nat) : Int))] ⟨rfl, rfl, rfl, rfl, rfl, rfl, rfl, rfl, trivial⟩ fun a hK => ?_
   refine wp_cond_true (hK.get rfl) ?_
   refine wp_seq ?_
   refine region_go (lst := [0, 1]) (by kernel_rfl) ?_
   refine stepM hK 17 5 (by kernel_rfl) (.inl rfl) rfl fun a hK => ?_
   refine stepM hK 4 17 (by kernel_rfl) (.inr rfl) rfl fun a hK => ?_
   refine region_done hK [(4, .int .i64 ((i : Nat) : Int)), (16, .bool true), (5, .int .i64 ((i : Nat) : Int)), (9, .bool true), (7, .int .i64 ((l.length : Nat) : Int)), (0, Str l), (1, .func (.func g) #[] #[]), (8, .int .i64 ((i : Nat) : Int))] ⟨rfl, rfl, rfl, rfl, rfl, rfl, rfl, rfl, trivial⟩ fun a hK => ?_
   refine wp_ret ?_
   exact ret_t hK rfl (u := (.int .i64 ((i : Nat) : Int))) rfl (⟨congrArg (fun q : Nat => Ending.returned (.int .i64 (q : Int))) (runL_at hR.1 hR.2 hc2 h3), hM.below⟩)
 ·refine stepP hK 9 (.bool false) (by kernel_rfl) (okBool (b := (decide ((((i : Nat) : Int) : Int) < ((l.length : Nat) : Int)))) (by kernel_rfl) (decide_eq_false h1)) fun a hK => ?_
  refine region_done hK [(9, .bool false), (7, .int .i64 ((l.length : Nat) : Int)), (4, .int .i64 0), (0, Str l), (1, .func (.func g) #[] #[]), (8, .int .i64 ((i : Nat) : Int))] ⟨rfl, rfl, rfl, rfl, rfl, rfl, trivial⟩ fun a hK => ?_
  refine wp_seq ?_
  refine wp_cond_false (hK.get rfl) ?_
  refine wp_exit (exit_then (exit_then (exit_here 0 ?_)))
  refine wp_seq ?_
  refine region_go (lst := [0, 1, 2]) (by kernel_rfl) ?_
  refine stepM hK 19 0 (by kernel_rfl) (.inl rfl) rfl fun a hK => ?_
  refine stepP hK 20 (.int .i64 ((l.length : Nat) : Int)) (by kernel_rfl) (by kernel_rfl) fun a hK => ?_
  refine stepM hK 4 20 (by kernel_rfl) (.inr rfl) rfl fun a hK => ?_
  refine region_done hK [(4, .int .i64 ((l.length : Nat) : Int)), (9, .bool false), (7, .int .i64 ((l.length : Nat) : Int)), (0, Str l), (1, .func (.func g) #[] #[]), (8, .int .i64 ((i : Nat) : Int))] ⟨rfl, rfl, rfl, rfl, rfl, rfl, trivial⟩ fun a hK => ?_
  refine wp_ret ?_
  exact ret_t hK rfl (u := (.int .i64 ((l.length : Nat) : Int))) rfl (⟨congrArg (fun q : Nat => Ending.returned (.int .i64 (q : Int))) (runL_all (fun j c hj hc => hR.2 j c (by omega) hc)), hM.below⟩)
theorem en_lex_run : Enters Tryd.prog 97 := enters_of Tryd.func97 (by kernel_rfl) rfl
/-- The map of keywords. -/
def kwEs : Array MapEntry := (setEs 0 keyL).toArray
def kwObj : Obj := .map kwEs 20
set_option maxRecDepth 100000 in
set_option maxHeartbeats 4000000 in
theorem lex_keywords  (w0 : World) : Calls Tryd.prog 100 #[] w0 (Gives w0 (fun b : Nat => .map (some b)) (fun b => [.obj b kwObj]) fun _ => True) := by
 refine calls_K (args := []) (n := 23) (env := []) Tryd.func100 rfl rfl rfl trivial fun a w hK hM => ?_
 refine wp_seq ?_
 refine region_go (lst := [0]) (by kernel_rfl) ?_
 refine stepP hK 0 (.map none) (by kernel_rfl) (by kernel_rfl) fun a hK => ?_
 refine region_done hK [(0, .map none)] ⟨rfl, trivial⟩ fun a hK => ?_
 refine wp_seq ?_
 refine region_go (lst := [0, 1, 2, 3, 4, 5, 6, 7, 8, 9, 10, 11, 12, 13, 14, 15, 16, 17, 18, 19, 20, 21, 22, 23, 24, 25, 26, 27, 28, 29, 30, 31, 32, 33, 34, 35, 36, 37, 38, 39, 40, 41, 42]) (by kernel_rfl) ?_
 refine stepObj hK hM 1 (.map #[] 0) (fun b => .map (some b)) (by kernel_rfl) (by kernel_rfl) fun b1 a w hK hM => ?_
 refine stepP hK 2 (.agg #[]) (by kernel_rfl) (by kernel_rfl) fun a hK => ?_
 refine stepSetObj hK hM 0 (.map #[⟨Str [115, 104, 97, 114, 101, 100], .agg #[], 0⟩] 1) (by kernel_rfl) rfl ((run_insS (kt := 9) (et := 79) (s := ⟨List.toArray [115, 104, 97, 114, 101, 100]⟩) (u := (.agg #[])) rfl rfl rfl rfl Tryd.underlying78 Tryd.underlying9 (hM.obj 0 rfl) (by kernel_rfl)).trans (by kernel_rfl)) fun w hM => ?_
 replace hM := hM.to [.obj b1 (.map #[⟨Str [115, 104, 97, 114, 101, 100], .agg #[], 0⟩] 1)] (by kernel_rfl)
 refine stepP hK 3 (.agg #[]) (by kernel_rfl) (by kernel_rfl) fun a hK => ?_
 refine stepSetObj hK hM 0 (.map #[⟨Str [115, 104, 97, 114, 101, 100], .agg #[], 0⟩, ⟨Str [112, 108, 97, 105, 110], .agg #[], 1⟩] 2) (by kernel_rfl) rfl ((run_insS (kt := 9) (et := 79) (s := ⟨List.toArray [112, 108, 97, 105, 110]⟩) (u := (.agg #[])) rfl rfl rfl rfl Tryd.underlying78 Tryd.underlying9 (hM.obj 0 rfl) (by kernel_rfl)).trans (by kernel_rfl)) fun w hM => ?_
 replace hM := hM.to [.obj b1 (.map #[⟨Str [115, 104, 97, 114, 101, 100], .agg #[], 0⟩, ⟨Str [112, 108, 97, 105, 110], .agg #[], 1⟩] 2)] (by kernel_rfl)
 refine stepP hK 4 (.agg #[]) (by kernel_rfl) (by kernel_rfl) fun a hK => ?_
 refine stepSetObj hK hM 0 (.map #[⟨Str [115, 104, 97, 114, 101, 100], .agg #[], 0⟩, ⟨Str [112, 108, 97, 105, 110], .agg #[], 1⟩, ⟨Str [116, 104, 114, 101, 97, 100], .agg #[], 2⟩] 3) (by kernel_rfl) rfl ((run_insS (kt := 9) (et := 79) (s := ⟨List.toArray [116, 104, 114, 101, 97, 100]⟩) (u := (.agg #[])) rfl rfl rfl rfl Tryd.underlying78 Tryd.underlying9 (hM.obj 0 rfl) (by kernel_rfl)).trans (by kernel_rfl)) fun w hM => ?_
 replace hM := hM.to [.obj b1 (.map #[⟨Str [115, 104, 97, 114, 101, 100], .agg #[], 0⟩, ⟨Str [112, 108, 97, 105, 110], .agg #[], 1⟩, ⟨Str [116, 104, 114, 101, 97, 100], .agg #[], 2⟩] 3)] (by kernel_rfl)
 refine stepP hK 5 (.agg #[]) (by kernel_rfl) (by kernel_rfl) fun a hK => ?_
 refine stepSetObj hK hM 0 (.map #[⟨Str [115, 104, 97, 114, 101, 100], .agg #[], 0⟩, ⟨Str [112, 108, 97, 105, 110], .agg #[], 1⟩, ⟨Str [116, 104, 114, 101, 97, 100], .agg #[], 2⟩, ⟨Str [105, 102], .agg #[], 3⟩] 4) (by kernel_rfl) rfl ((run_insS (kt := 9) (et := 79) (s := ⟨List.toArray [105, 102]⟩) (u := (.agg #[])) rfl rfl rfl rfl Tryd.underlying78 Tryd.underlying9 (hM.obj 0 rfl) (by kernel_rfl)).trans (by kernel_rfl)) fun w hM => ?_
 replace hM := hM.to [.obj b1 (.map #[⟨Str [115, 104, 97, 114, 101, 100], .agg #[], 0⟩, ⟨Str [112, 108, 97, 105, 110], .agg #[], 1⟩, ⟨Str [116, 104, 114, 101, 97, 100], .agg #[], 2⟩, ⟨Str [105, 102], .agg #[], 3⟩] 4)] (by kernel_rfl)
 refine stepP hK 6 (.agg #[]) (by kernel_rfl) (by kernel_rfl) fun a hK => ?_
 refine stepSetObj hK hM 0 (.map #[⟨Str [115, 104, 97, 114, 101, 100], .agg #[], 0⟩, ⟨Str [112, 108, 97, 105, 110], .agg #[], 1⟩, ⟨Str [116, 104, 114, 101, 97, 100], .agg #[], 2⟩, ⟨Str [105, 102], .agg #[], 3⟩, ⟨Str [101, 108, 115, 101], .agg #[], 4⟩] 5) (by kernel_rfl) rfl ((run_insS (kt := 9) (et := 79) (s := ⟨List.toArray [101, 108, 115, 101]⟩) (u := (.agg #[])) rfl rfl rfl rfl Tryd.underlying78 Tryd.underlying9 (hM.obj 0 rfl) (by kernel_rfl)).trans (by kernel_rfl)) fun w hM => ?_
 replace hM := hM.to [.obj b1 (.map #[⟨Str [115, 104, 97, 114, 101, 100], .agg #[], 0⟩, ⟨Str [112, 108, 97, 105, 110], .agg #[], 1⟩, ⟨Str [116, 104, 114, 101, 97, 100], .agg #[], 2⟩, ⟨Str [105, 102], .agg #[], 3⟩, ⟨Str [101, 108, 115, 101], .agg #[], 4⟩] 5)] (by kernel_rfl)
 refine stepP hK 7 (.agg #[]) (by kernel_rfl) (by kernel_rfl) fun a hK => ?_
 refine stepSetObj hK hM 0 (.map #[⟨Str [115, 104, 97, 114, 101, 100], .agg #[], 0⟩, ⟨Str [112, 108, 97, 105, 110], .agg #[], 1⟩, ⟨Str [116, 104, 114, 101, 97, 100], .agg #[], 2⟩, ⟨Str [105, 102], .agg #[], 3⟩, ⟨Str [101, 108, 115, 101], .agg #[], 4⟩, ⟨Str [119, 104, 105, 108, 101], .agg #[], 5⟩] 6) (by kernel_rfl) rfl ((run_insS (kt := 9) (et := 79) (s := ⟨List.toArray [119, 104, 105, 108, 101]⟩) (u := (.agg #[])) rfl rfl rfl rfl Tryd.underlying78 Tryd.underlying9 (hM.obj 0 rfl) (by kernel_rfl)).trans (by kernel_rfl)) fun w hM => ?_
 replace hM := hM.to [.obj b1 (.map #[⟨Str [115, 104, 97, 114, 101, 100], .agg #[], 0⟩, ⟨Str [112, 108, 97, 105, 110], .agg #[], 1⟩, ⟨Str [116, 104, 114, 101, 97, 100], .agg #[], 2⟩, ⟨Str [105, 102], .agg #[], 3⟩, ⟨Str [101, 108, 115, 101], .agg #[], 4⟩, ⟨Str [119, 104, 105, 108, 101], .agg #[], 5⟩] 6)] (by kernel_rfl)
 refine stepP hK 8 (.agg #[]) (by kernel_rfl) (by kernel_rfl) fun a hK => ?_
 refine stepSetObj hK hM 0 (.map #[⟨Str [115, 104, 97, 114, 101, 100], .agg #[], 0⟩, ⟨Str [112, 108, 97, 105, 110], .agg #[], 1⟩, ⟨Str [116, 104, 114, 101, 97, 100], .agg #[], 2⟩, ⟨Str [105, 102], .agg #[], 3⟩, ⟨Str [101, 108, 115, 101], .agg #[], 4⟩, ⟨Str [119, 104, 105, 108, 101], .agg #[], 5⟩, ⟨Str [108, 111, 97, 100], .agg #[], 6⟩] 7) (by kernel_rfl) rfl ((run_insS (kt := 9) (et := 79) (s := ⟨List.toArray [108, 111, 97, 100]⟩) (u := (.agg #[])) rfl rfl rfl rfl Tryd.underlying78 Tryd.underlying9 (hM.obj 0 rfl) (by kernel_rfl)).trans (by kernel_rfl)) fun w hM => ?_
 replace hM := hM.to [.obj b1 (.map #[⟨Str [115, 104, 97, 114, 101, 100], .agg #[], 0⟩, ⟨Str [112, 108, 97, 105, 110], .agg #[], 1⟩, ⟨Str [116, 104, 114, 101, 97, 100], .agg #[], 2⟩, ⟨Str [105, 102], .agg #[], 3⟩, ⟨Str [101, 108, 115, 101], .agg #[], 4⟩, ⟨Str [119, 104, 105, 108, 101], .agg #[], 5⟩, ⟨Str [108, 111, 97, 100], .agg #[], 6⟩] 7)] (by kernel_rfl)
 refine stepP hK 9 (.agg #[]) (by kernel_rfl) (by kernel_rfl) fun a hK => ?_
 refine stepSetObj hK hM 0 (.map #[⟨Str [115, 104, 97, 114, 101, 100], .agg #[], 0⟩, ⟨Str [112, 108, 97, 105, 110], .agg #[], 1⟩, ⟨Str [116, 104, 114, 101, 97, 100], .agg #[], 2⟩, ⟨Str [105, 102], .agg #[], 3⟩, ⟨Str [101, 108, 115, 101], .agg #[], 4⟩, ⟨Str [119, 104, 105, 108, 101], .agg #[], 5⟩, ⟨Str [108, 111, 97, 100], .agg #[], 6⟩, ⟨Str [115, 116, 111, 114, 101], .agg #[], 7⟩] 8) (by kernel_rfl) rfl ((run_insS (kt := 9) (et := 79) (s := ⟨List.toArray [115, 116, 111, 114, 101]⟩) (u := (.agg #[])) rfl rfl rfl rfl Tryd.underlying78 Tryd.underlying9 (hM.obj 0 rfl) (by kernel_rfl)).trans (by kernel_rfl)) fun w hM => ?_
 replace hM := hM.to [.obj b1 (.map #[⟨Str [115, 104, 97, 114, 101, 100], .agg #[], 0⟩, ⟨Str [112, 108, 97, 105, 110], .agg #[], 1⟩, ⟨Str [116, 104, 114, 101, 97, 100], .agg #[], 2⟩, ⟨Str [105, 102], .agg #[], 3⟩, ⟨Str [101, 108, 115, 101], .agg #[], 4⟩, ⟨Str [119, 104, 105, 108, 101], .agg #[], 5⟩, ⟨Str [108, 111, 97, 100], .agg #[], 6⟩, ⟨Str [115, 116, 111, 114, 101], .agg #[], 7⟩] 8)] (by kernel_rfl)
 refine stepP hK 10 (.agg #[]) (by kernel_rfl) (by kernel_rfl) fun a hK => ?_
 refine stepSetObj hK hM 0 (.map #[⟨Str [115, 104, 97, 114, 101, 100], .agg #[], 0⟩, ⟨Str [112, 108, 97, 105, 110], .agg #[], 1⟩, ⟨Str [116, 104, 114, 101, 97, 100], .agg #[], 2⟩, ⟨Str [105, 102], .agg #[], 3⟩, ⟨Str [101, 108, 115, 101], .agg #[], 4⟩, ⟨Str [119, 104, 105, 108, 101], .agg #[], 5⟩, ⟨Str [108, 111, 97, 100], .agg #[], 6⟩, ⟨Str [115, 116, 111, 114, 101], .agg #[], 7⟩, ⟨Str [99, 97, 115], .agg #[], 8⟩] 9) (by kernel_rfl) rfl ((run_insS (kt := 9) (et := 79) (s := ⟨List.toArray [99, 97, 115]⟩) (u := (.agg #[])) rfl rfl rfl rfl Tryd.underlying78 Tryd.underlying9 (hM.obj 0 rfl) (by kernel_rfl)).trans (by kernel_rfl)) fun w hM => ?_
 replace hM := hM.to [.obj b1 (.map #[⟨Str [115, 104, 97, 114, 101, 100], .agg #[], 0⟩, ⟨Str [112, 108, 97, 105, 110], .agg #[], 1⟩, ⟨Str [116, 104, 114, 101, 97, 100], .agg #[], 2⟩, ⟨Str [105, 102], .agg #[], 3⟩, ⟨Str [101, 108, 115, 101], .agg #[], 4⟩, ⟨Str [119, 104, 105, 108, 101], .agg #[], 5⟩, ⟨Str [108, 111, 97, 100], .agg #[], 6⟩, ⟨Str [115, 116, 111, 114, 101], .agg #[], 7⟩, ⟨Str [99, 97, 115], .agg #[], 8⟩] 9)] (by kernel_rfl)
 refine stepP hK 11 (.agg #[]) (by kernel_rfl) (by kernel_rfl) fun a hK => ?_
 refine stepSetObj hK hM 0 (.map #[⟨Str [115, 104, 97, 114, 101, 100], .agg #[], 0⟩, ⟨Str [112, 108, 97, 105, 110], .agg #[], 1⟩, ⟨Str [116, 104, 114, 101, 97, 100], .agg #[], 2⟩, ⟨Str [105, 102], .agg #[], 3⟩, ⟨Str [101, 108, 115, 101], .agg #[], 4⟩, ⟨Str [119, 104, 105, 108, 101], .agg #[], 5⟩, ⟨Str [108, 111, 97, 100], .agg #[], 6⟩, ⟨Str [115, 116, 111, 114, 101], .agg #[], 7⟩, ⟨Str [99, 97, 115], .agg #[], 8⟩, ⟨Str [97, 100, 100], .agg #[], 9⟩] 10) (by kernel_rfl) rfl ((run_insS (kt := 9) (et := 79) (s := ⟨List.toArray [97, 100, 100]⟩) (u := (.agg #[])) rfl rfl rfl rfl Tryd.underlying78 Tryd.underlying9 (hM.obj 0 rfl) (by kernel_rfl)).trans (by kernel_rfl)) fun w hM => ?_
 replace hM := hM.to [.obj b1 (.map #[⟨Str [115, 104, 97, 114, 101, 100], .agg #[], 0⟩, ⟨Str [112, 108, 97, 105, 110], .agg #[], 1⟩, ⟨Str [116, 104, 114, 101, 97, 100], .agg #[], 2⟩, ⟨Str [105, 102], .agg #[], 3⟩, ⟨Str [101, 108, 115, 101], .agg #[], 4⟩, ⟨Str [119, 104, 105, 108, 101], .agg #[], 5⟩, ⟨Str [108, 111, 97, 100], .agg #[], 6⟩, ⟨Str [115, 116, 111, 114, 101], .agg #[], 7⟩, ⟨Str [99, 97, 115], .agg #[], 8⟩, ⟨Str [97, 100, 100], .agg #[], 9⟩] 10)] (by kernel_rfl)
 refine stepP hK 12 (.agg #[]) (by kernel_rfl) (by kernel_rfl) fun a hK => ?_
 refine stepSetObj hK hM 0 (.map #[⟨Str [115, 104, 97, 114, 101, 100], .agg #[], 0⟩, ⟨Str [112, 108, 97, 105, 110], .agg #[], 1⟩, ⟨Str [116, 104, 114, 101, 97, 100], .agg #[], 2⟩, ⟨Str [105, 102], .agg #[], 3⟩, ⟨Str [101, 108, 115, 101], .agg #[], 4⟩, ⟨Str [119, 104, 105, 108, 101], .agg #[], 5⟩, ⟨Str [108, 111, 97, 100], .agg #[], 6⟩, ⟨Str [115, 116, 111, 114, 101], .agg #[], 7⟩, ⟨Str [99, 97, 115], .agg #[], 8⟩, ⟨Str [97, 100, 100], .agg #[], 9⟩, ⟨Str [115, 119, 97, 112], .agg #[], 10⟩] 11) (by kernel_rfl) rfl ((run_insS (kt := 9) (et := 79) (s := ⟨List.toArray [115, 119, 97, 112]⟩) (u := (.agg #[])) rfl rfl rfl rfl Tryd.underlying78 Tryd.underlying9 (hM.obj 0 rfl) (by kernel_rfl)).trans (by kernel_rfl)) fun w hM => ?_
 replace hM := hM.to [.obj b1 (.map #[⟨Str [115, 104, 97, 114, 101, 100], .agg #[], 0⟩, ⟨Str [112, 108, 97, 105, 110], .agg #[], 1⟩, ⟨Str [116, 104, 114, 101, 97, 100], .agg #[], 2⟩, ⟨Str [105, 102], .agg #[], 3⟩, ⟨Str [101, 108, 115, 101], .agg #[], 4⟩, ⟨Str [119, 104, 105, 108, 101], .agg #[], 5⟩, ⟨Str [108, 111, 97, 100], .agg #[], 6⟩, ⟨Str [115, 116, 111, 114, 101], .agg #[], 7⟩, ⟨Str [99, 97, 115], .agg #[], 8⟩, ⟨Str [97, 100, 100], .agg #[], 9⟩, ⟨Str [115, 119, 97, 112], .agg #[], 10⟩] 11)] (by kernel_rfl)
 refine stepP hK 13 (.agg #[]) (by kernel_rfl) (by kernel_rfl) fun a hK => ?_
 refine stepSetObj hK hM 0 (.map #[⟨Str [115, 104, 97, 114, 101, 100], .agg #[], 0⟩, ⟨Str [112, 108, 97, 105, 110], .agg #[], 1⟩, ⟨Str [116, 104, 114, 101, 97, 100], .agg #[], 2⟩, ⟨Str [105, 102], .agg #[], 3⟩, ⟨Str [101, 108, 115, 101], .agg #[], 4⟩, ⟨Str [119, 104, 105, 108, 101], .agg #[], 5⟩, ⟨Str [108, 111, 97, 100], .agg #[], 6⟩, ⟨Str [115, 116, 111, 114, 101], .agg #[], 7⟩, ⟨Str [99, 97, 115], .agg #[], 8⟩, ⟨Str [97, 100, 100], .agg #[], 9⟩, ⟨Str [115, 119, 97, 112], .agg #[], 10⟩, ⟨Str [102, 101, 110, 99, 101], .agg #[], 11⟩] 12) (by kernel_rfl) rfl ((run_insS (kt := 9) (et := 79) (s := ⟨List.toArray [102, 101, 110, 99, 101]⟩) (u := (.agg #[])) rfl rfl rfl rfl Tryd.underlying78 Tryd.underlying9 (hM.obj 0 rfl) (by kernel_rfl)).trans (by kernel_rfl)) fun w hM => ?_
 replace hM := hM.to [.obj b1 (.map #[⟨Str [115, 104, 97, 114, 101, 100], .agg #[], 0⟩, ⟨Str [112, 108, 97, 105, 110], .agg #[], 1⟩, ⟨Str [116, 104, 114, 101, 97, 100], .agg #[], 2⟩, ⟨Str [105, 102], .agg #[], 3⟩, ⟨Str [101, 108, 115, 101], .agg #[], 4⟩, ⟨Str [119, 104, 105, 108, 101], .agg #[], 5⟩, ⟨Str [108, 111, 97, 100], .agg #[], 6⟩, ⟨Str [115, 116, 111, 114, 101], .agg #[], 7⟩, ⟨Str [99, 97, 115], .agg #[], 8⟩, ⟨Str [97, 100, 100], .agg #[], 9⟩, ⟨Str [115, 119, 97, 112], .agg #[], 10⟩, ⟨Str [102, 101, 110, 99, 101], .agg #[], 11⟩] 12)] (by kernel_rfl)
 refine stepP hK 14 (.agg #[]) (by kernel_rfl) (by kernel_rfl) fun a hK => ?_
 refine stepSetObj hK hM 0 (.map #[⟨Str [115, 104, 97, 114, 101, 100], .agg #[], 0⟩, ⟨Str [112, 108, 97, 105, 110], .agg #[], 1⟩, ⟨Str [116, 104, 114, 101, 97, 100], .agg #[], 2⟩, ⟨Str [105, 102], .agg #[], 3⟩, ⟨Str [101, 108, 115, 101], .agg #[], 4⟩, ⟨Str [119, 104, 105, 108, 101], .agg #[], 5⟩, ⟨Str [108, 111, 97, 100], .agg #[], 6⟩, ⟨Str [115, 116, 111, 114, 101], .agg #[], 7⟩, ⟨Str [99, 97, 115], .agg #[], 8⟩, ⟨Str [97, 100, 100], .agg #[], 9⟩, ⟨Str [115, 119, 97, 112], .agg #[], 10⟩, ⟨Str [102, 101, 110, 99, 101], .agg #[], 11⟩, ⟨Str [97, 115, 115, 117, 109, 101], .agg #[], 12⟩] 13) (by kernel_rfl) rfl ((run_insS (kt := 9) (et := 79) (s := ⟨List.toArray [97, 115, 115, 117, 109, 101]⟩) (u := (.agg #[])) rfl rfl rfl rfl Tryd.underlying78 Tryd.underlying9 (hM.obj 0 rfl) (by kernel_rfl)).trans (by kernel_rfl)) fun w hM => ?_
 replace hM := hM.to [.obj b1 (.map #[⟨Str [115, 104, 97, 114, 101, 100], .agg #[], 0⟩, ⟨Str [112, 108, 97, 105, 110], .agg #[], 1⟩, ⟨Str [116, 104, 114, 101, 97, 100], .agg #[], 2⟩, ⟨Str [105, 102], .agg #[], 3⟩, ⟨Str [101, 108, 115, 101], .agg #[], 4⟩, ⟨Str [119, 104, 105, 108, 101], .agg #[], 5⟩, ⟨Str [108, 111, 97, 100], .agg #[], 6⟩, ⟨Str [115, 116, 111, 114, 101], .agg #[], 7⟩, ⟨Str [99, 97, 115], .agg #[], 8⟩, ⟨Str [97, 100, 100], .agg #[], 9⟩, ⟨Str [115, 119, 97, 112], .agg #[], 10⟩, ⟨Str [102, 101, 110, 99, 101], .agg #[], 11⟩, ⟨Str [97, 115, 115, 117, 109, 101], .agg #[], 12⟩] 13)] (by kernel_rfl)
 refine stepP hK 15 (.agg #[]) (by kernel_rfl) (by kernel_rfl) fun a hK => ?_
 refine stepSetObj hK hM 0 (.map #[⟨Str [115, 104, 97, 114, 101, 100], .agg #[], 0⟩, ⟨Str [112, 108, 97, 105, 110], .agg #[], 1⟩, ⟨Str [116, 104, 114, 101, 97, 100], .agg #[], 2⟩, ⟨Str [105, 102], .agg #[], 3⟩, ⟨Str [101, 108, 115, 101], .agg #[], 4⟩, ⟨Str [119, 104, 105, 108, 101], .agg #[], 5⟩, ⟨Str [108, 111, 97, 100], .agg #[], 6⟩, ⟨Str [115, 116, 111, 114, 101], .agg #[], 7⟩, ⟨Str [99, 97, 115], .agg #[], 8⟩, ⟨Str [97, 100, 100], .agg #[], 9⟩, ⟨Str [115, 119, 97, 112], .agg #[], 10⟩, ⟨Str [102, 101, 110, 99, 101], .agg #[], 11⟩, ⟨Str [97, 115, 115, 117, 109, 101], .agg #[], 12⟩, ⟨Str [97, 115, 115, 101, 114, 116], .agg #[], 13⟩] 14) (by kernel_rfl) rfl ((run_insS (kt := 9) (et := 79) (s := ⟨List.toArray [97, 115, 115, 101, 114, 116]⟩) (u := (.agg #[])) rfl rfl rfl rfl Tryd.underlying78 Tryd.underlying9 (hM.obj 0 rfl) (by kernel_rfl)).trans (by kernel_rfl)) fun w hM => ?_
 replace hM := hM.to [.obj b1 (.map #[⟨Str [115, 104, 97, 114, 101, 100], .agg #[], 0⟩, ⟨Str [112, 108, 97, 105, 110], .agg #[], 1⟩, ⟨Str [116, 104, 114, 101, 97, 100], .agg #[], 2⟩, ⟨Str [105, 102], .agg #[], 3⟩, ⟨Str [101, 108, 115, 101], .agg #[], 4⟩, ⟨Str [119, 104, 105, 108, 101], .agg #[], 5⟩, ⟨Str [108, 111, 97, 100], .agg #[], 6⟩, ⟨Str [115, 116, 111, 114, 101], .agg #[], 7⟩, ⟨Str [99, 97, 115], .agg #[], 8⟩, ⟨Str [97, 100, 100], .agg #[], 9⟩, ⟨Str [115, 119, 97, 112], .agg #[], 10⟩, ⟨Str [102, 101, 110, 99, 101], .agg #[], 11⟩, ⟨Str [97, 115, 115, 117, 109, 101], .agg #[], 12⟩, ⟨Str [97, 115, 115, 101, 114, 116], .agg #[], 13⟩] 14)] (by kernel_rfl)
 refine stepP hK 16 (.agg #[]) (by kernel_rfl) (by kernel_rfl) fun a hK => ?_
 refine stepSetObj hK hM 0 (.map #[⟨Str [115, 104, 97, 114, 101, 100], .agg #[], 0⟩, ⟨Str [112, 108, 97, 105, 110], .agg #[], 1⟩, ⟨Str [116, 104, 114, 101, 97, 100], .agg #[], 2⟩, ⟨Str [105, 102], .agg #[], 3⟩, ⟨Str [101, 108, 115, 101], .agg #[], 4⟩, ⟨Str [119, 104, 105, 108, 101], .agg #[], 5⟩, ⟨Str [108, 111, 97, 100], .agg #[], 6⟩, ⟨Str [115, 116, 111, 114, 101], .agg #[], 7⟩, ⟨Str [99, 97, 115], .agg #[], 8⟩, ⟨Str [97, 100, 100], .agg #[], 9⟩, ⟨Str [115, 119, 97, 112], .agg #[], 10⟩, ⟨Str [102, 101, 110, 99, 101], .agg #[], 11⟩, ⟨Str [97, 115, 115, 117, 109, 101], .agg #[], 12⟩, ⟨Str [97, 115, 115, 101, 114, 116], .agg #[], 13⟩, ⟨Str [110, 97], .agg #[], 14⟩] 15) (by kernel_rfl) rfl ((run_insS (kt := 9) (et := 79) (s := ⟨List.toArray [110, 97]⟩) (u := (.agg #[])) rfl rfl rfl rfl Tryd.underlying78 Tryd.underlying9 (hM.obj 0 rfl) (by kernel_rfl)).trans (by kernel_rfl)) fun w hM => ?_
 replace hM := hM.to [.obj b1 (.map #[⟨Str [115, 104, 97, 114, 101, 100], .agg #[], 0⟩, ⟨Str [112, 108, 97, 105, 110], .agg #[], 1⟩, ⟨Str [116, 104, 114, 101, 97, 100], .agg #[], 2⟩, ⟨Str [105, 102], .agg #[], 3⟩, ⟨Str [101, 108, 115, 101], .agg #[], 4⟩, ⟨Str [119, 104, 105, 108, 101], .agg #[], 5⟩, ⟨Str [108, 111, 97, 100], .agg #[], 6⟩, ⟨Str [115, 116, 111, 114, 101], .agg #[], 7⟩, ⟨Str [99, 97, 115], .agg #[], 8⟩, ⟨Str [97, 100, 100], .agg #[], 9⟩, ⟨Str [115, 119, 97, 112], .agg #[], 10⟩, ⟨Str [102, 101, 110, 99, 101], .agg #[], 11⟩, ⟨Str [97, 115, 115, 117, 109, 101], .agg #[], 12⟩, ⟨Str [97, 115, 115, 101, 114, 116], .agg #[], 13⟩, ⟨Str [110, 97], .agg #[], 14⟩] 15)] (by kernel_rfl)
 refine stepP hK 17 (.agg #[]) (by kernel_rfl) (by kernel_rfl) fun a hK => ?_
 refine stepSetObj hK hM 0 (.map #[⟨Str [115, 104, 97, 114, 101, 100], .agg #[], 0⟩, ⟨Str [112, 108, 97, 105, 110], .agg #[], 1⟩, ⟨Str [116, 104, 114, 101, 97, 100], .agg #[], 2⟩, ⟨Str [105, 102], .agg #[], 3⟩, ⟨Str [101, 108, 115, 101], .agg #[], 4⟩, ⟨Str [119, 104, 105, 108, 101], .agg #[], 5⟩, ⟨Str [108, 111, 97, 100], .agg #[], 6⟩, ⟨Str [115, 116, 111, 114, 101], .agg #[], 7⟩, ⟨Str [99, 97, 115], .agg #[], 8⟩, ⟨Str [97, 100, 100], .agg #[], 9⟩, ⟨Str [115, 119, 97, 112], .agg #[], 10⟩, ⟨Str [102, 101, 110, 99, 101], .agg #[], 11⟩, ⟨Str [97, 115, 115, 117, 109, 101], .agg #[], 12⟩, ⟨Str [97, 115, 115, 101, 114, 116], .agg #[], 13⟩, ⟨Str [110, 97], .agg #[], 14⟩, ⟨Str [114, 108, 120], .agg #[], 15⟩] 16) (by kernel_rfl) rfl ((run_insS (kt := 9) (et := 79) (s := ⟨List.toArray [114, 108, 120]⟩) (u := (.agg #[])) rfl rfl rfl rfl Tryd.underlying78 Tryd.underlying9 (hM.obj 0 rfl) (by kernel_rfl)).trans (by kernel_rfl)) fun w hM => ?_
 replace hM := hM.to [.obj b1 (.map #[⟨Str [115, 104, 97, 114, 101, 100], .agg #[], 0⟩, ⟨Str [112, 108, 97, 105, 110], .agg #[], 1⟩, ⟨Str [116, 104, 114, 101, 97, 100], .agg #[], 2⟩, ⟨Str [105, 102], .agg #[], 3⟩, ⟨Str [101, 108, 115, 101], .agg #[], 4⟩, ⟨Str [119, 104, 105, 108, 101], .agg #[], 5⟩, ⟨Str [108, 111, 97, 100], .agg #[], 6⟩, ⟨Str [115, 116, 111, 114, 101], .agg #[], 7⟩, ⟨Str [99, 97, 115], .agg #[], 8⟩, ⟨Str [97, 100, 100], .agg #[], 9⟩, ⟨Str [115, 119, 97, 112], .agg #[], 10⟩, ⟨Str [102, 101, 110, 99, 101], .agg #[], 11⟩, ⟨Str [97, 115, 115, 117, 109, 101], .agg #[], 12⟩, ⟨Str [97, 115, 115, 101, 114, 116], .agg #[], 13⟩, ⟨Str [110, 97], .agg #[], 14⟩, ⟨Str [114, 108, 120], .agg #[], 15⟩] 16)] (by kernel_rfl)
 refine stepP hK 18 (.agg #[]) (by kernel_rfl) (by kernel_rfl) fun a hK => ?_
 refine stepSetObj hK hM 0 (.map #[⟨Str [115, 104, 97, 114, 101, 100], .agg #[], 0⟩, ⟨Str [112, 108, 97, 105, 110], .agg #[], 1⟩, ⟨Str [116, 104, 114, 101, 97, 100], .agg #[], 2⟩, ⟨Str [105, 102], .agg #[], 3⟩, ⟨Str [101, 108, 115, 101], .agg #[], 4⟩, ⟨Str [119, 104, 105, 108, 101], .agg #[], 5⟩, ⟨Str [108, 111, 97, 100], .agg #[], 6⟩, ⟨Str [115, 116, 111, 114, 101], .agg #[], 7⟩, ⟨Str [99, 97, 115], .agg #[], 8⟩, ⟨Str [97, 100, 100], .agg #[], 9⟩, ⟨Str [115, 119, 97, 112], .agg #[], 10⟩, ⟨Str [102, 101, 110, 99, 101], .agg #[], 11⟩, ⟨Str [97, 115, 115, 117, 109, 101], .agg #[], 12⟩, ⟨Str [97, 115, 115, 101, 114, 116], .agg #[], 13⟩, ⟨Str [110, 97], .agg #[], 14⟩, ⟨Str [114, 108, 120], .agg #[], 15⟩, ⟨Str [97, 99, 113], .agg #[], 16⟩] 17) (by kernel_rfl) rfl ((run_insS (kt := 9) (et := 79) (s := ⟨List.toArray [97, 99, 113]⟩) (u := (.agg #[])) rfl rfl rfl rfl Tryd.underlying78 Tryd.underlying9 (hM.obj 0 rfl) (by kernel_rfl)).trans (by kernel_rfl)) fun w hM => ?_
 replace hM := hM.to [.obj b1 (.map #[⟨Str [115, 104, 97, 114, 101, 100], .agg #[], 0⟩, ⟨Str [112, 108, 97, 105, 110], .agg #[], 1⟩, ⟨Str [116, 104, 114, 101, 97, 100], .agg #[], 2⟩, ⟨Str [105, 102], .agg #[], 3⟩, ⟨Str [101, 108, 115, 101], .agg #[], 4⟩, ⟨Str [119, 104, 105, 108, 101], .agg #[], 5⟩, ⟨Str [108, 111, 97, 100], .agg #[], 6⟩, ⟨Str [115, 116, 111, 114, 101], .agg #[], 7⟩, ⟨Str [99, 97, 115], .agg #[], 8⟩, ⟨Str [97, 100, 100], .agg #[], 9⟩, ⟨Str [115, 119, 97, 112], .agg #[], 10⟩, ⟨Str [102, 101, 110, 99, 101], .agg #[], 11⟩, ⟨Str [97, 115, 115, 117, 109, 101], .agg #[], 12⟩, ⟨Str [97, 115, 115, 101, 114, 116], .agg #[], 13⟩, ⟨Str [110, 97], .agg #[], 14⟩, ⟨Str [114, 108, 120], .agg #[], 15⟩, ⟨Str [97, 99, 113], .agg #[], 16⟩] 17)] (by kernel_rfl)
 refine stepP hK 19 (.agg #[]) (by kernel_rfl) (by kernel_rfl) fun a hK => ?_
 refine stepSetObj hK hM 0 (.map #[⟨Str [115, 104, 97, 114, 101, 100], .agg #[], 0⟩, ⟨Str [112, 108, 97, 105, 110], .agg #[], 1⟩, ⟨Str [116, 104, 114, 101, 97, 100], .agg #[], 2⟩, ⟨Str [105, 102], .agg #[], 3⟩, ⟨Str [101, 108, 115, 101], .agg #[], 4⟩, ⟨Str [119, 104, 105, 108, 101], .agg #[], 5⟩, ⟨Str [108, 111, 97, 100], .agg #[], 6⟩, ⟨Str [115, 116, 111, 114, 101], .agg #[], 7⟩, ⟨Str [99, 97, 115], .agg #[], 8⟩, ⟨Str [97, 100, 100], .agg #[], 9⟩, ⟨Str [115, 119, 97, 112], .agg #[], 10⟩, ⟨Str [102, 101, 110, 99, 101], .agg #[], 11⟩, ⟨Str [97, 115, 115, 117, 109, 101], .agg #[], 12⟩, ⟨Str [97, 115, 115, 101, 114, 116], .agg #[], 13⟩, ⟨Str [110, 97], .agg #[], 14⟩, ⟨Str [114, 108, 120], .agg #[], 15⟩, ⟨Str [97, 99, 113], .agg #[], 16⟩, ⟨Str [114, 101, 108], .agg #[], 17⟩] 18) (by kernel_rfl) rfl ((run_insS (kt := 9) (et := 79) (s := ⟨List.toArray [114, 101, 108]⟩) (u := (.agg #[])) rfl rfl rfl rfl Tryd.underlying78 Tryd.underlying9 (hM.obj 0 rfl) (by kernel_rfl)).trans (by kernel_rfl)) fun w hM => ?_
 replace hM := hM.to [.obj b1 (.map #[⟨Str [115, 104, 97, 114, 101, 100], .agg #[], 0⟩, ⟨Str [112, 108, 97, 105, 110], .agg #[], 1⟩, ⟨Str [116, 104, 114, 101, 97, 100], .agg #[], 2⟩, ⟨Str [105, 102], .agg #[], 3⟩, ⟨Str [101, 108, 115, 101], .agg #[], 4⟩, ⟨Str [119, 104, 105, 108, 101], .agg #[], 5⟩, ⟨Str [108, 111, 97, 100], .agg #[], 6⟩, ⟨Str [115, 116, 111, 114, 101], .agg #[], 7⟩, ⟨Str [99, 97, 115], .agg #[], 8⟩, ⟨Str [97, 100, 100], .agg #[], 9⟩, ⟨Str [115, 119, 97, 112], .agg #[], 10⟩, ⟨Str [102, 101, 110, 99, 101], .agg #[], 11⟩, ⟨Str [97, 115, 115, 117, 109, 101], .agg #[], 12⟩, ⟨Str [97, 115, 115, 101, 114, 116], .agg #[], 13⟩, ⟨Str [110, 97], .agg #[], 14⟩, ⟨Str [114, 108, 120], .agg #[], 15⟩, ⟨Str [97, 99, 113], .agg #[], 16⟩, ⟨Str [114, 101, 108], .agg #[], 17⟩] 18)] (by kernel_rfl)
 refine stepP hK 20 (.agg #[]) (by kernel_rfl) (by kernel_rfl) fun a hK => ?_
 refine stepSetObj hK hM 0 (.map #[⟨Str [115, 104, 97, 114, 101, 100], .agg #[], 0⟩, ⟨Str [112, 108, 97, 105, 110], .agg #[], 1⟩, ⟨Str [116, 104, 114, 101, 97, 100], .agg #[], 2⟩, ⟨Str [105, 102], .agg #[], 3⟩, ⟨Str [101, 108, 115, 101], .agg #[], 4⟩, ⟨Str [119, 104, 105, 108, 101], .agg #[], 5⟩, ⟨Str [108, 111, 97, 100], .agg #[], 6⟩, ⟨Str [115, 116, 111, 114, 101], .agg #[], 7⟩, ⟨Str [99, 97, 115], .agg #[], 8⟩, ⟨Str [97, 100, 100], .agg #[], 9⟩, ⟨Str [115, 119, 97, 112], .agg #[], 10⟩, ⟨Str [102, 101, 110, 99, 101], .agg #[], 11⟩, ⟨Str [97, 115, 115, 117, 109, 101], .agg #[], 12⟩, ⟨Str [97, 115, 115, 101, 114, 116], .agg #[], 13⟩, ⟨Str [110, 97], .agg #[], 14⟩, ⟨Str [114, 108, 120], .agg #[], 15⟩, ⟨Str [97, 99, 113], .agg #[], 16⟩, ⟨Str [114, 101, 108], .agg #[], 17⟩, ⟨Str [97, 114], .agg #[], 18⟩] 19) (by kernel_rfl) rfl ((run_insS (kt := 9) (et := 79) (s := ⟨List.toArray [97, 114]⟩) (u := (.agg #[])) rfl rfl rfl rfl Tryd.underlying78 Tryd.underlying9 (hM.obj 0 rfl) (by kernel_rfl)).trans (by kernel_rfl)) fun w hM => ?_
 replace hM := hM.to [.obj b1 (.map #[⟨Str [115, 104, 97, 114, 101, 100], .agg #[], 0⟩, ⟨Str [112, 108, 97, 105, 110], .agg #[], 1⟩, ⟨Str [116, 104, 114, 101, 97, 100], .agg #[], 2⟩, ⟨Str [105, 102], .agg #[], 3⟩, ⟨Str [101, 108, 115, 101], .agg #[], 4⟩, ⟨Str [119, 104, 105, 108, 101], .agg #[], 5⟩, ⟨Str [108, 111, 97, 100], .agg #[], 6⟩, ⟨Str [115, 116, 111, 114, 101], .agg #[], 7⟩, ⟨Str [99, 97, 115], .agg #[], 8⟩, ⟨Str [97, 100, 100], .agg #[], 9⟩, ⟨Str [115, 119, 97, 112], .agg #[], 10⟩, ⟨Str [102, 101, 110, 99, 101], .agg #[], 11⟩, ⟨Str [97, 115, 115, 117, 109, 101], .agg #[], 12⟩, ⟨Str [97, 115, 115, 101, 114, 116], .agg #[], 13⟩, ⟨Str [110, 97], .agg #[], 14⟩, ⟨Str [114, 108, 120], .agg #[], 15⟩, ⟨Str [97, 99, 113], .agg #[], 16⟩, ⟨Str [114, 101, 108], .agg #[], 17⟩, ⟨Str [97, 114], .agg #[], 18⟩] 19)] (by kernel_rfl)
 refine stepP hK 21 (.agg #[]) (by kernel_rfl) (by kernel_rfl) fun a hK => ?_
 refine stepSetObj hK hM 0 (.map #[⟨Str [115, 104, 97, 114, 101, 100], .agg #[], 0⟩, ⟨Str [112, 108, 97, 105, 110], .agg #[], 1⟩, ⟨Str [116, 104, 114, 101, 97, 100], .agg #[], 2⟩, ⟨Str [105, 102], .agg #[], 3⟩, ⟨Str [101, 108, 115, 101], .agg #[], 4⟩, ⟨Str [119, 104, 105, 108, 101], .agg #[], 5⟩, ⟨Str [108, 111, 97, 100], .agg #[], 6⟩, ⟨Str [115, 116, 111, 114, 101], .agg #[], 7⟩, ⟨Str [99, 97, 115], .agg #[], 8⟩, ⟨Str [97, 100, 100], .agg #[], 9⟩, ⟨Str [115, 119, 97, 112], .agg #[], 10⟩, ⟨Str [102, 101, 110, 99, 101], .agg #[], 11⟩, ⟨Str [97, 115, 115, 117, 109, 101], .agg #[], 12⟩, ⟨Str [97, 115, 115, 101, 114, 116], .agg #[], 13⟩, ⟨Str [110, 97], .agg #[], 14⟩, ⟨Str [114, 108, 120], .agg #[], 15⟩, ⟨Str [97, 99, 113], .agg #[], 16⟩, ⟨Str [114, 101, 108], .agg #[], 17⟩, ⟨Str [97, 114], .agg #[], 18⟩, ⟨Str [115, 99], .agg #[], 19⟩] 20) (by kernel_rfl) rfl ((run_insS (kt := 9) (et := 79) (s := ⟨List.toArray [115, 99]⟩) (u := (.agg #[])) rfl rfl rfl rfl Tryd.underlying78 Tryd.underlying9 (hM.obj 0 rfl) (by kernel_rfl)).trans (by kernel_rfl)) fun w hM => ?_
 replace hM := hM.to [.obj b1 (.map #[⟨Str [115, 104, 97, 114, 101, 100], .agg #[], 0⟩, ⟨Str [112, 108, 97, 105, 110], .agg #[], 1⟩, ⟨Str [116, 104, 114, 101, 97, 100], .agg #[], 2⟩, ⟨Str [105, 102], .agg #[], 3⟩, ⟨Str [101, 108, 115, 101], .agg #[], 4⟩, ⟨Str [119, 104, 105, 108, 101], .agg #[], 5⟩, ⟨Str [108, 111, 97, 100], .agg #[], 6⟩, ⟨Str [115, 116, 111, 114, 101], .agg #[], 7⟩, ⟨Str [99, 97, 115], .agg #[], 8⟩, ⟨Str [97, 100, 100], .agg #[], 9⟩, ⟨Str [115, 119, 97, 112], .agg #[], 10⟩, ⟨Str [102, 101, 110, 99, 101], .agg #[], 11⟩, ⟨Str [97, 115, 115, 117, 109, 101], .agg #[], 12⟩, ⟨Str [97, 115, 115, 101, 114, 116], .agg #[], 13⟩, ⟨Str [110, 97], .agg #[], 14⟩, ⟨Str [114, 108, 120], .agg #[], 15⟩, ⟨Str [97, 99, 113], .agg #[], 16⟩, ⟨Str [114, 101, 108], .agg #[], 17⟩, ⟨Str [97, 114], .agg #[], 18⟩, ⟨Str [115, 99], .agg #[], 19⟩] 20)] (by kernel_rfl)
 refine stepM hK 22 1 (by kernel_rfl) (.inl rfl) rfl fun a hK => ?_
 refine stepM hK 0 22 (by kernel_rfl) (.inr rfl) rfl fun a hK => ?_
 refine region_done hK [(0, .map (some b1))] ⟨rfl, trivial⟩ fun a hK => ?_
 refine wp_ret ?_
 replace hM := hM.to [.obj b1 kwObj] (by kernel_rfl)
 exact ret_t hK rfl (u := (.map (some b1))) rfl (⟨b1, rfl, hM, trivial⟩)
theorem en_lex_keywords : Enters Tryd.prog 100 := enters_of Tryd.func100 (by kernel_rfl) rfl
theorem kw_kind_true {l : List UInt8} (h : keyL.contains l = true) : 2 = kindOf l := by unfold kindOf; rw [if_pos (by simpa using h)]
theorem kw_kind_false {l : List UInt8} (h : keyL.contains l = false) : 1 = kindOf l := by unfold kindOf; rw [if_neg (by simpa using h)]
set_option maxRecDepth 100000 in
set_option maxHeartbeats 4000000 in
theorem lex_wordKind (l : List UInt8) (b : Nat) (w0 : World) (hb1 : b < w0.heap.size) (hb2 : w0.heap[b]? = some kwObj) : Calls Tryd.prog 99 #[Str l, .map (some b)] w0 (Ret w0 (.int .i64 ((kindOf l : Nat) : Int))) := by
 refine calls_K (args := [Str l, .map (some b)]) (n := 14) (env := [(0, Str l), (1, .map (some b))]) Tryd.func99 rfl rfl rfl ⟨rfl, rfl, trivial⟩ fun a w hK hM => ?_
 refine wp_seq ?_
 refine region_go (lst := [0]) (by kernel_rfl) ?_
 refine stepP hK 4 (.int .i64 0) (by kernel_rfl) (by kernel_rfl) fun a hK => ?_
 refine region_done hK [(4, .int .i64 0), (0, Str l), (1, .map (some b))] ⟨rfl, rfl, rfl, trivial⟩ fun a hK => ?_
 refine wp_seq ?_
 refine wp_seq ?_
 refine region_go (lst := [0, 1, 2, 3, 4, 5, 6, 7, 8]) (by kernel_rfl) ?_
 refine stepM hK 8 1 (by kernel_rfl) (.inl rfl) rfl fun a hK => ?_
 refine stepM hK 9 0 (by kernel_rfl) (.inl rfl) rfl fun a hK => ?_
 rcases Bool.eq_false_or_eq_true (keyL.contains l) with h1 | h1
 ·obtain ⟨j, hj⟩ := set_yes keyL l 0 h1
  refine stepP hK 10 (.tuple #[.agg #[], .bool true]) (by kernel_rfl) (run_lookS_yes (kt := 9) (et := 79) rfl rfl rfl Tryd.underlying78 Tryd.underlying9 ((hM.below.block _ hb1).trans hb2) hj) fun a hK => ?_
  refine stepM hK 7 10 (by kernel_rfl) (.inl rfl) rfl fun a hK => ?_
  refine stepP hK 11 (.agg #[]) (by kernel_rfl) (by kernel_rfl) fun a hK => ?_
  refine stepP hK 12 (.bool true) (by kernel_rfl) (by kernel_rfl) fun a hK => ?_
  refine stepAlloc hK hM 5 79 [] (fun b => .pointer (some ⟨b, 0, none⟩)) (by kernel_rfl) (by kernel_rfl) fun b2 a w hK hM => ?_
  refine stepStore hK hM 0 [] (by kernel_rfl) rfl rfl rfl rfl (by kernel_rfl) fun w hM => ?_
  replace hM := hM.to [.row b2 79 []] (by kernel_rfl)
  refine stepM hK 6 12 (by kernel_rfl) (.inr rfl) rfl fun a hK => ?_
  refine region_done hK [(6, .bool true), (4, .int .i64 0), (0, Str l), (1, .map (some b))] ⟨rfl, rfl, rfl, rfl, trivial⟩ fun a hK => ?_
  refine wp_seq ?_
  refine region_go (lst := [0]) (by kernel_rfl) ?_
  refine stepM hK 13 6 (by kernel_rfl) (.inl rfl) rfl fun a hK => ?_
  refine region_done hK [(13, .bool true), (6, .bool true), (4, .int .i64 0), (0, Str l), (1, .map (some b))] ⟨rfl, rfl, rfl, rfl, rfl, trivial⟩ fun a hK => ?_
  refine wp_cond_true (hK.get rfl) ?_
  refine wp_seq ?_
  refine region_go (lst := [0]) (by kernel_rfl) ?_
  refine stepP hK 4 (.int .i64 2) (by kernel_rfl) (by kernel_rfl) fun a hK => ?_
  refine region_done hK [(4, .int .i64 2), (13, .bool true), (6, .bool true), (0, Str l), (1, .map (some b))] ⟨rfl, rfl, rfl, rfl, rfl, trivial⟩ fun a hK => ?_
  refine wp_ret ?_
  exact ret_t hK rfl (u := (.int .i64 2)) rfl (⟨congrArg (fun q : Nat => Ending.returned (.int .i64 (q : Int))) (kw_kind_true h1), hM.below⟩)
 ·refine stepP hK 10 (.tuple #[.agg #[], .bool false]) (by kernel_rfl) (run_lookS_no (kt := 9) (et := 79) rfl rfl rfl Tryd.underlying78 Tryd.underlying9 ((hM.below.block _ hb1).trans hb2) (by kernel_rfl) (set_no keyL l 0 h1)) fun a hK => ?_
  refine stepM hK 7 10 (by kernel_rfl) (.inl rfl) rfl fun a hK => ?_
  refine stepP hK 11 (.agg #[]) (by kernel_rfl) (by kernel_rfl) fun a hK => ?_
  refine stepP hK 12 (.bool false) (by kernel_rfl) (by kernel_rfl) fun a hK => ?_
  refine stepAlloc hK hM 5 79 [] (fun b => .pointer (some ⟨b, 0, none⟩)) (by kernel_rfl) (by kernel_rfl) fun b3 a w hK hM => ?_
  refine stepStore hK hM 0 [] (by kernel_rfl) rfl rfl rfl rfl (by kernel_rfl) fun w hM => ?_
  replace hM := hM.to [.row b3 79 []] (by kernel_rfl)
  refine stepM hK 6 12 (by kernel_rfl) (.inr rfl) rfl fun a hK => ?_
  refine region_done hK [(6, .bool false), (4, .int .i64 0), (0, Str l), (1, .map (some b))] ⟨rfl, rfl, rfl, rfl, trivial⟩ fun a hK => ?_
  refine wp_seq ?_
  refine region_go (lst := [0]) (by kernel_rfl) ?_
  refine stepM hK 13 6 (by kernel_rfl) (.inl rfl) rfl fun a hK => ?_
  refine region_done hK [(13, .bool false), (6, .bool false), (4, .int .i64 0), (0, Str l), (1, .map (some b))] ⟨rfl, rfl, rfl, rfl, rfl, trivial⟩ fun a hK => ?_
  refine wp_cond_false (hK.get rfl) ?_
  refine wp_skip ?_
  refine wp_seq ?_
  refine region_go (lst := [0]) (by kernel_rfl) ?_
  refine stepP hK 4 (.int .i64 1) (by kernel_rfl) (by kernel_rfl) fun a hK => ?_
  refine region_done hK [(4, .int .i64 1), (13, .bool false), (6, .bool false), (0, Str l), (1, .map (some b))] ⟨rfl, rfl, rfl, rfl, rfl, trivial⟩ fun a hK => ?_
  refine wp_ret ?_
  exact ret_t hK rfl (u := (.int .i64 1)) rfl (⟨congrArg (fun q : Nat => Ending.returned (.int .i64 (q : Int))) (kw_kind_false h1), hM.below⟩)
theorem en_lex_wordKind : Enters Tryd.prog 99 := enters_of Tryd.func99 (by kernel_rfl) rfl

theorem inWordB_eq : inWordB = wordB := by
 funext c; unfold inWordB wordB
 rw [Bool.or_assoc]; rfl
/-- What Word answers. -/
def wordV (l : List UInt8) : Value := match l with
 | [] => .tuple #[.int .i64 0, .bool false]
 | c :: r => if (isLetter c && (c :: r).all wordB) = true then .tuple #[.int .i64 ((kindOf (c :: r) : Nat) : Int), .bool true] else .tuple #[.int .i64 0, .bool false]
theorem runL_lt (l : List UInt8) : runL inWordB l < l.length ↔ l.all wordB = false := by
 rw [inWordB_eq]; unfold runL
 constructor
 ·intro h
  cases e : l.all wordB with
  | false => rfl
  | true =>
   rw [takeWhile_all (fun j c _ hc => List.all_eq_true.1 e c (List.mem_of_getElem? hc))] at h
   omega
 ·intro h
  have h1 := (List.takeWhile_prefix (p := wordB) (l := l)).length_le
  rcases Nat.lt_or_ge (l.takeWhile wordB).length l.length with h2 | h2
  ·exact h2
  ·have : l.takeWhile wordB = l := (List.takeWhile_prefix _).eq_of_length (by omega)
   have h3 := List.all_takeWhile (p := wordB) (l := l)
   rw [this, h] at h3; cases h3
section
variable {l : List UInt8} {c : UInt8}
theorem wordV_no1 (hc : l[0]? = some c) (h : isLetter c = false) : wordV l = .tuple #[.int .i64 0, .bool false] := by
 cases l with
 | nil => cases hc
 | cons a r => obtain rfl := Option.some.inj hc; unfold wordV; simp only; rw [h, Bool.false_and, if_neg (by decide)]
theorem wordV_no2 (hc : l[0]? = some c) (h : runL inWordB l < l.length) : wordV l = .tuple #[.int .i64 0, .bool false] := by
 cases l with
 | nil => cases hc
 | cons a r => unfold wordV; simp only; rw [(runL_lt _).1 h, Bool.and_false, if_neg (by decide)]
theorem wordV_yes (hc : l[0]? = some c) (h : isLetter c = true) (h2 : ¬ runL inWordB l < l.length) : wordV l = .tuple #[.int .i64 ((kindOf l : Nat) : Int), .bool true] := by
 cases l with
 | nil => cases hc
 | cons a r =>
  obtain rfl := Option.some.inj hc
  have e : (a :: r).all wordB = true := by
   rcases Bool.eq_false_or_eq_true ((a :: r).all wordB) with h' | h'
   ·exact h'
   ·exact absurd ((runL_lt _).2 h') h2
  unfold wordV; simp only; rw [h, e, if_pos (by decide)]
end
set_option maxRecDepth 100000 in
set_option maxHeartbeats 4000000 in
theorem lex_Word (l : List UInt8) (hlen : l.length ≤ 4611686018427387904) (w0 : World) : Calls Tryd.prog 84 #[Str l] w0 (Ret w0 (wordV l)) := by
 refine calls_K (args := [Str l]) (n := 22) (env := [(0, Str l)]) Tryd.func84 rfl rfl rfl ⟨rfl, trivial⟩ fun a w hK hM => ?_
 refine wp_seq ?_
 refine region_go (lst := [0, 1]) (by kernel_rfl) ?_
 refine stepP hK 2 (.int .i64 0) (by kernel_rfl) (by kernel_rfl) fun a hK => ?_
 refine stepP hK 3 (.bool false) (by kernel_rfl) (by kernel_rfl) fun a hK => ?_
 refine region_done hK [(3, .bool false), (2, .int .i64 0), (0, Str l)] ⟨rfl, rfl, rfl, trivial⟩ fun a hK => ?_
 refine wp_seq ?_
 refine wp_seq ?_
 refine region_go (lst := [0, 1, 2, 3, 4, 5, 6, 7, 8, 9, 10, 11, 12, 13, 14]) (by kernel_rfl) ?_
 refine stepM hK 4 0 (by kernel_rfl) (.inl rfl) rfl fun a hK => ?_
 by_cases h1 : l = []
 ·refine stepP hK 5 (.bool true) (by kernel_rfl) (okBool (b := (decide (l = []))) (run_eqS rfl rfl rfl) (decide_eq_true h1)) fun a hK => ?_
  refine stepM hK 6 5 (by kernel_rfl) (.inl rfl) rfl fun a hK => ?_
  refine stepN hK 7 (by kernel_rfl) fun a hK => ?_
  refine stepN hK 8 (by kernel_rfl) fun a hK => ?_
  refine stepN hK 9 (by kernel_rfl) fun a hK => ?_
  refine stepN hK 10 (by kernel_rfl) fun a hK => ?_
  refine stepP hK 11 (.bool true) (by kernel_rfl) (by kernel_rfl) fun a hK => ?_
  refine stepM hK 12 11 (by kernel_rfl) (.inl rfl) rfl fun a hK => ?_
  refine stepN hK 13 (by kernel_rfl) fun a hK => ?_
  refine stepN hK 14 (by kernel_rfl) fun a hK => ?_
  refine stepN hK 15 (by kernel_rfl) fun a hK => ?_
  refine stepN hK 16 (by kernel_rfl) fun a hK => ?_
  refine stepN hK 17 (by kernel_rfl) fun a hK => ?_
  refine stepP hK 18 (.bool true) (by kernel_rfl) (by kernel_rfl) fun a hK => ?_
  refine region_done hK [(18, .bool true), (3, .bool false), (2, .int .i64 0), (0, Str l)] ⟨rfl, rfl, rfl, rfl, trivial⟩ fun a hK => ?_
  refine wp_cond_true (hK.get rfl) ?_
  refine wp_seq ?_
  refine region_go (lst := [0, 1]) (by kernel_rfl) ?_
  refine stepP hK 2 (.int .i64 0) (by kernel_rfl) (by kernel_rfl) fun a hK => ?_
  refine stepP hK 3 (.bool false) (by kernel_rfl) (by kernel_rfl) fun a hK => ?_
  refine region_done hK [(3, .bool false), (2, .int .i64 0), (18, .bool true), (0, Str l)] ⟨rfl, rfl, rfl, rfl, trivial⟩ fun a hK => ?_
  refine wp_ret ?_
  exact ret_tt hK rfl (u := (.int .i64 0)) (v := (.bool false)) rfl rfl (⟨by rw [h1]; rfl, hM.below⟩)
 ·refine stepP hK 5 (.bool false) (by kernel_rfl) (okBool (b := (decide (l = []))) (run_eqS rfl rfl rfl) (decide_eq_false h1)) fun a hK => ?_
  refine stepM hK 6 5 (by kernel_rfl) (.inl rfl) rfl fun a hK => ?_
  refine stepM hK 7 0 (by kernel_rfl) (.inl rfl) rfl fun a hK => ?_
  obtain ⟨c2, hc2⟩ : ∃ c, l[(0 : Nat)]? = some c := ⟨_, List.getElem?_eq_getElem (by have : l.length ≠ 0 := fun e => h1 (List.eq_nil_of_length_eq_zero e); omega)⟩
  refine stepP hK 8 (.int .u8 ((c2.toNat : Nat) : Int)) (by kernel_rfl) (run_idxS (k := 0) rfl rfl rfl hc2) fun a hK => ?_
  rcases Bool.eq_false_or_eq_true (isLetter c2) with h3 | h3
  ·refine stepRet hK hM 9 #[.int .u8 ((c2.toNat : Nat) : Int)] (.bool true) (by kernel_rfl) (run_callE en_lex_isLetter rfl rfl (by kernel_rfl)) (ret_eq (lex_isLetter c2 _) (congrArg Value.bool h3)) fun a w hK hM => ?_
   refine stepP hK 10 (.bool false) (by kernel_rfl) (by kernel_rfl) fun a hK => ?_
   refine stepP hK 11 (.bool false) (by kernel_rfl) (by kernel_rfl) fun a hK => ?_
   refine stepM hK 12 11 (by kernel_rfl) (.inl rfl) rfl fun a hK => ?_
   refine stepM hK 13 0 (by kernel_rfl) (.inl rfl) rfl fun a hK => ?_
   refine stepRet hK hM 14 #[Str l, .func (.func 98) #[] #[]] (.int .i64 (((runL inWordB l) : Nat) : Int)) (by kernel_rfl) (run_callE en_lex_run rfl rfl (by kernel_rfl)) (lex_run l (by first | omega | (rw [List.length_drop]; omega) | (rw [List.length_take]; omega) | (rw [List.length_take, List.length_drop]; omega)) _ inWordB en_lex_inWord lex_inWord _) fun a w hK hM => ?_
   refine stepM hK 15 0 (by kernel_rfl) (.inl rfl) rfl fun a hK => ?_
   refine stepP hK 16 (.int .i64 ((l.length : Nat) : Int)) (by kernel_rfl) (by kernel_rfl) fun a hK => ?_
   by_cases h4 : ((((runL inWordB l) : Nat) : Int) : Int) < ((l.length : Nat) : Int)
   ·refine stepP hK 17 (.bool true) (by kernel_rfl) (okBool (b := (decide (((((runL inWordB l) : Nat) : Int) : Int) < ((l.length : Nat) : Int)))) (by kernel_rfl) (decide_eq_true h4)) fun a hK => ?_
    refine stepP hK 18 (.bool true) (by kernel_rfl) (by kernel_rfl) fun a hK => ?_
    refine region_done hK [(18, .bool true), (3, .bool false), (2, .int .i64 0), (0, Str l)] ⟨rfl, rfl, rfl, rfl, trivial⟩ fun a hK => ?_
    refine wp_cond_true (hK.get rfl) ?_
    refine wp_seq ?_
    refine region_go (lst := [0, 1]) (by kernel_rfl) ?_
    refine stepP hK 2 (.int .i64 0) (by kernel_rfl) (by kernel_rfl) fun a hK => ?_
    refine stepP hK 3 (.bool false) (by kernel_rfl) (by kernel_rfl) fun a hK => ?_
    refine region_done hK [(3, .bool false), (2, .int .i64 0), (18, .bool true), (0, Str l)] ⟨rfl, rfl, rfl, rfl, trivial⟩ fun a hK => ?_
    refine wp_ret ?_
    exact ret_tt hK rfl (u := (.int .i64 0)) (v := (.bool false)) rfl rfl (⟨by rw [wordV_no2 hc2 (by omega)], hM.below⟩)
   ·refine stepP hK 17 (.bool false) (by kernel_rfl) (okBool (b := (decide (((((runL inWordB l) : Nat) : Int) : Int) < ((l.length : Nat) : Int)))) (by kernel_rfl) (decide_eq_false h4)) fun a hK => ?_
    refine stepP hK 18 (.bool false) (by kernel_rfl) (by kernel_rfl) fun a hK => ?_
    refine region_done hK [(18, .bool false), (3, .bool false), (2, .int .i64 0), (0, Str l)] ⟨rfl, rfl, rfl, rfl, trivial⟩ fun a hK => ?_
    refine wp_cond_false (hK.get rfl) ?_
    refine wp_skip ?_
    refine wp_seq ?_
    refine region_go (lst := [0, 1, 2, 3, 4]) (by kernel_rfl) ?_
    refine stepM hK 19 0 (by kernel_rfl) (.inl rfl) rfl fun a hK => ?_
    refine stepCall hK hM 20 #[] (by kernel_rfl) (run_callE en_lex_keywords rfl rfl (by kernel_rfl)) (lex_keywords _) ?_
    rintro b5 a w - hK hM
    refine stepRet hK hM 21 #[Str l, .map (some b5)] (.int .i64 (((kindOf l) : Nat) : Int)) (by kernel_rfl) (run_callE en_lex_wordKind rfl rfl (by kernel_rfl)) (lex_wordKind l _ _ (hM.objlt 0 rfl) (hM.obj 0 rfl)) fun a w hK hM => ?_
    refine stepM hK 2 21 (by kernel_rfl) (.inr rfl) rfl fun a hK => ?_
    refine stepP hK 3 (.bool true) (by kernel_rfl) (by kernel_rfl) fun a hK => ?_
    refine region_done hK [(3, .bool true), (2, .int .i64 (((kindOf l) : Nat) : Int)), (18, .bool false), (0, Str l)] ⟨rfl, rfl, rfl, rfl, trivial⟩ fun a hK => ?_
    refine wp_ret ?_
    exact ret_tt hK rfl (u := (.int .i64 (((kindOf l) : Nat) : Int))) (v := (.bool true)) rfl rfl (⟨by rw [wordV_yes hc2 h3 (by omega)], hM.below⟩)
  ·refine stepRet hK hM 9 #[.int .u8 ((c2.toNat : Nat) : Int)] (.bool false) (by kernel_rfl) (run_callE en_lex_isLetter rfl rfl (by kernel_rfl)) (ret_eq (lex_isLetter c2 _) (congrArg Value.bool h3)) fun a w hK hM => ?_
   refine stepP hK 10 (.bool true) (by kernel_rfl) (by kernel_rfl) fun a hK => ?_
   refine stepP hK 11 (.bool true) (by kernel_rfl) (by kernel_rfl) fun a hK => ?_
   refine stepM hK 12 11 (by kernel_rfl) (.inl rfl) rfl fun a hK => ?_
   refine stepN hK 13 (by kernel_rfl) fun a hK => ?_
   refine stepN hK 14 (by kernel_rfl) fun a hK => ?_
   refine stepN hK 15 (by kernel_rfl) fun a hK => ?_
   refine stepN hK 16 (by kernel_rfl) fun a hK => ?_
   refine stepN hK 17 (by kernel_rfl) fun a hK => ?_
   refine stepP hK 18 (.bool true) (by kernel_rfl) (by kernel_rfl) fun a hK => ?_
   refine region_done hK [(18, .bool true), (3, .bool false), (2, .int .i64 0), (0, Str l)] ⟨rfl, rfl, rfl, rfl, trivial⟩ fun a hK => ?_
   refine wp_cond_true (hK.get rfl) ?_
   refine wp_seq ?_
   refine region_go (lst := [0, 1]) (by kernel_rfl) ?_
   refine stepP hK 2 (.int .i64 0) (by kernel_rfl) (by kernel_rfl) fun a hK => ?_
   refine stepP hK 3 (.bool false) (by kernel_rfl) (by kernel_rfl) fun a hK => ?_
   refine region_done hK [(3, .bool false), (2, .int .i64 0), (18, .bool true), (0, Str l)] ⟨rfl, rfl, rfl, rfl, trivial⟩ fun a hK => ?_
   refine wp_ret ?_
   exact ret_tt hK rfl (u := (.int .i64 0)) (v := (.bool false)) rfl rfl (⟨by rw [wordV_no1 hc2 h3], hM.below⟩)
theorem en_lex_Word : Enters Tryd.prog 84 := enters_of Tryd.func84 (by kernel_rfl) rfl
theorem wordV_eq (l : List UInt8) : wordV l = .tuple #[.int .i64 (((wordOf l).1 : Nat) : Int), .bool (wordOf l).2] := by
 cases l with
 | nil => rfl
 | cons c r =>
  have h : (isLetter c && (c :: r).all wordB) = !((List.range (c :: r).length).any (fun i => badAt i ((c :: r).getD i 0)) || (c :: r).isEmpty) := by
   rw [List.isEmpty_cons, Bool.or_false, Bool.eq_iff_iff]
   constructor
   ·intro h
    rw [Bool.and_eq_true, List.all_eq_true] at h
    rw [Bool.not_eq_true', List.any_eq_false]
    intro i hi
    have hlt : i < (c :: r).length := by simpa using hi
    have hm := h.2 ((c :: r)[i]) (List.getElem_mem hlt)
    rw [show (c :: r).getD i 0 = (c :: r)[i] by rw [List.getD_eq_getElem?_getD, List.getElem?_eq_getElem hlt]; rfl]
    unfold badAt
    cases i with
    | zero => rw [show ((c :: r)[0]'hlt) = c from rfl, h.1]; simp
    | succ i =>
     unfold wordB at hm
     simp only [Bool.or_eq_true] at hm
     generalize (c :: r)[i + 1] = x at hm
     rcases hm with hm | hm | hm
     ·simp [hm]
     ·simp [hm]; intros; omega
     ·simp at hm; simp [hm]; intros; omega
   ·intro h
    rw [Bool.not_eq_true', List.any_eq_false] at h
    rw [Bool.and_eq_true, List.all_eq_true]
    have h0 := h 0 (by simp)
    unfold badAt at h0
    refine ⟨by simpa using h0, fun d hd => ?_⟩
    obtain ⟨i, hi, rfl⟩ := List.getElem_of_mem hd
    have hb := h i (by simpa using hi)
    rw [show (c :: r).getD i 0 = (c :: r)[i] by rw [List.getD_eq_getElem?_getD, List.getElem?_eq_getElem hi]; rfl] at hb
    unfold badAt at hb
    unfold wordB
    cases hl : isLetter (c :: r)[i] with
    | true => rfl
    | false =>
     rw [hl] at hb
     simp at hb ⊢
     cases hd2 : isDigit (c :: r)[i] with
     | true => exact .inl rfl
     | false => exact .inr (hb.2 hd2)
  unfold wordV wordOf
  simp only
  rw [h]
  cases ((List.range (c :: r).length).any (fun i => badAt i ((c :: r).getD i 0)) || (c :: r).isEmpty) with
  | true => rfl
  | false => rfl
end Go.Proofs.YtmfiiapmkidmkaaDoor
